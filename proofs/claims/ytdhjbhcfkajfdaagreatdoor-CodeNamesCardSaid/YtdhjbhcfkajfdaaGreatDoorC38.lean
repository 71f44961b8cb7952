/- Walks of the document: are two data the same. -/
import Derived.Test.YtdhjbhcfkajfdaaGreatDoorC34
import Derived.Test.YtdhjbhcfkajfdaaGreatDoorC37
import Derived.Laws.AppendOwnNone
import Derived.Test.YtdhjbhcfkajfdaaGreatDoorC07
import Derived.Deep.OwnRows
import Derived.Laws.CopyOwn
import Derived.Test.YtdhjbhcfkajfdaaGreatDoorC03
import Derived.Test.YtdhjbhcfkajfdaaGreatDoorC01
import Derived.Deep.RegionWith
import Derived.Maps.AppendAt
import Derived.Test.YtdhjbhcfkajfdaaGreatDoorC14
import Derived.Test.YtdhjbhcfkajfdaaGreatDoorC10
import Derived.Laws.IdiomStrings
import Derived.Lib.SliceRun
import Derived.Deep.RegionHeld3
namespace Go.Proofs.YtdhjbhcfkajfdaaGreatDoor
open Go Go.RowKit
namespace LM
set_option linter.unusedVariables false
attribute [local go_sem] run_store_flt

/-- a code point that is no surrogate -/
def csignB (n : Int) : Bool := decide (0 ≤ n ∧ n < 55296) || decide (57343 < n ∧ n ≤ 1114111)

theorem csign_valid (n : Int) (h0 : 0 ≤ n) (h1 : n ≤ 1114111) : Lib.validRune n = csignB n := by
  unfold Lib.validRune csignB
  rw [Bool.eq_iff_iff]
  simp only [Bool.or_eq_true, decide_eq_true_eq]

set_option maxRecDepth 100000 in
set_option maxHeartbeats 2000000 in
theorem dsign_any (n : Int) (h1 : -9223372036854775808 ≤ n) (h2 : n ≤ 9223372036854775807) (w : World) :
    Calls Tryz.prog 149 #[.int .i64 n] w fun e w' => e = .returned (.bool (csignB n)) ∧ w' = w := by
  by_cases hn : 0 ≤ n ∧ n ≤ 1114111
  · have V1 := Lib.hid fun W => Tryz.utf8_ValidRune n W
    have w1 : IntKind.i32.wrap n = n := by rw [IntKind.wrap_i32]; omega
    rw [← csign_valid n hn.1 hn.2]
    go_enter Tryz.func149, Tryz.ntmps149
    go_wp2_with (fail)
    refine (V1.out _).mono ?_
    rintro e w1 ⟨rfl, rfl⟩
    go_wp2_with (fail)
    go_ret
    exact ⟨rfl, rfl⟩
  · have hf : csignB n = false := by
      unfold csignB
      rw [Bool.or_eq_false_iff, decide_eq_false_iff_not, decide_eq_false_iff_not]
      omega
    rw [hf]
    clear hf
    go_enter Tryz.func149, Tryz.ntmps149
    go_wp2_with (fail)
    all_goals
      go_ret
      exact ⟨rfl, rfl⟩

set_option maxRecDepth 100000 in
set_option maxHeartbeats 2000000 in
theorem dtail_any (h : Hd) (n : Nat) (w : World) :
    Calls Tryz.prog 200 #[datA h n] w fun e w' => e = .returned (.bool (h.k != 5 && h.k != 6)) ∧ Below w.heap.size w w' := by
  obtain ⟨W0, hW0, hb0, ho, hs0⟩ := dat_block w h n
  obtain ⟨x0, x1, x2, x3, x4, x5, x6, x7⟩ := C8.of_block ho
  have HW0 := Lib.hid hW0
  have HB0 := Lib.hid hb0
  clear hW0 hb0 ho x1 x2 x3 x4 x5 x6 x7
  go_enter Tryz.func200, Tryz.ntmps200
  go_wp2_with (fail)
  all_goals
    try rw [HW0.out]
    go_wp2_with (fail)
    all_goals
      go_ret
      first | exact ⟨by simp [*], HB0.out⟩ | exact ⟨by simp [*], (Below.refl _ w).alloc (Nat.le_refl _) _⟩

/-- what Items a kind can have: the last one's kind -/
def areB (k : Int) (n : Nat) (kl : Int) : Bool := decide (k = 5) || (decide (k = 6) && decide (2 ≤ n) && (kl != 5 && kl != 6)) || (decide (k = 7) && decide (n ≤ 200))

set_option maxRecDepth 100000 in
set_option maxHeartbeats 4000000 in
theorem dareitems_any (k : Int) (B : Option Addr) (n cap : Nat) (hn : n ≤ 9223372036854775807) (b off : Nat) (h : Hd) (m : Nat) (w : World) (hB : 0 < n → B = some ⟨b, off, none⟩) (hc : 0 < n → C8 w b (off + (n - 1) * 8) h m) :
    Calls Tryz.prog 152 #[.int .i64 k, .slice B n cap] w fun e w' => e = .returned (.bool (areB k n h.k)) ∧ Below w.heap.size w w' := by
  have HT := Lib.hid (dtail_any h m w)
  have HB0 := Lib.hid (Below.refl w.heap.size w)
  by_cases h6 : k = 6 ∧ 2 ≤ n
  · obtain ⟨rfl, h2⟩ := h6
    obtain rfl := hB (by omega)
    obtain ⟨x0, x1, x2, x3, x4, x5, x6, x7⟩ := hc (by omega)
    have d1 : decide (2 ≤ (n : Int)) = true := decide_eq_true (by omega)
    have w1 : IntKind.i64.wrap ((n : Int) - 1) = ((n - 1 : Nat) : Int) := by rw [IntKind.wrap_i64]; omega
    have d2 : decide (((n - 1 : Nat) : Int) < n) = true := decide_eq_true (by omega)
    have d3 : decide (2 ≤ n) = true := decide_eq_true h2
    have hnm : n - 1 < n := by omega
    obtain ⟨q, hq⟩ : ∃ q, n - 1 = q := ⟨_, rfl⟩
    rw [hq] at w1 x0 x1 x2 x3 x4 x5 x6 x7 d2 hnm
    have HR : Hid (areB 6 n h.k = (h.k != 5 && h.k != 6)) := Lib.hid (by unfold areB; rw [d3]; simp)
    clear hB hc hq
    go_enter Tryz.func152, Tryz.ntmps152
    go_wp2_with (go_at_call 200; refine HT.out.mono ?_; rintro e w1 ⟨rfl, hb1⟩; have HB1 := Lib.hid hb1; clear hb1)
    go_ret
    exact ⟨by rw [HR.out]; rfl, HB1.out⟩
  · have h6' : ¬ (k = 6 ∧ 2 ≤ n) := h6
    clear HT hc hB
    rcases kinds k with rfl | rfl | rfl | rfl | rfl | rfl | rfl | rfl | ⟨k0, k1, k2, k3, k4, k5, k6, k7⟩
    rotate_right
    · have HE : Hid (areB k n h.k = false) := Lib.hid (by
        rw [beq_eq_false_iff_ne] at k5 k6 k7
        unfold areB
        rw [decide_eq_false k5, decide_eq_false k6, decide_eq_false k7]
        simp)
      go_enter Tryz.func152, Tryz.ntmps152
      go_wp2_with (fail)
      go_ret
      exact ⟨by rw [HE.out]; rfl, HB0.out⟩
    rotate_right 2
    · have hn2 : decide (2 ≤ (n : Int)) = false := decide_eq_false (by omega)
      have hn3 : decide (2 ≤ n) = false := decide_eq_false (by omega)
      go_enter Tryz.func152, Tryz.ntmps152
      go_wp2_with (fail)
      all_goals
        go_ret
        exact ⟨by simp [areB, *], HB0.out⟩
    all_goals
      go_enter Tryz.func152, Tryz.ntmps152
      go_wp2_with (fail)
      all_goals
        go_ret
        have h200 : ((n : Int) ≤ 200 ↔ n ≤ 200) := by omega
        exact ⟨by simp [areB, *], HB0.out⟩
end LM
end Go.Proofs.YtdhjbhcfkajfdaaGreatDoor

namespace Go.Proofs.YtdhjbhcfkajfdaaGreatDoor
open Go Go.RowKit
namespace LM
set_option linter.unusedVariables false
attribute [local go_sem] run_store_flt

theorem callB_keep {w w' : World} {f : FuncId} {args : Array Value} {r : Value} (h : CallB w f args r) (hb : Below w.heap.size w w') : CallB w' f args r := fun W hW => h W (bel_trans (B := w.heap.size) hb hW)
/-- the library's tables of UTF-8 lie there -/
def UT (w : World) : Prop := ∀ W, Below w.heap.size w W → Lib.Utf8Tabs 3 4 W
theorem UT.keep {w w' : World} (h : UT w) (hb : Below w.heap.size w w') : UT w' := fun W hW => h W (bel_trans (B := w.heap.size) hb hW)

/-- the last one's kind -/
def lastK : Fr → Int
  | .nil => 0
  | .cons h _ .nil => h.k
  | .cons _ _ (.cons h k r) => lastK (.cons h k r)
theorem last_item : ∀ (fr : Fr), 0 < fr.len → ∃ hh k, fr.drop (fr.len - 1) = .cons hh k .nil ∧ hh.k = lastK fr := by
  intro fr
  induction fr with
  | nil => intro h; exact absurd h (by show ¬ 0 < 0; omega)
  | cons h k r _ ih =>
    intro _
    cases r with
    | nil => exact ⟨h, k, rfl, rfl⟩
    | cons h2 k2 r2 =>
      obtain ⟨hh, kk, e1, e2⟩ := ih (by show 0 < r2.len + 1; omega)
      refine ⟨hh, kk, ?_, e2⟩
      have e3 : (Fr.cons h2 k2 r2).len = r2.len + 1 := rfl
      rw [e3] at e1
      have e4 : (Fr.cons h k (Fr.cons h2 k2 r2)).len - 1 = (r2.len + 1 - 1) + 1 := by
        show r2.len + 1 + 1 - 1 = _
        omega
      rw [e4]
      exact e1
/-- a text that can be one's -/
def textB (t : ByteArray) : Bool := Lib.validD t.data.toList && decide (Lib.runeCount t ≤ 400)
/-- can a datum be, as its kind says; sub: can its Items be -/
def rightK (nm : ByteArray → Bool) (d : Int) (h : Hd) (kids : Fr) (sub : Bool) : Bool :=
  elseB h.k (h.n == 0) (nothB h.fl h.f h.s h.xs) (h.t.toList == []) (((kids.len : Nat) : Int) == 0) &&
    (if h.k = 0 then rightN h.fl h.f h.s h.xs else if h.k = 1 then (h.n == 0 || h.n == 1) else if h.k = 2 then csignB h.n else if h.k = 3 then textB h.t else if h.k = 4 then nm h.t else
      (decide (0 < d) && areB h.k kids.len (lastK kids) && sub))
def rightF (nm : ByteArray → Bool) : Int → Fr → Bool
  | _, .nil => true
  | d, .cons h kids rest => rightK nm d h kids (rightF nm (d - 1) kids) && rightF nm d rest
/-- the symbols' texts -/
def SymIn (t : ByteArray) : Fr → Prop
  | .nil => False
  | .cons h kids rest => (h.k = 4 ∧ t = h.t) ∨ SymIn t kids ∨ SymIn t rest
theorem SymIn.drop {t : ByteArray} : ∀ (j : Nat) {fr : Fr}, SymIn t (fr.drop j) → SymIn t fr := by
  intro j
  induction j with
  | zero => intro fr h; exact h
  | succ j ih =>
    intro fr h
    cases fr with
    | nil => exact h
    | cons hh k r => exact .inr (.inr (ih h))

set_option maxRecDepth 100000 in
set_option maxHeartbeats 4000000 in
/-- the first that can't be -/
theorem dindex_any (nm : ByteArray → Bool) (d : Int) (g : Nat) (kids : Fr) (B : Option Addr) (cap b off : Nat) (w : World) (hB : 0 < kids.len → B = some ⟨b, off, none⟩) (hF : FAt w b off kids) (hc1 : kids.len ≤ cap) (hc2 : cap ≤ 9223372036854775807)
    (hcl : ∀ hh k j r, kids.drop j = .cons hh k r → ∀ W, Below w.heap.size w W → DatV W hh k → Calls Tryz.prog 153 #[datA hh k.len, .pointer (some ⟨g, 0, none⟩)] W fun e w' => e = .returned (.bool (!rightK nm d hh k (rightF nm (d - 1) k))) ∧ Below W.heap.size W w') :
    Calls Tryz.prog 165 #[.slice B kids.len cap, .func (.func 153) #[] #[.pointer (some ⟨g, 0, none⟩)]] w fun e w' => (∃ z : Int, e = .returned (.int .i64 z) ∧ decide (0 ≤ z) = !rightF nm d kids) ∧ Below w.heap.size w w' := by
  rcases Nat.eq_zero_or_pos kids.len with h0 | hpos
  · have hk0 : kids = .nil := by
      cases kids with
      | nil => rfl
      | cons x y z => have h3 : z.len + 1 = 0 := h0; omega
    subst hk0
    show Calls Tryz.prog 165 #[.slice B 0 cap, .func (.func 153) #[] #[.pointer (some ⟨g, 0, none⟩)]] w fun e w' => (∃ z : Int, e = .returned (.int .i64 z) ∧ decide (0 ≤ z) = false) ∧ Below w.heap.size w w'
    clear hcl hF hB hc1
    go_enter Tryz.func165, Tryz.ntmps165
    go_wp2_with (fail)
    go_loopg [8] 0 (fun kk i wr => wr = w ∧ i = .int .i64 0)
    case atStart => exact ⟨rfl, rfl⟩
    case round =>
      obtain ⟨rfl, rfl⟩ := hrel
      go_wp2_with (fail)
      go_ret
      exact ⟨⟨-1, rfl, rfl⟩, Below.refl _ _⟩
  obtain rfl := hB hpos
  clear hB
  have HF := Lib.hid hF
  have HCL := Lib.hid hcl
  clear hF hcl
  go_enter Tryz.func165, Tryz.ntmps165
  go_wp2_with (fail)
  go_loopg [8] kids.len (fun kk i wr => Below w.heap.size w wr ∧ ∃ j : Nat, j ≤ kids.len ∧ kk = kids.len - j ∧ i = .int .i64 (j : Int) ∧ rightF nm d (kids.drop j) = rightF nm d kids)
  case atStart => exact ⟨Below.refl _ _, 0, Nat.zero_le _, rfl, rfl, rfl⟩
  case round =>
    obtain ⟨hbr, j, hj, rfl, rfl, hrf⟩ := hrel
    have HBR := Lib.hid hbr
    clear hbr
    by_cases hjl : j < kids.len
    · obtain ⟨hh, k, r, hdr, hdr1⟩ := Fr.cons_of_lt hjl
      rw [hdr] at hrf
      obtain ⟨hbl, ⟨x0, x1, x2, x3, x4, x5, x6, x7⟩, D⟩ := counted_item (FAt.below HBR.out _ _ _ HF.out) hdr
      have CL := Lib.hid (HCL.out hh k j r hdr wr HBR.out D)
      have hrf2 : (rightK nm d hh k (rightF nm (d - 1) k) && rightF nm d r) = rightF nm d kids := hrf
      obtain ⟨q, hq⟩ : ∃ q, rightK nm d hh k (rightF nm (d - 1) k) = q := ⟨_, rfl⟩
      rw [hq] at CL hrf2
      have HRF := Lib.hid hrf2
      have HDR := Lib.hid hdr1
      clear hrf hdr hdr1 D hrf2 hq
      go_wp2_with (fail)
      refine CL.out.mono ?_
      rintro e w2 ⟨rfl, hb2⟩
      have HB2 := Lib.hid (bel_trans (B := w.heap.size) HBR.out hb2)
      clear hb2
      cases q
      · go_wp2_with (fail)
        go_ret
        exact ⟨⟨j, rfl, by rw [← HRF.out]; simp⟩, HB2.out⟩
      · go_wp2_with (fail)
        go_roundg (kids.len - (j + 1))
        case measure => omega
        case rel => exact ⟨HB2.out, j + 1, by omega, rfl, by go_num, by rw [HDR.out]; exact HRF.out⟩
    · have hje : j = kids.len := by omega
      subst hje
      have hnil : kids.drop kids.len = .nil := by
        have h1 := Fr.len_drop kids.len kids
        cases h2 : kids.drop kids.len with
        | nil => rfl
        | cons x y z => rw [h2] at h1; have h3 : z.len + 1 = kids.len - kids.len := h1; omega
      rw [hnil] at hrf
      have HR : Hid (true = rightF nm d kids) := Lib.hid hrf
      clear hrf hnil
      go_wp2_with (fail)
      go_ret
      exact ⟨⟨-1, rfl, by rw [← HR.out]; rfl⟩, HBR.out⟩

end LM
end Go.Proofs.YtdhjbhcfkajfdaaGreatDoor

namespace Go.Proofs.YtdhjbhcfkajfdaaGreatDoor
open Go Go.RowKit
namespace LM
set_option linter.unusedVariables false
attribute [local go_sem] run_store_flt

theorem below_iterD (W : World) (s : ByteArray) (pos : Nat) : Below W.heap.size W (W.iter s pos) := by
  unfold World.iter
  exact (Below.refl _ W).alloc (Nat.le_refl _) _

set_option maxRecDepth 100000 in
set_option maxHeartbeats 4000000 in
theorem dcontains_any (nm : ByteArray → Bool) (d : Int) (g : Nat) (kids : Fr) (B : Option Addr) (cap b off : Nat) (w : World) (hB : 0 < kids.len → B = some ⟨b, off, none⟩) (hF : FAt w b off kids) (hc1 : kids.len ≤ cap) (hc2 : cap ≤ 9223372036854775807)
    (hcl : ∀ hh k j r, kids.drop j = .cons hh k r → ∀ W, Below w.heap.size w W → DatV W hh k → Calls Tryz.prog 153 #[datA hh k.len, .pointer (some ⟨g, 0, none⟩)] W fun e w' => e = .returned (.bool (!rightK nm d hh k (rightF nm (d - 1) k))) ∧ Below W.heap.size W w') :
    Calls Tryz.prog 117 #[.slice B kids.len cap, .func (.func 153) #[] #[.pointer (some ⟨g, 0, none⟩)]] w fun e w' => e = .returned (.bool (!rightF nm d kids)) ∧ Below w.heap.size w w' := by
  have H1 := Lib.hid (dindex_any nm d g kids B cap b off w hB hF hc1 hc2 hcl)
  clear hB hF hcl
  go_enter Tryz.func117, Tryz.ntmps117
  go_wp2_with (fail)
  refine H1.out.mono ?_
  rintro e w1 ⟨⟨z, rfl, hz⟩, hb1⟩
  have HB1 := Lib.hid hb1
  have HZ := Lib.hid hz
  clear hb1 hz
  go_wp2_with (fail)
  go_ret
  exact ⟨by rw [← HZ.out]; rfl, HB1.out⟩

set_option maxRecDepth 100000 in
set_option maxHeartbeats 4000000 in
theorem dclosure_any (hh : Hd) (k : Fr) (depth : Int) (hd1 : 0 ≤ depth) (hd2 : depth ≤ 60) (g : Nat) (q : Bool) (w : World) (hg : g < w.heap.size) (hcell : w.cell? ⟨g, 0, none⟩ = some (.int .i64 depth))
    (hR : ∀ W, Below w.heap.size w W → Calls Tryz.prog 103 #[datA hh k.len, .int .i64 (depth - 1)] W fun e w' => e = .returned (.bool q) ∧ Below W.heap.size W w') :
    Calls Tryz.prog 153 #[datA hh k.len, .pointer (some ⟨g, 0, none⟩)] w fun e w' => e = .returned (.bool (!q)) ∧ Below w.heap.size w w' := by
  obtain ⟨W0, hW0, hb0, ho, hs0⟩ := dat_block w hh k.len
  have x0 : (w.alloc (datO hh k.len)).cell? ⟨g, 0, none⟩ = some (.int .i64 depth) := by rw [hW0]; exact (hb0.cell (p := ⟨g, 0, none⟩) hg).trans hcell
  have HO := Lib.hid ho
  have HW0 := Lib.hid hW0
  have HB0 := Lib.hid hb0
  have HR := Lib.hid (hR W0 hb0)
  have w1 : IntKind.i64.wrap (depth - 1) = depth - 1 := by rw [IntKind.wrap_i64]; omega
  obtain ⟨y0, y1, y2, y3, y4, y5, y6, y7⟩ := C8.of_block ho
  clear hW0 hb0 ho hR hcell
  go_enter Tryz.func153, Tryz.ntmps153
  go_wp2_with (fail)
  rw [HW0.out]
  refine HR.out.mono ?_
  rintro e w1 ⟨rfl, hb1⟩
  have HB1 := Lib.hid (bel_trans (B := w.heap.size) HB0.out hb1)
  clear hb1
  go_wp2_with (fail)
  go_ret
  exact ⟨rfl, HB1.out⟩

set_option maxRecDepth 100000 in
set_option maxHeartbeats 16000000 in
theorem dright_go (nm : ByteArray → Bool) (h : Hd) (kids : Fr) (depth : Int) (hd1 : 0 ≤ depth) (hd2 : depth ≤ 60) (sub : Bool) (w : World) (hD : DatV w h kids) (hok : h.Ok kids.len) (hu : UT w) (hnm : h.k = 4 → CallB w 93 #[.string h.t] (.bool (nm h.t)))
    (hsub : 0 < depth → ∀ g W, Below w.heap.size w W → g < W.heap.size → W.cell? ⟨g, 0, none⟩ = some (.int .i64 depth) →
      Calls Tryz.prog 117 #[.slice h.B kids.len h.cap, .func (.func 153) #[] #[.pointer (some ⟨g, 0, none⟩)]] W fun e w' => e = .returned (.bool (!sub)) ∧ Below W.heap.size W w') :
    Calls Tryz.prog 103 #[datA h kids.len, .int .i64 depth] w fun e w' => e = .returned (.bool (rightK nm depth h kids sub)) ∧ Below w.heap.size w w' := by
  have hE : CallB w 147 #[datA h kids.len] (.bool (elseB h.k (h.n == 0) (nothB h.fl h.f h.s h.xs) (h.t.toList == []) (((kids.len : Nat) : Int) == 0))) := fun W hW =>
    delse_any h kids.len _ _ _ _ W rfl rfl rfl fun W2 h2 => by
      have := dnothing_any h.fl h.f h.s h.A h.xs.length h.c _ W2 fun W3 h3 => tright_any h.fl h.f hok.f h.s h.A h.c h.xs W3 (((hD.xs.below hW).below h2).below h3) hok.lm hok.l
      exact this
  obtain ⟨W0, hW0⟩ : ∃ W0, (w.alloc (datO h kids.len)).alloc (.cells #[.int .i64 depth] 3 (0, 0)) = W0 := ⟨_, rfl⟩
  have hb0 : Below w.heap.size w W0 := by rw [← hW0]; exact ((Below.refl _ w).alloc (Nat.le_refl _) _).alloc (by simp) _
  have hO : Obs W0 [(w.heap.size + 1, .cells #[.int .i64 depth] 3 (0, 0)), (w.heap.size, datO h kids.len)] := by
    rw [← hW0]
    have h1 := (Obs.nil.new (w := w) (datO h kids.len)).new (.cells #[.int .i64 depth] 3 (0, 0))
    simp only [World.size_alloc] at h1
    exact h1
  obtain ⟨q, hq⟩ : ∃ q, elseB h.k (h.n == 0) (nothB h.fl h.f h.s h.xs) (h.t.toList == []) (((kids.len : Nat) : Int) == 0) = q := ⟨_, rfl⟩
  rw [hq] at hE
  have HW0 := Lib.hid hW0
  have HB0 := Lib.hid hb0
  have O0 := Lib.hid hO
  have HE := Lib.hid (hE W0 hb0)
  have c0 := C8.of_block hO.tl.hd
  obtain ⟨x0, x1, x2, x3, x4, x5, x6, x7⟩ := c0
  have HQ : Hid (rightK nm depth h kids sub = (q && (if h.k = 0 then rightN h.fl h.f h.s h.xs else if h.k = 1 then (h.n == 0 || h.n == 1) else if h.k = 2 then csignB h.n else if h.k = 3 then textB h.t else if h.k = 4 then nm h.t else
      (decide (0 < depth) && areB h.k kids.len (lastK kids) && sub)))) := Lib.hid (by unfold rightK; rw [hq])
  clear hW0 hb0 hO hE hq
  cases q
  · go_enter Tryz.func103, Tryz.ntmps103
    go_wp2_with (fail)
    rw [HW0.out]
    refine HE.out.mono ?_
    rintro e w1 ⟨rfl, hb1⟩
    have HB1 := Lib.hid (bel_trans (B := w.heap.size) HB0.out hb1)
    clear hb1
    go_wp2_with (fail)
    go_ret
    exact ⟨by rw [HQ.out]; rfl, HB1.out⟩
  · rcases kinds h.k with hk | hk | hk | hk | hk | hk | hk | hk | ⟨k0, k1, k2, k3, k4, k5, k6, k7⟩
    · have HT := Lib.hid fun W (hW : Below w.heap.size w W) => tright_any h.fl h.f hok.f h.s h.A h.c h.xs W (hD.xs.below hW) hok.lm hok.l
      have HQ2 : Hid (rightK nm depth h kids sub = rightN h.fl h.f h.s h.xs) := Lib.hid (by rw [HQ.out, if_pos hk]; rfl)
      have HK := Lib.hid hk
      clear hD hok hu hnm hsub HQ hk
      go_enter Tryz.func103, Tryz.ntmps103
      go_wp2_with (fail)
      rw [HW0.out]
      refine HE.out.mono ?_
      rintro e w1 ⟨rfl, hb1⟩
      have HB1 := Lib.hid (bel_trans (B := w.heap.size) HB0.out hb1)
      obtain ⟨y0, y1, y2, y3, y4, y5, y6, y7⟩ := C8.of_block (O0.out.below hb1).tl.hd
      have z0 := ob_cell (O0.out.below hb1).hd 0
      rw [HK.out] at y0
      clear hb1
      go_wp2_with (fail)
      refine (HT.out _ HB1.out).mono ?_
      rintro e w2 ⟨rfl, hb2⟩
      have HB2 := Lib.hid (bel_trans (B := w.heap.size) HB1.out hb2)
      clear hb2
      go_wp2_with (fail)
      go_ret
      exact ⟨by rw [HQ2.out]; rfl, HB2.out⟩
    · have HQ2 : Hid (rightK nm depth h kids sub = (h.n == 0 || h.n == 1)) := Lib.hid (by rw [HQ.out, if_neg (by omega), if_pos hk]; rfl)
      have HK := Lib.hid hk
      clear hD hok hu hnm hsub HQ hk
      go_enter Tryz.func103, Tryz.ntmps103
      go_wp2_with (fail)
      rw [HW0.out]
      refine HE.out.mono ?_
      rintro e w1 ⟨rfl, hb1⟩
      have HB1 := Lib.hid (bel_trans (B := w.heap.size) HB0.out hb1)
      obtain ⟨y0, y1, y2, y3, y4, y5, y6, y7⟩ := C8.of_block (O0.out.below hb1).tl.hd
      have z0 := ob_cell (O0.out.below hb1).hd 0
      rw [HK.out] at y0
      clear hb1
      go_wp2_with (fail)
      all_goals
        go_ret
        exact ⟨by rw [HQ2.out]; simp [*], HB1.out⟩
    · have HT := Lib.hid fun W => dsign_any h.n hok.n.1 hok.n.2 W
      have HQ2 : Hid (rightK nm depth h kids sub = csignB h.n) := Lib.hid (by rw [HQ.out, if_neg (by omega), if_neg (by omega), if_pos hk]; rfl)
      have HK := Lib.hid hk
      clear hD hok hu hnm hsub HQ hk
      go_enter Tryz.func103, Tryz.ntmps103
      go_wp2_with (fail)
      rw [HW0.out]
      refine HE.out.mono ?_
      rintro e w1 ⟨rfl, hb1⟩
      have HB1 := Lib.hid (bel_trans (B := w.heap.size) HB0.out hb1)
      obtain ⟨y0, y1, y2, y3, y4, y5, y6, y7⟩ := C8.of_block (O0.out.below hb1).tl.hd
      have z0 := ob_cell (O0.out.below hb1).hd 0
      rw [HK.out] at y0
      clear hb1
      go_wp2_with (fail)
      refine (HT.out _).mono ?_
      rintro e w2 ⟨rfl, rfl⟩
      go_wp2_with (fail)
      go_ret
      exact ⟨by rw [HQ2.out]; rfl, HB1.out⟩
    · have HV := Lib.hid fun W (hW : Below w.heap.size w W) => Tryz.utf8_ValidString h.t W (by have := hok.t; omega) (hu W hW)
      have HC := Lib.hid fun W => Tryz.utf8_RuneCountInString h.t W (by have := hok.t; omega)
      have HQ2 : Hid (rightK nm depth h kids sub = (Lib.validD h.t.data.toList && decide (Lib.runeCount h.t ≤ 400))) := Lib.hid (by rw [HQ.out, if_neg (by omega), if_neg (by omega), if_neg (by omega), if_pos hk]; rfl)
      have HK := Lib.hid hk
      obtain ⟨rc, hrc⟩ : ∃ rc, Lib.runeCount h.t = rc := ⟨_, rfl⟩
      obtain ⟨vd, hvd⟩ : ∃ vd, Lib.validD h.t.data.toList = vd := ⟨_, rfl⟩
      rw [hrc] at HC HQ2
      rw [hvd] at HV HQ2
      clear hD hok hu hnm hsub HQ hk hrc hvd
      go_enter Tryz.func103, Tryz.ntmps103
      go_wp2_with (fail)
      rw [HW0.out]
      refine HE.out.mono ?_
      rintro e w1 ⟨rfl, hb1⟩
      have HB1 := Lib.hid (bel_trans (B := w.heap.size) HB0.out hb1)
      obtain ⟨y0, y1, y2, y3, y4, y5, y6, y7⟩ := C8.of_block (O0.out.below hb1).tl.hd
      have z0 := ob_cell (O0.out.below hb1).hd 0
      rw [HK.out] at y0
      have HX1 := Lib.hid hb1
      clear hb1
      go_wp2_with (fail)
      refine (HV.out _ HB1.out).mono ?_
      rintro e w2 ⟨rfl, hb2⟩
      have HB2 := Lib.hid (bel_trans (B := w.heap.size) HB1.out hb2)
      obtain ⟨v0, v1, v2, v3, v4, v5, v6, v7⟩ := C8.of_block (O0.out.below (bel_trans (B := W0.heap.size) HX1.out hb2)).tl.hd
      clear hb2 y0 y1 y2 y3 y4 y5 y6 y7 z0
      cases vd
      · go_wp2_with (fail)
        go_ret
        exact ⟨by rw [HQ2.out]; rfl, HB2.out⟩
      · go_wp2_with (fail)
        refine (HC.out _).mono ?_
        rintro e w3 ⟨rfl, pos, rfl⟩
        have HB3 := Lib.hid (bel_trans (B := w.heap.size) HB2.out (below_iterD w2 h.t pos))
        have h400 : ((rc : Int) ≤ 400 ↔ rc ≤ 400) := by omega
        have h401 : decide ((rc : Int) ≤ 400) = decide (rc ≤ 400) := decide_eq_decide.2 h400
        clear h400
        go_wp2_with (fail)
        go_ret
        exact ⟨by rw [HQ2.out]; first | rfl | simp [*], HB3.out⟩
    · have HT := Lib.hid (hnm hk)
      have HQ2 : Hid (rightK nm depth h kids sub = nm h.t) := Lib.hid (by rw [HQ.out, if_neg (by omega), if_neg (by omega), if_neg (by omega), if_neg (by omega), if_pos hk]; rfl)
      have HK := Lib.hid hk
      clear hD hok hu hnm hsub HQ hk
      go_enter Tryz.func103, Tryz.ntmps103
      go_wp2_with (fail)
      rw [HW0.out]
      refine HE.out.mono ?_
      rintro e w1 ⟨rfl, hb1⟩
      have HB1 := Lib.hid (bel_trans (B := w.heap.size) HB0.out hb1)
      obtain ⟨y0, y1, y2, y3, y4, y5, y6, y7⟩ := C8.of_block (O0.out.below hb1).tl.hd
      have z0 := ob_cell (O0.out.below hb1).hd 0
      rw [HK.out] at y0
      clear hb1
      go_wp2_with (fail)
      refine (HT.out _ HB1.out).mono ?_
      rintro e w2 ⟨rfl, hb2⟩
      have HB2 := Lib.hid (bel_trans (B := w.heap.size) HB1.out hb2)
      clear hb2
      go_wp2_with (fail)
      go_ret
      exact ⟨by rw [HQ2.out]; rfl, HB2.out⟩
    all_goals
      have f0 : (h.k == 0) = false := by first | exact k0 | (rw [hk]; rfl)
      have f1 : (h.k == 1) = false := by first | exact k1 | (rw [hk]; rfl)
      have f2 : (h.k == 2) = false := by first | exact k2 | (rw [hk]; rfl)
      have f3 : (h.k == 3) = false := by first | exact k3 | (rw [hk]; rfl)
      have f4 : (h.k == 4) = false := by first | exact k4 | (rw [hk]; rfl)
      have HQ2 : Hid (rightK nm depth h kids sub = (decide (0 < depth) && areB h.k kids.len (lastK kids) && sub)) := Lib.hid (by
        rw [beq_eq_false_iff_ne] at f0 f1 f2 f3 f4
        rw [HQ.out, if_neg f0, if_neg f1, if_neg f2, if_neg f3, if_neg f4]; rfl)
      try clear hk
      try clear k0 k1 k2 k3 k4 k5 k6 k7
      by_cases hd0 : 0 < depth
      · have HA : Hid (∀ W, Below w.heap.size w W → Calls Tryz.prog 152 #[.int .i64 h.k, .slice h.B kids.len h.cap] W fun e w' => e = .returned (.bool (areB h.k kids.len (lastK kids))) ∧ Below W.heap.size W w') := Lib.hid fun W hW => by
          obtain ⟨b, off, hB, hF⟩ := (hD.below hW).items
          rcases Nat.eq_zero_or_pos kids.len with h0 | hp
          · have := dareitems_any h.k h.B kids.len h.cap (by omega) b off ⟨lastK kids, 0, false, 0, false, none, [], 0, ⟨#[]⟩, none, 0⟩ 0 W (fun h => by omega) (fun h => by omega)
            exact this
          · obtain ⟨hh, k, e1, e2⟩ := last_item kids hp
            have := dareitems_any h.k h.B kids.len h.cap (by have := hok.cap; omega) b off hh k.len W hB (fun _ => (counted_item hF e1).2.1)
            rw [e2] at this
            exact this
        have HS := Lib.hid (hsub hd0)
        have hdt : decide (0 < depth) = true := decide_eq_true hd0
        obtain ⟨ab, hab⟩ : ∃ ab, areB h.k kids.len (lastK kids) = ab := ⟨_, rfl⟩
        rw [hab, hdt] at HQ2
        rw [hab] at HA
        clear hD hok hu hnm hsub HQ hab
        go_enter Tryz.func103, Tryz.ntmps103
        go_wp2_with (fail)
        rw [HW0.out]
        refine HE.out.mono ?_
        rintro e w1 ⟨rfl, hb1⟩
        have HB1 := Lib.hid (bel_trans (B := w.heap.size) HB0.out hb1)
        obtain ⟨y0, y1, y2, y3, y4, y5, y6, y7⟩ := C8.of_block (O0.out.below hb1).tl.hd
        have z0 := ob_cell (O0.out.below hb1).hd 0
        rw [show (#[Value.int .i64 depth] : Array Value)[0]? = some (.int .i64 depth) from rfl] at z0
        have HX1 := Lib.hid hb1
        clear hb1
        go_wp2_with (fail)
        refine (HA.out _ HB1.out).mono ?_
        rintro e w2 ⟨rfl, hb2⟩
        have HB2 := Lib.hid (bel_trans (B := w.heap.size) HB1.out hb2)
        have O2 := Lib.hid (O0.out.below (bel_trans (B := W0.heap.size) HX1.out hb2))
        have hlt : w.heap.size + 1 < w2.heap.size := by
          have h1 := (O0.out.below (bel_trans (B := W0.heap.size) HX1.out hb2)).hd
          rcases Nat.lt_or_ge (w.heap.size + 1) w2.heap.size with h2 | h2
          · exact h2
          · rw [Array.getElem?_eq_none h2] at h1; cases h1
        obtain ⟨v0, v1, v2, v3, v4, v5, v6, v7⟩ := C8.of_block (O0.out.below (bel_trans (B := W0.heap.size) HX1.out hb2)).tl.hd
        have u0 := ob_cell (O0.out.below (bel_trans (B := W0.heap.size) HX1.out hb2)).hd 0
        rw [show (#[Value.int .i64 depth] : Array Value)[0]? = some (.int .i64 depth) from rfl] at u0
        have HS2 := Lib.hid (HS.out _ _ HB2.out hlt u0)
        clear hb2 y0 y1 y2 y3 y4 y5 y6 y7 z0 u0
        cases ab
        · go_wp2_with (fail)
          go_ret
          exact ⟨by rw [HQ2.out]; rfl, HB2.out⟩
        · go_wp2_with (fail)
          refine HS2.out.mono ?_
          rintro e w3 ⟨rfl, hb3⟩
          have HB3 := Lib.hid (bel_trans (B := w.heap.size) HB2.out hb3)
          clear hb3
          go_wp2_with (fail)
          go_ret
          exact ⟨by rw [HQ2.out]; simp, HB3.out⟩
      · have hdf : decide (0 < depth) = false := decide_eq_false hd0
        rw [hdf] at HQ2
        clear hD hok hu hnm hsub HQ
        go_enter Tryz.func103, Tryz.ntmps103
        go_wp2_with (fail)
        rw [HW0.out]
        refine HE.out.mono ?_
        rintro e w1 ⟨rfl, hb1⟩
        have HB1 := Lib.hid (bel_trans (B := w.heap.size) HB0.out hb1)
        obtain ⟨y0, y1, y2, y3, y4, y5, y6, y7⟩ := C8.of_block (O0.out.below hb1).tl.hd
        have z0 := ob_cell (O0.out.below hb1).hd 0
        rw [show (#[Value.int .i64 depth] : Array Value)[0]? = some (.int .i64 depth) from rfl] at z0
        clear hb1
        go_wp2_with (fail)
        go_ret
        exact ⟨by rw [HQ2.out]; simp, HB1.out⟩

theorem dright_any (nm : ByteArray → Bool) : ∀ (m : Nat) (kids : Fr), kids.size < m → kids.Ok → ∀ (h : Hd) (depth : Int) (w : World), DatV w h kids → h.Ok kids.len → 0 ≤ depth → depth ≤ 60 → UT w → (∀ t, (h.k = 4 ∧ t = h.t) ∨ SymIn t kids → CallB w 93 #[.string t] (.bool (nm t))) →
    Calls Tryz.prog 103 #[datA h kids.len, .int .i64 depth] w fun e w' => e = .returned (.bool (rightK nm depth h kids (rightF nm (depth - 1) kids))) ∧ Below w.heap.size w w' := by
  intro m
  induction m with
  | zero => intro kids h; omega
  | succ m ih =>
    intro kids hsz hok h depth w hd hho h0 h60 hu hnm
    refine dright_go nm h kids depth h0 h60 (rightF nm (depth - 1) kids) w hd hho hu (fun hk => hnm _ (.inl ⟨hk, rfl⟩)) fun hpos g W hW hg hcell => ?_
    obtain ⟨b, off, hB, hF⟩ := (hd.below hW).items
    refine dcontains_any nm (depth - 1) g kids h.B h.cap b off W hB hF hho.cap.1 hho.cap.2 fun hh k j r hdr W2 hW2 hD2 => ?_
    have hko := Fr.Ok.drop j hok
    rw [hdr] at hko
    refine dclosure_any hh k depth h0 h60 g _ W2 (Nat.lt_of_lt_of_le hg hW2.size) ((hW2.cell (p := ⟨g, 0, none⟩) hg).trans hcell) fun W3 hW3 => ?_
    refine ih k (by have := size_item hdr; omega) hko.2.1 hh (depth - 1) W3 (hD2.below hW3) hko.1 (by omega) (by omega) ((hu.keep hW).keep (hW2.trans (hW3.mono hW2.size))) fun t ht => ?_
    refine callB_keep (hnm t (.inr ?_)) (bel_trans (B := w.heap.size) (bel_trans (B := w.heap.size) hW hW2) hW3)
    have h1 : SymIn t (kids.drop j) := by rw [hdr]; exact ht.elim .inl (fun h => .inr (.inl h))
    exact SymIn.drop j h1

/-- can a datum be -/
def rightD (nm : ByteArray → Bool) (h : Hd) (kids : Fr) : Bool := decide (cnt 3001 1 kids ≤ 3000) && rightK nm 60 h kids (rightF nm 59 kids)
set_option maxRecDepth 100000 in
set_option maxHeartbeats 4000000 in
theorem dRight_any (nm : ByteArray → Bool) (kids : Fr) (hok : kids.Ok) (h : Hd) (w : World) (hd : DatV w h kids) (hho : h.Ok kids.len) (hu : UT w) (hnm : ∀ t, (h.k = 4 ∧ t = h.t) ∨ SymIn t kids → CallB w 93 #[.string t] (.bool (nm t))) :
    Calls Tryz.prog 56 #[datA h kids.len] w fun e w' => e = .returned (.bool (rightD nm h kids)) ∧ Below w.heap.size w w' := by
  obtain ⟨W0, hW0, hb0, ho, hs0⟩ := dat_block w h kids.len
  have HC := Lib.hid (counted_any (kids.size + 1) kids (by omega) hok h 3001 W0 (hd.below hb0) hho.cap.1 hho.cap.2 (by decide) (by decide))
  have HR := Lib.hid fun W (hW : Below w.heap.size w W) => dright_any nm (kids.size + 1) kids (by omega) hok h 60 W (hd.below hW) hho (by decide) (by decide) (hu.keep hW) fun t ht => callB_keep (hnm t ht) hW
  have HO := Lib.hid ho
  have HW0 := Lib.hid hW0
  have HB0 := Lib.hid hb0
  have HS := Lib.hid hs0
  obtain ⟨c, hc⟩ : ∃ c, cnt 3001 1 kids = c := ⟨_, rfl⟩
  obtain ⟨r, hr⟩ : ∃ r, rightK nm 60 h kids (rightF nm (60 - 1) kids) = r := ⟨_, rfl⟩
  have HQ : Hid (rightD nm h kids = (decide (c ≤ 3000) && r)) := Lib.hid (by unfold rightD; rw [hc, ← hr]; rfl)
  rw [hc] at HC
  rw [hr] at HR
  obtain ⟨x0, x1, x2, x3, x4, x5, x6, x7⟩ := C8.of_block ho
  clear hW0 hb0 ho hd hho hu hnm hc hr hok hs0
  by_cases h3 : c ≤ 3000
  · have d1 : decide (c ≤ 3000) = true := decide_eq_true h3
    rw [d1] at HQ
    clear h3
    go_enter Tryz.func56, Tryz.ntmps56
    go_wp2_with (fail)
    rw [HW0.out]
    refine HC.out.mono ?_
    rintro e w1 ⟨rfl, hb1⟩
    have HB1 := Lib.hid (bel_trans (B := w.heap.size) HB0.out hb1)
    obtain ⟨y0, y1, y2, y3, y4, y5, y6, y7⟩ := (C8.of_block HO.out).keep hb1 HS.out
    simp only [Nat.zero_add] at y0 y1 y2 y3 y4 y5 y6 y7
    clear hb1
    go_wp2_with (fail)
    refine (HR.out _ HB1.out).mono ?_
    rintro e w2 ⟨rfl, hb2⟩
    have HB2 := Lib.hid (bel_trans (B := w.heap.size) HB1.out hb2)
    clear hb2
    go_wp2_with (fail)
    go_ret
    exact ⟨by rw [HQ.out]; rfl, HB2.out⟩
  · have d1 : decide (c ≤ 3000) = false := decide_eq_false h3
    rw [d1] at HQ
    clear h3
    go_enter Tryz.func56, Tryz.ntmps56
    go_wp2_with (fail)
    rw [HW0.out]
    refine HC.out.mono ?_
    rintro e w1 ⟨rfl, hb1⟩
    have HB1 := Lib.hid (bel_trans (B := w.heap.size) HB0.out hb1)
    clear hb1
    go_wp2_with (fail)
    go_ret
    exact ⟨by rw [HQ.out]; rfl, HB1.out⟩

end LM
end Go.Proofs.YtdhjbhcfkajfdaaGreatDoor

namespace Go.Proofs.YtdhjbhcfkajfdaaGreatDoor
open Go Go.RowKit
namespace LM
set_option linter.unusedVariables false
attribute [local go_sem] run_store_flt

/-- are two numbers that can be the same -/
def numS (h h' : Hd) : Bool := if h.fl then (if h'.fl then canW h.f == canW h'.f else false) else (if h'.fl then false else decide (sg h.s (val h.xs) = sg h'.s (val h'.xs)))
def headS (h h' : Hd) : Bool := (h.k == h'.k) && (h.n == h'.n) && (h.t.toList == h'.t.toList) && numS h h'
def sameF : Fr → Fr → Bool
  | .nil, .nil => true
  | .cons h k r, .cons h' k' r' => headS h h' && sameF k k' && sameF r r'
  | .nil, .cons _ _ _ => false
  | .cons _ _ _, .nil => false
/-- each number can be -/
def NumsR : Fr → Prop
  | .nil => True
  | .cons h k r => rightN h.fl h.f h.s h.xs = true ∧ NumsR k ∧ NumsR r
theorem NumsR.drop : ∀ (j : Nat) {fr : Fr}, NumsR fr → NumsR (fr.drop j) := by
  intro j
  induction j with
  | zero => intro fr h; exact h
  | succ j ih =>
    intro fr h
    cases fr with
    | nil => exact trivial
    | cons hh k r => exact ih h.2.2
theorem sameF_len : ∀ (a b : Fr), a.len ≠ b.len → sameF a b = false := by
  intro a
  induction a with
  | nil =>
    intro b h
    cases b with
    | nil => exact absurd rfl h
    | cons x y z => rfl
  | cons x y z _ ih =>
    intro b h
    cases b with
    | nil => rfl
    | cons x' y' z' =>
      show (headS x x' && sameF y y' && sameF z z') = false
      rw [ih z' (fun e => h (by show z.len + 1 = z'.len + 1; rw [e])), Bool.and_false]

theorem tsame_any {w : World} {h h' : Hd} (ha : NumOk w h.fl h.f h.s h.A h.xs.length h.c) (hb : NumOk w h'.fl h'.f h'.s h'.A h'.xs.length h'.c) (hx : rightN h.fl h.f h.s h.xs = true) (hx' : rightN h'.fl h'.f h'.s h'.xs = true) (rx : Rd w h.A h.xs) (rx' : Rd w h'.A h'.xs) (lx : Lm h.xs) (lx' : Lm h'.xs) (cx : h.xs.length ≤ h.c ∧ h.c ≤ 9223372036854775807) (cx' : h'.xs.length ≤ h'.c ∧ h'.c ≤ 9223372036854775807) :
    CallB w 119 #[numA h.fl h.f h.s h.A h.xs.length h.c, numA h'.fl h'.f h'.s h'.A h'.xs.length h'.c] (.bool (numS h h')) := by
  obtain ⟨k, n, fl, f, s, A, xs, c, t, B, cap⟩ := h
  obtain ⟨k', n', fl', f', s', A', xs', c', t', B', cap'⟩ := h'
  simp only at *
  unfold numS
  simp only
  cases fl <;> cases fl'
  · simp only [Bool.false_eq_true, if_false]
    unfold rightN at hx hx'
    rw [if_neg (by decide), Bool.and_eq_true] at hx hx'
    have h1 := intV_of hx.2 rx lx cx.1 cx.2
    have h2 := intV_of hx'.2 rx' lx' cx'.1 cx'.2
    exact fun W hW => tsame_ii f f' s A xs.length c s' A' xs'.length c' W _ (fun V hV => esame_int ((h1.1.keep hW).keep hV) ((h2.1.keep hW).keep hV) h1.2 h2.2)
  · simp only [Bool.false_eq_true, if_false, if_true]
    exact fun W _ => tsame_if f f' s A xs.length c s' A' xs'.length c' W
  · simp only [Bool.false_eq_true, if_false, if_true]
    exact fun W _ => tsame_fi f f' s A xs.length c s' A' xs'.length c' W
  · simp only [if_true]
    exact fun W _ => tsame_ff f f' s A xs.length c s' A' xs'.length c' W _ (fun V => same_flo f f' V ha.1 hb.1)

set_option maxRecDepth 100000 in
set_option maxHeartbeats 8000000 in
theorem dequal_any (kids kids' : Fr) (B B' : Option Addr) (cap cap' b off b' off' : Nat) (w : World) (hB : 0 < kids.len → B = some ⟨b, off, none⟩) (hB' : 0 < kids'.len → B' = some ⟨b', off', none⟩) (hF : FAt w b off kids) (hF' : FAt w b' off' kids') (hc1 : kids.len ≤ cap) (hc2 : cap ≤ 9223372036854775807) (hc1' : kids'.len ≤ cap') (hc2' : cap' ≤ 9223372036854775807)
    (hcl : ∀ hh k hh' k' j r r', kids.drop j = .cons hh k r → kids'.drop j = .cons hh' k' r' → ∀ W, Below w.heap.size w W → DatV W hh k → DatV W hh' k' → Calls Tryz.prog 74 #[datA hh k.len, datA hh' k'.len] W fun e w' => e = .returned (.bool (headS hh hh' && sameF k k')) ∧ Below W.heap.size W w') :
    Calls Tryz.prog 40 #[.slice B kids.len cap, .slice B' kids'.len cap', .func (.func 74) #[] #[]] w fun e w' => e = .returned (.bool (sameF kids kids')) ∧ Below w.heap.size w w' := by
  by_cases hl : kids.len = kids'.len
  · rcases Nat.eq_zero_or_pos kids.len with h0 | hpos
    · have hk : ∀ fr : Fr, fr.len = 0 → fr = .nil := fun fr h => by
        cases fr with
        | nil => rfl
        | cons x y z => have h3 : z.len + 1 = 0 := h; omega
      obtain rfl := hk kids h0
      obtain rfl := hk kids' (by omega)
      show Calls Tryz.prog 40 #[.slice B 0 cap, .slice B' 0 cap', .func (.func 74) #[] #[]] w fun e w' => e = .returned (.bool true) ∧ Below w.heap.size w w'
      clear hcl hF hB hF' hB' hl h0 hc1 hc1' hk
      go_enter Tryz.func40, Tryz.ntmps40
      go_wp2_with (fail)
      go_loopg [17] 0 (fun kk i wr => wr = w ∧ i = .int .i64 0)
      case atStart => exact ⟨rfl, rfl⟩
      case round =>
        obtain ⟨rfl, rfl⟩ := hrel
        go_wp2_with (fail)
        go_ret
        exact ⟨rfl, Below.refl _ _⟩
    · obtain rfl := hB hpos
      obtain rfl := hB' (by omega)
      have HF := Lib.hid hF
      have HF' := Lib.hid hF'
      have HCL := Lib.hid hcl
      have HL := Lib.hid hl
      have g1 : ((kids.len : Int) != (kids'.len : Int)) = false := by rw [hl]; simp
      clear hF hF' hcl hB hB' hl
      go_enter Tryz.func40, Tryz.ntmps40
      go_wp2_with (fail)
      go_loopg [17] kids.len (fun kk i wr => Below w.heap.size w wr ∧ ∃ j : Nat, j ≤ kids.len ∧ kk = kids.len - j ∧ i = .int .i64 (j : Int) ∧ sameF (kids.drop j) (kids'.drop j) = sameF kids kids')
      case atStart => exact ⟨Below.refl _ _, 0, Nat.zero_le _, rfl, rfl, rfl⟩
      case round =>
        obtain ⟨hbr, j, hj, rfl, rfl, hrf⟩ := hrel
        have HBR := Lib.hid hbr
        clear hbr
        by_cases hjl : j < kids.len
        · obtain ⟨hh, k, r, hdr, hdr1⟩ := Fr.cons_of_lt hjl
          have hjl' : j < kids'.len := by have := HL.out; omega
          obtain ⟨hh', k', r', hdr', hdr1'⟩ := Fr.cons_of_lt hjl'
          rw [hdr, hdr'] at hrf
          obtain ⟨hbl, ⟨x0, x1, x2, x3, x4, x5, x6, x7⟩, D⟩ := counted_item (FAt.below HBR.out _ _ _ HF.out) hdr
          obtain ⟨hbl', hC', D'⟩ := counted_item (FAt.below HBR.out _ _ _ HF'.out) hdr'
          have y := fun (o : Obj) => hC'.keep ((Below.refl wr.heap.size wr).alloc (Nat.le_refl _) o) hbl'
          obtain ⟨y0, y1, y2, y3, y4, y5, y6, y7⟩ := y (datO hh k.len)
          obtain ⟨W2, hW2⟩ : ∃ W2, (wr.alloc (datO hh k.len)).alloc (datO hh' k'.len) = W2 := ⟨_, rfl⟩
          have hb2 : Below wr.heap.size wr W2 := by rw [← hW2]; exact ((Below.refl _ wr).alloc (Nat.le_refl _) _).alloc (by simp) _
          have hO : Obs W2 [(wr.heap.size + 1, datO hh' k'.len), (wr.heap.size, datO hh k.len)] := by
            rw [← hW2]
            have h1 := (Obs.nil.new (w := wr) (datO hh k.len)).new (datO hh' k'.len)
            simp only [World.size_alloc] at h1
            exact h1
          have CL := Lib.hid (HCL.out hh k hh' k' j r r' hdr hdr' W2 (bel_trans (B := w.heap.size) HBR.out hb2) (D.below hb2) (D'.below hb2))
          have hrf2 : (headS hh hh' && sameF k k' && sameF r r') = sameF kids kids' := hrf
          obtain ⟨q, hq⟩ : ∃ q, (headS hh hh' && sameF k k') = q := ⟨_, rfl⟩
          rw [hq] at CL hrf2
          have HRF := Lib.hid hrf2
          have HDR := Lib.hid hdr1
          have HDR' := Lib.hid hdr1'
          have HW2 := Lib.hid hW2
          have HB2 := Lib.hid (bel_trans (B := w.heap.size) HBR.out hb2)
          have z := C8.of_block hO.tl.hd
          have z' := C8.of_block hO.hd
          obtain ⟨u0, u1, u2, u3, u4, u5, u6, u7⟩ := z
          obtain ⟨v0, v1, v2, v3, v4, v5, v6, v7⟩ := z'
          clear hrf hdr hdr1 D hrf2 hq hdr' hdr1' D' y hW2 hb2 hO hC'
          go_wp2_with (fail)
          rw [HW2.out]
          refine CL.out.mono ?_
          rintro e w3 ⟨rfl, hb3⟩
          have HB3 := Lib.hid (bel_trans (B := w.heap.size) HB2.out hb3)
          clear hb3
          cases q
          · go_wp2_with (fail)
            go_ret
            exact ⟨by rw [← HRF.out]; simp, HB3.out⟩
          · go_wp2_with (fail)
            go_roundg (kids.len - (j + 1))
            case measure => omega
            case rel => exact ⟨HB3.out, j + 1, by omega, rfl, by go_num, by rw [HDR.out, HDR'.out]; exact HRF.out⟩
        · have hje : j = kids.len := by omega
          subst hje
          have hnil : ∀ fr : Fr, fr.drop fr.len = .nil := fun fr => by
            have h1 := Fr.len_drop fr.len fr
            cases h2 : fr.drop fr.len with
            | nil => rfl
            | cons x y z => rw [h2] at h1; have h3 : z.len + 1 = fr.len - fr.len := h1; omega
          have hl := HL.out
          rw [hnil kids, hl, hnil kids'] at hrf
          have HR : Hid (true = sameF kids kids') := Lib.hid hrf
          clear hrf hnil hl
          go_wp2_with (fail)
          go_ret
          exact ⟨by rw [← HR.out]; rfl, HBR.out⟩
  · have g1 : ((kids.len : Int) != (kids'.len : Int)) = true := by rw [bne_iff_ne]; omega
    rw [sameF_len _ _ hl]
    clear hcl hF hB hF' hB' hl
    go_enter Tryz.func40, Tryz.ntmps40
    go_wp2_with (fail)
    go_ret
    exact ⟨rfl, Below.refl _ _⟩

set_option maxRecDepth 100000 in
set_option maxHeartbeats 16000000 in
theorem dsame_go (h h' : Hd) (kids kids' : Fr) (sub : Bool) (w : World)
    (hT : CallB w 119 #[numA h.fl h.f h.s h.A h.xs.length h.c, numA h'.fl h'.f h'.s h'.A h'.xs.length h'.c] (.bool (numS h h')))
    (hE : CallB w 40 #[.slice h.B kids.len h.cap, .slice h'.B kids'.len h'.cap, .func (.func 74) #[] #[]] (.bool sub)) :
    Calls Tryz.prog 74 #[datA h kids.len, datA h' kids'.len] w fun e w' => e = .returned (.bool (headS h h' && sub)) ∧ Below w.heap.size w w' := by
  obtain ⟨W0, hW0⟩ : ∃ W0, (w.alloc (datO h kids.len)).alloc (datO h' kids'.len) = W0 := ⟨_, rfl⟩
  have hb0 : Below w.heap.size w W0 := by rw [← hW0]; exact ((Below.refl _ w).alloc (Nat.le_refl _) _).alloc (by simp) _
  have hO : Obs W0 [(w.heap.size + 1, datO h' kids'.len), (w.heap.size, datO h kids.len)] := by
    rw [← hW0]
    have h1 := (Obs.nil.new (w := w) (datO h kids.len)).new (datO h' kids'.len)
    simp only [World.size_alloc] at h1
    exact h1
  obtain ⟨x0, x1, x2, x3, x4, x5, x6, x7⟩ := C8.of_block hO.tl.hd
  obtain ⟨y0, y1, y2, y3, y4, y5, y6, y7⟩ := C8.of_block hO.hd
  have HW0 := Lib.hid hW0
  have HB0 := Lib.hid hb0
  have O0 := Lib.hid hO
  have HT := Lib.hid hT
  have HE := Lib.hid hE
  clear hW0 hb0 hO hT hE
  obtain ⟨b1, e1⟩ : ∃ b, (h.k == h'.k) = b := ⟨_, rfl⟩
  obtain ⟨b2, e2⟩ : ∃ b, (h.n == h'.n) = b := ⟨_, rfl⟩
  obtain ⟨b3, e3⟩ : ∃ b, (h.t.toList == h'.t.toList) = b := ⟨_, rfl⟩
  obtain ⟨b4, e4⟩ : ∃ b, numS h h' = b := ⟨_, rfl⟩
  have HQ : Hid (headS h h' = (b1 && b2 && b3 && b4)) := Lib.hid (by unfold headS; rw [e1, e2, e3, e4])
  rw [e4] at HT
  clear e4
  cases b1
  · go_enter Tryz.func74, Tryz.ntmps74
    go_wp2_with (fail)
    go_ret
    exact ⟨by rw [HQ.out]; rfl, HW0.out ▸ HB0.out⟩
  cases b2
  · go_enter Tryz.func74, Tryz.ntmps74
    go_wp2_with (fail)
    go_ret
    exact ⟨by rw [HQ.out]; rfl, HW0.out ▸ HB0.out⟩
  cases b3
  · go_enter Tryz.func74, Tryz.ntmps74
    go_wp2_with (fail)
    go_ret
    exact ⟨by rw [HQ.out]; rfl, HW0.out ▸ HB0.out⟩
  go_enter Tryz.func74, Tryz.ntmps74
  go_wp2_with (fail)
  rw [HW0.out]
  refine (HT.out _ HB0.out).mono ?_
  rintro e w1 ⟨rfl, hb1⟩
  have HB1 := Lib.hid (bel_trans (B := w.heap.size) HB0.out hb1)
  obtain ⟨u0, u1, u2, u3, u4, u5, u6, u7⟩ := C8.of_block (O0.out.below hb1).tl.hd
  obtain ⟨v0, v1, v2, v3, v4, v5, v6, v7⟩ := C8.of_block (O0.out.below hb1).hd
  clear hb1 x0 x1 x2 x3 x4 x5 x6 x7 y0 y1 y2 y3 y4 y5 y6 y7
  cases b4
  · go_wp2_with (fail)
    go_ret
    exact ⟨by rw [HQ.out]; rfl, HB1.out⟩
  · go_wp2_with (fail)
    refine (HE.out _ HB1.out).mono ?_
    rintro e w2 ⟨rfl, hb2⟩
    have HB2 := Lib.hid (bel_trans (B := w.heap.size) HB1.out hb2)
    clear hb2
    go_wp2_with (fail)
    go_ret
    exact ⟨by rw [HQ.out]; rfl, HB2.out⟩

theorem dsame_any : ∀ (m : Nat) (kids kids' : Fr), kids.size < m → kids.Ok → kids'.Ok → NumsR kids → NumsR kids' → ∀ (h h' : Hd) (w : World), DatV w h kids → DatV w h' kids' → h.Ok kids.len → h'.Ok kids'.len → rightN h.fl h.f h.s h.xs = true → rightN h'.fl h'.f h'.s h'.xs = true →
    Calls Tryz.prog 74 #[datA h kids.len, datA h' kids'.len] w fun e w' => e = .returned (.bool (headS h h' && sameF kids kids')) ∧ Below w.heap.size w w' := by
  intro m
  induction m with
  | zero => intro kids _ h; omega
  | succ m ih =>
    intro kids kids' hsz hok hok' hn hn' h h' w hd hd' hho hho' hr hr'
    refine dsame_go h h' kids kids' _ w (tsame_any (numOk_of hr hho.f hd.xs hho.lm hho.c.1 hho.c.2) (numOk_of hr' hho'.f hd'.xs hho'.lm hho'.c.1 hho'.c.2) hr hr' hd.xs hd'.xs hho.lm hho'.lm hho.c hho'.c) fun W hW => ?_
    obtain ⟨b, off, hB, hF⟩ := (hd.below hW).items
    obtain ⟨b', off', hB', hF'⟩ := (hd'.below hW).items
    refine dequal_any kids kids' h.B h'.B h.cap h'.cap b off b' off' W hB hB' hF hF' hho.cap.1 hho.cap.2 hho'.cap.1 hho'.cap.2 fun hh k hh' k' j r r' e1 e2 W2 hW2 hD hD' => ?_
    have o1 := Fr.Ok.drop j hok
    have o2 := Fr.Ok.drop j hok'
    have n1 := NumsR.drop j hn
    have n2 := NumsR.drop j hn'
    rw [e1] at o1 n1
    rw [e2] at o2 n2
    exact ih k k' (by have := size_item e1; omega) o1.2.1 o2.2.1 n1.2.1 n2.2.1 hh hh' W2 hD hD' o1.1 o2.1 n1.1 n2.1

end LM
end Go.Proofs.YtdhjbhcfkajfdaaGreatDoor

namespace Go.Proofs.YtdhjbhcfkajfdaaGreatDoor
open Go Go.RowKit
namespace LM
set_option linter.unusedVariables false

/-- the same but for where it lies -/
def AlikeH (h h' : Hd) : Prop := h'.k = h.k ∧ h'.n = h.n ∧ h'.fl = h.fl ∧ h'.f = h.f ∧ h'.s = h.s ∧ h'.xs = h.xs ∧ h'.t = h.t
def AlikeF : Fr → Fr → Prop
  | .nil, .nil => True
  | .cons h k r, .cons h' k' r' => AlikeH h h' ∧ AlikeF k k' ∧ AlikeF r r'
  | .nil, .cons _ _ _ => False
  | .cons _ _ _, .nil => False
/-- all of it lies from block B on -/
def FreshH (B : Nat) (h : Hd) (n : Nat) : Prop := (0 < h.xs.length → ∀ ad, h.A = some ad → B ≤ ad.block) ∧ (0 < n → ∀ ad, h.B = some ad → B ≤ ad.block)
def FreshF (B : Nat) : Fr → Prop
  | .nil => True
  | .cons h k r => FreshH B h k.len ∧ FreshF B k ∧ FreshF B r
/-- none of it lies in a block -/
def AwayH (g : Nat) (h : Hd) (n : Nat) : Prop := (0 < h.xs.length → Off h.A g) ∧ (0 < n → Off h.B g)
def AwayF (g : Nat) : Fr → Prop
  | .nil => True
  | .cons h k r => AwayH g h k.len ∧ AwayF g k ∧ AwayF g r
/-- outside eight cells nothing has turned -/
structure Out8 (g o : Nat) (W W' : World) : Prop where
  size : W'.heap.size = W.heap.size
  cell : ∀ c i, (c ≠ g ∨ i < o ∨ o + 8 ≤ i) → W'.cell? ⟨c, i, none⟩ = W.cell? ⟨c, i, none⟩
/-- the eight cells of a datum in a row are stored -/
abbrev set8 (w : World) (g o : Nat) (h : Hd) (n : Nat) : World :=
  (((((((w.setCell ⟨g, o, none⟩ (.int .i64 h.k)).setCell ⟨g, o + 1, none⟩ (.int .i64 h.n)).setCell ⟨g, o + 2, none⟩ (.bool h.fl)).setCell ⟨g, o + 3, none⟩ (.float .f64 h.f)).setCell ⟨g, o + 4, none⟩ (.bool h.s)).setCell ⟨g, o + 5, none⟩ (.slice h.A h.xs.length h.c)).setCell ⟨g, o + 6, none⟩ (.string h.t)).setCell ⟨g, o + 7, none⟩ (.slice h.B n h.cap)
theorem cell_set_ne {w : World} {b i c j : Nat} {u : Value} (h : b ≠ c ∨ i ≠ j) : (w.setCell ⟨c, j, none⟩ u).cell? ⟨b, i, none⟩ = w.cell? ⟨b, i, none⟩ := by
  by_cases hb : b = c
  · subst hb
    have ho : i ≠ j := h.resolve_left (fun e => e rfl)
    unfold World.cell? World.setCell
    simp only [Array.getElem?_modify, if_pos]
    cases w.heap[b]? with
    | none => rfl
    | some o =>
      cases o <;> simp
      exact Array.getElem?_setIfInBounds_ne (fun e => ho e.symm)
  · exact World.cell?_of_block (Below.heap_setCell w _ u _ hb)
theorem cell_set_eq {w : World} {b i : Nat} {u v : Value} (h : w.cell? ⟨b, i, none⟩ = some v) : (w.setCell ⟨b, i, none⟩ u).cell? ⟨b, i, none⟩ = some u := by
  unfold World.cell? at h ⊢
  unfold World.setCell
  simp only [Array.getElem?_modify, if_pos]
  cases hb : w.heap[b]? with
  | none => rw [hb] at h; cases h
  | some o =>
    rw [hb] at h
    cases o <;> simp_all
    rename_i cs _ _
    rcases Nat.lt_or_ge i cs.size with h1 | h1
    · simp [h1]
    · rw [Array.getElem?_eq_none h1] at h; cases h
theorem set8_out (w : World) (g o : Nat) (h : Hd) (n : Nat) : Out8 g o w (set8 w g o h n) := by
  refine ⟨by simp [World.setCell], fun c i hc => ?_⟩
  unfold set8
  rw [cell_set_ne (by omega), cell_set_ne (by omega), cell_set_ne (by omega), cell_set_ne (by omega), cell_set_ne (by omega), cell_set_ne (by omega), cell_set_ne (by omega), cell_set_ne (by omega)]
theorem set8_c8 {w : World} {g o m : Nat} {h0 : Hd} (hc : C8 w g o h0 m) (h : Hd) (n : Nat) : C8 (set8 w g o h n) g o h n := by
  have k : ∀ (W : World) (i j : Nat) (u : Value), i ≠ j → (W.setCell ⟨g, o + j, none⟩ u).cell? ⟨g, o + i, none⟩ = W.cell? ⟨g, o + i, none⟩ := fun W i j u hij => cell_set_ne (.inr (by omega))
  have k0 : ∀ (W : World) (i : Nat) (u : Value), i ≠ 0 → (W.setCell ⟨g, o, none⟩ u).cell? ⟨g, o + i, none⟩ = W.cell? ⟨g, o + i, none⟩ := fun W i u hij => cell_set_ne (.inr (by omega))
  have k1 : ∀ (W : World) (j : Nat) (u : Value), j ≠ 0 → (W.setCell ⟨g, o + j, none⟩ u).cell? ⟨g, o, none⟩ = W.cell? ⟨g, o, none⟩ := fun W j u hij => cell_set_ne (.inr (by omega))
  obtain ⟨c0, c1, c2, c3, c4, c5, c6, c7⟩ := hc
  unfold set8
  refine ⟨?_, ?_, ?_, ?_, ?_, ?_, ?_, ?_⟩
  · rw [k1 _ 7 _ (by decide), k1 _ 6 _ (by decide), k1 _ 5 _ (by decide), k1 _ 4 _ (by decide), k1 _ 3 _ (by decide), k1 _ 2 _ (by decide), k1 _ 1 _ (by decide)]
    exact cell_set_eq c0
  · rw [k _ 1 7 _ (by decide), k _ 1 6 _ (by decide), k _ 1 5 _ (by decide), k _ 1 4 _ (by decide), k _ 1 3 _ (by decide), k _ 1 2 _ (by decide)]
    exact cell_set_eq (v := .int .i64 h0.n) (by rw [k0 _ 1 _ (by decide)]; exact c1)
  · rw [k _ 2 7 _ (by decide), k _ 2 6 _ (by decide), k _ 2 5 _ (by decide), k _ 2 4 _ (by decide), k _ 2 3 _ (by decide)]
    exact cell_set_eq (v := .bool h0.fl) (by rw [k _ 2 1 _ (by decide), k0 _ 2 _ (by decide)]; exact c2)
  · rw [k _ 3 7 _ (by decide), k _ 3 6 _ (by decide), k _ 3 5 _ (by decide), k _ 3 4 _ (by decide)]
    exact cell_set_eq (v := .float .f64 h0.f) (by rw [k _ 3 2 _ (by decide), k _ 3 1 _ (by decide), k0 _ 3 _ (by decide)]; exact c3)
  · rw [k _ 4 7 _ (by decide), k _ 4 6 _ (by decide), k _ 4 5 _ (by decide)]
    exact cell_set_eq (v := .bool h0.s) (by rw [k _ 4 3 _ (by decide), k _ 4 2 _ (by decide), k _ 4 1 _ (by decide), k0 _ 4 _ (by decide)]; exact c4)
  · rw [k _ 5 7 _ (by decide), k _ 5 6 _ (by decide)]
    exact cell_set_eq (v := .slice h0.A h0.xs.length h0.c) (by rw [k _ 5 4 _ (by decide), k _ 5 3 _ (by decide), k _ 5 2 _ (by decide), k _ 5 1 _ (by decide), k0 _ 5 _ (by decide)]; exact c5)
  · rw [k _ 6 7 _ (by decide)]
    exact cell_set_eq (v := .string h0.t) (by rw [k _ 6 5 _ (by decide), k _ 6 4 _ (by decide), k _ 6 3 _ (by decide), k _ 6 2 _ (by decide), k _ 6 1 _ (by decide), k0 _ 6 _ (by decide)]; exact c6)
  · exact cell_set_eq (v := .slice h0.B m h0.cap) (by rw [k _ 7 6 _ (by decide), k _ 7 5 _ (by decide), k _ 7 4 _ (by decide), k _ 7 3 _ (by decide), k _ 7 2 _ (by decide), k _ 7 1 _ (by decide), k0 _ 7 _ (by decide)]; exact c7)
end LM
end Go.Proofs.YtdhjbhcfkajfdaaGreatDoor

namespace Go.Proofs.YtdhjbhcfkajfdaaGreatDoor
open Go Go.RowKit
namespace LM
set_option linter.unusedVariables false

end LM
end Go.Proofs.YtdhjbhcfkajfdaaGreatDoor

namespace Go.Proofs.YtdhjbhcfkajfdaaGreatDoor
open Go Go.RowKit
namespace LM
set_option linter.unusedVariables false

end LM
end Go.Proofs.YtdhjbhcfkajfdaaGreatDoor

namespace Go.Proofs.YtdhjbhcfkajfdaaGreatDoor
open Go Go.RowKit
namespace LM
set_option linter.unusedVariables false
attribute [local go_sem] run_store_flt

abbrev zeroO : Obj := .cells #[.int .i64 0, .int .i64 0, .bool false, .float .f64 0, .bool false, .slice none 0 0, .string ⟨#[]⟩, .slice none 0 0] 58 (0, 0)
/-- a world in which nothing of what there was is frozen anew -/
structure Still (W W' : World) : Prop where
  size : W.heap.size ≤ W'.heap.size
  frz : ∀ b, b < W.heap.size → ∀ i, W'.frozen? ⟨b, i, none⟩ = W.frozen? ⟨b, i, none⟩
/-- a datum's blocks can be written -/
def SoftH (w : World) (h : Hd) (n : Nat) : Prop := (0 < h.xs.length → ∀ ad, h.A = some ad → ad.block < w.heap.size ∧ ∀ i, w.frozen? ⟨ad.block, i, none⟩ = false) ∧ (0 < n → ∀ ad, h.B = some ad → ad.block < w.heap.size ∧ ∀ i, w.frozen? ⟨ad.block, i, none⟩ = false)
def SoftF (w : World) : Fr → Prop
  | .nil => True
  | .cons h k r => SoftH w h k.len ∧ SoftF w k ∧ SoftF w r
theorem heap_lt {W : World} {g : Nat} {o : Obj} (h : W.heap[g]? = some o) : g < W.heap.size := by
  rcases Nat.lt_or_ge g W.heap.size with h2 | h2
  · exact h2
  · rw [Array.getElem?_eq_none h2] at h; cases h
theorem frozen_set {W : World} {p q : Addr} {u : Value} : (W.setCell p u).frozen? q = W.frozen? q := by
  by_cases hb : q.block = p.block
  · unfold World.frozen? World.setCell
    simp only [Array.getElem?_modify, hb, if_pos]
    cases W.heap[p.block]? with
    | none => rfl
    | some o => cases o <;> rfl
  · exact World.frozen?_of_block (Below.heap_setCell W p u _ hb)

theorem set8_frozen {g o n : Nat} {W : World} {h : Hd} {q : Addr} : (set8 W g o h n).frozen? q = W.frozen? q := by
  unfold set8
  rw [frozen_set, frozen_set, frozen_set, frozen_set, frozen_set, frozen_set, frozen_set, frozen_set]
theorem set8_still {g o n : Nat} {W : World} {h : Hd} : Still W (set8 W g o h n) := ⟨by rw [(set8_out W g o h n).size]; exact Nat.le_refl _, fun b _ i => set8_frozen⟩
abbrev zeroHd : Hd := ⟨0, 0, false, 0, false, none, [], 0, ⟨#[]⟩, none, 0⟩
abbrev set8z (w : World) (g : Nat) (h : Hd) (n : Nat) : World :=
  (((((((w.setCell ⟨g, 0, none⟩ (.int .i64 h.k)).setCell ⟨g, 1, none⟩ (.int .i64 h.n)).setCell ⟨g, 2, none⟩ (.bool h.fl)).setCell ⟨g, 3, none⟩ (.float .f64 h.f)).setCell ⟨g, 4, none⟩ (.bool h.s)).setCell ⟨g, 5, none⟩ (.slice h.A h.xs.length h.c)).setCell ⟨g, 6, none⟩ (.string h.t)).setCell ⟨g, 7, none⟩ (.slice h.B n h.cap)
/-- a datum is stored into the variable of a result -/
theorem result_dat {w W : World} {g B : Nat} {h : Hd} {n : Nat} (hz : W.heap[g]? = some zeroO) (hb : Below B w W) (hg : B ≤ g) : ∃ WF, set8z W g h n = WF ∧ C8 WF g 0 h n ∧ Out8 g 0 W WF ∧ Below B w WF ∧ Still W WF := by
  have hc : C8 W g 0 zeroHd 0 := C8.of_block hz
  refine ⟨set8 W g 0 h n, rfl, set8_c8 hc h n, set8_out W g 0 h n, ?_, set8_still⟩
  exact (((((((hb.setCell hg _).setCell hg _).setCell hg _).setCell hg _).setCell hg _).setCell hg _).setCell hg _).setCell hg _
theorem zero_facts {W : World} {g : Nat} (hz : W.heap[g]? = some zeroO) :
    W.cell? ⟨g, 0, none⟩ = some (.int .i64 0) ∧ W.cell? ⟨g, 1, none⟩ = some (.int .i64 0) ∧ W.cell? ⟨g, 2, none⟩ = some (.bool false) ∧ W.cell? ⟨g, 3, none⟩ = some (.float .f64 0) ∧ W.cell? ⟨g, 4, none⟩ = some (.bool false) ∧ W.cell? ⟨g, 5, none⟩ = some (.slice none 0 0) ∧ W.cell? ⟨g, 6, none⟩ = some (.string ⟨#[]⟩) ∧ W.cell? ⟨g, 7, none⟩ = some (.slice none 0 0) ∧
    W.frozen? ⟨g, 0, none⟩ = false ∧ W.frozen? ⟨g, 1, none⟩ = false ∧ W.frozen? ⟨g, 2, none⟩ = false ∧ W.frozen? ⟨g, 3, none⟩ = false ∧ W.frozen? ⟨g, 4, none⟩ = false ∧ W.frozen? ⟨g, 5, none⟩ = false ∧ W.frozen? ⟨g, 6, none⟩ = false ∧ W.frozen? ⟨g, 7, none⟩ = false ∧ g < W.heap.size := by
  refine ⟨ob_cell hz 0, ob_cell hz 1, ob_cell hz 2, ob_cell hz 3, ob_cell hz 4, ob_cell hz 5, ob_cell hz 6, ob_cell hz 7, ob_free hz 0 (by decide), ob_free hz 1 (by decide), ob_free hz 2 (by decide), ob_free hz 3 (by decide), ob_free hz 4 (by decide), ob_free hz 5 (by decide), ob_free hz 6 (by decide), ob_free hz 7 (by decide), ?_⟩
  rcases Nat.lt_or_ge g W.heap.size with h2 | h2
  · exact h2
  · rw [Array.getElem?_eq_none h2] at hz; cases hz
end LM
end Go.Proofs.YtdhjbhcfkajfdaaGreatDoor

namespace Go.Proofs.YtdhjbhcfkajfdaaGreatDoor
open Go Go.RowKit
namespace LM
set_option linter.unusedVariables false
attribute [local go_sem] run_store_flt

set_option maxRecDepth 100000 in
set_option maxHeartbeats 4000000 in
theorem dbounded_any (kids : Fr) (hok : kids.Ok) (h : Hd) (w : World) (hd : DatV w h kids) (hho : h.Ok kids.len) :
    Calls Tryz.prog 73 #[datA h kids.len] w fun e w' => e = .returned (.bool (decide (cnt 65536 1 kids < 65536))) ∧ Below w.heap.size w w' := by
  obtain ⟨W0, hW0, hb0, ho, hs0⟩ := dat_block w h kids.len
  have HC := Lib.hid (counted_any (kids.size + 1) kids (by omega) hok h 65536 W0 (hd.below hb0) hho.cap.1 hho.cap.2 (by decide) (by decide))
  have HW0 := Lib.hid hW0
  have HB0 := Lib.hid hb0
  clear hW0 hb0 ho hd hho hok hs0
  go_enter Tryz.func73, Tryz.ntmps73
  go_wp2_with (fail)
  rw [HW0.out]
  refine HC.out.mono ?_
  rintro e w1 ⟨rfl, hb1⟩
  have HB1 := Lib.hid (bel_trans (B := w.heap.size) HB0.out hb1)
  clear hb1
  go_wp2_with (fail)
  go_ret
  exact ⟨rfl, HB1.out⟩
set_option maxRecDepth 100000 in
set_option maxHeartbeats 4000000 in
theorem dSame_any (kids kids' : Fr) (hok : kids.Ok) (hok' : kids'.Ok) (hn : NumsR kids) (hn' : NumsR kids') (hbd : cnt 65536 1 kids < 65536) (h h' : Hd) (w : World) (hd : DatV w h kids) (hd' : DatV w h' kids') (hho : h.Ok kids.len) (hho' : h'.Ok kids'.len) (hr : rightN h.fl h.f h.s h.xs = true) (hr' : rightN h'.fl h'.f h'.s h'.xs = true) :
    Calls Tryz.prog 41 #[datA h kids.len, datA h' kids'.len] w fun e w' => e = .returned (.bool (headS h h' && sameF kids kids')) ∧ Below w.heap.size w w' := by
  obtain ⟨W0, hW0⟩ : ∃ W0, (w.alloc (datO h kids.len)).alloc (datO h' kids'.len) = W0 := ⟨_, rfl⟩
  have hb0 : Below w.heap.size w W0 := by rw [← hW0]; exact ((Below.refl _ w).alloc (Nat.le_refl _) _).alloc (by simp) _
  have hO : Obs W0 [(w.heap.size + 1, datO h' kids'.len), (w.heap.size, datO h kids.len)] := by
    rw [← hW0]
    have h1 := (Obs.nil.new (w := w) (datO h kids.len)).new (datO h' kids'.len)
    simp only [World.size_alloc] at h1
    exact h1
  have HC := Lib.hid (dbounded_any kids hok h W0 (hd.below hb0) hho)
  rw [decide_eq_true hbd] at HC
  have HS := Lib.hid fun W (hW : Below w.heap.size w W) => dsame_any (kids.size + 1) kids kids' (by omega) hok hok' hn hn' h h' W (hd.below hW) (hd'.below hW) hho hho' hr hr'
  have HW0 := Lib.hid hW0
  have HB0 := Lib.hid hb0
  have O0 := Lib.hid hO
  clear hW0 hb0 hO hd hd' hho hho' hok hok' hn hn' hbd hr hr'
  go_enter Tryz.func41, Tryz.ntmps41
  go_wp2_with (fail)
  rw [HW0.out]
  refine HC.out.mono ?_
  rintro e w1 ⟨rfl, hb1⟩
  have HB1 := Lib.hid (bel_trans (B := w.heap.size) HB0.out hb1)
  obtain ⟨x0, x1, x2, x3, x4, x5, x6, x7⟩ := C8.of_block (O0.out.below hb1).tl.hd
  obtain ⟨y0, y1, y2, y3, y4, y5, y6, y7⟩ := C8.of_block (O0.out.below hb1).hd
  clear hb1
  go_wp2_with (fail)
  refine (HS.out _ HB1.out).mono ?_
  rintro e w2 ⟨rfl, hb2⟩
  have HB2 := Lib.hid (bel_trans (B := w.heap.size) HB1.out hb2)
  clear hb2
  go_wp2_with (fail)
  go_ret
  exact ⟨rfl, HB2.out⟩

end LM
end Go.Proofs.YtdhjbhcfkajfdaaGreatDoor

namespace Go.Proofs.YtdhjbhcfkajfdaaGreatDoor
open Go Go.RowKit
namespace LM
set_option linter.unusedVariables false
attribute [local go_sem] run_store_flt

/-- a builder that holds these bytes; it is block b -/
def WR (b : Nat) (bs : List UInt8) (W : World) : Prop := Lib.IsBuilderF 112 5 b b (Lib.byteCells bs) W ∧ b < W.heap.size
/-- these bytes were written, too -/
def Wrote (b : Nat) (bs add : List UInt8) (W : World) (e : Ending) (W' : World) : Prop := (∃ v, e = .returned v) ∧ WR b (bs ++ add) W' ∧ Below b W W' ∧ Keeps8 (b + 1) W W'
theorem strCells_eq (s : ByteArray) : Lib.strCells s = Lib.byteCells s.data.toList := rfl
theorem wrstr_any (b : Nat) (bs : List UInt8) (s : ByteArray) (w : World) (h : WR b bs w) (hl : bs.length + s.size ≤ 140737488355328) :
    Calls Tryz.prog 104 #[.pointer (some ⟨b, 0, none⟩), .string s] w (Wrote b bs s.data.toList w) := by
  refine (wstr_any b b (Lib.byteCells bs) s w h.1 (by rw [Lib.byteCells_length]; exact hl) (Nat.le_of_lt h.2)).mono ?_
  rintro e w' ⟨rfl, h1, h2, h3⟩
  refine ⟨⟨_, rfl⟩, ⟨?_, Nat.lt_of_lt_of_le h.2 h2.size⟩, h2, keeps8_others h3 h2.size (Nat.lt_succ_self _)⟩
  rw [Lib.byteCells_append]
  rw [strCells_eq] at h1
  exact .inr h1
theorem WR.below {b : Nat} {bs : List UInt8} {w w' : World} (h : WR b bs w) (hb : Below w.heap.size w w') : WR b bs w' := ⟨builder_below h.1 hb, Nat.lt_of_lt_of_le h.2 hb.size⟩

/-- a leaf -/
def leafK (k : Int) : Prop := k ≠ 5 ∧ k ≠ 6 ∧ k ≠ 7
instance (k : Int) : Decidable (leafK k) := by unfold leafK; infer_instance
def Fr.isNil : Fr → Bool
  | .nil => true
  | .cons _ _ _ => false
/-- the text of data one behind the other: is the last one a tail, is it the first one -/
def txF (lf : Hd → List UInt8) : Bool → Bool → Fr → List UInt8
  | _, _, .nil => []
  | dot, fst, .cons h k r => (if dot && r.isNil then [32, 46, 32] else if fst then [] else [32]) ++
      (if h.k = 5 then [40] ++ txF lf false true k ++ [41] else if h.k = 6 then [40] ++ txF lf true true k ++ [41] else if h.k = 7 then [35, 40] ++ txF lf false true k ++ [41] else lf h) ++ txF lf dot false r
def txD (lf : Hd → List UInt8) (h : Hd) (k : Fr) : List UInt8 :=
  if h.k = 5 then [40] ++ txF lf false true k ++ [41] else if h.k = 6 then [40] ++ txF lf true true k ++ [41] else if h.k = 7 then [35, 40] ++ txF lf false true k ++ [41] else lf h

set_option maxRecDepth 100000 in
set_option maxHeartbeats 8000000 in
/-- Items with blanks between; n of them: all, or all but the last -/
theorem dwitems_any (lf : Hd → List UInt8) (kids : Fr) (n : Nat) (hn : n ≤ kids.len) (o : ByteArray) (B : Option Addr) (cap bb off b : Nat) (bs : List UInt8) (w0 w : World) (h0 : Below b w0 w) (hw0 : b = w0.heap.size) (hB : 0 < n → B = some ⟨bb, off, none⟩) (hF : FAt w0 bb off kids) (hc1 : n ≤ cap) (hc2 : cap ≤ 9223372036854775807)
    (tx : Nat → List UInt8) (ht0 : tx 0 = []) (hts : ∀ hh k j r, j < n → kids.drop j = .cons hh k r → tx (j + 1) = tx j ++ ((if j = 0 then [] else [32]) ++ txD lf hh k)) (htl : ∀ j, j ≤ n → (tx j).length ≤ (tx n).length)
    (hW : WR b bs w) (hl : bs.length + o.size + (tx n).length ≤ 100000000000)
    (hcl : ∀ hh k j r, j < n → kids.drop j = .cons hh k r → ∀ W cs, Below b w0 W → WR b cs W → cs.length + (txD lf hh k).length ≤ 100000000000 → Calls Tryz.prog 57 #[.pointer (some ⟨b, 0, none⟩), datA hh k.len] W (Wrote b cs (txD lf hh k) W)) :
    Calls Tryz.prog 109 #[.pointer (some ⟨b, 0, none⟩), .string o, .slice B n cap] w (Wrote b bs (o.data.toList ++ tx n) w) := by
  rcases Nat.eq_zero_or_pos n with hn0 | hpos
  · subst hn0
    have H1 := Lib.hid (wrstr_any b bs o w hW (by omega))
    have HT := Lib.hid ht0
    clear hw0 hcl hts htl h0 hF hB ht0 hW
    go_enter Tryz.func109, Tryz.ntmps109
    go_wp2_with (fail)
    refine H1.out.mono ?_
    rintro e w1 ⟨⟨v, rfl⟩, hr⟩
    have HR := Lib.hid hr
    clear hr
    go_wp2_with (fail)
    go_loopg [13] 0 (fun kk i wr => wr = w1 ∧ i = .int .i64 0)
    case atStart => exact ⟨rfl, rfl⟩
    case round =>
      obtain ⟨rfl, rfl⟩ := hrel
      go_wp2_with (fail)
      go_end0
      refine ⟨⟨_, rfl⟩, ?_, HR.out.2.1, HR.out.2.2⟩
      show WR b (bs ++ (o.data.toList ++ tx 0)) _
      rw [HT.out, List.append_nil]
      exact HR.out.1
  · obtain rfl := hB hpos
    have H1 := Lib.hid (wrstr_any b bs o w hW (by omega))
    have HF := Lib.hid hF
    have HCL := Lib.hid hcl
    have HTS := Lib.hid hts
    have HTL := Lib.hid htl
    have H0 := Lib.hid h0
    have HT := Lib.hid ht0
    have HWB := Lib.hid hW.2
    have HW0 := Lib.hid hw0
    clear hw0 hcl hts htl h0 hF hB ht0 hW
    go_enter Tryz.func109, Tryz.ntmps109
    go_wp2_with (fail)
    refine H1.out.mono ?_
    rintro e w1 ⟨⟨v, rfl⟩, hr⟩
    have HR := Lib.hid hr
    clear hr
    go_wp2_with (fail)
    go_loopg [13] n (fun kk i wr => ∃ j : Nat, j ≤ n ∧ kk = n - j ∧ i = .int .i64 (j : Int) ∧ WR b (bs ++ (o.data.toList ++ tx j)) wr ∧ Below b w wr ∧ Keeps8 (b + 1) w wr)
    case atStart => exact ⟨0, Nat.zero_le _, rfl, rfl, by rw [HT.out, List.append_nil]; exact HR.out.1, HR.out.2.1, HR.out.2.2⟩
    case round =>
      obtain ⟨j, hj, rfl, rfl, hI1, hI2, hI3⟩ := hrel
      have J1 := Lib.hid hI1
      have J2 := Lib.hid hI2
      have J3 := Lib.hid hI3
      clear hI1 hI2 hI3
      by_cases hjl : j < n
      · obtain ⟨hh, k, r, hdr, hdr1⟩ := Fr.cons_of_lt (show j < kids.len by omega)
        have hbel : Below b w0 wr := H0.out.trans J2.out
        obtain ⟨hbl, ⟨x0, x1, x2, x3, x4, x5, x6, x7⟩, -⟩ := counted_item (FAt.below (HW0.out ▸ hbel) _ _ _ HF.out) hdr
        obtain ⟨W2, hW2⟩ : ∃ W2, wr.alloc (datO hh k.len) = W2 := ⟨_, rfl⟩
        have hba : Below wr.heap.size wr W2 := by rw [← hW2]; exact (Below.refl _ wr).alloc (Nat.le_refl _) _
        have hbo : W2.heap[wr.heap.size]? = some (datO hh k.len) := by rw [← hW2]; unfold World.alloc; simp
        have hwb := J1.out.2
        have A1 := Lib.hid (J1.out.below hba)
        have A2 := Lib.hid (bel_trans (B := b) J2.out hba (by have := HWB.out; omega))
        have A3 := Lib.hid (J3.out.trans (keeps8_below hba))
        have A0 := Lib.hid (bel_trans (B := b) hbel hba (by have := HW0.out; omega))
        have BO := Lib.hid hbo
        have HW2 := Lib.hid hW2
        have ts := HTS.out hh k j r hjl hdr
        have tl := HTL.out (j + 1) (by omega)
        rw [ts, List.length_append, List.length_append] at tl
        obtain ⟨u0, u1, u2, u3, u4, u5, u6, u7⟩ := C8.of_block hbo
        have CL := Lib.hid fun (W : World) (cs : List UInt8) (h1 : Below b w0 W) (h2 : WR b cs W) (h3 : cs.length + (txD lf hh k).length ≤ 100000000000) => HCL.out hh k j r hjl hdr W cs h1 h2 h3
        have TS := Lib.hid ts
        have TL := Lib.hid tl
        have HJ := Lib.hid hjl
        clear hdr hdr1 ts tl hbel hba hbo hW2 hwb
        by_cases hj0 : j = 0
        · have dj : decide (0 < j) = false := decide_eq_false (by omega)
          have HJ0 := Lib.hid hj0
          have ET := Lib.hid (show tx (j + 1) = tx j ++ txD lf hh k by rw [TS.out, if_pos hj0, List.nil_append])
          clear hj0
          go_wp2_with (fail)
          rw [HW2.out]
          refine (CL.out W2 _ A0.out A1.out (by have := TL.out; rw [List.length_append, List.length_append, ← Lib.size_eq]; omega)).mono ?_
          rintro e w3 ⟨⟨v3, rfl⟩, h31, h32, h33⟩
          have B1 := Lib.hid h31
          have B2 := Lib.hid (A2.out.trans h32)
          have B3 := Lib.hid (A3.out.trans h33)
          clear h31 h32 h33
          go_wp2_with (fail)
          go_roundg (n - (j + 1))
          case measure => omega
          case rel => exact ⟨j + 1, by omega, rfl, by go_num, by rw [ET.out]; have := B1.out; rw [List.append_assoc, List.append_assoc] at this; exact this, B2.out, B3.out⟩
        · have dj : decide (0 < j) = true := decide_eq_true (by omega)
          have ET := Lib.hid (show tx (j + 1) = tx j ++ ([32] ++ txD lf hh k) by rw [TS.out, if_neg hj0])
          have H2 := Lib.hid (wrstr_any b _ ⟨#[32]⟩ W2 A1.out (by have := TL.out; rw [if_neg hj0] at this; have t2 : ([32] : List UInt8).length = 1 := rfl; rw [List.length_append, List.length_append, ← Lib.size_eq]; show _ + 1 ≤ _; omega))
          have TL2 := Lib.hid (show (tx j).length + (1 + (txD lf hh k).length) ≤ (tx n).length by have := TL.out; rw [if_neg hj0] at this; exact this)
          clear hj0
          go_wp2_with (fail)
          rw [HW2.out]
          refine H2.out.mono ?_
          rintro e w3 ⟨⟨v3, rfl⟩, h31, h32, h33⟩
          have B1 := Lib.hid h31
          have B2 := Lib.hid (A2.out.trans h32)
          have B3 := Lib.hid (A3.out.trans h33)
          have B0 := Lib.hid (A0.out.trans h32)
          have hbo3 := h33.same wr.heap.size _ (by have := J1.out.2; omega) BO.out rfl
          obtain ⟨q0, q1, q2, q3, q4, q5, q6, q7⟩ := C8.of_block hbo3
          clear h31 h32 h33 hbo3 u0 u1 u2 u3 u4 u5 u6 u7
          go_wp2_with (fail)
          refine (CL.out w3 _ B0.out B1.out (by have := TL2.out; rw [List.length_append, List.length_append, List.length_append, ← Lib.size_eq]; show _ + 1 + _ ≤ _; omega)).mono ?_
          rintro e w4 ⟨⟨v4, rfl⟩, h31, h32, h33⟩
          have C1 := Lib.hid h31
          have C2 := Lib.hid (B2.out.trans h32)
          have C3 := Lib.hid (B3.out.trans h33)
          clear h31 h32 h33
          go_wp2_with (fail)
          go_roundg (n - (j + 1))
          case measure => omega
          case rel => exact ⟨j + 1, by omega, rfl, by go_num, by rw [ET.out]; have := C1.out; simp only [List.append_assoc] at this ⊢; exact this, C2.out, C3.out⟩
      · obtain rfl : j = n := by omega
        go_wp2_with (fail)
        go_end0
        exact ⟨⟨_, rfl⟩, J1.out, J2.out, J3.out⟩

end LM
end Go.Proofs.YtdhjbhcfkajfdaaGreatDoor

namespace Go.Proofs.YtdhjbhcfkajfdaaGreatDoor
open Go Go.RowKit
namespace LM
set_option linter.unusedVariables false
attribute [local go_sem] run_store_flt

/-- the texts of the first j Items -/
def txI (lf : Hd → List UInt8) : Nat → Bool → Fr → List UInt8
  | 0, _, _ => []
  | _ + 1, _, .nil => []
  | j + 1, fst, .cons h k r => (if fst then [] else [32]) ++ txD lf h k ++ txI lf j false r
theorem txI_step (lf : Hd → List UInt8) : ∀ (j : Nat) (fst : Bool) (fr : Fr) (hh : Hd) (k r : Fr), fr.drop j = .cons hh k r → txI lf (j + 1) fst fr = txI lf j fst fr ++ ((if (j = 0 ∧ fst = true) then [] else [32]) ++ txD lf hh k) := by
  intro j
  induction j with
  | zero =>
    intro fst fr hh k r hd
    cases fr with
    | nil => cases hd
    | cons a b c =>
      obtain ⟨rfl, rfl, rfl⟩ : a = hh ∧ b = k ∧ c = r := by cases hd; exact ⟨rfl, rfl, rfl⟩
      show (if fst then [] else [32]) ++ txD lf a b ++ [] = [] ++ _
      cases fst <;> simp
  | succ j ih =>
    intro fst fr hh k r hd
    cases fr with
    | nil => cases hd
    | cons a b c =>
      have h1 := ih false c hh k r hd
      show (if fst then [] else [32]) ++ txD lf a b ++ txI lf (j + 1) false c = ((if fst then [] else [32]) ++ txD lf a b ++ txI lf j false c) ++ _
      rw [h1]
      simp
theorem txI_all (lf : Hd → List UInt8) : ∀ (fr : Fr) (fst : Bool), txI lf fr.len fst fr = txF lf false fst fr := by
  intro fr
  induction fr with
  | nil => intro fst; rfl
  | cons h k r _ ih =>
    intro fst
    show (if fst then [] else [32]) ++ txD lf h k ++ txI lf r.len false r = _
    rw [ih]
    unfold txD
    show _ = (if (false && r.isNil) then [32, 46, 32] else if fst then [] else [32]) ++ _ ++ txF lf false false r
    rw [Bool.false_and]
    cases fst <;> rfl
theorem txI_dot (lf : Hd → List UInt8) : ∀ (fr : Fr) (fst : Bool) (hh : Hd) (k : Fr), 0 < fr.len → fr.drop (fr.len - 1) = .cons hh k .nil → txF lf true fst fr = txI lf (fr.len - 1) fst fr ++ [32, 46, 32] ++ txD lf hh k := by
  intro fr
  induction fr with
  | nil => intro fst hh k h; exact absurd h (by show ¬ 0 < 0; omega)
  | cons a b c _ ih =>
    intro fst hh k _ hd
    cases c with
    | nil =>
      obtain ⟨rfl, rfl⟩ : a = hh ∧ b = k := by cases hd; exact ⟨rfl, rfl⟩
      show [32, 46, 32] ++ _ ++ [] = [] ++ [32, 46, 32] ++ txD lf a b
      unfold txD
      simp
    | cons a2 b2 c2 =>
      have hl : (Fr.cons a2 b2 c2).len = c2.len + 1 := rfl
      have hl2 : (Fr.cons a b (Fr.cons a2 b2 c2)).len - 1 = c2.len + 1 := by show c2.len + 1 + 1 - 1 = _; omega
      rw [hl2] at hd ⊢
      have h1 := ih false hh k (by rw [hl]; omega) (by rw [hl]; exact hd)
      rw [hl, Nat.add_sub_cancel] at h1
      show (if fst then [] else [32]) ++ _ ++ txF lf true false (Fr.cons a2 b2 c2) = ((if fst then [] else [32]) ++ txD lf a b ++ txI lf c2.len false (Fr.cons a2 b2 c2)) ++ _ ++ _
      rw [h1]
      unfold txD
      simp

end LM
end Go.Proofs.YtdhjbhcfkajfdaaGreatDoor

namespace Go.Proofs.YtdhjbhcfkajfdaaGreatDoor
open Go Go.RowKit
namespace LM
set_option linter.unusedVariables false
attribute [local go_sem] run_store_flt

/-- what must be known of a datum that is printed: P of its leaves -/
def WH (P : Hd → Prop) (h : Hd) (k : Fr) : Prop := (leafK h.k → k = .nil ∧ P h) ∧ (h.k = 6 → 2 ≤ k.len)
def WOk (P : Hd → Prop) : Fr → Prop
  | .nil => True
  | .cons h k r => WH P h k ∧ WOk P k ∧ WOk P r
theorem WOk.drop {P : Hd → Prop} : ∀ (j : Nat) {fr : Fr}, WOk P fr → WOk P (fr.drop j) := by
  intro j
  induction j with
  | zero => intro fr h; exact h
  | succ j ih =>
    intro fr h
    cases fr with
    | nil => exact trivial
    | cons hh k r => exact ih h.2.2
theorem txI_mono (lf : Hd → List UInt8) : ∀ (j n : Nat) (fst : Bool) (fr : Fr), j ≤ n → (txI lf j fst fr).length ≤ (txI lf n fst fr).length := by
  intro j
  induction j with
  | zero => intro n fst fr _; show 0 ≤ _; omega
  | succ j ih =>
    intro n fst fr hn
    obtain ⟨m, rfl⟩ : ∃ m, n = m + 1 := ⟨n - 1, by omega⟩
    cases fr with
    | nil => exact Nat.le_refl _
    | cons a b c =>
      have := ih m false c (by omega)
      show ((if fst then [] else [32]) ++ txD lf a b ++ txI lf j false c).length ≤ ((if fst then [] else [32]) ++ txD lf a b ++ txI lf m false c).length
      simp only [List.length_append]
      omega

abbrev WriteC (b : Nat) (w0 : World) (h : Hd) (n : Nat) (t : List UInt8) : Prop := ∀ W cs, Below b w0 W → WR b cs W → cs.length + t.length ≤ 100000000000 → Calls Tryz.prog 57 #[.pointer (some ⟨b, 0, none⟩), datA h n] W (Wrote b cs t W)

set_option maxRecDepth 100000 in
set_option maxHeartbeats 8000000 in
/-- a list or a vector -/
theorem dwrite_row (b : Nat) (w0 : World) (h : Hd) (kids : Fr) (t : List UInt8) (o : ByteArray) (ho : (h.k = 5 ∧ o = ⟨#[40]⟩) ∨ (h.k = 7 ∧ o = ⟨#[35, 40]⟩)) (W : World) (cs : List UInt8) (hb : Below b w0 W) (hr : WR b cs W)
    (hI : ∀ W, Below b w0 W → WR b cs W → Calls Tryz.prog 109 #[.pointer (some ⟨b, 0, none⟩), .string o, .slice h.B kids.len h.cap] W (Wrote b cs (o.data.toList ++ t) W)) (hl : cs.length + (o.data.toList ++ t ++ [41]).length ≤ 100000000000) :
    Calls Tryz.prog 57 #[.pointer (some ⟨b, 0, none⟩), datA h kids.len] W (Wrote b cs (o.data.toList ++ t ++ [41]) W) := by
  obtain ⟨W0, hW0, hb0, hO, hs0⟩ := dat_block W h kids.len
  have hbw := hr.2
  have A1 := Lib.hid (hr.below hb0)
  have A2 := Lib.hid (hb0.mono (Nat.le_of_lt hbw))
  have A3 := Lib.hid (keeps8_below (B := b + 1) hb0)
  have HI := Lib.hid (hI W0 (hb.trans (hb0.mono (Nat.le_of_lt hbw))) (hr.below hb0))
  have HW0 := Lib.hid hW0
  have HL := Lib.hid hl
  clear hW0 hb0 hO hI hb hr hl hs0
  rcases ho with ⟨hk, rfl⟩ | ⟨hk, rfl⟩
  all_goals
    have f0 : (h.k == 0) = false := by rw [hk]; rfl
    have f1 : (h.k == 1) = false := by rw [hk]; rfl
    have f2 : (h.k == 2) = false := by rw [hk]; rfl
    have f3 : (h.k == 3) = false := by rw [hk]; rfl
    have f4 : (h.k == 4) = false := by rw [hk]; rfl
    have f5 : (h.k == 5) = decide (h.k = 5) := by rw [hk]; rfl
    have f6 : (h.k == 6) = false := by rw [hk]; rfl
    have f7 : (h.k == 7) = decide (h.k = 7) := by rw [hk]; rfl
  · have g5 : decide (h.k = 5) = true := decide_eq_true hk
    rw [g5] at f5
    clear hk g5 f7
    go_enter Tryz.func57, Tryz.ntmps57
    go_wp2_with (fail)
    rw [HW0.out]
    refine HI.out.mono ?_
    rintro e w1 ⟨⟨v, rfl⟩, h1, h2, h3⟩
    have H2 := Lib.hid (wrstr_any b _ ⟨#[41]⟩ w1 h1 (by have := HL.out; simp only [List.length_append] at this ⊢; show _ + 1 ≤ _; omega))
    have B2 := Lib.hid (A2.out.trans h2)
    have B3 := Lib.hid (A3.out.trans h3)
    clear h1 h2 h3
    go_wp2_with (fail)
    refine H2.out.mono ?_
    rintro e w2 ⟨⟨v2, rfl⟩, h1, h2, h3⟩
    have C1 := Lib.hid h1
    have C2 := Lib.hid (B2.out.trans h2)
    have C3 := Lib.hid (B3.out.trans h3)
    clear h1 h2 h3
    go_wp2_with (fail)
    go_end0
    exact ⟨⟨_, rfl⟩, by have := C1.out; rw [List.append_assoc] at this; exact this, C2.out, C3.out⟩
  · have g5 : decide (h.k = 5) = false := decide_eq_false (by omega)
    have g7 : decide (h.k = 7) = true := decide_eq_true hk
    rw [g5] at f5
    rw [g7] at f7
    clear hk g5 g7
    go_enter Tryz.func57, Tryz.ntmps57
    go_wp2_with (fail)
    rw [HW0.out]
    refine HI.out.mono ?_
    rintro e w1 ⟨⟨v, rfl⟩, h1, h2, h3⟩
    have H2 := Lib.hid (wrstr_any b _ ⟨#[41]⟩ w1 h1 (by have := HL.out; simp only [List.length_append] at this ⊢; show _ + 1 ≤ _; omega))
    have B2 := Lib.hid (A2.out.trans h2)
    have B3 := Lib.hid (A3.out.trans h3)
    clear h1 h2 h3
    go_wp2_with (fail)
    refine H2.out.mono ?_
    rintro e w2 ⟨⟨v2, rfl⟩, h1, h2, h3⟩
    have C1 := Lib.hid h1
    have C2 := Lib.hid (B2.out.trans h2)
    have C3 := Lib.hid (B3.out.trans h3)
    clear h1 h2 h3
    go_wp2_with (fail)
    go_end0
    exact ⟨⟨_, rfl⟩, by have := C1.out; rw [List.append_assoc] at this; exact this, C2.out, C3.out⟩

set_option maxRecDepth 100000 in
set_option maxHeartbeats 8000000 in
/-- a list with a tail -/
theorem dwrite_dot (b : Nat) (w0 : World) (h : Hd) (kids : Fr) (t : List UInt8) (bb off : Nat) (hk : h.k = 6) (hB : h.B = some ⟨bb, off, none⟩) (hn2 : 2 ≤ kids.len) (hcap : kids.len ≤ h.cap) (hcap2 : h.cap ≤ 9223372036854775807) (hh : Hd) (k : Fr) (hC : ∀ W, Below b w0 W → C8 W bb (off + (kids.len - 1) * 8) hh k.len)
    (tl : List UInt8) (W : World) (cs : List UInt8) (hb : Below b w0 W) (hr : WR b cs W)
    (hI : ∀ W, Below b w0 W → WR b cs W → Calls Tryz.prog 109 #[.pointer (some ⟨b, 0, none⟩), .string ⟨#[40]⟩, .slice (some ⟨bb, off, none⟩) ((kids.len - 1 : Nat) : Nat) h.cap] W (Wrote b cs ([40] ++ t) W))
    (hw : WriteC b w0 hh k.len tl) (hl : cs.length + ([40] ++ (t ++ [32, 46, 32] ++ tl) ++ [41]).length ≤ 100000000000) :
    Calls Tryz.prog 57 #[.pointer (some ⟨b, 0, none⟩), datA h kids.len] W (Wrote b cs ([40] ++ (t ++ [32, 46, 32] ++ tl) ++ [41]) W) := by
  obtain ⟨W0, hW0, hb0, hO, hs0⟩ := dat_block W h kids.len
  have hbw := hr.2
  have A0 := Lib.hid (hb.trans (hb0.mono (Nat.le_of_lt hbw)))
  have A1 := Lib.hid (hr.below hb0)
  have A2 := Lib.hid (hb0.mono (Nat.le_of_lt hbw))
  have A3 := Lib.hid (keeps8_below (B := b + 1) hb0)
  have HI := Lib.hid (hI W0 (hb.trans (hb0.mono (Nat.le_of_lt hbw))) (hr.below hb0))
  have HC := Lib.hid hC
  have HW := Lib.hid hw
  have HO := Lib.hid hO
  have HW0 := Lib.hid hW0
  have HL := Lib.hid hl
  have HBW := Lib.hid hbw
  have f0 : (h.k == 0) = false := by rw [hk]; rfl
  have f1 : (h.k == 1) = false := by rw [hk]; rfl
  have f2 : (h.k == 2) = false := by rw [hk]; rfl
  have f3 : (h.k == 3) = false := by rw [hk]; rfl
  have f4 : (h.k == 4) = false := by rw [hk]; rfl
  have f5 : (h.k == 5) = false := by rw [hk]; rfl
  have f6 : (h.k == 6) = true := by rw [hk]; rfl
  have w1 : IntKind.i64.wrap ((kids.len : Int) - 1) = ((kids.len - 1 : Nat) : Int) := by rw [IntKind.wrap_i64]; omega
  obtain ⟨q, hq⟩ : ∃ q, kids.len - 1 = q := ⟨_, rfl⟩
  rw [hq] at w1 HI HC
  have hqn : q < kids.len := by omega
  have hqc : q ≤ h.cap := by omega
  obtain ⟨k0, n0, fl0, ff0, s0, AA0, xs0, c0, t0, B0, cap0⟩ := h
  dsimp only at hB hcap hcap2 hqc HI HO HW0 f0 f1 f2 f3 f4 f5 f6 ⊢
  subst hB
  obtain ⟨u0, u1, u2, u3, u4, u5, u6, u7⟩ := C8.of_block HO.out
  clear hW0 hb0 hO hI hb hr hl hs0 hC hw hk hbw hq hn2
  go_enter Tryz.func57, Tryz.ntmps57
  go_wp2_with (fail)
  rw [HW0.out]
  go_wp2_with (fail)
  refine HI.out.mono ?_
  rintro e w1 ⟨⟨v, rfl⟩, h1, h2, h3⟩
  have H2 := Lib.hid (wrstr_any b _ ⟨#[32, 46, 32]⟩ w1 h1 (by have := HL.out; simp only [List.length_append] at this ⊢; have t3 : ([32, 46, 32] : List UInt8).length = 3 := rfl; show _ + 3 ≤ _; omega))
  have B0 := Lib.hid (A0.out.trans h2)
  have B2 := Lib.hid (A2.out.trans h2)
  have B3 := Lib.hid (A3.out.trans h3)
  have BO := Lib.hid (h3.same W.heap.size _ (by have := HBW.out; omega) HO.out rfl)
  clear h1 h2 h3 u0 u1 u2 u3 u4 u5 u6 u7
  go_wp2_with (fail)
  refine H2.out.mono ?_
  rintro e w2 ⟨⟨v2, rfl⟩, h1, h2, h3⟩
  have C0 := Lib.hid (B0.out.trans h2)
  have C1 := Lib.hid h1
  have C2 := Lib.hid (B2.out.trans h2)
  have C3 := Lib.hid (B3.out.trans h3)
  have H3 := Lib.hid (HW.out w2 _ C0.out h1 (by have := HL.out; simp only [List.length_append] at this ⊢; have t3 : ([32, 46, 32] : List UInt8).length = 3 := rfl; omega))
  have hbo := h3.same W.heap.size _ (by have := HBW.out; omega) BO.out rfl
  obtain ⟨u0, u1, u2, u3, u4, u5, u6, u7⟩ := C8.of_block hbo
  obtain ⟨x0, x1, x2, x3, x4, x5, x6, x7⟩ := HC.out w2 C0.out
  clear h1 h2 h3 hbo
  go_wp2_with (fail)
  refine H3.out.mono ?_
  rintro e w3 ⟨⟨v3, rfl⟩, h1, h2, h3⟩
  have H4 := Lib.hid (wrstr_any b _ ⟨#[41]⟩ w3 h1 (by have := HL.out; simp only [List.length_append] at this ⊢; have t3 : ([32, 46, 32] : List UInt8).length = 3 := rfl; show _ + 1 ≤ _; omega))
  have D2 := Lib.hid (C2.out.trans h2)
  have D3 := Lib.hid (C3.out.trans h3)
  clear h1 h2 h3 u0 u1 u2 u3 u4 u5 u6 u7 x0 x1 x2 x3 x4 x5 x6 x7
  go_wp2_with (fail)
  refine H4.out.mono ?_
  rintro e w4 ⟨⟨v4, rfl⟩, h1, h2, h3⟩
  have E1 := Lib.hid h1
  have E2 := Lib.hid (D2.out.trans h2)
  have E3 := Lib.hid (D3.out.trans h3)
  clear h1 h2 h3
  go_wp2_with (fail)
  go_end0
  exact ⟨⟨_, rfl⟩, by have := E1.out; simp only [List.append_assoc] at this ⊢; exact this, E2.out, E3.out⟩

end LM
end Go.Proofs.YtdhjbhcfkajfdaaGreatDoor

namespace Go.Proofs.YtdhjbhcfkajfdaaGreatDoor
open Go Go.RowKit
namespace LM
set_option linter.unusedVariables false

end LM
end Go.Proofs.YtdhjbhcfkajfdaaGreatDoor
