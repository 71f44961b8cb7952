/- The laws' guard of layer 5: isn't a datum too great to be looked at. -/
import Derived.Test.YtnpmfailpgbggaaGreatDoorK34
import Derived.Test.YtnpmfailpgbggaaGreatDoorK41
import Derived.Test.YtnpmfailpgbggaaGreatDoorK21
import Derived.Lib.SliceRun
import Derived.Deep.RegionHeld3
import Derived.Maps.AppendAt
import Derived.Deep.Strs
namespace Go.Proofs.YtnpmfailpgbggaaGreatDoor
open Go Go.RowKit
namespace LM
set_option linter.unusedVariables false
attribute [local go_sem] run_store_flt

/-- a code point that is no surrogate -/
def csignB (n : Int) : Bool := decide (0 ≤ n ∧ n < 55296) || decide (57343 < n ∧ n ≤ 1114111)

theorem csign_valid (n : Int) (h0 : 0 ≤ n) (h1 : n ≤ 1114111) : Lib.validRune n = csignB n := by
  unfold Lib.validRune csignB
  rw [Bool.eq_iff_iff]
  simp only [Bool.or_eq_true, decide_eq_true_eq]

set_option maxRecDepth 100000 in
set_option maxHeartbeats 2000000 in
theorem dsign_any (n : Int) (h1 : -9223372036854775808 ≤ n) (h2 : n ≤ 9223372036854775807) (w : World) :
    Calls Tryz.prog 50 #[.int .i64 n] w fun e w' => e = .returned (.bool (csignB n)) ∧ w' = w := by
  by_cases hn : 0 ≤ n ∧ n ≤ 1114111
  · have V1 := Lib.hid fun W => Tryz.utf8_ValidRune n W
    have w1 : IntKind.i32.wrap n = n := by rw [IntKind.wrap_i32]; omega
    rw [← csign_valid n hn.1 hn.2]
    go_enter Tryz.func50, Tryz.ntmps50
    go_wp2_with (fail)
    refine (V1.out _).mono ?_
    rintro e w1 ⟨rfl, rfl⟩
    go_wp2_with (fail)
    go_ret
    exact ⟨rfl, rfl⟩
  · have hf : csignB n = false := by
      unfold csignB
      rw [Bool.or_eq_false_iff, decide_eq_false_iff_not, decide_eq_false_iff_not]
      omega
    rw [hf]
    clear hf
    go_enter Tryz.func50, Tryz.ntmps50
    go_wp2_with (fail)
    all_goals
      go_ret
      exact ⟨rfl, rfl⟩

set_option maxRecDepth 100000 in
set_option maxHeartbeats 2000000 in
theorem dclone_any (s : ByteArray) (w : World) (hs : s.size ≤ 281474976710656) :
    Calls Tryz.prog 37 #[.string s] w fun e w' => e = .returned (.string s) ∧ Below w.heap.size w w' := by
  have H1 := Lib.hid (Tryz.stringslite_Clone s w hs)
  go_enter Tryz.func37, Tryz.ntmps37
  go_wp2_with (fail)
  refine H1.out.mono ?_
  rintro e w1 ⟨rfl, hb⟩
  go_wp2_with (fail)
  go_ret
  exact ⟨rfl, hb⟩

set_option maxRecDepth 100000 in
set_option maxHeartbeats 2000000 in
theorem dtail_any (h : Hd) (n : Nat) (w : World) :
    Calls Tryz.prog 86 #[datA h n] w fun e w' => e = .returned (.bool (h.k != 5 && h.k != 6)) ∧ Below w.heap.size w w' := by
  obtain ⟨W0, hW0, hb0, ho, hs0⟩ := dat_block w h n
  obtain ⟨x0, x1, x2, x3, x4, x5, x6, x7⟩ := C8.of_block ho
  have HW0 := Lib.hid hW0
  have HB0 := Lib.hid hb0
  clear hW0 hb0 ho x1 x2 x3 x4 x5 x6 x7
  go_enter Tryz.func86, Tryz.ntmps86
  go_wp2_with (fail)
  all_goals
    try rw [HW0.out]
    go_wp2_with (fail)
    all_goals
      go_ret
      first | exact ⟨by simp [*], HB0.out⟩ | exact ⟨by simp [*], (Below.refl _ w).alloc (Nat.le_refl _) _⟩

/-- what Items a kind can have: the last one's kind -/
def areB (k : Int) (n : Nat) (kl : Int) : Bool := decide (k = 5) || (decide (k = 6) && decide (2 ≤ n) && (kl != 5 && kl != 6)) || (decide (k = 7) && decide (n ≤ 200))

set_option maxRecDepth 100000 in
set_option maxHeartbeats 4000000 in
theorem dareitems_any (k : Int) (B : Option Addr) (n cap : Nat) (hn : n ≤ 9223372036854775807) (b off : Nat) (h : Hd) (m : Nat) (w : World) (hB : 0 < n → B = some ⟨b, off, none⟩) (hc : 0 < n → C8 w b (off + (n - 1) * 8) h m) :
    Calls Tryz.prog 54 #[.int .i64 k, .slice B n cap] w fun e w' => e = .returned (.bool (areB k n h.k)) ∧ Below w.heap.size w w' := by
  have HT := Lib.hid (dtail_any h m w)
  have HB0 := Lib.hid (Below.refl w.heap.size w)
  by_cases h6 : k = 6 ∧ 2 ≤ n
  · obtain ⟨rfl, h2⟩ := h6
    obtain rfl := hB (by omega)
    obtain ⟨x0, x1, x2, x3, x4, x5, x6, x7⟩ := hc (by omega)
    have d1 : decide (2 ≤ (n : Int)) = true := decide_eq_true (by omega)
    have w1 : IntKind.i64.wrap ((n : Int) - 1) = ((n - 1 : Nat) : Int) := by rw [IntKind.wrap_i64]; omega
    have d2 : decide (((n - 1 : Nat) : Int) < n) = true := decide_eq_true (by omega)
    have d3 : decide (2 ≤ n) = true := decide_eq_true h2
    have hnm : n - 1 < n := by omega
    obtain ⟨q, hq⟩ : ∃ q, n - 1 = q := ⟨_, rfl⟩
    rw [hq] at w1 x0 x1 x2 x3 x4 x5 x6 x7 d2 hnm
    have HR : Hid (areB 6 n h.k = (h.k != 5 && h.k != 6)) := Lib.hid (by unfold areB; rw [d3]; simp)
    clear hB hc hq
    go_enter Tryz.func54, Tryz.ntmps54
    go_wp2_with (go_at_call 86; refine HT.out.mono ?_; rintro e w1 ⟨rfl, hb1⟩; have HB1 := Lib.hid hb1; clear hb1)
    go_ret
    exact ⟨by rw [HR.out]; rfl, HB1.out⟩
  · have h6' : ¬ (k = 6 ∧ 2 ≤ n) := h6
    clear HT hc hB
    rcases kinds k with rfl | rfl | rfl | rfl | rfl | rfl | rfl | rfl | ⟨k0, k1, k2, k3, k4, k5, k6, k7⟩
    rotate_right
    · have HE : Hid (areB k n h.k = false) := Lib.hid (by
        rw [beq_eq_false_iff_ne] at k5 k6 k7
        unfold areB
        rw [decide_eq_false k5, decide_eq_false k6, decide_eq_false k7]
        simp)
      go_enter Tryz.func54, Tryz.ntmps54
      go_wp2_with (fail)
      go_ret
      exact ⟨by rw [HE.out]; rfl, HB0.out⟩
    rotate_right 2
    · have hn2 : decide (2 ≤ (n : Int)) = false := decide_eq_false (by omega)
      have hn3 : decide (2 ≤ n) = false := decide_eq_false (by omega)
      go_enter Tryz.func54, Tryz.ntmps54
      go_wp2_with (fail)
      all_goals
        go_ret
        exact ⟨by simp [areB, *], HB0.out⟩
    all_goals
      go_enter Tryz.func54, Tryz.ntmps54
      go_wp2_with (fail)
      all_goals
        go_ret
        have h200 : ((n : Int) ≤ 200 ↔ n ≤ 200) := by omega
        exact ⟨by simp [areB, *], HB0.out⟩
end LM
end Go.Proofs.YtnpmfailpgbggaaGreatDoor

namespace Go.Proofs.YtnpmfailpgbggaaGreatDoor
open Go Go.RowKit
namespace LM
set_option linter.unusedVariables false
attribute [local go_sem] run_store_flt

theorem callB_keep {w w' : World} {f : FuncId} {args : Array Value} {r : Value} (h : CallB w f args r) (hb : Below w.heap.size w w') : CallB w' f args r := fun W hW => h W (bel_trans (B := w.heap.size) hb hW)
/-- the library's tables of UTF-8 lie there -/
def UT (w : World) : Prop := ∀ W, Below w.heap.size w W → Lib.Utf8Tabs 0 1 W
theorem UT.keep {w w' : World} (h : UT w) (hb : Below w.heap.size w w') : UT w' := fun W hW => h W (bel_trans (B := w.heap.size) hb hW)

/-- the last one's kind -/
def lastK : Fr → Int
  | .nil => 0
  | .cons h _ .nil => h.k
  | .cons _ _ (.cons h k r) => lastK (.cons h k r)
theorem last_item : ∀ (fr : Fr), 0 < fr.len → ∃ hh k, fr.drop (fr.len - 1) = .cons hh k .nil ∧ hh.k = lastK fr := by
  intro fr
  induction fr with
  | nil => intro h; exact absurd h (by show ¬ 0 < 0; omega)
  | cons h k r _ ih =>
    intro _
    cases r with
    | nil => exact ⟨h, k, rfl, rfl⟩
    | cons h2 k2 r2 =>
      obtain ⟨hh, kk, e1, e2⟩ := ih (by show 0 < r2.len + 1; omega)
      refine ⟨hh, kk, ?_, e2⟩
      have e3 : (Fr.cons h2 k2 r2).len = r2.len + 1 := rfl
      rw [e3] at e1
      have e4 : (Fr.cons h k (Fr.cons h2 k2 r2)).len - 1 = (r2.len + 1 - 1) + 1 := by
        show r2.len + 1 + 1 - 1 = _
        omega
      rw [e4]
      exact e1
/-- a text that can be one's -/
def textB (t : ByteArray) : Bool := Lib.validD t.data.toList && decide (Lib.runeCount t ≤ 400)
/-- can a datum be, as its kind says; sub: can its Items be -/
def rightK (nm : ByteArray → Bool) (d : Int) (h : Hd) (kids : Fr) (sub : Bool) : Bool :=
  elseB h.k (h.n == 0) (nothB h.fl h.f h.s h.xs) (h.t.toList == []) (((kids.len : Nat) : Int) == 0) &&
    (if h.k = 0 then rightN h.fl h.f h.s h.xs else if h.k = 1 then (h.n == 0 || h.n == 1) else if h.k = 2 then csignB h.n else if h.k = 3 then textB h.t else if h.k = 4 then nm h.t else
      (decide (0 < d) && areB h.k kids.len (lastK kids) && sub))
def rightF (nm : ByteArray → Bool) : Int → Fr → Bool
  | _, .nil => true
  | d, .cons h kids rest => rightK nm d h kids (rightF nm (d - 1) kids) && rightF nm d rest
/-- the symbols' texts -/
def SymIn (t : ByteArray) : Fr → Prop
  | .nil => False
  | .cons h kids rest => (h.k = 4 ∧ t = h.t) ∨ SymIn t kids ∨ SymIn t rest
theorem SymIn.drop {t : ByteArray} : ∀ (j : Nat) {fr : Fr}, SymIn t (fr.drop j) → SymIn t fr := by
  intro j
  induction j with
  | zero => intro fr h; exact h
  | succ j ih =>
    intro fr h
    cases fr with
    | nil => exact h
    | cons hh k r => exact .inr (.inr (ih h))

set_option maxRecDepth 100000 in
set_option maxHeartbeats 4000000 in
/-- the first that can't be -/
theorem dindex_any (nm : ByteArray → Bool) (d : Int) (g : Nat) (kids : Fr) (B : Option Addr) (cap b off : Nat) (w : World) (hB : 0 < kids.len → B = some ⟨b, off, none⟩) (hF : FAt w b off kids) (hc1 : kids.len ≤ cap) (hc2 : cap ≤ 9223372036854775807)
    (hcl : ∀ hh k j r, kids.drop j = .cons hh k r → ∀ W, Below w.heap.size w W → DatV W hh k → Calls Tryz.prog 56 #[datA hh k.len, .pointer (some ⟨g, 0, none⟩)] W fun e w' => e = .returned (.bool (!rightK nm d hh k (rightF nm (d - 1) k))) ∧ Below W.heap.size W w') :
    Calls Tryz.prog 87 #[.slice B kids.len cap, .func (.func 56) #[] #[.pointer (some ⟨g, 0, none⟩)]] w fun e w' => (∃ z : Int, e = .returned (.int .i64 z) ∧ decide (0 ≤ z) = !rightF nm d kids) ∧ Below w.heap.size w w' := by
  rcases Nat.eq_zero_or_pos kids.len with h0 | hpos
  · have hk0 : kids = .nil := by
      cases kids with
      | nil => rfl
      | cons x y z => have h3 : z.len + 1 = 0 := h0; omega
    subst hk0
    show Calls Tryz.prog 87 #[.slice B 0 cap, .func (.func 56) #[] #[.pointer (some ⟨g, 0, none⟩)]] w fun e w' => (∃ z : Int, e = .returned (.int .i64 z) ∧ decide (0 ≤ z) = false) ∧ Below w.heap.size w w'
    clear hcl hF hB hc1
    go_enter Tryz.func87, Tryz.ntmps87
    go_wp2_with (fail)
    go_loopg [8] 0 (fun kk i wr => wr = w ∧ i = .int .i64 0)
    case atStart => exact ⟨rfl, rfl⟩
    case round =>
      obtain ⟨rfl, rfl⟩ := hrel
      go_wp2_with (fail)
      go_ret
      exact ⟨⟨-1, rfl, rfl⟩, Below.refl _ _⟩
  obtain rfl := hB hpos
  clear hB
  have HF := Lib.hid hF
  have HCL := Lib.hid hcl
  clear hF hcl
  go_enter Tryz.func87, Tryz.ntmps87
  go_wp2_with (fail)
  go_loopg [8] kids.len (fun kk i wr => Below w.heap.size w wr ∧ ∃ j : Nat, j ≤ kids.len ∧ kk = kids.len - j ∧ i = .int .i64 (j : Int) ∧ rightF nm d (kids.drop j) = rightF nm d kids)
  case atStart => exact ⟨Below.refl _ _, 0, Nat.zero_le _, rfl, rfl, rfl⟩
  case round =>
    obtain ⟨hbr, j, hj, rfl, rfl, hrf⟩ := hrel
    have HBR := Lib.hid hbr
    clear hbr
    by_cases hjl : j < kids.len
    · obtain ⟨hh, k, r, hdr, hdr1⟩ := Fr.cons_of_lt hjl
      rw [hdr] at hrf
      obtain ⟨hbl, ⟨x0, x1, x2, x3, x4, x5, x6, x7⟩, D⟩ := counted_item (FAt.below HBR.out _ _ _ HF.out) hdr
      have CL := Lib.hid (HCL.out hh k j r hdr wr HBR.out D)
      have hrf2 : (rightK nm d hh k (rightF nm (d - 1) k) && rightF nm d r) = rightF nm d kids := hrf
      obtain ⟨q, hq⟩ : ∃ q, rightK nm d hh k (rightF nm (d - 1) k) = q := ⟨_, rfl⟩
      rw [hq] at CL hrf2
      have HRF := Lib.hid hrf2
      have HDR := Lib.hid hdr1
      clear hrf hdr hdr1 D hrf2 hq
      go_wp2_with (fail)
      refine CL.out.mono ?_
      rintro e w2 ⟨rfl, hb2⟩
      have HB2 := Lib.hid (bel_trans (B := w.heap.size) HBR.out hb2)
      clear hb2
      cases q
      · go_wp2_with (fail)
        go_ret
        exact ⟨⟨j, rfl, by rw [← HRF.out]; simp⟩, HB2.out⟩
      · go_wp2_with (fail)
        go_roundg (kids.len - (j + 1))
        case measure => omega
        case rel => exact ⟨HB2.out, j + 1, by omega, rfl, by go_num, by rw [HDR.out]; exact HRF.out⟩
    · have hje : j = kids.len := by omega
      subst hje
      have hnil : kids.drop kids.len = .nil := by
        have h1 := Fr.len_drop kids.len kids
        cases h2 : kids.drop kids.len with
        | nil => rfl
        | cons x y z => rw [h2] at h1; have h3 : z.len + 1 = kids.len - kids.len := h1; omega
      rw [hnil] at hrf
      have HR : Hid (true = rightF nm d kids) := Lib.hid hrf
      clear hrf hnil
      go_wp2_with (fail)
      go_ret
      exact ⟨⟨-1, rfl, by rw [← HR.out]; rfl⟩, HBR.out⟩

end LM
end Go.Proofs.YtnpmfailpgbggaaGreatDoor

namespace Go.Proofs.YtnpmfailpgbggaaGreatDoor
open Go Go.RowKit
namespace LM
set_option linter.unusedVariables false
attribute [local go_sem] run_store_flt

theorem below_iterD (W : World) (s : ByteArray) (pos : Nat) : Below W.heap.size W (W.iter s pos) := by
  unfold World.iter
  exact (Below.refl _ W).alloc (Nat.le_refl _) _

set_option maxRecDepth 100000 in
set_option maxHeartbeats 4000000 in
theorem dcontains_any (nm : ByteArray → Bool) (d : Int) (g : Nat) (kids : Fr) (B : Option Addr) (cap b off : Nat) (w : World) (hB : 0 < kids.len → B = some ⟨b, off, none⟩) (hF : FAt w b off kids) (hc1 : kids.len ≤ cap) (hc2 : cap ≤ 9223372036854775807)
    (hcl : ∀ hh k j r, kids.drop j = .cons hh k r → ∀ W, Below w.heap.size w W → DatV W hh k → Calls Tryz.prog 56 #[datA hh k.len, .pointer (some ⟨g, 0, none⟩)] W fun e w' => e = .returned (.bool (!rightK nm d hh k (rightF nm (d - 1) k))) ∧ Below W.heap.size W w') :
    Calls Tryz.prog 55 #[.slice B kids.len cap, .func (.func 56) #[] #[.pointer (some ⟨g, 0, none⟩)]] w fun e w' => e = .returned (.bool (!rightF nm d kids)) ∧ Below w.heap.size w w' := by
  have H1 := Lib.hid (dindex_any nm d g kids B cap b off w hB hF hc1 hc2 hcl)
  clear hB hF hcl
  go_enter Tryz.func55, Tryz.ntmps55
  go_wp2_with (fail)
  refine H1.out.mono ?_
  rintro e w1 ⟨⟨z, rfl, hz⟩, hb1⟩
  have HB1 := Lib.hid hb1
  have HZ := Lib.hid hz
  clear hb1 hz
  go_wp2_with (fail)
  go_ret
  exact ⟨by rw [← HZ.out]; rfl, HB1.out⟩

set_option maxRecDepth 100000 in
set_option maxHeartbeats 4000000 in
theorem dclosure_any (hh : Hd) (k : Fr) (depth : Int) (hd1 : 0 ≤ depth) (hd2 : depth ≤ 60) (g : Nat) (q : Bool) (w : World) (hg : g < w.heap.size) (hcell : w.cell? ⟨g, 0, none⟩ = some (.int .i64 depth))
    (hR : ∀ W, Below w.heap.size w W → Calls Tryz.prog 29 #[datA hh k.len, .int .i64 (depth - 1)] W fun e w' => e = .returned (.bool q) ∧ Below W.heap.size W w') :
    Calls Tryz.prog 56 #[datA hh k.len, .pointer (some ⟨g, 0, none⟩)] w fun e w' => e = .returned (.bool (!q)) ∧ Below w.heap.size w w' := by
  obtain ⟨W0, hW0, hb0, ho, hs0⟩ := dat_block w hh k.len
  have x0 : (w.alloc (datO hh k.len)).cell? ⟨g, 0, none⟩ = some (.int .i64 depth) := by rw [hW0]; exact (hb0.cell (p := ⟨g, 0, none⟩) hg).trans hcell
  have HO := Lib.hid ho
  have HW0 := Lib.hid hW0
  have HB0 := Lib.hid hb0
  have HR := Lib.hid (hR W0 hb0)
  have w1 : IntKind.i64.wrap (depth - 1) = depth - 1 := by rw [IntKind.wrap_i64]; omega
  obtain ⟨y0, y1, y2, y3, y4, y5, y6, y7⟩ := C8.of_block ho
  clear hW0 hb0 ho hR hcell
  go_enter Tryz.func56, Tryz.ntmps56
  go_wp2_with (fail)
  rw [HW0.out]
  refine HR.out.mono ?_
  rintro e w1 ⟨rfl, hb1⟩
  have HB1 := Lib.hid (bel_trans (B := w.heap.size) HB0.out hb1)
  clear hb1
  go_wp2_with (fail)
  go_ret
  exact ⟨rfl, HB1.out⟩

set_option maxRecDepth 100000 in
set_option maxHeartbeats 16000000 in
theorem dright_go (nm : ByteArray → Bool) (h : Hd) (kids : Fr) (depth : Int) (hd1 : 0 ≤ depth) (hd2 : depth ≤ 60) (sub : Bool) (w : World) (hD : DatV w h kids) (hok : h.Ok kids.len) (hu : UT w) (hnm : h.k = 4 → CallB w 53 #[.string h.t] (.bool (nm h.t)))
    (hsub : 0 < depth → ∀ g W, Below w.heap.size w W → g < W.heap.size → W.cell? ⟨g, 0, none⟩ = some (.int .i64 depth) →
      Calls Tryz.prog 55 #[.slice h.B kids.len h.cap, .func (.func 56) #[] #[.pointer (some ⟨g, 0, none⟩)]] W fun e w' => e = .returned (.bool (!sub)) ∧ Below W.heap.size W w') :
    Calls Tryz.prog 29 #[datA h kids.len, .int .i64 depth] w fun e w' => e = .returned (.bool (rightK nm depth h kids sub)) ∧ Below w.heap.size w w' := by
  have hE : CallB w 48 #[datA h kids.len] (.bool (elseB h.k (h.n == 0) (nothB h.fl h.f h.s h.xs) (h.t.toList == []) (((kids.len : Nat) : Int) == 0))) := fun W hW =>
    delse_any h kids.len _ _ _ _ W rfl rfl rfl fun W2 h2 => by
      have := dnothing_any h.fl h.f h.s h.A h.xs.length h.c _ W2 fun W3 h3 => tright_any h.fl h.f hok.f h.s h.A h.c h.xs W3 (((hD.xs.below hW).below h2).below h3) hok.lm hok.l
      exact this
  obtain ⟨W0, hW0⟩ : ∃ W0, (w.alloc (datO h kids.len)).alloc (.cells #[.int .i64 depth] 3 (0, 0)) = W0 := ⟨_, rfl⟩
  have hb0 : Below w.heap.size w W0 := by rw [← hW0]; exact ((Below.refl _ w).alloc (Nat.le_refl _) _).alloc (by simp) _
  have hO : Obs W0 [(w.heap.size + 1, .cells #[.int .i64 depth] 3 (0, 0)), (w.heap.size, datO h kids.len)] := by
    rw [← hW0]
    have h1 := (Obs.nil.new (w := w) (datO h kids.len)).new (.cells #[.int .i64 depth] 3 (0, 0))
    simp only [World.size_alloc] at h1
    exact h1
  obtain ⟨q, hq⟩ : ∃ q, elseB h.k (h.n == 0) (nothB h.fl h.f h.s h.xs) (h.t.toList == []) (((kids.len : Nat) : Int) == 0) = q := ⟨_, rfl⟩
  rw [hq] at hE
  have HW0 := Lib.hid hW0
  have HB0 := Lib.hid hb0
  have O0 := Lib.hid hO
  have HE := Lib.hid (hE W0 hb0)
  have c0 := C8.of_block hO.tl.hd
  obtain ⟨x0, x1, x2, x3, x4, x5, x6, x7⟩ := c0
  have HQ : Hid (rightK nm depth h kids sub = (q && (if h.k = 0 then rightN h.fl h.f h.s h.xs else if h.k = 1 then (h.n == 0 || h.n == 1) else if h.k = 2 then csignB h.n else if h.k = 3 then textB h.t else if h.k = 4 then nm h.t else
      (decide (0 < depth) && areB h.k kids.len (lastK kids) && sub)))) := Lib.hid (by unfold rightK; rw [hq])
  clear hW0 hb0 hO hE hq
  cases q
  · go_enter Tryz.func29, Tryz.ntmps29
    go_wp2_with (fail)
    rw [HW0.out]
    refine HE.out.mono ?_
    rintro e w1 ⟨rfl, hb1⟩
    have HB1 := Lib.hid (bel_trans (B := w.heap.size) HB0.out hb1)
    clear hb1
    go_wp2_with (fail)
    go_ret
    exact ⟨by rw [HQ.out]; rfl, HB1.out⟩
  · rcases kinds h.k with hk | hk | hk | hk | hk | hk | hk | hk | ⟨k0, k1, k2, k3, k4, k5, k6, k7⟩
    · have HT := Lib.hid fun W (hW : Below w.heap.size w W) => tright_any h.fl h.f hok.f h.s h.A h.c h.xs W (hD.xs.below hW) hok.lm hok.l
      have HQ2 : Hid (rightK nm depth h kids sub = rightN h.fl h.f h.s h.xs) := Lib.hid (by rw [HQ.out, if_pos hk]; rfl)
      have HK := Lib.hid hk
      clear hD hok hu hnm hsub HQ hk
      go_enter Tryz.func29, Tryz.ntmps29
      go_wp2_with (fail)
      rw [HW0.out]
      refine HE.out.mono ?_
      rintro e w1 ⟨rfl, hb1⟩
      have HB1 := Lib.hid (bel_trans (B := w.heap.size) HB0.out hb1)
      obtain ⟨y0, y1, y2, y3, y4, y5, y6, y7⟩ := C8.of_block (O0.out.below hb1).tl.hd
      have z0 := ob_cell (O0.out.below hb1).hd 0
      rw [HK.out] at y0
      clear hb1
      go_wp2_with (fail)
      refine (HT.out _ HB1.out).mono ?_
      rintro e w2 ⟨rfl, hb2⟩
      have HB2 := Lib.hid (bel_trans (B := w.heap.size) HB1.out hb2)
      clear hb2
      go_wp2_with (fail)
      go_ret
      exact ⟨by rw [HQ2.out]; rfl, HB2.out⟩
    · have HQ2 : Hid (rightK nm depth h kids sub = (h.n == 0 || h.n == 1)) := Lib.hid (by rw [HQ.out, if_neg (by omega), if_pos hk]; rfl)
      have HK := Lib.hid hk
      clear hD hok hu hnm hsub HQ hk
      go_enter Tryz.func29, Tryz.ntmps29
      go_wp2_with (fail)
      rw [HW0.out]
      refine HE.out.mono ?_
      rintro e w1 ⟨rfl, hb1⟩
      have HB1 := Lib.hid (bel_trans (B := w.heap.size) HB0.out hb1)
      obtain ⟨y0, y1, y2, y3, y4, y5, y6, y7⟩ := C8.of_block (O0.out.below hb1).tl.hd
      have z0 := ob_cell (O0.out.below hb1).hd 0
      rw [HK.out] at y0
      clear hb1
      go_wp2_with (fail)
      all_goals
        go_ret
        exact ⟨by rw [HQ2.out]; simp [*], HB1.out⟩
    · have HT := Lib.hid fun W => dsign_any h.n hok.n.1 hok.n.2 W
      have HQ2 : Hid (rightK nm depth h kids sub = csignB h.n) := Lib.hid (by rw [HQ.out, if_neg (by omega), if_neg (by omega), if_pos hk]; rfl)
      have HK := Lib.hid hk
      clear hD hok hu hnm hsub HQ hk
      go_enter Tryz.func29, Tryz.ntmps29
      go_wp2_with (fail)
      rw [HW0.out]
      refine HE.out.mono ?_
      rintro e w1 ⟨rfl, hb1⟩
      have HB1 := Lib.hid (bel_trans (B := w.heap.size) HB0.out hb1)
      obtain ⟨y0, y1, y2, y3, y4, y5, y6, y7⟩ := C8.of_block (O0.out.below hb1).tl.hd
      have z0 := ob_cell (O0.out.below hb1).hd 0
      rw [HK.out] at y0
      clear hb1
      go_wp2_with (fail)
      refine (HT.out _).mono ?_
      rintro e w2 ⟨rfl, rfl⟩
      go_wp2_with (fail)
      go_ret
      exact ⟨by rw [HQ2.out]; rfl, HB1.out⟩
    · have HV := Lib.hid fun W (hW : Below w.heap.size w W) => Tryz.utf8_ValidString h.t W (by have := hok.t; omega) (hu W hW)
      have HC := Lib.hid fun W => Tryz.utf8_RuneCountInString h.t W (by have := hok.t; omega)
      have HQ2 : Hid (rightK nm depth h kids sub = (Lib.validD h.t.data.toList && decide (Lib.runeCount h.t ≤ 400))) := Lib.hid (by rw [HQ.out, if_neg (by omega), if_neg (by omega), if_neg (by omega), if_pos hk]; rfl)
      have HK := Lib.hid hk
      obtain ⟨rc, hrc⟩ : ∃ rc, Lib.runeCount h.t = rc := ⟨_, rfl⟩
      obtain ⟨vd, hvd⟩ : ∃ vd, Lib.validD h.t.data.toList = vd := ⟨_, rfl⟩
      rw [hrc] at HC HQ2
      rw [hvd] at HV HQ2
      clear hD hok hu hnm hsub HQ hk hrc hvd
      go_enter Tryz.func29, Tryz.ntmps29
      go_wp2_with (fail)
      rw [HW0.out]
      refine HE.out.mono ?_
      rintro e w1 ⟨rfl, hb1⟩
      have HB1 := Lib.hid (bel_trans (B := w.heap.size) HB0.out hb1)
      obtain ⟨y0, y1, y2, y3, y4, y5, y6, y7⟩ := C8.of_block (O0.out.below hb1).tl.hd
      have z0 := ob_cell (O0.out.below hb1).hd 0
      rw [HK.out] at y0
      have HX1 := Lib.hid hb1
      clear hb1
      go_wp2_with (fail)
      refine (HV.out _ HB1.out).mono ?_
      rintro e w2 ⟨rfl, hb2⟩
      have HB2 := Lib.hid (bel_trans (B := w.heap.size) HB1.out hb2)
      obtain ⟨v0, v1, v2, v3, v4, v5, v6, v7⟩ := C8.of_block (O0.out.below (bel_trans (B := W0.heap.size) HX1.out hb2)).tl.hd
      clear hb2 y0 y1 y2 y3 y4 y5 y6 y7 z0
      cases vd
      · go_wp2_with (fail)
        go_ret
        exact ⟨by rw [HQ2.out]; rfl, HB2.out⟩
      · go_wp2_with (fail)
        refine (HC.out _).mono ?_
        rintro e w3 ⟨rfl, pos, rfl⟩
        have HB3 := Lib.hid (bel_trans (B := w.heap.size) HB2.out (below_iterD w2 h.t pos))
        have h400 : ((rc : Int) ≤ 400 ↔ rc ≤ 400) := by omega
        have h401 : decide ((rc : Int) ≤ 400) = decide (rc ≤ 400) := decide_eq_decide.2 h400
        clear h400
        go_wp2_with (fail)
        go_ret
        exact ⟨by rw [HQ2.out]; first | rfl | simp [*], HB3.out⟩
    · have HT := Lib.hid (hnm hk)
      have HQ2 : Hid (rightK nm depth h kids sub = nm h.t) := Lib.hid (by rw [HQ.out, if_neg (by omega), if_neg (by omega), if_neg (by omega), if_neg (by omega), if_pos hk]; rfl)
      have HK := Lib.hid hk
      clear hD hok hu hnm hsub HQ hk
      go_enter Tryz.func29, Tryz.ntmps29
      go_wp2_with (fail)
      rw [HW0.out]
      refine HE.out.mono ?_
      rintro e w1 ⟨rfl, hb1⟩
      have HB1 := Lib.hid (bel_trans (B := w.heap.size) HB0.out hb1)
      obtain ⟨y0, y1, y2, y3, y4, y5, y6, y7⟩ := C8.of_block (O0.out.below hb1).tl.hd
      have z0 := ob_cell (O0.out.below hb1).hd 0
      rw [HK.out] at y0
      clear hb1
      go_wp2_with (fail)
      refine (HT.out _ HB1.out).mono ?_
      rintro e w2 ⟨rfl, hb2⟩
      have HB2 := Lib.hid (bel_trans (B := w.heap.size) HB1.out hb2)
      clear hb2
      go_wp2_with (fail)
      go_ret
      exact ⟨by rw [HQ2.out]; rfl, HB2.out⟩
    all_goals
      have f0 : (h.k == 0) = false := by first | exact k0 | (rw [hk]; rfl)
      have f1 : (h.k == 1) = false := by first | exact k1 | (rw [hk]; rfl)
      have f2 : (h.k == 2) = false := by first | exact k2 | (rw [hk]; rfl)
      have f3 : (h.k == 3) = false := by first | exact k3 | (rw [hk]; rfl)
      have f4 : (h.k == 4) = false := by first | exact k4 | (rw [hk]; rfl)
      have HQ2 : Hid (rightK nm depth h kids sub = (decide (0 < depth) && areB h.k kids.len (lastK kids) && sub)) := Lib.hid (by
        rw [beq_eq_false_iff_ne] at f0 f1 f2 f3 f4
        rw [HQ.out, if_neg f0, if_neg f1, if_neg f2, if_neg f3, if_neg f4]; rfl)
      try clear hk
      try clear k0 k1 k2 k3 k4 k5 k6 k7
      by_cases hd0 : 0 < depth
      · have HA : Hid (∀ W, Below w.heap.size w W → Calls Tryz.prog 54 #[.int .i64 h.k, .slice h.B kids.len h.cap] W fun e w' => e = .returned (.bool (areB h.k kids.len (lastK kids))) ∧ Below W.heap.size W w') := Lib.hid fun W hW => by
          obtain ⟨b, off, hB, hF⟩ := (hD.below hW).items
          rcases Nat.eq_zero_or_pos kids.len with h0 | hp
          · have := dareitems_any h.k h.B kids.len h.cap (by omega) b off ⟨lastK kids, 0, false, 0, false, none, [], 0, ⟨#[]⟩, none, 0⟩ 0 W (fun h => by omega) (fun h => by omega)
            exact this
          · obtain ⟨hh, k, e1, e2⟩ := last_item kids hp
            have := dareitems_any h.k h.B kids.len h.cap (by have := hok.cap; omega) b off hh k.len W hB (fun _ => (counted_item hF e1).2.1)
            rw [e2] at this
            exact this
        have HS := Lib.hid (hsub hd0)
        have hdt : decide (0 < depth) = true := decide_eq_true hd0
        obtain ⟨ab, hab⟩ : ∃ ab, areB h.k kids.len (lastK kids) = ab := ⟨_, rfl⟩
        rw [hab, hdt] at HQ2
        rw [hab] at HA
        clear hD hok hu hnm hsub HQ hab
        go_enter Tryz.func29, Tryz.ntmps29
        go_wp2_with (fail)
        rw [HW0.out]
        refine HE.out.mono ?_
        rintro e w1 ⟨rfl, hb1⟩
        have HB1 := Lib.hid (bel_trans (B := w.heap.size) HB0.out hb1)
        obtain ⟨y0, y1, y2, y3, y4, y5, y6, y7⟩ := C8.of_block (O0.out.below hb1).tl.hd
        have z0 := ob_cell (O0.out.below hb1).hd 0
        rw [show (#[Value.int .i64 depth] : Array Value)[0]? = some (.int .i64 depth) from rfl] at z0
        have HX1 := Lib.hid hb1
        clear hb1
        go_wp2_with (fail)
        refine (HA.out _ HB1.out).mono ?_
        rintro e w2 ⟨rfl, hb2⟩
        have HB2 := Lib.hid (bel_trans (B := w.heap.size) HB1.out hb2)
        have O2 := Lib.hid (O0.out.below (bel_trans (B := W0.heap.size) HX1.out hb2))
        have hlt : w.heap.size + 1 < w2.heap.size := by
          have h1 := (O0.out.below (bel_trans (B := W0.heap.size) HX1.out hb2)).hd
          rcases Nat.lt_or_ge (w.heap.size + 1) w2.heap.size with h2 | h2
          · exact h2
          · rw [Array.getElem?_eq_none h2] at h1; cases h1
        obtain ⟨v0, v1, v2, v3, v4, v5, v6, v7⟩ := C8.of_block (O0.out.below (bel_trans (B := W0.heap.size) HX1.out hb2)).tl.hd
        have u0 := ob_cell (O0.out.below (bel_trans (B := W0.heap.size) HX1.out hb2)).hd 0
        rw [show (#[Value.int .i64 depth] : Array Value)[0]? = some (.int .i64 depth) from rfl] at u0
        have HS2 := Lib.hid (HS.out _ _ HB2.out hlt u0)
        clear hb2 y0 y1 y2 y3 y4 y5 y6 y7 z0 u0
        cases ab
        · go_wp2_with (fail)
          go_ret
          exact ⟨by rw [HQ2.out]; rfl, HB2.out⟩
        · go_wp2_with (fail)
          refine HS2.out.mono ?_
          rintro e w3 ⟨rfl, hb3⟩
          have HB3 := Lib.hid (bel_trans (B := w.heap.size) HB2.out hb3)
          clear hb3
          go_wp2_with (fail)
          go_ret
          exact ⟨by rw [HQ2.out]; simp, HB3.out⟩
      · have hdf : decide (0 < depth) = false := decide_eq_false hd0
        rw [hdf] at HQ2
        clear hD hok hu hnm hsub HQ
        go_enter Tryz.func29, Tryz.ntmps29
        go_wp2_with (fail)
        rw [HW0.out]
        refine HE.out.mono ?_
        rintro e w1 ⟨rfl, hb1⟩
        have HB1 := Lib.hid (bel_trans (B := w.heap.size) HB0.out hb1)
        obtain ⟨y0, y1, y2, y3, y4, y5, y6, y7⟩ := C8.of_block (O0.out.below hb1).tl.hd
        have z0 := ob_cell (O0.out.below hb1).hd 0
        rw [show (#[Value.int .i64 depth] : Array Value)[0]? = some (.int .i64 depth) from rfl] at z0
        clear hb1
        go_wp2_with (fail)
        go_ret
        exact ⟨by rw [HQ2.out]; simp, HB1.out⟩

theorem dright_any (nm : ByteArray → Bool) : ∀ (m : Nat) (kids : Fr), kids.size < m → kids.Ok → ∀ (h : Hd) (depth : Int) (w : World), DatV w h kids → h.Ok kids.len → 0 ≤ depth → depth ≤ 60 → UT w → (∀ t, (h.k = 4 ∧ t = h.t) ∨ SymIn t kids → CallB w 53 #[.string t] (.bool (nm t))) →
    Calls Tryz.prog 29 #[datA h kids.len, .int .i64 depth] w fun e w' => e = .returned (.bool (rightK nm depth h kids (rightF nm (depth - 1) kids))) ∧ Below w.heap.size w w' := by
  intro m
  induction m with
  | zero => intro kids h; omega
  | succ m ih =>
    intro kids hsz hok h depth w hd hho h0 h60 hu hnm
    refine dright_go nm h kids depth h0 h60 (rightF nm (depth - 1) kids) w hd hho hu (fun hk => hnm _ (.inl ⟨hk, rfl⟩)) fun hpos g W hW hg hcell => ?_
    obtain ⟨b, off, hB, hF⟩ := (hd.below hW).items
    refine dcontains_any nm (depth - 1) g kids h.B h.cap b off W hB hF hho.cap.1 hho.cap.2 fun hh k j r hdr W2 hW2 hD2 => ?_
    have hko := Fr.Ok.drop j hok
    rw [hdr] at hko
    refine dclosure_any hh k depth h0 h60 g _ W2 (Nat.lt_of_lt_of_le hg hW2.size) ((hW2.cell (p := ⟨g, 0, none⟩) hg).trans hcell) fun W3 hW3 => ?_
    refine ih k (by have := size_item hdr; omega) hko.2.1 hh (depth - 1) W3 (hD2.below hW3) hko.1 (by omega) (by omega) ((hu.keep hW).keep (hW2.trans (hW3.mono hW2.size))) fun t ht => ?_
    refine callB_keep (hnm t (.inr ?_)) (bel_trans (B := w.heap.size) (bel_trans (B := w.heap.size) hW hW2) hW3)
    have h1 : SymIn t (kids.drop j) := by rw [hdr]; exact ht.elim .inl (fun h => .inr (.inl h))
    exact SymIn.drop j h1

/-- can a datum be -/
def rightD (nm : ByteArray → Bool) (h : Hd) (kids : Fr) : Bool := decide (cnt 3001 1 kids ≤ 3000) && rightK nm 60 h kids (rightF nm 59 kids)
set_option maxRecDepth 100000 in
set_option maxHeartbeats 4000000 in
theorem dRight_any (nm : ByteArray → Bool) (kids : Fr) (hok : kids.Ok) (h : Hd) (w : World) (hd : DatV w h kids) (hho : h.Ok kids.len) (hu : UT w) (hnm : ∀ t, (h.k = 4 ∧ t = h.t) ∨ SymIn t kids → CallB w 53 #[.string t] (.bool (nm t))) :
    Calls Tryz.prog 10 #[datA h kids.len] w fun e w' => e = .returned (.bool (rightD nm h kids)) ∧ Below w.heap.size w w' := by
  obtain ⟨W0, hW0, hb0, ho, hs0⟩ := dat_block w h kids.len
  have HC := Lib.hid (counted_any (kids.size + 1) kids (by omega) hok h 3001 W0 (hd.below hb0) hho.cap.1 hho.cap.2 (by decide) (by decide))
  have HR := Lib.hid fun W (hW : Below w.heap.size w W) => dright_any nm (kids.size + 1) kids (by omega) hok h 60 W (hd.below hW) hho (by decide) (by decide) (hu.keep hW) fun t ht => callB_keep (hnm t ht) hW
  have HO := Lib.hid ho
  have HW0 := Lib.hid hW0
  have HB0 := Lib.hid hb0
  have HS := Lib.hid hs0
  obtain ⟨c, hc⟩ : ∃ c, cnt 3001 1 kids = c := ⟨_, rfl⟩
  obtain ⟨r, hr⟩ : ∃ r, rightK nm 60 h kids (rightF nm (60 - 1) kids) = r := ⟨_, rfl⟩
  have HQ : Hid (rightD nm h kids = (decide (c ≤ 3000) && r)) := Lib.hid (by unfold rightD; rw [hc, ← hr]; rfl)
  rw [hc] at HC
  rw [hr] at HR
  obtain ⟨x0, x1, x2, x3, x4, x5, x6, x7⟩ := C8.of_block ho
  clear hW0 hb0 ho hd hho hu hnm hc hr hok hs0
  by_cases h3 : c ≤ 3000
  · have d1 : decide (c ≤ 3000) = true := decide_eq_true h3
    rw [d1] at HQ
    clear h3
    go_enter Tryz.func10, Tryz.ntmps10
    go_wp2_with (fail)
    rw [HW0.out]
    refine HC.out.mono ?_
    rintro e w1 ⟨rfl, hb1⟩
    have HB1 := Lib.hid (bel_trans (B := w.heap.size) HB0.out hb1)
    obtain ⟨y0, y1, y2, y3, y4, y5, y6, y7⟩ := (C8.of_block HO.out).keep hb1 HS.out
    simp only [Nat.zero_add] at y0 y1 y2 y3 y4 y5 y6 y7
    clear hb1
    go_wp2_with (fail)
    refine (HR.out _ HB1.out).mono ?_
    rintro e w2 ⟨rfl, hb2⟩
    have HB2 := Lib.hid (bel_trans (B := w.heap.size) HB1.out hb2)
    clear hb2
    go_wp2_with (fail)
    go_ret
    exact ⟨by rw [HQ.out]; rfl, HB2.out⟩
  · have d1 : decide (c ≤ 3000) = false := decide_eq_false h3
    rw [d1] at HQ
    clear h3
    go_enter Tryz.func10, Tryz.ntmps10
    go_wp2_with (fail)
    rw [HW0.out]
    refine HC.out.mono ?_
    rintro e w1 ⟨rfl, hb1⟩
    have HB1 := Lib.hid (bel_trans (B := w.heap.size) HB0.out hb1)
    clear hb1
    go_wp2_with (fail)
    go_ret
    exact ⟨by rw [HQ.out]; rfl, HB1.out⟩

end LM
end Go.Proofs.YtnpmfailpgbggaaGreatDoor

namespace Go.Proofs.YtnpmfailpgbggaaGreatDoor
open Go Go.RowKit
namespace LM
set_option linter.unusedVariables false
attribute [local go_sem] run_store_flt

/-- are two numbers that can be the same -/
def numS (h h' : Hd) : Bool := if h.fl then (if h'.fl then canW h.f == canW h'.f else false) else (if h'.fl then false else decide (sg h.s (val h.xs) = sg h'.s (val h'.xs)))
def headS (h h' : Hd) : Bool := (h.k == h'.k) && (h.n == h'.n) && (h.t.toList == h'.t.toList) && numS h h'
def sameF : Fr → Fr → Bool
  | .nil, .nil => true
  | .cons h k r, .cons h' k' r' => headS h h' && sameF k k' && sameF r r'
  | .nil, .cons _ _ _ => false
  | .cons _ _ _, .nil => false
/-- each number can be -/
def NumsR : Fr → Prop
  | .nil => True
  | .cons h k r => rightN h.fl h.f h.s h.xs = true ∧ NumsR k ∧ NumsR r
theorem NumsR.drop : ∀ (j : Nat) {fr : Fr}, NumsR fr → NumsR (fr.drop j) := by
  intro j
  induction j with
  | zero => intro fr h; exact h
  | succ j ih =>
    intro fr h
    cases fr with
    | nil => exact trivial
    | cons hh k r => exact ih h.2.2
theorem sameF_len : ∀ (a b : Fr), a.len ≠ b.len → sameF a b = false := by
  intro a
  induction a with
  | nil =>
    intro b h
    cases b with
    | nil => exact absurd rfl h
    | cons x y z => rfl
  | cons x y z _ ih =>
    intro b h
    cases b with
    | nil => rfl
    | cons x' y' z' =>
      show (headS x x' && sameF y y' && sameF z z') = false
      rw [ih z' (fun e => h (by show z.len + 1 = z'.len + 1; rw [e])), Bool.and_false]

theorem tsame_any {w : World} {h h' : Hd} (ha : NumOk w h.fl h.f h.s h.A h.xs.length h.c) (hb : NumOk w h'.fl h'.f h'.s h'.A h'.xs.length h'.c) (hx : rightN h.fl h.f h.s h.xs = true) (hx' : rightN h'.fl h'.f h'.s h'.xs = true) (rx : Rd w h.A h.xs) (rx' : Rd w h'.A h'.xs) (lx : Lm h.xs) (lx' : Lm h'.xs) (cx : h.xs.length ≤ h.c ∧ h.c ≤ 9223372036854775807) (cx' : h'.xs.length ≤ h'.c ∧ h'.c ≤ 9223372036854775807) :
    CallB w 60 #[numA h.fl h.f h.s h.A h.xs.length h.c, numA h'.fl h'.f h'.s h'.A h'.xs.length h'.c] (.bool (numS h h')) := by
  obtain ⟨k, n, fl, f, s, A, xs, c, t, B, cap⟩ := h
  obtain ⟨k', n', fl', f', s', A', xs', c', t', B', cap'⟩ := h'
  simp only at *
  unfold numS
  simp only
  cases fl <;> cases fl'
  · simp only [Bool.false_eq_true, if_false]
    unfold rightN at hx hx'
    rw [if_neg (by decide), Bool.and_eq_true] at hx hx'
    have h1 := intV_of hx.2 rx lx cx.1 cx.2
    have h2 := intV_of hx'.2 rx' lx' cx'.1 cx'.2
    exact fun W hW => tsame_ii f f' s A xs.length c s' A' xs'.length c' W _ (fun V hV => esame_int ((h1.1.keep hW).keep hV) ((h2.1.keep hW).keep hV) h1.2 h2.2)
  · simp only [Bool.false_eq_true, if_false, if_true]
    exact fun W _ => tsame_if f f' s A xs.length c s' A' xs'.length c' W
  · simp only [Bool.false_eq_true, if_false, if_true]
    exact fun W _ => tsame_fi f f' s A xs.length c s' A' xs'.length c' W
  · simp only [if_true]
    exact fun W _ => tsame_ff f f' s A xs.length c s' A' xs'.length c' W _ (fun V => same_flo f f' V ha.1 hb.1)

set_option maxRecDepth 100000 in
set_option maxHeartbeats 8000000 in
theorem dequal_any (kids kids' : Fr) (B B' : Option Addr) (cap cap' b off b' off' : Nat) (w : World) (hB : 0 < kids.len → B = some ⟨b, off, none⟩) (hB' : 0 < kids'.len → B' = some ⟨b', off', none⟩) (hF : FAt w b off kids) (hF' : FAt w b' off' kids') (hc1 : kids.len ≤ cap) (hc2 : cap ≤ 9223372036854775807) (hc1' : kids'.len ≤ cap') (hc2' : cap' ≤ 9223372036854775807)
    (hcl : ∀ hh k hh' k' j r r', kids.drop j = .cons hh k r → kids'.drop j = .cons hh' k' r' → ∀ W, Below w.heap.size w W → DatV W hh k → DatV W hh' k' → Calls Tryz.prog 32 #[datA hh k.len, datA hh' k'.len] W fun e w' => e = .returned (.bool (headS hh hh' && sameF k k')) ∧ Below W.heap.size W w') :
    Calls Tryz.prog 61 #[.slice B kids.len cap, .slice B' kids'.len cap', .func (.func 32) #[] #[]] w fun e w' => e = .returned (.bool (sameF kids kids')) ∧ Below w.heap.size w w' := by
  by_cases hl : kids.len = kids'.len
  · rcases Nat.eq_zero_or_pos kids.len with h0 | hpos
    · have hk : ∀ fr : Fr, fr.len = 0 → fr = .nil := fun fr h => by
        cases fr with
        | nil => rfl
        | cons x y z => have h3 : z.len + 1 = 0 := h; omega
      obtain rfl := hk kids h0
      obtain rfl := hk kids' (by omega)
      show Calls Tryz.prog 61 #[.slice B 0 cap, .slice B' 0 cap', .func (.func 32) #[] #[]] w fun e w' => e = .returned (.bool true) ∧ Below w.heap.size w w'
      clear hcl hF hB hF' hB' hl h0 hc1 hc1' hk
      go_enter Tryz.func61, Tryz.ntmps61
      go_wp2_with (fail)
      go_loopg [17] 0 (fun kk i wr => wr = w ∧ i = .int .i64 0)
      case atStart => exact ⟨rfl, rfl⟩
      case round =>
        obtain ⟨rfl, rfl⟩ := hrel
        go_wp2_with (fail)
        go_ret
        exact ⟨rfl, Below.refl _ _⟩
    · obtain rfl := hB hpos
      obtain rfl := hB' (by omega)
      have HF := Lib.hid hF
      have HF' := Lib.hid hF'
      have HCL := Lib.hid hcl
      have HL := Lib.hid hl
      have g1 : ((kids.len : Int) != (kids'.len : Int)) = false := by rw [hl]; simp
      clear hF hF' hcl hB hB' hl
      go_enter Tryz.func61, Tryz.ntmps61
      go_wp2_with (fail)
      go_loopg [17] kids.len (fun kk i wr => Below w.heap.size w wr ∧ ∃ j : Nat, j ≤ kids.len ∧ kk = kids.len - j ∧ i = .int .i64 (j : Int) ∧ sameF (kids.drop j) (kids'.drop j) = sameF kids kids')
      case atStart => exact ⟨Below.refl _ _, 0, Nat.zero_le _, rfl, rfl, rfl⟩
      case round =>
        obtain ⟨hbr, j, hj, rfl, rfl, hrf⟩ := hrel
        have HBR := Lib.hid hbr
        clear hbr
        by_cases hjl : j < kids.len
        · obtain ⟨hh, k, r, hdr, hdr1⟩ := Fr.cons_of_lt hjl
          have hjl' : j < kids'.len := by have := HL.out; omega
          obtain ⟨hh', k', r', hdr', hdr1'⟩ := Fr.cons_of_lt hjl'
          rw [hdr, hdr'] at hrf
          obtain ⟨hbl, ⟨x0, x1, x2, x3, x4, x5, x6, x7⟩, D⟩ := counted_item (FAt.below HBR.out _ _ _ HF.out) hdr
          obtain ⟨hbl', hC', D'⟩ := counted_item (FAt.below HBR.out _ _ _ HF'.out) hdr'
          have y := fun (o : Obj) => hC'.keep ((Below.refl wr.heap.size wr).alloc (Nat.le_refl _) o) hbl'
          obtain ⟨y0, y1, y2, y3, y4, y5, y6, y7⟩ := y (datO hh k.len)
          obtain ⟨W2, hW2⟩ : ∃ W2, (wr.alloc (datO hh k.len)).alloc (datO hh' k'.len) = W2 := ⟨_, rfl⟩
          have hb2 : Below wr.heap.size wr W2 := by rw [← hW2]; exact ((Below.refl _ wr).alloc (Nat.le_refl _) _).alloc (by simp) _
          have hO : Obs W2 [(wr.heap.size + 1, datO hh' k'.len), (wr.heap.size, datO hh k.len)] := by
            rw [← hW2]
            have h1 := (Obs.nil.new (w := wr) (datO hh k.len)).new (datO hh' k'.len)
            simp only [World.size_alloc] at h1
            exact h1
          have CL := Lib.hid (HCL.out hh k hh' k' j r r' hdr hdr' W2 (bel_trans (B := w.heap.size) HBR.out hb2) (D.below hb2) (D'.below hb2))
          have hrf2 : (headS hh hh' && sameF k k' && sameF r r') = sameF kids kids' := hrf
          obtain ⟨q, hq⟩ : ∃ q, (headS hh hh' && sameF k k') = q := ⟨_, rfl⟩
          rw [hq] at CL hrf2
          have HRF := Lib.hid hrf2
          have HDR := Lib.hid hdr1
          have HDR' := Lib.hid hdr1'
          have HW2 := Lib.hid hW2
          have HB2 := Lib.hid (bel_trans (B := w.heap.size) HBR.out hb2)
          have z := C8.of_block hO.tl.hd
          have z' := C8.of_block hO.hd
          obtain ⟨u0, u1, u2, u3, u4, u5, u6, u7⟩ := z
          obtain ⟨v0, v1, v2, v3, v4, v5, v6, v7⟩ := z'
          clear hrf hdr hdr1 D hrf2 hq hdr' hdr1' D' y hW2 hb2 hO hC'
          go_wp2_with (fail)
          rw [HW2.out]
          refine CL.out.mono ?_
          rintro e w3 ⟨rfl, hb3⟩
          have HB3 := Lib.hid (bel_trans (B := w.heap.size) HB2.out hb3)
          clear hb3
          cases q
          · go_wp2_with (fail)
            go_ret
            exact ⟨by rw [← HRF.out]; simp, HB3.out⟩
          · go_wp2_with (fail)
            go_roundg (kids.len - (j + 1))
            case measure => omega
            case rel => exact ⟨HB3.out, j + 1, by omega, rfl, by go_num, by rw [HDR.out, HDR'.out]; exact HRF.out⟩
        · have hje : j = kids.len := by omega
          subst hje
          have hnil : ∀ fr : Fr, fr.drop fr.len = .nil := fun fr => by
            have h1 := Fr.len_drop fr.len fr
            cases h2 : fr.drop fr.len with
            | nil => rfl
            | cons x y z => rw [h2] at h1; have h3 : z.len + 1 = fr.len - fr.len := h1; omega
          have hl := HL.out
          rw [hnil kids, hl, hnil kids'] at hrf
          have HR : Hid (true = sameF kids kids') := Lib.hid hrf
          clear hrf hnil hl
          go_wp2_with (fail)
          go_ret
          exact ⟨by rw [← HR.out]; rfl, HBR.out⟩
  · have g1 : ((kids.len : Int) != (kids'.len : Int)) = true := by rw [bne_iff_ne]; omega
    rw [sameF_len _ _ hl]
    clear hcl hF hB hF' hB' hl
    go_enter Tryz.func61, Tryz.ntmps61
    go_wp2_with (fail)
    go_ret
    exact ⟨rfl, Below.refl _ _⟩

set_option maxRecDepth 100000 in
set_option maxHeartbeats 16000000 in
theorem dsame_go (h h' : Hd) (kids kids' : Fr) (sub : Bool) (w : World)
    (hT : CallB w 60 #[numA h.fl h.f h.s h.A h.xs.length h.c, numA h'.fl h'.f h'.s h'.A h'.xs.length h'.c] (.bool (numS h h')))
    (hE : CallB w 61 #[.slice h.B kids.len h.cap, .slice h'.B kids'.len h'.cap, .func (.func 32) #[] #[]] (.bool sub)) :
    Calls Tryz.prog 32 #[datA h kids.len, datA h' kids'.len] w fun e w' => e = .returned (.bool (headS h h' && sub)) ∧ Below w.heap.size w w' := by
  obtain ⟨W0, hW0⟩ : ∃ W0, (w.alloc (datO h kids.len)).alloc (datO h' kids'.len) = W0 := ⟨_, rfl⟩
  have hb0 : Below w.heap.size w W0 := by rw [← hW0]; exact ((Below.refl _ w).alloc (Nat.le_refl _) _).alloc (by simp) _
  have hO : Obs W0 [(w.heap.size + 1, datO h' kids'.len), (w.heap.size, datO h kids.len)] := by
    rw [← hW0]
    have h1 := (Obs.nil.new (w := w) (datO h kids.len)).new (datO h' kids'.len)
    simp only [World.size_alloc] at h1
    exact h1
  obtain ⟨x0, x1, x2, x3, x4, x5, x6, x7⟩ := C8.of_block hO.tl.hd
  obtain ⟨y0, y1, y2, y3, y4, y5, y6, y7⟩ := C8.of_block hO.hd
  have HW0 := Lib.hid hW0
  have HB0 := Lib.hid hb0
  have O0 := Lib.hid hO
  have HT := Lib.hid hT
  have HE := Lib.hid hE
  clear hW0 hb0 hO hT hE
  obtain ⟨b1, e1⟩ : ∃ b, (h.k == h'.k) = b := ⟨_, rfl⟩
  obtain ⟨b2, e2⟩ : ∃ b, (h.n == h'.n) = b := ⟨_, rfl⟩
  obtain ⟨b3, e3⟩ : ∃ b, (h.t.toList == h'.t.toList) = b := ⟨_, rfl⟩
  obtain ⟨b4, e4⟩ : ∃ b, numS h h' = b := ⟨_, rfl⟩
  have HQ : Hid (headS h h' = (b1 && b2 && b3 && b4)) := Lib.hid (by unfold headS; rw [e1, e2, e3, e4])
  rw [e4] at HT
  clear e4
  cases b1
  · go_enter Tryz.func32, Tryz.ntmps32
    go_wp2_with (fail)
    go_ret
    exact ⟨by rw [HQ.out]; rfl, HW0.out ▸ HB0.out⟩
  cases b2
  · go_enter Tryz.func32, Tryz.ntmps32
    go_wp2_with (fail)
    go_ret
    exact ⟨by rw [HQ.out]; rfl, HW0.out ▸ HB0.out⟩
  cases b3
  · go_enter Tryz.func32, Tryz.ntmps32
    go_wp2_with (fail)
    go_ret
    exact ⟨by rw [HQ.out]; rfl, HW0.out ▸ HB0.out⟩
  go_enter Tryz.func32, Tryz.ntmps32
  go_wp2_with (fail)
  rw [HW0.out]
  refine (HT.out _ HB0.out).mono ?_
  rintro e w1 ⟨rfl, hb1⟩
  have HB1 := Lib.hid (bel_trans (B := w.heap.size) HB0.out hb1)
  obtain ⟨u0, u1, u2, u3, u4, u5, u6, u7⟩ := C8.of_block (O0.out.below hb1).tl.hd
  obtain ⟨v0, v1, v2, v3, v4, v5, v6, v7⟩ := C8.of_block (O0.out.below hb1).hd
  clear hb1 x0 x1 x2 x3 x4 x5 x6 x7 y0 y1 y2 y3 y4 y5 y6 y7
  cases b4
  · go_wp2_with (fail)
    go_ret
    exact ⟨by rw [HQ.out]; rfl, HB1.out⟩
  · go_wp2_with (fail)
    refine (HE.out _ HB1.out).mono ?_
    rintro e w2 ⟨rfl, hb2⟩
    have HB2 := Lib.hid (bel_trans (B := w.heap.size) HB1.out hb2)
    clear hb2
    go_wp2_with (fail)
    go_ret
    exact ⟨by rw [HQ.out]; rfl, HB2.out⟩

theorem dsame_any : ∀ (m : Nat) (kids kids' : Fr), kids.size < m → kids.Ok → kids'.Ok → NumsR kids → NumsR kids' → ∀ (h h' : Hd) (w : World), DatV w h kids → DatV w h' kids' → h.Ok kids.len → h'.Ok kids'.len → rightN h.fl h.f h.s h.xs = true → rightN h'.fl h'.f h'.s h'.xs = true →
    Calls Tryz.prog 32 #[datA h kids.len, datA h' kids'.len] w fun e w' => e = .returned (.bool (headS h h' && sameF kids kids')) ∧ Below w.heap.size w w' := by
  intro m
  induction m with
  | zero => intro kids _ h; omega
  | succ m ih =>
    intro kids kids' hsz hok hok' hn hn' h h' w hd hd' hho hho' hr hr'
    refine dsame_go h h' kids kids' _ w (tsame_any (numOk_of hr hho.f hd.xs hho.lm hho.c.1 hho.c.2) (numOk_of hr' hho'.f hd'.xs hho'.lm hho'.c.1 hho'.c.2) hr hr' hd.xs hd'.xs hho.lm hho'.lm hho.c hho'.c) fun W hW => ?_
    obtain ⟨b, off, hB, hF⟩ := (hd.below hW).items
    obtain ⟨b', off', hB', hF'⟩ := (hd'.below hW).items
    refine dequal_any kids kids' h.B h'.B h.cap h'.cap b off b' off' W hB hB' hF hF' hho.cap.1 hho.cap.2 hho'.cap.1 hho'.cap.2 fun hh k hh' k' j r r' e1 e2 W2 hW2 hD hD' => ?_
    have o1 := Fr.Ok.drop j hok
    have o2 := Fr.Ok.drop j hok'
    have n1 := NumsR.drop j hn
    have n2 := NumsR.drop j hn'
    rw [e1] at o1 n1
    rw [e2] at o2 n2
    exact ih k k' (by have := size_item e1; omega) o1.2.1 o2.2.1 n1.2.1 n2.2.1 hh hh' W2 hD hD' o1.1 o2.1 n1.1 n2.1

end LM
end Go.Proofs.YtnpmfailpgbggaaGreatDoor

namespace Go.Proofs.YtnpmfailpgbggaaGreatDoor
open Go Go.RowKit
namespace LM
set_option linter.unusedVariables false

/-- the same but for where it lies -/
def AlikeH (h h' : Hd) : Prop := h'.k = h.k ∧ h'.n = h.n ∧ h'.fl = h.fl ∧ h'.f = h.f ∧ h'.s = h.s ∧ h'.xs = h.xs ∧ h'.t = h.t
def AlikeF : Fr → Fr → Prop
  | .nil, .nil => True
  | .cons h k r, .cons h' k' r' => AlikeH h h' ∧ AlikeF k k' ∧ AlikeF r r'
  | .nil, .cons _ _ _ => False
  | .cons _ _ _, .nil => False
theorem AlikeF.len : ∀ {a b : Fr}, AlikeF a b → b.len = a.len := by
  intro a
  induction a with
  | nil => intro b h; cases b with
    | nil => rfl
    | cons x y z => exact absurd h id
  | cons x y z _ ih => intro b h; cases b with
    | nil => exact absurd h id
    | cons x' y' z' =>
      have := ih h.2.2
      show z'.len + 1 = z.len + 1
      omega
/-- all of it lies from block B on -/
def FreshH (B : Nat) (h : Hd) (n : Nat) : Prop := (0 < h.xs.length → ∀ ad, h.A = some ad → B ≤ ad.block) ∧ (0 < n → ∀ ad, h.B = some ad → B ≤ ad.block)
def FreshF (B : Nat) : Fr → Prop
  | .nil => True
  | .cons h k r => FreshH B h k.len ∧ FreshF B k ∧ FreshF B r
/-- none of it lies in a block -/
def AwayH (g : Nat) (h : Hd) (n : Nat) : Prop := (0 < h.xs.length → Off h.A g) ∧ (0 < n → Off h.B g)
def AwayF (g : Nat) : Fr → Prop
  | .nil => True
  | .cons h k r => AwayH g h k.len ∧ AwayF g k ∧ AwayF g r
theorem FreshF.away {B g : Nat} (hg : g < B) : ∀ {fr : Fr}, FreshF B fr → AwayF g fr := by
  intro fr
  induction fr with
  | nil => intro _; exact trivial
  | cons h k r ihk ihr =>
    intro hf
    refine ⟨⟨fun hx ad e => ?_, fun hx ad e => ?_⟩, ihk hf.2.1, ihr hf.2.2⟩
    · have := hf.1.1 hx ad e; omega
    · have := hf.1.2 hx ad e; omega
theorem FreshF.mono {B C : Nat} (hC : C ≤ B) : ∀ {fr : Fr}, FreshF B fr → FreshF C fr := by
  intro fr
  induction fr with
  | nil => intro _; exact trivial
  | cons h k r ihk ihr =>
    intro hf
    exact ⟨⟨fun hx ad e => Nat.le_trans hC (hf.1.1 hx ad e), fun hx ad e => Nat.le_trans hC (hf.1.2 hx ad e)⟩, ihk hf.2.1, ihr hf.2.2⟩
theorem away_old {w : World} {g : Nat} (hg : w.heap.size ≤ g) : ∀ {fr : Fr} {b off : Nat}, FAt w b off fr → AwayF g fr := by
  intro fr
  induction fr with
  | nil => intro b off _; exact trivial
  | cons h k r ihk ihr =>
    intro b off hf
    obtain ⟨h1, h2, h3, ⟨b', off', h4, h5⟩, h6⟩ := hf
    refine ⟨⟨fun hx => h3.off hx hg, fun hx ad e => ?_⟩, ihk h5, ihr h6⟩
    rw [h4 hx] at e
    injection e with e
    subst e
    cases k with
    | nil => exact absurd hx (by show ¬ 0 < 0; omega)
    | cons x y z =>
      have : b' < w.heap.size := h5.1
      show b' ≠ g
      omega

/-- outside eight cells nothing has turned -/
structure Out8 (g o : Nat) (W W' : World) : Prop where
  size : W'.heap.size = W.heap.size
  cell : ∀ c i, (c ≠ g ∨ i < o ∨ o + 8 ≤ i) → W'.cell? ⟨c, i, none⟩ = W.cell? ⟨c, i, none⟩
theorem Out8.rd {g o : Nat} {W W' : World} (h : Out8 g o W W') {A : Option Addr} {xs : List Nat} (hr : Rd W A xs) (ho : 0 < xs.length → Off A g) : Rd W' A xs := fun hx => by
  obtain ⟨b, off, rfl, hb, hc⟩ := hr hx
  exact ⟨b, off, rfl, by rw [h.size]; exact hb, fun k hk => (h.cell b _ (.inl (ho hx _ rfl))).trans (hc k hk)⟩
theorem Out8.c8 {g o : Nat} {W W' : World} (h : Out8 g o W W') {b off n : Nat} {hh : Hd} (hc : C8 W b off hh n) (hb : b ≠ g ∨ off + 8 ≤ o ∨ o + 8 ≤ off) : C8 W' b off hh n := by
  have hx : ∀ i, i < 8 → W'.cell? ⟨b, off + i, none⟩ = W.cell? ⟨b, off + i, none⟩ := fun i hi => h.cell _ _ (by omega)
  exact ⟨(hx 0 (by decide)).trans hc.c0, (hx 1 (by decide)).trans hc.c1, (hx 2 (by decide)).trans hc.c2, (hx 3 (by decide)).trans hc.c3, (hx 4 (by decide)).trans hc.c4, (hx 5 (by decide)).trans hc.c5, (hx 6 (by decide)).trans hc.c6, (hx 7 (by decide)).trans hc.c7⟩
theorem Out8.fat {g o : Nat} {W W' : World} (h : Out8 g o W W') : ∀ {fr : Fr} {b off : Nat}, FAt W b off fr → AwayF g fr → (b ≠ g ∨ off + fr.len * 8 ≤ o ∨ o + 8 ≤ off) → FAt W' b off fr := by
  intro fr
  induction fr with
  | nil => intro b off _ _ _; exact trivial
  | cons hh k r ihk ihr =>
    intro b off hf ha hb
    obtain ⟨h1, h2, h3, ⟨b', off', h4, h5⟩, h6⟩ := hf
    have hl : (Fr.cons hh k r).len = r.len + 1 := rfl
    rw [hl] at hb
    refine ⟨by rw [h.size]; exact h1, h.c8 h2 (by omega), h.rd h3 ha.1.1, ⟨b', off', h4, ?_⟩, ihr h6 ha.2.2 (by omega)⟩
    rcases Nat.eq_zero_or_pos k.len with h0 | hp
    · cases k with
      | nil => exact trivial
      | cons x y z => have h3 : z.len + 1 = 0 := h0; omega
    · exact ihk h5 ha.2.1 (.inl (ha.1.2 hp _ (h4 hp)))
theorem Out8.dat {g o : Nat} {W W' : World} (h : Out8 g o W W') {hh : Hd} {k : Fr} (hd : DatV W hh k) (ha : AwayH g hh k.len) (hk : AwayF g k) : DatV W' hh k := by
  obtain ⟨h1, b, off, h2, h3⟩ := hd
  refine ⟨h.rd h1 ha.1, b, off, h2, ?_⟩
  rcases Nat.eq_zero_or_pos k.len with h0 | hp
  · cases k with
    | nil => exact trivial
    | cons x y z => have h3 : z.len + 1 = 0 := h0; omega
  · exact h.fat h3 hk (.inl (ha.2 hp _ (h2 hp)))

def Fr.app : Fr → Fr → Fr
  | .nil, y => y
  | .cons h k r, y => .cons h k (r.app y)
theorem app_len : ∀ (x y : Fr), (x.app y).len = x.len + y.len := by
  intro x y
  induction x with
  | nil => show y.len = 0 + y.len; omega
  | cons h k r _ ih => show (r.app y).len + 1 = r.len + 1 + y.len; omega
theorem fat_app {W : World} {b : Nat} : ∀ {x y : Fr} {off : Nat}, FAt W b off (x.app y) ↔ FAt W b off x ∧ FAt W b (off + x.len * 8) y := by
  intro x
  induction x with
  | nil => intro y off; show FAt W b off y ↔ True ∧ FAt W b (off + 0 * 8) y; rw [Nat.zero_mul, Nat.add_zero, true_and]
  | cons h k r _ ih =>
    intro y off
    have hl : (Fr.cons h k r).len = r.len + 1 := rfl
    have := @ih y (off + 8)
    rw [hl, show off + (r.len + 1) * 8 = off + 8 + r.len * 8 from by omega]
    constructor
    · rintro ⟨h1, h2, h3, h4, h5⟩
      have h6 := this.1 h5
      exact ⟨⟨h1, h2, h3, h4, h6.1⟩, h6.2⟩
    · rintro ⟨⟨h1, h2, h3, h4, h5⟩, h6⟩
      exact ⟨h1, h2, h3, h4, this.2 ⟨h5, h6⟩⟩
theorem away_app {g : Nat} : ∀ {x y : Fr}, AwayF g (x.app y) ↔ AwayF g x ∧ AwayF g y := by
  intro x
  induction x with
  | nil => intro y; exact ⟨fun h => ⟨trivial, h⟩, fun h => h.2⟩
  | cons h k r _ ih =>
    intro y
    constructor
    · rintro ⟨h1, h2, h3⟩
      have h6 := ih.1 h3
      exact ⟨⟨h1, h2, h6.1⟩, h6.2⟩
    · rintro ⟨⟨h1, h2, h3⟩, h4⟩
      exact ⟨h1, h2, ih.2 ⟨h3, h4⟩⟩

/-- the eight cells of a datum in a row are stored -/
abbrev set8 (w : World) (g o : Nat) (h : Hd) (n : Nat) : World :=
  (((((((w.setCell ⟨g, o, none⟩ (.int .i64 h.k)).setCell ⟨g, o + 1, none⟩ (.int .i64 h.n)).setCell ⟨g, o + 2, none⟩ (.bool h.fl)).setCell ⟨g, o + 3, none⟩ (.float .f64 h.f)).setCell ⟨g, o + 4, none⟩ (.bool h.s)).setCell ⟨g, o + 5, none⟩ (.slice h.A h.xs.length h.c)).setCell ⟨g, o + 6, none⟩ (.string h.t)).setCell ⟨g, o + 7, none⟩ (.slice h.B n h.cap)
theorem cell_set_ne {w : World} {b i c j : Nat} {u : Value} (h : b ≠ c ∨ i ≠ j) : (w.setCell ⟨c, j, none⟩ u).cell? ⟨b, i, none⟩ = w.cell? ⟨b, i, none⟩ := by
  by_cases hb : b = c
  · subst hb
    have ho : i ≠ j := h.resolve_left (fun e => e rfl)
    unfold World.cell? World.setCell
    simp only [Array.getElem?_modify, if_pos]
    cases w.heap[b]? with
    | none => rfl
    | some o =>
      cases o <;> simp
      exact Array.getElem?_setIfInBounds_ne (fun e => ho e.symm)
  · exact World.cell?_of_block (Below.heap_setCell w _ u _ hb)
theorem cell_set_eq {w : World} {b i : Nat} {u v : Value} (h : w.cell? ⟨b, i, none⟩ = some v) : (w.setCell ⟨b, i, none⟩ u).cell? ⟨b, i, none⟩ = some u := by
  unfold World.cell? at h ⊢
  unfold World.setCell
  simp only [Array.getElem?_modify, if_pos]
  cases hb : w.heap[b]? with
  | none => rw [hb] at h; cases h
  | some o =>
    rw [hb] at h
    cases o <;> simp_all
    rename_i cs _ _
    rcases Nat.lt_or_ge i cs.size with h1 | h1
    · simp [h1]
    · rw [Array.getElem?_eq_none h1] at h; cases h
theorem set8_out (w : World) (g o : Nat) (h : Hd) (n : Nat) : Out8 g o w (set8 w g o h n) := by
  refine ⟨by simp [World.setCell], fun c i hc => ?_⟩
  unfold set8
  rw [cell_set_ne (by omega), cell_set_ne (by omega), cell_set_ne (by omega), cell_set_ne (by omega), cell_set_ne (by omega), cell_set_ne (by omega), cell_set_ne (by omega), cell_set_ne (by omega)]
theorem set8_c8 {w : World} {g o m : Nat} {h0 : Hd} (hc : C8 w g o h0 m) (h : Hd) (n : Nat) : C8 (set8 w g o h n) g o h n := by
  have k : ∀ (W : World) (i j : Nat) (u : Value), i ≠ j → (W.setCell ⟨g, o + j, none⟩ u).cell? ⟨g, o + i, none⟩ = W.cell? ⟨g, o + i, none⟩ := fun W i j u hij => cell_set_ne (.inr (by omega))
  have k0 : ∀ (W : World) (i : Nat) (u : Value), i ≠ 0 → (W.setCell ⟨g, o, none⟩ u).cell? ⟨g, o + i, none⟩ = W.cell? ⟨g, o + i, none⟩ := fun W i u hij => cell_set_ne (.inr (by omega))
  have k1 : ∀ (W : World) (j : Nat) (u : Value), j ≠ 0 → (W.setCell ⟨g, o + j, none⟩ u).cell? ⟨g, o, none⟩ = W.cell? ⟨g, o, none⟩ := fun W j u hij => cell_set_ne (.inr (by omega))
  obtain ⟨c0, c1, c2, c3, c4, c5, c6, c7⟩ := hc
  unfold set8
  refine ⟨?_, ?_, ?_, ?_, ?_, ?_, ?_, ?_⟩
  · rw [k1 _ 7 _ (by decide), k1 _ 6 _ (by decide), k1 _ 5 _ (by decide), k1 _ 4 _ (by decide), k1 _ 3 _ (by decide), k1 _ 2 _ (by decide), k1 _ 1 _ (by decide)]
    exact cell_set_eq c0
  · rw [k _ 1 7 _ (by decide), k _ 1 6 _ (by decide), k _ 1 5 _ (by decide), k _ 1 4 _ (by decide), k _ 1 3 _ (by decide), k _ 1 2 _ (by decide)]
    exact cell_set_eq (v := .int .i64 h0.n) (by rw [k0 _ 1 _ (by decide)]; exact c1)
  · rw [k _ 2 7 _ (by decide), k _ 2 6 _ (by decide), k _ 2 5 _ (by decide), k _ 2 4 _ (by decide), k _ 2 3 _ (by decide)]
    exact cell_set_eq (v := .bool h0.fl) (by rw [k _ 2 1 _ (by decide), k0 _ 2 _ (by decide)]; exact c2)
  · rw [k _ 3 7 _ (by decide), k _ 3 6 _ (by decide), k _ 3 5 _ (by decide), k _ 3 4 _ (by decide)]
    exact cell_set_eq (v := .float .f64 h0.f) (by rw [k _ 3 2 _ (by decide), k _ 3 1 _ (by decide), k0 _ 3 _ (by decide)]; exact c3)
  · rw [k _ 4 7 _ (by decide), k _ 4 6 _ (by decide), k _ 4 5 _ (by decide)]
    exact cell_set_eq (v := .bool h0.s) (by rw [k _ 4 3 _ (by decide), k _ 4 2 _ (by decide), k _ 4 1 _ (by decide), k0 _ 4 _ (by decide)]; exact c4)
  · rw [k _ 5 7 _ (by decide), k _ 5 6 _ (by decide)]
    exact cell_set_eq (v := .slice h0.A h0.xs.length h0.c) (by rw [k _ 5 4 _ (by decide), k _ 5 3 _ (by decide), k _ 5 2 _ (by decide), k _ 5 1 _ (by decide), k0 _ 5 _ (by decide)]; exact c5)
  · rw [k _ 6 7 _ (by decide)]
    exact cell_set_eq (v := .string h0.t) (by rw [k _ 6 5 _ (by decide), k _ 6 4 _ (by decide), k _ 6 3 _ (by decide), k _ 6 2 _ (by decide), k _ 6 1 _ (by decide), k0 _ 6 _ (by decide)]; exact c6)
  · exact cell_set_eq (v := .slice h0.B m h0.cap) (by rw [k _ 7 6 _ (by decide), k _ 7 5 _ (by decide), k _ 7 4 _ (by decide), k _ 7 3 _ (by decide), k _ 7 2 _ (by decide), k _ 7 1 _ (by decide), k0 _ 7 _ (by decide)]; exact c7)
/-- one of a row is written over -/
theorem fat_set {W : World} {g off : Nat} {x r k k' : Fr} {h h' : Hd} (hf : FAt W g off (x.app (.cons h k r))) (ha : AwayF g (x.app (.cons h k r))) (hd : DatV W h' k') (hh : AwayH g h' k'.len) (hk : AwayF g k') :
    FAt (set8 W g (off + x.len * 8) h' k'.len) g off (x.app (.cons h' k' r)) ∧ AwayF g (x.app (.cons h' k' r)) := by
  obtain ⟨f1, f2⟩ := fat_app.1 hf
  obtain ⟨a1, a2⟩ := away_app.1 ha
  have hO := set8_out W g (off + x.len * 8) h' k'.len
  obtain ⟨b1, b2, b3, b4, b5⟩ := f2
  have hd' := hO.dat hd hh hk
  refine ⟨fat_app.2 ⟨hO.fat f1 a1 (by omega), ?_⟩, away_app.2 ⟨a1, hh, hk, a2.2.2⟩⟩
  exact ⟨by rw [hO.size]; exact b1, set8_c8 b2 h' k'.len, hd'.xs, hd'.items, hO.fat b5 a2.2.2 (by omega)⟩
end LM
end Go.Proofs.YtnpmfailpgbggaaGreatDoor

namespace Go.Proofs.YtnpmfailpgbggaaGreatDoor
open Go Go.RowKit
namespace LM
set_option linter.unusedVariables false

/-- a datum's cells -/
def head8 (h : Hd) (n : Nat) : List Value := [.int .i64 h.k, .int .i64 h.n, .bool h.fl, .float .f64 h.f, .bool h.s, .slice h.A h.xs.length h.c, .string h.t, .slice h.B n h.cap]
/-- the cells of data one behind the other -/
def cellsF : Fr → List Value
  | .nil => []
  | .cons h k r => head8 h k.len ++ cellsF r
theorem cellsF_len : ∀ fr : Fr, (cellsF fr).length = fr.len * 8 := by
  intro fr
  induction fr with
  | nil => rfl
  | cons h k r _ ih =>
    show (_ ++ cellsF r).length = (r.len + 1) * 8
    rw [List.length_append, ih]
    show 8 + r.len * 8 = _
    omega
theorem cellsF_one : ∀ fr : Fr, ∀ u ∈ cellsF fr, u.oneCell' = true := by
  intro fr
  induction fr with
  | nil => intro u hu; cases hu
  | cons h k r _ ih =>
    intro u hu
    rcases List.mem_append.1 hu with hu | hu
    · simp only [head8, List.mem_cons, List.not_mem_nil, or_false] at hu
      rcases hu with rfl | rfl | rfl | rfl | rfl | rfl | rfl | rfl <;> rfl
    · exact ih u hu
theorem fat_cells {w : World} {b : Nat} : ∀ {fr : Fr} {off : Nat}, FAt w b off fr → ∀ j u, (cellsF fr)[j]? = some u → w.cell? ⟨b, off + j, none⟩ = some u := by
  intro fr
  induction fr with
  | nil => intro off _ j u hu; cases hu
  | cons h k r _ ih =>
    intro off hf j u hu
    obtain ⟨h1, ⟨c0, c1, c2, c3, c4, c5, c6, c7⟩, h3, h4, h5⟩ := hf
    rcases Nat.lt_or_ge j 8 with hj | hj
    · have hu2 : (head8 h k.len)[j]? = some u := by
        rw [← hu]
        exact (List.getElem?_append_left (l₁ := head8 h k.len) hj).symm
      rcases (by omega : j = 0 ∨ j = 1 ∨ j = 2 ∨ j = 3 ∨ j = 4 ∨ j = 5 ∨ j = 6 ∨ j = 7) with rfl | rfl | rfl | rfl | rfl | rfl | rfl | rfl
      · exact c0.trans hu2
      · exact c1.trans hu2
      · exact c2.trans hu2
      · exact c3.trans hu2
      · exact c4.trans hu2
      · exact c5.trans hu2
      · exact c6.trans hu2
      · exact c7.trans hu2
    · have hu2 : (cellsF r)[j - 8]? = some u := by
        rw [← hu]
        exact (List.getElem?_append_right (l₁ := head8 h k.len) hj).symm
      have := ih h5 (j - 8) u hu2
      rw [show off + 8 + (j - 8) = off + j from by omega] at this
      exact this
theorem fat_move {w w' : World} {b g : Nat} (hb : Below w.heap.size w w') (hg : g < w'.heap.size) : ∀ {fr : Fr} {off off' : Nat}, FAt w b off fr → (∀ j u, (cellsF fr)[j]? = some u → w'.cell? ⟨g, off' + j, none⟩ = some u) → FAt w' g off' fr := by
  intro fr
  induction fr with
  | nil => intro off off' _ _; exact trivial
  | cons h k r _ ih =>
    intro off off' hf hc
    obtain ⟨h1, h2, h3, ⟨b', o', h4, h5⟩, h6⟩ := hf
    refine ⟨hg, ⟨hc 0 _ rfl, hc 1 _ rfl, hc 2 _ rfl, hc 3 _ rfl, hc 4 _ rfl, hc 5 _ rfl, hc 6 _ rfl, hc 7 _ rfl⟩, h3.below hb, ⟨b', o', h4, FAt.below hb _ _ _ h5⟩, ih h6 fun j u hu => ?_⟩
    have := hc (j + 8) u (by
      rw [← hu]
      exact (List.getElem?_append_right (l₁ := head8 h k.len) (show 8 ≤ j + 8 by omega)).trans (by show (cellsF r)[j + 8 - 8]? = _; rw [Nat.add_sub_cancel]))
    rw [show off' + (j + 8) = off' + 8 + j from by omega] at this
    exact this

theorem datum_info : (Tryz.prog.info? 30).map (fun i => (i.zero, i.size)) = some (some (.agg #[.int .i64 0, .int .i64 0, .bool false, .float .f64 0, .bool false, .slice none 0 0, .string ⟨#[]⟩, .slice none 0 0]), 8) := by kernel_rfl
theorem datum_bytes : ((Tryz.prog.info? 30).map (fun i => decide (i.bytes ≤ 1024))) = some true := by kernel_rfl
theorem datum_size : ∀ w, (Go.sizeOf 30).run Tryz.prog w = .ok 8 w := by intro w; kernel_rfl

/-- what slices.Clone gives of data -/
def CloneD (w : World) (kids : Fr) (e : Ending) (w' : World) : Prop :=
  ∃ B' cap', e = .returned (.slice B' kids.len cap') ∧ (∀ ad, B' = some ad → ∃ g, ad = ⟨g, 0, none⟩ ∧ w.heap.size ≤ g ∧ g < w'.heap.size ∧ FAt w' g 0 kids ∧ ∀ i, w'.frozen? ⟨g, i, none⟩ = false) ∧ kids.len ≤ cap' ∧ cap' ≤ 9223372036854775807 ∧ (B' = none → kids.len = 0 ∧ cap' = 0) ∧ Below w.heap.size w w'
set_option maxRecDepth 100000 in
theorem dclone_data (kids : Fr) (B : Option Addr) (cap : Nat) (w : World) (hB : ∃ b off, (0 < kids.len → B = some ⟨b, off, none⟩) ∧ FAt w b off kids) (hs : ∀ ad, B = some ad → ad.spot = none) (hn : B = none → kids.len = 0 ∧ cap = 0) (hl : kids.len ≤ 1000000) :
    Calls Tryz.prog 69 #[.slice B kids.len cap] w (CloneD w kids) := by
  cases B with
  | none =>
    obtain ⟨h0, rfl⟩ := hn rfl
    rw [h0]
    refine (Tryz.clone_data_nil 0 0 w).mono ?_
    rintro e w' ⟨rfl, rfl⟩
    exact ⟨none, 0, by rw [h0], fun ad e => (by cases e), by omega, by decide, fun _ => ⟨h0, rfl⟩, Below.refl _ _⟩
  | some ad =>
    obtain ⟨ab, ao, sp⟩ := ad
    obtain rfl : sp = none := hs _ rfl
    obtain ⟨b, off, hB1, hF⟩ := hB
    have hi := datum_info
    have hby := datum_bytes
    cases hinf : Tryz.prog.info? 30 with
    | none => rw [hinf] at hi; cases hi
    | some i0 =>
      rw [hinf] at hi hby
      simp only [Option.map_some, Option.some.injEq, Prod.mk.injEq, decide_eq_true_eq] at hi hby
      have hcell : ∀ j u, (cellsF kids)[j]? = some u → w.cell? ⟨ab, ao + j, none⟩ = some u := fun j u hu => by
        have hp : 0 < kids.len := by
          rcases Nat.eq_zero_or_pos kids.len with h0 | h0
          · have h2 := cellsF_len kids
            rw [h0] at h2
            rw [List.getElem?_eq_none (by omega)] at hu
            cases hu
          · exact h0
        have e := hB1 hp
        injection e with e
        injection e with e1 e2
        subst e1 e2
        exact fat_cells hF j u hu
      have hC := Tryz.clone_data i0 _ 8 i0.bytes hinf hi.1 hi.2 rfl rfl (by decide) datum_size ab ao kids.len cap (cellsF kids) w (by rw [cellsF_len]) (by unfold maxLen; omega)
        (Nat.le_trans (Nat.mul_le_mul hl hby) (by decide)) hcell (cellsF_one kids)
      refine hC.mono ?_
      rintro e w' ⟨v', rfl, ⟨_, ⟨rfl, h0⟩ | ⟨g, cp, cur, rfl, hg, hh, h1, h2, h3, h4⟩⟩, hne, hb⟩
      · exact absurd rfl hne
      · have hgl : g < w'.heap.size := by
          rcases Nat.lt_or_ge g w'.heap.size with h | h
          · exact h
          · rw [Array.getElem?_eq_none h] at hh; cases hh
        refine ⟨some ⟨g, 0, none⟩, cp, rfl, fun ad e => ?_, h1, by unfold maxLen at h2; omega, fun e => by (cases e), hb⟩
        injection e with e
        subst e
        refine ⟨g, rfl, hg, hgl, fat_move hb hgl hF fun j u hu => ?_, fun i => by simp [World.frozen?, hh]⟩
        have hj : j < kids.len * 8 := by
          rcases Nat.lt_or_ge j (kids.len * 8) with h | h
          · exact h
          · rw [List.getElem?_eq_none (by rw [cellsF_len]; exact h)] at hu; cases hu
        rw [← h4, List.getElem?_take, if_pos hj, Array.getElem?_toList] at hu
        rw [Nat.zero_add]
        simp only [World.cell?, hh]
        exact hu

/-- and of limbs -/
def CloneL (w : World) (xs : List Nat) (e : Ending) (w' : World) : Prop :=
  ∃ A' c', e = .returned (.slice A' xs.length c') ∧ Rd w' A' xs ∧ (∀ ad, A' = some ad → w.heap.size ≤ ad.block ∧ ad.spot = none) ∧ xs.length ≤ c' ∧ c' ≤ 9223372036854775807 ∧ (A' = none → xs.length = 0 ∧ c' = 0) ∧ Below w.heap.size w w' ∧ (∀ ad, A' = some ad → ad.block < w'.heap.size ∧ ∀ i, w'.frozen? ⟨ad.block, i, none⟩ = false)
set_option maxRecDepth 100000 in
theorem dclone_limbs (xs : List Nat) (A : Option Addr) (c : Nat) (w : World) (hr : Rd w A xs) (hs : ∀ ad, A = some ad → ad.spot = none) (hn : A = none → xs.length = 0 ∧ c = 0) (hl : xs.length ≤ 1000000) :
    Calls Tryz.prog 68 #[.slice A xs.length c] w (CloneL w xs) := by
  cases A with
  | none =>
    obtain ⟨h0, rfl⟩ := hn rfl
    obtain rfl := List.eq_nil_of_length_eq_zero h0
    refine (Tryz.clone_limbs_nil 0 0 w).mono ?_
    rintro e w' ⟨rfl, rfl⟩
    exact ⟨none, 0, rfl, Rd.nil, fun ad e => (by cases e), Nat.le_refl _, by decide, fun _ => ⟨rfl, rfl⟩, Below.refl _ _, fun ad e => (by cases e)⟩
  | some ad =>
    obtain ⟨ab, ao, sp⟩ := ad
    obtain rfl : sp = none := hs _ rfl
    obtain ⟨i0, hi0, hz0, hz1, hz2⟩ := info_parts u32_info
    have hcell : ∀ j u, (U xs)[j]? = some u → w.cell? ⟨ab, ao + j, none⟩ = some u := fun j u hu => by
      have hj : j < xs.length := by
        rcases Nat.lt_or_ge j xs.length with h | h
        · exact h
        · rw [List.getElem?_eq_none (by rw [U_len]; exact h)] at hu; cases hu
      obtain ⟨b, off, e, hb, hc⟩ := hr.at_ hj
      injection e with e
      injection e with e1 e2
      subst e1 e2
      rw [U_get _ _ hj] at hu
      exact hc.trans hu
    have hC := Tryz.clone_limbs i0 (.int .u32 0) 1 4 hi0 hz0 hz1 hz2 rfl (by decide) (fun w => by kernel_rfl) ab ao xs.length c (U xs) w (by rw [U_len, Nat.mul_one]) (by unfold maxLen; omega) (by omega) hcell (fun u hu => by
      unfold U at hu
      obtain ⟨x, _, rfl⟩ := List.mem_map.1 hu
      rfl)
    refine hC.mono ?_
    rintro e w' ⟨v', rfl, ho, hne, hb⟩
    rcases own_cases ho with ⟨rfl, rfl⟩ | ⟨g, cp, rest, rfl, hg, hB, h1, h2, h3⟩
    · exact absurd rfl hne
    · refine ⟨some ⟨g, 0, none⟩, cp, rfl, fun _ => ⟨g, 0, rfl, hB.lt, fun k hk => ?_⟩, fun ad e => by injection e with e; subst e; exact ⟨hg, rfl⟩, h1, by unfold maxLen at h2; omega, fun e => by (cases e), hb, fun ad e => by injection e with e; subst e; exact ⟨hB.lt, hB.frozen⟩⟩
      rw [Nat.zero_add, hB.cell, List.getElem?_append_left (by rw [U_len]; exact hk), U_get _ _ hk]

end LM
end Go.Proofs.YtnpmfailpgbggaaGreatDoor

namespace Go.Proofs.YtnpmfailpgbggaaGreatDoor
open Go Go.RowKit
namespace LM
set_option linter.unusedVariables false

set_option maxHeartbeats 2000000 in
set_option maxRecDepth 100000 in
theorem dclone_data_none (ad : Addr) (cap : Nat) (w : World) :
    Calls Tryz.prog 69 #[.slice (some ad) 0 cap] w (CloneD w .nil) := by
  have q22 : ∀ (w : World) (a : Option Addr) (n c n' c' : Nat), (binOp .eql 28 (.slice a n c) (.slice none n' c')).run Tryz.prog w = .ok (.bool a.isNone) w := fun w a n c n' c' => Lib.run_eql_slice_nil w _ _ a n c n' c' Tryz.underlying28
  have hi := datum_info
  have hby := datum_bytes
  cases hinf : Tryz.prog.info? 30 with
  | none => rw [hinf] at hi; cases hi
  | some i0 =>
    rw [hinf] at hi hby
    simp only [Option.map_some, Option.some.injEq, Prod.mk.injEq, decide_eq_true_eq] at hi hby
    go_enter Tryz.func69, Tryz.ntmps69
    go_wp2_with (at_builtin; refine wpList_append_own _ rfl _ _ 28 rfl w.heap.size 30 i0 _ 8 i0.bytes Tryz.underlying28 hinf hi.1 hi.2 rfl rfl (by decide) _ _ _ rfl (World.ownsRow_made w #[] 0 (Nat.le_refl _) (Nat.zero_le _) (by simp)) ad 0 cap [] rfl ?qc1 ?qc2 ?qc3 ?qc4 ?qc5 ?qc6 ?_)
    case qc1 => rfl
    case qc2 => intro j u hj; cases hj
    case qc3 => intro u hu; cases hu
    case qc4 => exact Nat.zero_le _
    case qc5 => rw [Nat.zero_add, Nat.zero_mul]; exact Nat.zero_le _
    case qc6 => simp
    intro v' w1 hown hgrow hnil
    go_wp2
    go_ret
    obtain ⟨_, ⟨rfl, h0⟩ | ⟨g, cp, cur, rfl, hg, hh, h1, h2, h3, h4⟩⟩ := hown
    · exact (hnil rfl).elim
    · have hgl : g < w1.heap.size := by
        rcases Nat.lt_or_ge g w1.heap.size with h | h
        · exact h
        · rw [Array.getElem?_eq_none h] at hh; cases hh
      refine ⟨some ⟨g, 0, none⟩, cp, rfl, fun ad e => ?_, Nat.zero_le _, by unfold maxLen at h2; omega, fun e => by (cases e), ?_⟩
      · injection e with e
        subst e
        exact ⟨g, rfl, hg, hgl, trivial, fun i => by simp [World.frozen?, hh]⟩
      · exact ((Below.refl _ w).alloc (Nat.le_refl _) _).grown hgrow (by simp) (by intro k hk; simp [Value.ownBlock] at hk; omega)

set_option maxHeartbeats 2000000 in
set_option maxRecDepth 100000 in
theorem dclone_limbs_none (ad : Addr) (cap : Nat) (w : World) :
    Calls Tryz.prog 68 #[.slice (some ad) 0 cap] w (CloneL w []) := by
  have q22 : ∀ (w : World) (a : Option Addr) (n c n' c' : Nat), (binOp .eql 23 (.slice a n c) (.slice none n' c')).run Tryz.prog w = .ok (.bool a.isNone) w := fun w a n c n' c' => Lib.run_eql_slice_nil w _ _ a n c n' c' Tryz.underlying23
  obtain ⟨i0, hi0, hz0, hz1, hz2⟩ := info_parts u32_info
  go_enter Tryz.func68, Tryz.ntmps68
  go_wp2_with (at_builtin; refine wpList_append_own _ rfl _ _ 23 rfl w.heap.size 60 i0 _ 1 4 Tryz.underlying23 hi0 hz0 hz1 hz2 rfl (by decide) _ _ _ rfl (World.ownsRow_made w #[] 0 (Nat.le_refl _) (Nat.zero_le _) (by simp)) ad 0 cap [] rfl ?qc1 ?qc2 ?qc3 ?qc4 ?qc5 ?qc6 ?_)
  case qc1 => rfl
  case qc2 => intro j u hj; cases hj
  case qc3 => intro u hu; cases hu
  case qc4 => exact Nat.zero_le _
  case qc5 => rw [Nat.zero_add, Nat.zero_mul]; exact Nat.zero_le _
  case qc6 => simp
  intro v' w1 hown hgrow hnil
  go_wp2
  go_ret
  obtain ⟨_, ⟨rfl, h0⟩ | ⟨g, cp, cur, rfl, hg, hh, h1, h2, h3, h4⟩⟩ := hown
  · exact (hnil rfl).elim
  · refine ⟨some ⟨g, 0, none⟩, cp, rfl, Rd.nil, fun ad e => ?_, Nat.zero_le _, by unfold maxLen at h2; omega, fun e => by (cases e), ?_, fun ad e => ?_⟩
    · injection e with e
      subst e
      exact ⟨hg, rfl⟩
    · exact ((Below.refl _ w).alloc (Nat.le_refl _) _).grown hgrow (by simp) (by intro k hk; simp [Value.ownBlock] at hk; omega)
    · injection e with e
      subst e
      refine ⟨?_, fun i => by simp [World.frozen?, hh]⟩
      rcases Nat.lt_or_ge g w1.heap.size with h | h
      · exact h
      · rw [Array.getElem?_eq_none h] at hh; cases hh

theorem dclone_data2 (kids : Fr) (B : Option Addr) (cap : Nat) (w : World) (hB : ∃ b off, (0 < kids.len → B = some ⟨b, off, none⟩) ∧ FAt w b off kids) (hs : ∀ ad, B = some ad → 0 < cap → ad.spot = none) (hcp : kids.len ≤ cap) (hn : B = none → kids.len = 0 ∧ cap = 0) (hl : kids.len ≤ 1000000) :
    Calls Tryz.prog 69 #[.slice B kids.len cap] w (CloneD w kids) := by
  rcases Nat.eq_zero_or_pos kids.len with h0 | hp
  · cases B with
    | none => exact dclone_data kids none cap w hB (fun ad e => by cases e) hn hl
    | some ad =>
      cases kids with
      | nil => exact dclone_data_none ad cap w
      | cons x y z => have h3 : z.len + 1 = 0 := h0; omega
  · exact dclone_data kids B cap w hB (fun ad e => hs ad e (by omega)) hn hl
theorem dclone_limbs2 (xs : List Nat) (A : Option Addr) (c : Nat) (w : World) (hr : Rd w A xs) (hs : ∀ ad, A = some ad → 0 < c → ad.spot = none) (hcp : xs.length ≤ c) (hn : A = none → xs.length = 0 ∧ c = 0) (hl : xs.length ≤ 1000000) :
    Calls Tryz.prog 68 #[.slice A xs.length c] w (CloneL w xs) := by
  rcases Nat.eq_zero_or_pos xs.length with h0 | hp
  · cases A with
    | none => exact dclone_limbs xs none c w hr (fun ad e => by cases e) hn hl
    | some ad =>
      obtain rfl := List.eq_nil_of_length_eq_zero h0
      exact dclone_limbs_none ad c w
  · exact dclone_limbs xs A c w hr (fun ad e => hs ad e (by omega)) hn hl

end LM
end Go.Proofs.YtnpmfailpgbggaaGreatDoor

namespace Go.Proofs.YtnpmfailpgbggaaGreatDoor
open Go Go.RowKit
namespace LM
set_option linter.unusedVariables false
attribute [local go_sem] run_store_flt

abbrev zeroO : Obj := .cells #[.int .i64 0, .int .i64 0, .bool false, .float .f64 0, .bool false, .slice none 0 0, .string ⟨#[]⟩, .slice none 0 0] 30 (0, 0)
/-- a datum's block, one cell of it stored -/
theorem stored_dat {w W : World} {B g n n' i : Nat} {h h' : Hd} {v : Value} (Y : W.heap[g]? = some (datO h n)) (hb : Below B w W) (hg : B ≤ g) (hv : ((head8 h n).toArray).setIfInBounds i v = (head8 h' n').toArray) :
    ∃ W', W.setCell ⟨g, i, none⟩ v = W' ∧ W'.heap[g]? = some (datO h' n') ∧ Below B w W' ∧ (∀ k, k ≠ g → W'.heap[k]? = W.heap[k]?) ∧ W'.heap.size = W.heap.size := by
  refine ⟨_, rfl, ?_, hb.setCell hg v, fun k hk => Below.heap_setCell W _ v k hk, by simp [World.setCell]⟩
  have h1 := heap_setCell_same W g i (head8 h n).toArray _ v Y
  rw [hv] at h1
  exact h1
/-- what lies elsewhere reads as it did -/
theorem Rd.other {W W' : World} {A : Option Addr} {xs : List Nat} {g : Nat} (h : Rd W A xs) (hs : W'.heap.size = W.heap.size) (hk : ∀ k, k ≠ g → W'.heap[k]? = W.heap[k]?) (ho : 0 < xs.length → Off A g) : Rd W' A xs := fun hx => by
  obtain ⟨b, off, rfl, hb, hc⟩ := h hx
  refine ⟨b, off, rfl, by rw [hs]; exact hb, fun k hkk => ?_⟩
  have : b ≠ g := ho hx _ rfl
  exact (World.cell?_of_block (a := ⟨b, off + k, none⟩) (hk b this)).trans (hc k hkk)
theorem FAt.other {W W' : World} {g : Nat} (hs : W'.heap.size = W.heap.size) (hk : ∀ k, k ≠ g → W'.heap[k]? = W.heap[k]?) : ∀ {fr : Fr} {b off : Nat}, FAt W b off fr → AwayF g fr → b ≠ g → FAt W' b off fr := by
  intro fr
  induction fr with
  | nil => intro b off _ _ _; exact trivial
  | cons h k r ihk ihr =>
    intro b off hf ha hb
    obtain ⟨h1, h2, h3, ⟨b', off', h4, h5⟩, h6⟩ := hf
    have hx : ∀ i, W'.cell? ⟨b, off + i, none⟩ = W.cell? ⟨b, off + i, none⟩ := fun i => World.cell?_of_block (a := ⟨b, off + i, none⟩) (hk b hb)
    refine ⟨by rw [hs]; exact h1, ⟨(hx 0).trans h2.c0, (hx 1).trans h2.c1, (hx 2).trans h2.c2, (hx 3).trans h2.c3, (hx 4).trans h2.c4, (hx 5).trans h2.c5, (hx 6).trans h2.c6, (hx 7).trans h2.c7⟩, h3.other hs hk ha.1.1, ⟨b', off', h4, ?_⟩, ihr h6 ha.2.2 hb⟩
    rcases Nat.eq_zero_or_pos k.len with h0 | hp
    · cases k with
      | nil => exact trivial
      | cons x y z => have h3 : z.len + 1 = 0 := h0; omega
    · exact ihk h5 ha.2.1 (ha.1.2 hp _ (h4 hp))

/-- no row of data, no text, no row of limbs is too long to be copied -/
def FewF : Fr → Prop
  | .nil => True
  | .cons h k r => k.len ≤ 1000000 ∧ FewF k ∧ FewF r
theorem FewF.drop : ∀ (j : Nat) {fr : Fr}, FewF fr → FewF (fr.drop j) := by
  intro j
  induction j with
  | zero => intro fr h; exact h
  | succ j ih =>
    intro fr h
    cases fr with
    | nil => exact trivial
    | cons hh k r => exact ih h.2.2

/-- a world in which nothing of what there was is frozen anew -/
structure Still (W W' : World) : Prop where
  size : W.heap.size ≤ W'.heap.size
  frz : ∀ b, b < W.heap.size → ∀ i, W'.frozen? ⟨b, i, none⟩ = W.frozen? ⟨b, i, none⟩
theorem Still.of_below {W W' : World} (h : Below W.heap.size W W') : Still W W' := ⟨h.size, fun b hb i => h.frozen (p := ⟨b, i, none⟩) hb⟩
theorem Still.trans {W V U : World} (h : Still W V) (h' : Still V U) : Still W U := ⟨Nat.le_trans h.size h'.size, fun b hb i => (h'.frz b (Nat.lt_of_lt_of_le hb h.size) i).trans (h.frz b hb i)⟩
theorem Still.ad {W W' : World} (h : Still W W') {b : Nat} (hb : b < W.heap.size ∧ ∀ i, W.frozen? ⟨b, i, none⟩ = false) : b < W'.heap.size ∧ ∀ i, W'.frozen? ⟨b, i, none⟩ = false :=
  ⟨Nat.lt_of_lt_of_le hb.1 h.size, fun i => (h.frz b hb.1 i).trans (hb.2 i)⟩
/-- a datum's blocks can be written -/
def SoftH (w : World) (h : Hd) (n : Nat) : Prop := (0 < h.xs.length → ∀ ad, h.A = some ad → ad.block < w.heap.size ∧ ∀ i, w.frozen? ⟨ad.block, i, none⟩ = false) ∧ (0 < n → ∀ ad, h.B = some ad → ad.block < w.heap.size ∧ ∀ i, w.frozen? ⟨ad.block, i, none⟩ = false)
def SoftF (w : World) : Fr → Prop
  | .nil => True
  | .cons h k r => SoftH w h k.len ∧ SoftF w k ∧ SoftF w r
theorem SoftH.still {W W' : World} {h : Hd} {n : Nat} (s : SoftH W h n) (hs : Still W W') : SoftH W' h n := ⟨fun hx ad e => hs.ad (s.1 hx ad e), fun hx ad e => hs.ad (s.2 hx ad e)⟩
theorem SoftF.still {W W' : World} (hs : Still W W') : ∀ {fr : Fr}, SoftF W fr → SoftF W' fr := by
  intro fr
  induction fr with
  | nil => intro _; exact trivial
  | cons h k r ihk ihr => intro s; exact ⟨s.1.still hs, ihk s.2.1, ihr s.2.2⟩
theorem soft_snoc {w : World} {h : Hd} {k : Fr} (hh : SoftH w h k.len) (hk : SoftF w k) : ∀ {x : Fr}, SoftF w x → SoftF w (x.app (.cons h k .nil)) := by
  intro x
  induction x with
  | nil => intro _; exact ⟨hh, hk, trivial⟩
  | cons a b c _ ih => intro hx; exact ⟨hx.1, hx.2.1, ih hx.2.2⟩

/-- what a copy is -/
def RetCopy (w : World) (h : Hd) (kids : Fr) (e : Ending) (w' : World) : Prop :=
  ∃ h' kids', e = .returned (datA h' kids'.len) ∧ DatV w' h' kids' ∧ AlikeH h h' ∧ AlikeF kids kids' ∧ h'.Ok kids'.len ∧ kids'.Ok ∧ FreshH w.heap.size h' kids'.len ∧ FreshF w.heap.size kids' ∧ Below w.heap.size w w' ∧ SoftH w' h' kids'.len ∧ SoftF w' kids'

/-- what stands between two rounds -/
structure CopyI (w : World) (h1 : Hd) (kids : Fr) (g j : Nat) (W : World) : Prop where
  bel : Below w.heap.size w W
  blk : W.heap[w.heap.size]? = some (datO h1 kids.len)
  zer : W.heap[w.heap.size + 1]? = some zeroO
  rd : Rd W h1.A h1.xs
  lt : g < W.heap.size
  soft : ∀ i, W.frozen? ⟨g, i, none⟩ = false
  sa : 0 < h1.xs.length → ∀ ad, h1.A = some ad → ad.block < W.heap.size ∧ ∀ i, W.frozen? ⟨ad.block, i, none⟩ = false
  row : ∃ x0 done, kids = x0.app (kids.drop j) ∧ AlikeF x0 done ∧ done.len = j ∧ FAt W g 0 (done.app (kids.drop j)) ∧ AwayF g (done.app (kids.drop j)) ∧ FreshF (w.heap.size + 2) done ∧ done.Ok ∧ SoftF W done
theorem heap_lt {W : World} {g : Nat} {o : Obj} (h : W.heap[g]? = some o) : g < W.heap.size := by
  rcases Nat.lt_or_ge g W.heap.size with h2 | h2
  · exact h2
  · rw [Array.getElem?_eq_none h2] at h; cases h
theorem frozen_set {W : World} {p q : Addr} {u : Value} : (W.setCell p u).frozen? q = W.frozen? q := by
  by_cases hb : q.block = p.block
  · unfold World.frozen? World.setCell
    simp only [Array.getElem?_modify, hb, if_pos]
    cases W.heap[p.block]? with
    | none => rfl
    | some o => cases o <;> rfl
  · exact World.frozen?_of_block (Below.heap_setCell W p u _ hb)

theorem set8_below {B g o n : Nat} {w W : World} {h : Hd} (hb : Below B w W) (hg : B ≤ g) : Below B w (set8 W g o h n) :=
  (((((((hb.setCell hg _).setCell hg _).setCell hg _).setCell hg _).setCell hg _).setCell hg _).setCell hg _).setCell hg _
theorem set8_heap {g o n k : Nat} {W : World} {h : Hd} (hk : k ≠ g) : (set8 W g o h n).heap[k]? = W.heap[k]? := by
  unfold set8
  rw [Below.heap_setCell _ _ _ _ hk, Below.heap_setCell _ _ _ _ hk, Below.heap_setCell _ _ _ _ hk, Below.heap_setCell _ _ _ _ hk, Below.heap_setCell _ _ _ _ hk, Below.heap_setCell _ _ _ _ hk, Below.heap_setCell _ _ _ _ hk, Below.heap_setCell _ _ _ _ hk]
theorem set8_frozen {g o n : Nat} {W : World} {h : Hd} {q : Addr} : (set8 W g o h n).frozen? q = W.frozen? q := by
  unfold set8
  rw [frozen_set, frozen_set, frozen_set, frozen_set, frozen_set, frozen_set, frozen_set, frozen_set]
theorem set8_still {g o n : Nat} {W : World} {h : Hd} : Still W (set8 W g o h n) := ⟨by rw [(set8_out W g o h n).size]; exact Nat.le_refl _, fun b _ i => set8_frozen⟩
theorem app_snoc (h : Hd) (k y : Fr) : ∀ x : Fr, (x.app (.cons h k .nil)).app y = x.app (.cons h k y) := by
  intro x
  induction x with
  | nil => rfl
  | cons a b c _ ih => show Fr.cons a b ((c.app (.cons h k .nil)).app y) = _; rw [ih]; rfl
theorem alike_snoc {h h' : Hd} {k k' : Fr} (hh : AlikeH h h') (hk : AlikeF k k') : ∀ {x y : Fr}, AlikeF x y → AlikeF (x.app (.cons h k .nil)) (y.app (.cons h' k' .nil)) := by
  intro x
  induction x with
  | nil => intro y hxy; cases y with
    | nil => exact ⟨hh, hk, trivial⟩
    | cons a b c => exact absurd hxy id
  | cons a b c _ ih => intro y hxy; cases y with
    | nil => exact absurd hxy id
    | cons a' b' c' => exact ⟨hxy.1, hxy.2.1, ih hxy.2.2⟩
theorem fresh_snoc {B : Nat} {h : Hd} {k : Fr} (hh : FreshH B h k.len) (hk : FreshF B k) : ∀ {x : Fr}, FreshF B x → FreshF B (x.app (.cons h k .nil)) := by
  intro x
  induction x with
  | nil => intro _; exact ⟨hh, hk, trivial⟩
  | cons a b c _ ih => intro hx; exact ⟨hx.1, hx.2.1, ih hx.2.2⟩
theorem ok_snoc {h : Hd} {k : Fr} (hh : h.Ok k.len) (hk : k.Ok) : ∀ {x : Fr}, x.Ok → (x.app (.cons h k .nil)).Ok := by
  intro x
  induction x with
  | nil => intro _; exact ⟨hh, hk, trivial⟩
  | cons a b c _ ih => intro hx; exact ⟨hx.1, hx.2.1, ih hx.2.2⟩
/-- a round of copying -/
theorem copy_round {w wr v1 : World} {H1 hh hc : Hd} {kids k r kc : Fr} {g j : Nat} (hI : CopyI w H1 kids g j wr) (hd : kids.drop j = .cons hh k r) (hd1 : kids.drop (j + 1) = r) (hg : w.heap.size + 1 < g) (hA : 0 < H1.xs.length → Off H1.A g)
    (dc : DatV v1 hc kc) (ac : AlikeH hh hc) (afc : AlikeF k kc) (okc : hc.Ok kc.len) (okf : kc.Ok) (frc : FreshH wr.drew.heap.size hc kc.len) (frf : FreshF wr.drew.heap.size kc) (bc : Below wr.drew.heap.size wr.drew v1) (sc : SoftH v1 hc kc.len) (sf : SoftF v1 kc) : CopyI w H1 kids g (j + 1) (set8 v1 g (j * 8) hc kc.len) := by
  obtain ⟨ib, ik, iz, ir, il, ifz, isa, x0, done, ie, ia, idl, iF, iA, iN, iO, iS⟩ := hI
  rw [hd] at iF iA ie
  have hs : wr.drew.heap.size = wr.heap.size := rfl
  have hbd : Below wr.heap.size wr v1 := ⟨bc.os, bc.tape, bc.output, bc.size, bc.block⟩
  have st8 : Still v1 (set8 v1 g (j * 8) hc kc.len) := set8_still
  have hst : Still wr (set8 v1 g (j * 8) hc kc.len) := (Still.of_below hbd).trans st8
  have hlz := heap_lt iz
  have e1 : hc.k = hh.k := ac.1
  have awH : AwayH g hc kc.len := ⟨fun hx ad e => by have := frc.1 hx ad e; show ad.block ≠ g; omega, fun hx ad e => by have := frc.2 hx ad e; show ad.block ≠ g; omega⟩
  have hfs := fat_set (FAt.below hbd _ _ _ iF) iA dc awH (FreshF.away (by omega) frf)
  rw [idl, Nat.zero_add] at hfs
  refine ⟨set8_below (bel_trans (B := w.heap.size) ib hbd) (by omega), ?_, ?_, ?_, ?_, fun i => ?_, fun hx ad e => hst.ad (isa hx ad e), x0.app (.cons hh k .nil), done.app (.cons hc kc .nil), ?_, alike_snoc ac afc ia, ?_, ?_, ?_, ?_, ok_snoc okc okf iO, soft_snoc (sc.still st8) (sf.still st8) (iS.still hst)⟩
  · rw [set8_heap (by omega)]; exact (hbd.block _ (by omega)).trans ik
  · rw [set8_heap (by omega)]; exact (hbd.block _ hlz).trans iz
  · exact (set8_out v1 g (j * 8) hc kc.len).rd (ir.below hbd) hA
  · rw [(set8_out v1 g (j * 8) hc kc.len).size]; have := hbd.size; omega
  · rw [set8_frozen]; exact (hbd.frozen (p := ⟨g, i, none⟩) il).trans (ifz i)
  · rw [hd1, app_snoc]; exact ie
  · rw [app_len]; show done.len + (0 + 1) = j + 1; omega
  · rw [hd1, app_snoc]; exact hfs.1
  · rw [hd1, app_snoc]; exact hfs.2
  · exact fresh_snoc ⟨fun hx ad e => by have := frc.1 hx ad e; omega, fun hx ad e => by have := frc.2 hx ad e; omega⟩ (FreshF.mono (by omega) frf) iN

abbrev zeroHd : Hd := ⟨0, 0, false, 0, false, none, [], 0, ⟨#[]⟩, none, 0⟩
abbrev set8z (w : World) (g : Nat) (h : Hd) (n : Nat) : World :=
  (((((((w.setCell ⟨g, 0, none⟩ (.int .i64 h.k)).setCell ⟨g, 1, none⟩ (.int .i64 h.n)).setCell ⟨g, 2, none⟩ (.bool h.fl)).setCell ⟨g, 3, none⟩ (.float .f64 h.f)).setCell ⟨g, 4, none⟩ (.bool h.s)).setCell ⟨g, 5, none⟩ (.slice h.A h.xs.length h.c)).setCell ⟨g, 6, none⟩ (.string h.t)).setCell ⟨g, 7, none⟩ (.slice h.B n h.cap)
/-- a datum is stored into the variable of a result -/
theorem result_dat {w W : World} {g B : Nat} {h : Hd} {n : Nat} (hz : W.heap[g]? = some zeroO) (hb : Below B w W) (hg : B ≤ g) : ∃ WF, set8z W g h n = WF ∧ C8 WF g 0 h n ∧ Out8 g 0 W WF ∧ Below B w WF ∧ Still W WF := by
  have hc : C8 W g 0 zeroHd 0 := C8.of_block hz
  refine ⟨set8 W g 0 h n, rfl, set8_c8 hc h n, set8_out W g 0 h n, ?_, set8_still⟩
  exact (((((((hb.setCell hg _).setCell hg _).setCell hg _).setCell hg _).setCell hg _).setCell hg _).setCell hg _).setCell hg _
theorem zero_facts {W : World} {g : Nat} (hz : W.heap[g]? = some zeroO) :
    W.cell? ⟨g, 0, none⟩ = some (.int .i64 0) ∧ W.cell? ⟨g, 1, none⟩ = some (.int .i64 0) ∧ W.cell? ⟨g, 2, none⟩ = some (.bool false) ∧ W.cell? ⟨g, 3, none⟩ = some (.float .f64 0) ∧ W.cell? ⟨g, 4, none⟩ = some (.bool false) ∧ W.cell? ⟨g, 5, none⟩ = some (.slice none 0 0) ∧ W.cell? ⟨g, 6, none⟩ = some (.string ⟨#[]⟩) ∧ W.cell? ⟨g, 7, none⟩ = some (.slice none 0 0) ∧
    W.frozen? ⟨g, 0, none⟩ = false ∧ W.frozen? ⟨g, 1, none⟩ = false ∧ W.frozen? ⟨g, 2, none⟩ = false ∧ W.frozen? ⟨g, 3, none⟩ = false ∧ W.frozen? ⟨g, 4, none⟩ = false ∧ W.frozen? ⟨g, 5, none⟩ = false ∧ W.frozen? ⟨g, 6, none⟩ = false ∧ W.frozen? ⟨g, 7, none⟩ = false ∧ g < W.heap.size := by
  refine ⟨ob_cell hz 0, ob_cell hz 1, ob_cell hz 2, ob_cell hz 3, ob_cell hz 4, ob_cell hz 5, ob_cell hz 6, ob_cell hz 7, ob_free hz 0 (by decide), ob_free hz 1 (by decide), ob_free hz 2 (by decide), ob_free hz 3 (by decide), ob_free hz 4 (by decide), ob_free hz 5 (by decide), ob_free hz 6 (by decide), ob_free hz 7 (by decide), ?_⟩
  rcases Nat.lt_or_ge g W.heap.size with h2 | h2
  · exact h2
  · rw [Array.getElem?_eq_none h2] at hz; cases hz
theorem drop_all (fr : Fr) : fr.drop fr.len = .nil := by
  have h1 := Fr.len_drop fr.len fr
  cases h2 : fr.drop fr.len with
  | nil => rfl
  | cons x y z => rw [h2] at h1; have h3 : z.len + 1 = fr.len - fr.len := h1; omega
theorem app_nil : ∀ (x : Fr), x.app .nil = x := by
  intro x
  induction x with
  | nil => rfl
  | cons h k r _ ih => show Fr.cons h k (r.app .nil) = _; rw [ih]

set_option maxRecDepth 100000 in
set_option maxHeartbeats 8000000 in
theorem dcopied_any : ∀ (m : Nat) (kids : Fr), kids.size < m → kids.Ok → FewF kids → kids.len ≤ 1000000 → ∀ (h : Hd) (w : World), DatV w h kids → h.Ok kids.len → Calls Tryz.prog 38 #[datA h kids.len] w (RetCopy w h kids) := by
  intro m
  induction m with
  | zero => intro kids h; omega
  | succ m ih =>
    intro kids hsz hok hfew hlen h w hd hho
    obtain ⟨W0, hW0⟩ : ∃ W0, (w.alloc (datO h kids.len)).alloc (zeroO) = W0 := ⟨_, rfl⟩
    have hb0 : Below w.heap.size w W0 := by rw [← hW0]; exact ((Below.refl _ w).alloc (Nat.le_refl _) _).alloc (by simp) _
    have hO : Obs W0 [(w.heap.size + 1, zeroO), (w.heap.size, datO h kids.len)] := by
      rw [← hW0]
      have h1 := (Obs.nil.new (w := w) (datO h kids.len)).new (zeroO)
      simp only [World.size_alloc] at h1
      exact h1
    obtain ⟨x0, x1, x2, x3, x4, x5, x6, x7⟩ := C8.of_block hO.tl.hd
    have HW0 := Lib.hid hW0
    have HB0 := Lib.hid hb0
    have O0 := Lib.hid hO
    have HT := Lib.hid fun W => dclone_any h.t W hho.t
    have HL := Lib.hid fun W (hW : Below w.heap.size w W) => dclone_limbs2 h.xs h.A h.c W (hd.xs.below hW) hho.sA hho.c.1 hho.nA (by have := hho.l; omega)
    have HI := Lib.hid fun W (hW : Below w.heap.size w W) => dclone_data2 kids h.B h.cap W (hd.below hW).items hho.sB hho.cap.1 hho.nB hlen
    clear hW0 hb0 hO
    go_enter Tryz.func38, Tryz.ntmps38
    go_wp2_with (fail)
    rw [HW0.out]
    refine (HT.out _).mono ?_
    rintro e w1 ⟨rfl, hb1⟩
    have O1 := Lib.hid (O0.out.below hb1)
    have HB1 := Lib.hid (bel_trans (B := w.heap.size) HB0.out hb1)
    clear hb1 x0 x1 x2 x3 x4 x5 x6 x7
    obtain ⟨x0, x1, x2, x3, x4, x5, x6, x7⟩ := C8.of_block O1.out.tl.hd
    have fz := fun i hi => ob_free O1.out.tl.hd i hi
    have hl1 : w.heap.size < w1.heap.size := by
      have h1 := O1.out.tl.hd
      rcases Nat.lt_or_ge w.heap.size w1.heap.size with h2 | h2
      · exact h2
      · rw [Array.getElem?_eq_none h2] at h1; cases h1
    have f6 := fz 6 (by simp)
    clear fz
    obtain ⟨W1, hW1, Y1, hb1, ho1, hz1⟩ := stored_dat O1.out.tl.hd HB1.out (Nat.le_refl _) (i := 6) (v := .string h.t) (h' := h) (n' := kids.len) (by unfold head8; rfl)
    have HW1 := Lib.hid hW1
    have YY1 := Lib.hid Y1
    have HBY1 := Lib.hid hb1
    have Z1 := Lib.hid ((ho1 _ (by omega)).trans O1.out.hd)
    obtain ⟨y0, y1, y2, y3, y4, y5, y6, y7⟩ := C8.of_block Y1
    clear hW1 Y1 hb1 ho1 hz1
    go_wp2_with (fail)
    rw [HW1.out]
    refine (HL.out _ HBY1.out).mono ?_
    rintro e w2 ⟨A2, c2, rfl, hr2, ha2, hc2, hcm2, hn2, hb2, hs2⟩
    have HB2 := Lib.hid (bel_trans (B := w.heap.size) HBY1.out hb2)
    have hlw1 : w.heap.size + 1 < W1.heap.size := by
      have h1 := Z1.out
      rcases Nat.lt_or_ge (w.heap.size + 1) W1.heap.size with h2 | h2
      · exact h2
      · rw [Array.getElem?_eq_none h2] at h1; cases h1
    have X2 := Lib.hid ((hb2.block w.heap.size (by omega)).trans YY1.out)
    have Z2 := Lib.hid ((hb2.block (w.heap.size + 1) hlw1).trans Z1.out)
    have f5 := ob_free X2.out 5 (by simp)
    have hl2 : w.heap.size < w2.heap.size := by have := hb2.size; omega
    obtain ⟨W2, hW2, Y2, hb3, ho2, hz2⟩ := stored_dat X2.out HB2.out (Nat.le_refl _) (i := 5) (v := .slice A2 h.xs.length c2) (h' := { h with A := A2, c := c2 }) (n' := kids.len) (by unfold head8; rfl)
    have R2 := Lib.hid (hr2.other hz2 ho2 (fun _ ad e => by have := (ha2 ad e).1; omega))
    have hsa2 : ∀ ad, A2 = some ad → ad.block < W2.heap.size ∧ ∀ i, W2.frozen? ⟨ad.block, i, none⟩ = false := fun ad e => ⟨by rw [hz2]; exact (hs2 ad e).1, fun i => by rw [← hW2, frozen_set]; exact (hs2 ad e).2 i⟩
    have HSA2 := Lib.hid hsa2
    have HA2 := Lib.hid ha2
    have HW2 := Lib.hid hW2
    have YY2 := Lib.hid Y2
    have HBY2 := Lib.hid hb3
    have ZZ2 := Lib.hid ((ho2 _ (by omega)).trans Z2.out)
    have HN2 := Lib.hid hn2
    obtain ⟨u0, u1, u2, u3, u4, u5, u6, u7⟩ := C8.of_block X2.out
    clear hsa2 hs2 hW2 Y2 hb3 ho2 hz2 hb2 hr2 ha2 hn2 y0 y1 y2 y3 y4 y5 y6 y7 x0 x1 x2 x3 x4 x5 x6 x7
    go_wp2_with (fail)
    rw [HW2.out]
    refine (HI.out _ HBY2.out).mono ?_
    rintro e w3 ⟨B3, cap3, rfl, hB3, hc3, hcm3, hn3, hb4⟩
    have HB3 := Lib.hid (bel_trans (B := w.heap.size) HBY2.out hb4)
    have hlw2 : w.heap.size + 1 < W2.heap.size := by
      have h1 := ZZ2.out
      rcases Nat.lt_or_ge (w.heap.size + 1) W2.heap.size with h2 | h2
      · exact h2
      · rw [Array.getElem?_eq_none h2] at h1; cases h1
    have X3 := Lib.hid ((hb4.block w.heap.size (by omega)).trans YY2.out)
    have Z3 := Lib.hid ((hb4.block (w.heap.size + 1) hlw2).trans ZZ2.out)
    have R3 := Lib.hid (R2.out.below hb4)
    have f7 := ob_free X3.out 7 (by simp)
    have hl3 : w.heap.size < w3.heap.size := by have := hb4.size; omega
    obtain ⟨W3, hW3, Y3, hb5, ho3, hz3⟩ := stored_dat X3.out HB3.out (Nat.le_refl _) (i := 7) (v := .slice B3 kids.len cap3) (h' := { h with A := A2, c := c2, B := B3, cap := cap3 }) (n' := kids.len) (by unfold head8; rfl)
    have R4 := Lib.hid (R3.out.other hz3 ho3 (fun _ ad e => by have := (HA2.out ad e).1; omega))
    have HW3 := Lib.hid hW3
    have YY3 := Lib.hid Y3
    have HBY3 := Lib.hid hb5
    have ZZ3 := Lib.hid ((ho3 _ (by omega)).trans Z3.out)
    have HN3 := Lib.hid hn3
    have hsa3 : ∀ ad, A2 = some ad → ad.block < W3.heap.size ∧ ∀ i, W3.frozen? ⟨ad.block, i, none⟩ = false := fun ad e => by
      have h1 := (Still.of_below hb4).ad (HSA2.out ad e)
      exact ⟨by rw [hz3]; exact h1.1, fun i => by rw [← hW3, frozen_set]; exact h1.2 i⟩
    have HSA3 := Lib.hid hsa3
    obtain ⟨v0, v1, v2, v3, v4, v5, v6, v7⟩ := C8.of_block X3.out
    clear hsa3 hW3 Y3 hb5 hn3 u0 u1 u2 u3 u4 u5 u6 u7
    go_wp2_with (fail)
    rw [HW3.out]
    cases B3 with
    | none =>
      obtain ⟨h0, rfl⟩ := HN3.out rfl
      have hk0 : kids = .nil := by
        cases kids with
        | nil => rfl
        | cons x y z => have h3 : z.len + 1 = 0 := h0; omega
      subst hk0
      obtain ⟨WF, hWF, CF, OF, hbF, sWF⟩ := result_dat (h := { h with A := A2, c := c2, B := none, cap := 0 }) (n := 0) ZZ3.out HBY3.out (Nat.le_succ _)
      dsimp only [set8z] at hWF
      have HWF := Lib.hid hWF
      have RF := Lib.hid (OF.rd R4.out (fun _ ad e => by have := (HA2.out ad e).1; show ad.block ≠ _; omega))
      have HBF := Lib.hid hbF
      have SWF := Lib.hid sWF
      obtain ⟨q0, q1, q2, q3, q4, q5, q6, q7⟩ := CF
      dsimp only [Nat.zero_add] at q0 q1 q2 q3 q4 q5 q6 q7
      obtain ⟨t0, t1, t2, t3, t4, t5, t6, t7⟩ := C8.of_block YY3.out
      obtain ⟨z0, z1, z2, z3, z4, z5, z6, z7, e0, e1, e2, e3, e4, e5, e6, e7, el⟩ := zero_facts ZZ3.out
      clear sWF hWF OF hbF
      go_loopg [23] 0 (fun kk i wr => wr = W3 ∧ i = .int .i64 0)
      case atStart => exact ⟨rfl, rfl⟩
      case round =>
        obtain ⟨rfl, rfl⟩ := hrel
        go_wp2_with (fail)
        rw [HWF.out]
        refine bodyPost_ret (v := datA { h with A := A2, c := c2, B := none, cap := 0 } 0) (by simp [results, Tryz.results38, go_sem, q0, q1, q2, q3, q4, q5, q6, q7]) rfl ?_
        exact ⟨{ h with A := A2, c := c2, B := none, cap := 0 }, .nil, rfl, ⟨RF.out, 0, 0, fun h => absurd h (by decide), trivial⟩, ⟨rfl, rfl, rfl, rfl, rfl, rfl, rfl⟩, trivial, ⟨hho.k, hho.n, hho.f, hho.lm, ⟨hc2, hcm2⟩, HN2.out, hho.l, hho.t, ⟨Nat.le_refl _, by show 0 ≤ 9223372036854775807; decide⟩, fun _ => ⟨rfl, rfl⟩, fun ad e _ => (HA2.out ad e).2, fun ad e _ => by cases e⟩, trivial,
          ⟨fun _ ad e => by have := (HA2.out ad e).1; have := HBY1.out.size; show w.heap.size ≤ ad.block; omega, fun h => absurd h (by decide)⟩, trivial, HBF.out, ⟨fun _ ad e => SWF.out.ad (HSA3.out ad e), fun h => absurd h (by decide)⟩, trivial⟩
    | some ad =>
      obtain ⟨g, rfl, hg1, hg2, hF3, hfz3⟩ := hB3 _ rfl
      have hfz4 : ∀ i, W3.frozen? ⟨g, i, none⟩ = false := fun i => (World.frozen?_of_block (w := w3) (a := ⟨g, i, none⟩) (ho3 g (by omega))).trans (hfz3 i)
      have hgl : w.heap.size + 1 < g := by omega
      have aw3 : AwayF g kids := by
        obtain ⟨b, off, -, hF⟩ := hd.items
        exact away_old (by omega) hF
      have F3 := Lib.hid (FAt.other hz3 ho3 hF3 (by
        obtain ⟨b, off, -, hF⟩ := hd.items
        exact away_old (Nat.le_refl _) hF) (by omega))
      have AW3 := Lib.hid aw3
      have HG3 := Lib.hid hg1
      have HSZ := Lib.hid hsz
      have HOK := Lib.hid hok
      have HFW := Lib.hid hfew
      have IH := Lib.hid ih
      have HHO := Lib.hid hho
      have hgs : g < W3.heap.size := by omega
      obtain ⟨H1, hH1⟩ : ∃ H1 : Hd, H1 = { h with A := A2, c := c2, B := some ⟨g, 0, none⟩, cap := cap3 } := ⟨_, rfl⟩
      have HH1 := Lib.hid hH1
      clear hfz3 hB3 hF3 aw3 hg1 hsz hok hfew ih hho hd ho3 hz3
      have hst : CopyI w H1 kids g 0 W3 := ⟨HBY3.out, by rw [hH1]; exact YY3.out, ZZ3.out, by rw [hH1]; exact R4.out, hgs, hfz4, by rw [hH1]; exact fun _ ad e => HSA3.out ad e, .nil, .nil, rfl, trivial, rfl, F3.out, AW3.out, trivial, trivial, trivial⟩
      have HST := Lib.hid hst
      clear hst
      go_loopg [23] kids.len (fun kk i wr => ∃ j : Nat, j ≤ kids.len ∧ kk = kids.len - j ∧ i = .int .i64 (j : Int) ∧ CopyI w H1 kids g j wr)
      case atStart => exact ⟨0, Nat.zero_le _, rfl, rfl, HST.out⟩
      case round =>
        obtain ⟨j, hj, rfl, rfl, hI⟩ := hrel
        have HI2 := Lib.hid hI
        obtain ⟨ib, ik, iz, ir, il, ifz, isa, x0, done, ie, ia, idl, iF, iA, iN, iO, iS⟩ := hI
        rw [hH1] at ik
        by_cases hjl : j < kids.len
        · obtain ⟨hh, k, r, hdr, hdr1⟩ := Fr.cons_of_lt hjl
          rw [hdr] at iF iA ie
          have f2 := (fat_app.1 iF).2
          rw [idl, Nat.zero_add] at f2
          obtain ⟨-, C, D, -⟩ := f2.hd
          have hks := size_item hdr
          have hko := HOK.out.drop j
          have hkf := HFW.out.drop j
          rw [hdr] at hko hkf
          have CL := Lib.hid (IH.out k (by have := HSZ.out; omega) hko.2.1 hkf.2.1 hkf.1 hh wr.drew (D.below ((Below.refl _ wr).drew)) hko.1)
          have KS : Hid (∀ W, (W.heap[w.heap.size]? = some (datO { h with A := A2, c := c2, B := some ⟨g, 0, none⟩, cap := cap3 } kids.len) ∧ C8 W g (j * 8) hh k.len) → W.cell? ⟨w.heap.size, 7, none⟩ = some (.slice (some ⟨g, 0, none⟩) kids.len cap3) ∧ W.cell? ⟨g, j * 8, none⟩ = some (.int .i64 hh.k) ∧ W.cell? ⟨g, j * 8 + 1, none⟩ = some (.int .i64 hh.n) ∧ W.cell? ⟨g, j * 8 + 2, none⟩ = some (.bool hh.fl) ∧ W.cell? ⟨g, j * 8 + 3, none⟩ = some (.float .f64 hh.f) ∧ W.cell? ⟨g, j * 8 + 4, none⟩ = some (.bool hh.s) ∧ W.cell? ⟨g, j * 8 + 5, none⟩ = some (.slice hh.A hh.xs.length hh.c) ∧ W.cell? ⟨g, j * 8 + 6, none⟩ = some (.string hh.t) ∧ W.cell? ⟨g, j * 8 + 7, none⟩ = some (.slice hh.B k.len hh.cap)) := Lib.hid fun W hP => ⟨ob_cell hP.1 7, hP.2.c0, hP.2.c1, hP.2.c2, hP.2.c3, hP.2.c4, hP.2.c5, hP.2.c6, hP.2.c7⟩
          have P0 : Hid (wr.drew.heap[w.heap.size]? = some (datO { h with A := A2, c := c2, B := some ⟨g, 0, none⟩, cap := cap3 } kids.len) ∧ C8 wr.drew g (j * 8) hh k.len) := Lib.hid ⟨ik, C.keep ((Below.refl wr.heap.size wr).drew) il⟩
          have hlw := heap_lt ik
          have hgw : g ≠ w.heap.size := by omega
          have HDR0 := Lib.hid hdr
          have KP : Hid (∀ W, Below wr.drew.heap.size wr.drew W → W.cell? ⟨w.heap.size, 7, none⟩ = some (.slice (some ⟨g, 0, none⟩) kids.len cap3)) := Lib.hid fun W hW => ob_cell ((hW.block _ hlw).trans ik) 7
          have KF : Hid (∀ W, Below wr.drew.heap.size wr.drew W → ∀ i, W.frozen? ⟨g, i, none⟩ = false) := Lib.hid fun W hW i => (hW.frozen (p := ⟨g, i, none⟩) il).trans (ifz i)
          have KC : Hid (∀ W, Below wr.drew.heap.size wr.drew W → C8 W g (j * 8) hh k.len) := Lib.hid fun W hW => (C.keep ((Below.refl wr.heap.size wr).drew) il).keep hW il
          have HIL := Lib.hid il
          have HIB := Lib.hid ib
          have HD1 := Lib.hid hdr1
          have P0 := Lib.hid (KP.out _ (Below.refl _ _))
          obtain ⟨n0, n1, n2, n3, n4, n5, n6, n7⟩ := KC.out _ (Below.refl _ _)
          clear isa iS hlw ifz hfz4 hdr hdr1 C D hks hko hkf ie ia iF iA iN iO ir iz ik ib f2
          go_wp2_with (fail)
          refine wp_region_held_drew (S := fun W => W.cell? ⟨w.heap.size, 7, none⟩ = some (.slice (some ⟨g, 0, none⟩) kids.len cap3)) (by kernel_rfl) P0.out (fun hHeld => ?_)
          refine wpAnyH_take (i := 0) (v := ?v0) rfl (by kernel_rfl) (by kernel_rfl) (by kernel_rfl) (fun _ _ _ h => h) (Or.inl ⟨by rfl, ?y0⟩) hHeld ?r0
          case y0 =>
            intro W hSw
            go_simp
            all_goals (with_reducible rfl)
          change wpAnyH _ _ _ _ _ _ _ (Act.put _ (some 26) _) _
          simp only [Act.put, List.setIfInBounds_toArray, List.set_cons_zero, List.set_cons_succ]
          refine wpAnyH_take (i := 1) (v := ?v1) rfl (by kernel_rfl) (by kernel_rfl) (by kernel_rfl) (fun _ _ _ h => h) (Or.inl ⟨by rfl, ?y1⟩) hHeld ?r1
          case y1 =>
            intro W hSw
            go_simp
            all_goals (with_reducible rfl)
          change wpAnyH _ _ _ _ _ _ _ (Act.put _ (some 27) _) _
          simp only [Act.put, List.setIfInBounds_toArray, List.set_cons_zero, List.set_cons_succ]
          refine wpAnyH_take (i := 2) (v := ?v2) rfl (by kernel_rfl) (by kernel_rfl) (by kernel_rfl) (fun _ _ _ h => h) (Or.inl ⟨by rfl, ?y2⟩) hHeld ?r2
          case y2 =>
            intro W hSw
            go_simp
            all_goals (with_reducible rfl)
          change wpAnyH _ _ _ _ _ _ _ (Act.put _ (some 28) _) _
          simp only [Act.put, List.setIfInBounds_toArray, List.set_cons_zero, List.set_cons_succ]
          refine wpAnyH_take (i := 3) (v := ?v3) rfl (by kernel_rfl) (by kernel_rfl) (by kernel_rfl) (fun _ _ _ h => h) (Or.inl ⟨by rfl, ?y3⟩) hHeld ?r3
          case y3 =>
            intro W hSw
            go_simp
            all_goals (with_reducible rfl)
          change wpAnyH _ _ _ _ _ _ _ (Act.put _ (some 29) _) _
          simp only [Act.put, List.setIfInBounds_toArray, List.set_cons_zero, List.set_cons_succ]
          refine wpAnyH_take (i := 4) (v := ?v4) rfl (by kernel_rfl) (by kernel_rfl) (by kernel_rfl) (fun _ _ _ h => h) (Or.inl ⟨by rfl, ?y4⟩) hHeld ?r4
          case y4 =>
            intro W hSw
            go_simp
            all_goals (with_reducible rfl)
          change wpAnyH _ _ _ _ _ _ _ (Act.put _ (some 30) _) _
          simp only [Act.put, List.setIfInBounds_toArray, List.set_cons_zero, List.set_cons_succ]
          refine wpAnyH_take (i := 5) (v := ?v5) rfl (by kernel_rfl) (by kernel_rfl) (by kernel_rfl) (fun _ _ _ h => h) (Or.inl ⟨by rfl, ?y5⟩) hHeld ?r5
          case y5 =>
            intro W hSw
            go_simp
            all_goals (with_reducible rfl)
          change wpAnyH _ _ _ _ _ _ _ (Act.put _ (some 31) _) _
          simp only [Act.put, List.setIfInBounds_toArray, List.set_cons_zero, List.set_cons_succ]
          refine wpAnyH_take (i := 6) (v := ?v6) rfl (by kernel_rfl) (by kernel_rfl) (by kernel_rfl) (fun _ _ _ h => h) (Or.inl ⟨by rfl, ?y6⟩) hHeld ?r6
          case y6 =>
            intro W hSw
            go_simp
            all_goals (with_reducible rfl)
          change wpAnyH _ _ _ _ _ _ _ (Act.put _ (some 32) _) _
          simp only [Act.put, List.setIfInBounds_toArray, List.set_cons_zero, List.set_cons_succ]
          refine wpAnyH_ready (rs := [7]) (by kernel_rfl) (by simp) ?_
          refine AllReadyH.cons rfl (fun K hK => ?_) AllReadyH.nil
          go_simp
          refine hK.out _ _ P0.out (fun hHeld => ?_)
          clear hK K
          refine wpAnyH_ready (rs := [8]) (by kernel_rfl) (by simp) ?_
          refine AllReadyH.cons rfl (fun K hK => ?_) AllReadyH.nil
          go_simp
          refine CL.out.mono ?_
          rintro e v1 ⟨hc, kc, rfl, dc, ac, afc, okc, okf, frc, frf, bc, sfc, sff⟩
          have P1 := Lib.hid (KP.out _ bc)
          have HCI := Lib.hid (copy_round HI2.out HDR0.out HD1.out hgl (by rw [hH1]; exact fun hx => R2.out.off hx HG3.out) dc ac afc okc okf frc frf bc sfc sff)
          have PZ := Lib.hid (((set8_out v1 g (j * 8) hc kc.len).cell _ 7 (.inl (fun e => hgw e.symm))).trans P1.out)
          have FZ1 := KF.out _ bc
          have fz0 := FZ1 (j * 8)
          have fz1 := FZ1 (j * 8 + 1)
          have fz2 := FZ1 (j * 8 + 2)
          have fz3 := FZ1 (j * 8 + 3)
          have fz4 := FZ1 (j * 8 + 4)
          have fz5 := FZ1 (j * 8 + 5)
          have fz6 := FZ1 (j * 8 + 6)
          have fz7 := FZ1 (j * 8 + 7)
          obtain ⟨m0, m1, m2, m3, m4, m5, m6, m7⟩ := KC.out _ bc
          have DC := Lib.hid dc
          have AC := Lib.hid ac
          have AFC := Lib.hid afc
          have OKC := Lib.hid okc
          have OKF := Lib.hid okf
          have FRC := Lib.hid frc
          have FRF := Lib.hid frf
          have BC := Lib.hid bc
          clear sfc sff FZ1 dc ac afc okc okf frc frf bc hHeld
          refine hK.out _ _ P1.out (fun hHeld => ?_)
          clear hK K
          refine wpAnyH_take (i := 9) (v := ?v9) rfl (by kernel_rfl) (by kernel_rfl) (by kernel_rfl) (fun _ _ _ h => h) (Or.inl ⟨by rfl, ?y9⟩) hHeld ?r9
          case y9 =>
            intro W hSw
            go_simp
            all_goals (with_reducible rfl)
          change wpAnyH _ _ _ _ _ _ _ (Act.put _ (some 35) _) _
          simp only [Act.put, List.setIfInBounds_toArray, List.set_cons_zero, List.set_cons_succ]
          refine wpAnyH_ready (rs := [10]) (by kernel_rfl) (by simp) ?_
          refine AllReadyH.cons rfl (fun K hK => ?_) AllReadyH.nil
          go_simp
          refine hK.out _ _ PZ.out (fun hHeld => ?_)
          clear hK K
          refine wpAnyH_done (by kernel_rfl) ?_ _
          obtain ⟨WF, hWF⟩ : ∃ W, set8 v1 g (j * 8) hc kc.len = W := ⟨_, rfl⟩
          have hci := HCI.out
          rw [hWF] at hci
          have HCI2 := Lib.hid hci
          dsimp only [set8] at hWF
          rw [hWF]
          clear hci hWF m0 m1 m2 m3 m4 m5 m6 m7 n0 n1 n2 n3 n4 n5 n6 n7 fz0 fz1 fz2 fz3 fz4 fz5 fz6 fz7 hHeld
          go_wp2_with (fail)
          go_roundg (kids.len - (j + 1))
          case measure => omega
          case rel => exact ⟨j + 1, by omega, rfl, by go_num, HCI2.out⟩
        · have hje : j = kids.len := by omega
          subst hje
          rw [drop_all, app_nil] at ie iF iA
          subst ie
          obtain ⟨WF, hWF, CF, OF, hbF, sWF⟩ := result_dat (h := { h with A := A2, c := c2, B := some ⟨g, 0, none⟩, cap := cap3 }) (n := kids.len) iz ib (Nat.le_succ _)
          have rf := OF.rd ir (by rw [hH1]; exact fun _ ad e => by have := (HA2.out ad e).1; show ad.block ≠ _; omega)
          have ff := OF.fat iF (FreshF.away (by omega) iN) (.inl (by omega))
          rw [hH1] at rf
          dsimp only [set8z] at hWF
          have HWF := Lib.hid hWF
          have RF := Lib.hid rf
          have FF := Lib.hid ff
          have HBF := Lib.hid hbF
          have HIA := Lib.hid ia
          have HIN := Lib.hid iN
          have HIO := Lib.hid iO
          have SWF := Lib.hid sWF
          have HSF := Lib.hid (iS.still sWF)
          rw [hH1] at isa
          have HSA := Lib.hid (show ∀ _ : 0 < h.xs.length, ∀ ad, A2 = some ad → ad.block < wr.heap.size ∧ ∀ i, wr.frozen? ⟨ad.block, i, none⟩ = false from isa)
          have HSG := Lib.hid (show g < wr.heap.size ∧ ∀ i, wr.frozen? ⟨g, i, none⟩ = false from ⟨il, ifz⟩)
          have hlen2 := ia.len
          obtain ⟨q0, q1, q2, q3, q4, q5, q6, q7⟩ := CF
          dsimp only [Nat.zero_add] at q0 q1 q2 q3 q4 q5 q6 q7
          obtain ⟨t0, t1, t2, t3, t4, t5, t6, t7⟩ := C8.of_block ik
          obtain ⟨z0, z1, z2, z3, z4, z5, z6, z7, e0, e1, e2, e3, e4, e5, e6, e7, el⟩ := zero_facts iz
          clear sWF isa iS hWF OF hbF rf ff ia iN iO iF iA ir ik iz ib ifz il
          go_wp2_with (fail)
          rw [HWF.out]
          refine bodyPost_ret (v := datA { h with A := A2, c := c2, B := some ⟨g, 0, none⟩, cap := cap3 } kids.len) (by simp [results, Tryz.results38, go_sem, q0, q1, q2, q3, q4, q5, q6, q7]) rfl ?_
          have hho := HHO.out
          have hs1 := HBY1.out.size
          refine ⟨{ h with A := A2, c := c2, B := some ⟨g, 0, none⟩, cap := cap3 }, done, by rw [hlen2], ⟨RF.out, g, 0, fun _ => rfl, FF.out⟩, ⟨rfl, rfl, rfl, rfl, rfl, rfl, rfl⟩, HIA.out, ?_, HIO.out, ?_, FreshF.mono (by omega) HIN.out, HBF.out, ⟨fun hx ad e => SWF.out.ad (HSA.out hx ad e), fun _ ad e => by injection e with e; subst e; exact SWF.out.ad HSG.out⟩, HSF.out⟩
          · rw [hlen2]
            exact ⟨hho.k, hho.n, hho.f, hho.lm, ⟨hc2, hcm2⟩, HN2.out, hho.l, hho.t, ⟨hc3, hcm3⟩, fun e => (by cases e), fun ad e _ => (HA2.out ad e).2, fun ad e _ => (by injection e with e; subst e; rfl)⟩
          · exact ⟨fun _ ad e => by have := (HA2.out ad e).1; show w.heap.size ≤ ad.block; omega, fun _ ad e => by injection e with e; subst e; show w.heap.size ≤ g; omega⟩
end LM
end Go.Proofs.YtnpmfailpgbggaaGreatDoor

namespace Go.Proofs.YtnpmfailpgbggaaGreatDoor
open Go Go.RowKit
namespace LM
set_option linter.unusedVariables false

/-- a value written over by another of its kind -/
inductive KindOf : Value → Value → Prop
  | same (v : Value) : KindOf v v
  | int (a b : Int) : KindOf (.int .i64 a) (.int .i64 b)
  | limb (a b : Nat) : KindOf (.int .u32 (a : Int)) (.int .u32 (b : Int))
  | text (a b : ByteArray) : KindOf (.string a) (.string b)
theorem KindOf.trans {a b c : Value} (h : KindOf a b) (h' : KindOf b c) : KindOf a c := by
  cases h with
  | same => exact h'
  | int x y => cases h' with
    | same => exact .int x y
    | int _ z => exact .int x z
  | limb x y =>
    generalize hv : Value.int .u32 (y : Int) = v at h'
    cases h' with
    | same => subst hv; exact .limb x y
    | int _ z => cases hv
    | limb _ z => exact .limb x z
    | text _ z => cases hv
  | text x y => cases h' with
    | same => exact .text x y
    | text _ z => exact .text x z
/-- a world in which cells were written over by others of their kind -/
structure Spt (W W' : World) : Prop where
  size : W.heap.size ≤ W'.heap.size
  frz : ∀ b, b < W.heap.size → ∀ i, W'.frozen? ⟨b, i, none⟩ = W.frozen? ⟨b, i, none⟩
  cell : ∀ b i v, b < W.heap.size → W.cell? ⟨b, i, none⟩ = some v → ∃ v', W'.cell? ⟨b, i, none⟩ = some v' ∧ KindOf v v'
theorem Spt.refl (W : World) : Spt W W := ⟨Nat.le_refl _, fun _ _ _ => rfl, fun b i v _ h => ⟨v, h, .same v⟩⟩
theorem Spt.trans {W V U : World} (h : Spt W V) (h' : Spt V U) : Spt W U :=
  ⟨Nat.le_trans h.size h'.size, fun b hb i => (h'.frz b (Nat.lt_of_lt_of_le hb h.size) i).trans (h.frz b hb i), fun b i v hb hv => by
    obtain ⟨v1, h1, k1⟩ := h.cell b i v hb hv
    obtain ⟨v2, h2, k2⟩ := h'.cell b i v1 (Nat.lt_of_lt_of_le hb h.size) h1
    exact ⟨v2, h2, k1.trans k2⟩⟩
theorem Spt.of_below {W W' : World} (h : Below W.heap.size W W') : Spt W W' :=
  ⟨h.size, fun b hb i => h.frozen (p := ⟨b, i, none⟩) hb, fun b i v hb hv => ⟨v, (h.cell (p := ⟨b, i, none⟩) hb).trans hv, .same v⟩⟩
theorem Spt.still {W W' : World} (h : Spt W W') : Still W W' := ⟨h.size, h.frz⟩
/-- one cell, written over by another of its kind -/
theorem Spt.set {W : World} {g j : Nat} {u v : Value} (hu : W.cell? ⟨g, j, none⟩ = some u) (hk : KindOf u v) : Spt W (W.setCell ⟨g, j, none⟩ v) := by
  refine ⟨by simp [World.setCell], fun b _ i => frozen_set, fun b i x _ hx => ?_⟩
  by_cases hbi : b = g ∧ i = j
  · obtain ⟨rfl, rfl⟩ := hbi
    rw [hx] at hu
    injection hu with hu
    subst hu
    refine ⟨v, ?_, hk⟩
    exact World.cell?_setCell_same _ _ _ hx
  · refine ⟨x, ?_, .same x⟩
    rw [← hx]
    by_cases hb : b = g
    · subst hb
      exact World.cell?_setCell_other _ _ _ _ (fun e => hbi ⟨rfl, by injection e with _ e2 _; exact e2.symm⟩)
    · exact World.cell?_of_block (a := ⟨b, i, none⟩) (Below.heap_setCell W _ v b hb)

/-- the same shape: the slices are the same -/
def ShH (h h' : Hd) : Prop := h'.A = h.A ∧ h'.xs.length = h.xs.length ∧ h'.c = h.c ∧ h'.B = h.B ∧ h'.cap = h.cap
def ShF : Fr → Fr → Prop
  | .nil, .nil => True
  | .cons h k r, .cons h' k' r' => ShH h h' ∧ ShF k k' ∧ ShF r r'
  | _, _ => False
theorem ShF.refl : ∀ fr : Fr, ShF fr fr := by
  intro fr
  induction fr with
  | nil => exact trivial
  | cons h k r ihk ihr => exact ⟨⟨rfl, rfl, rfl, rfl, rfl⟩, ihk, ihr⟩
theorem ShF.len : ∀ {a b : Fr}, ShF a b → b.len = a.len := by
  intro a
  induction a with
  | nil => intro b h; cases b with
    | nil => rfl
    | cons _ _ _ => exact absurd h id
  | cons h k r _ ih => intro b hb; cases b with
    | nil => exact absurd hb id
    | cons h' k' r' => show r'.len + 1 = r.len + 1; rw [ih hb.2.2]
theorem ShF.size : ∀ {a b : Fr}, ShF a b → b.size = a.size := by
  intro a
  induction a with
  | nil => intro b h; cases b with
    | nil => rfl
    | cons _ _ _ => exact absurd h id
  | cons h k r ihk ih => intro b hb; cases b with
    | nil => exact absurd hb id
    | cons h' k' r' => show k'.size + r'.size + 1 = k.size + r.size + 1; rw [ihk hb.2.1, ih hb.2.2]
theorem ShF.trans : ∀ {a b c : Fr}, ShF a b → ShF b c → ShF a c := by
  intro a
  induction a with
  | nil => intro b c h h'; cases b with
    | nil => exact h'
    | cons _ _ _ => exact absurd h id
  | cons h k r ihk ihr => intro b c hb hc; cases b with
    | nil => exact absurd hb id
    | cons h' k' r' => cases c with
      | nil => exact absurd hc id
      | cons h2 k2 r2 =>
        obtain ⟨a1, a2, a3, a4, a5⟩ := hb.1
        obtain ⟨b1, b2, b3, b4, b5⟩ := hc.1
        exact ⟨⟨b1.trans a1, b2.trans a2, b3.trans a3, b4.trans a4, b5.trans a5⟩, ihk hb.2.1 hc.2.1, ihr hb.2.2 hc.2.2⟩
theorem ShF.drop : ∀ (i : Nat) {a b : Fr}, ShF a b → ShF (a.drop i) (b.drop i) := by
  intro i
  induction i with
  | zero => intro a b h; exact h
  | succ i ih =>
    intro a b h
    cases a with
    | nil => cases b with
      | nil => exact trivial
      | cons _ _ _ => exact absurd h id
    | cons _ _ _ => cases b with
      | nil => exact absurd h id
      | cons _ _ _ => exact ih h.2.2
theorem FreshH.sh {B n n' : Nat} {h h' : Hd} (f : FreshH B h n) (s : ShH h h') (hn : n' = n) : FreshH B h' n' := by
  obtain ⟨s1, s2, s3, s4, s5⟩ := s
  subst hn
  exact ⟨fun hx ad e => f.1 (by omega) ad (s1 ▸ e), fun hx ad e => f.2 hx ad (s4 ▸ e)⟩
theorem FreshF.sh {B : Nat} : ∀ {a b : Fr}, FreshF B a → ShF a b → FreshF B b := by
  intro a
  induction a with
  | nil => intro b _ h; cases b with
    | nil => exact trivial
    | cons _ _ _ => exact absurd h id
  | cons h k r ihk ihr => intro b f s; cases b with
    | nil => exact absurd s id
    | cons h' k' r' => exact ⟨f.1.sh s.1 s.2.1.len, ihk f.2.1 s.2.1, ihr f.2.2 s.2.2⟩
theorem SoftH.sh {w : World} {n n' : Nat} {h h' : Hd} (f : SoftH w h n) (s : ShH h h') (hn : n' = n) : SoftH w h' n' := by
  obtain ⟨s1, s2, s3, s4, s5⟩ := s
  subst hn
  exact ⟨fun hx ad e => f.1 (by omega) ad (s1 ▸ e), fun hx ad e => f.2 hx ad (s4 ▸ e)⟩
theorem SoftF.sh {w : World} : ∀ {a b : Fr}, SoftF w a → ShF a b → SoftF w b := by
  intro a
  induction a with
  | nil => intro b _ h; cases b with
    | nil => exact trivial
    | cons _ _ _ => exact absurd h id
  | cons h k r ihk ihr => intro b f s; cases b with
    | nil => exact absurd s id
    | cons h' k' r' => exact ⟨f.1.sh s.1 s.2.1.len, ihk f.2.1 s.2.1, ihr f.2.2 s.2.2⟩

/-- limbs written over read as limbs -/
theorem Rd.spt {W W' : World} {A : Option Addr} {xs : List Nat} (hr : Rd W A xs) (hs : Spt W W') : ∃ ys : List Nat, ys.length = xs.length ∧ Rd W' A ys := by
  rcases Nat.eq_zero_or_pos xs.length with h0 | hp
  · exact ⟨xs, rfl, fun h => absurd h (by omega)⟩
  · obtain ⟨b, off, e, hb, hc⟩ := hr hp
    have hx : ∀ k, k < xs.length → ∃ y : Nat, W'.cell? ⟨b, off + k, none⟩ = some (.int .u32 (y : Int)) := fun k hk => by
      obtain ⟨v', h1, h2⟩ := hs.cell b (off + k) _ hb (hc k hk)
      generalize hv : Value.int .u32 ((xs[k]?.getD 0 : Nat) : Int) = v at h2
      cases h2 with
      | same => subst hv; exact ⟨_, h1⟩
      | int _ z => cases hv
      | limb _ z => exact ⟨z, h1⟩
      | text _ z => cases hv
    have : ∀ n, n ≤ xs.length → ∃ ys : List Nat, ys.length = n ∧ ∀ k, k < n → W'.cell? ⟨b, off + k, none⟩ = some (.int .u32 ((ys[k]?.getD 0 : Nat) : Int)) := by
      intro n
      induction n with
      | zero => intro _; exact ⟨[], rfl, fun k hk => absurd hk (Nat.not_lt_zero _)⟩
      | succ n ih =>
        intro hn
        obtain ⟨ys, h1, h2⟩ := ih (by omega)
        obtain ⟨y, hy⟩ := hx n (by omega)
        refine ⟨ys ++ [y], by simp [h1], fun k hk => ?_⟩
        rcases Nat.lt_or_ge k n with hkn | hkn
        · rw [List.getElem?_append_left (by omega)]
          exact h2 k hkn
        · obtain rfl : k = n := by omega
          rw [List.getElem?_append_right (by omega), h1, Nat.sub_self]
          exact hy
    obtain ⟨ys, h1, h2⟩ := this _ (Nat.le_refl _)
    exact ⟨ys, h1, fun _ => ⟨b, off, e, Nat.lt_of_lt_of_le hb hs.size, fun k hk => h2 k (by omega)⟩⟩
/-- a datum's cells written over are a datum's cells -/
theorem C8.spt {W W' : World} {b off n : Nat} {h : Hd} (hb : b < W.heap.size) (hc : C8 W b off h n) (hs : Spt W W') (ys : List Nat) (hy : ys.length = h.xs.length) : ∃ h', h'.xs = ys ∧ ShH h h' ∧ C8 W' b off h' n := by
  obtain ⟨c0, c1, c2, c3, c4, c5, c6, c7⟩ := hc
  obtain ⟨v0, e0, k0⟩ := hs.cell b _ _ hb c0
  obtain ⟨v1, e1, k1⟩ := hs.cell b _ _ hb c1
  obtain ⟨v2, e2, k2⟩ := hs.cell b _ _ hb c2
  obtain ⟨v3, e3, k3⟩ := hs.cell b _ _ hb c3
  obtain ⟨v4, e4, k4⟩ := hs.cell b _ _ hb c4
  obtain ⟨v5, e5, k5⟩ := hs.cell b _ _ hb c5
  obtain ⟨v6, e6, k6⟩ := hs.cell b _ _ hb c6
  obtain ⟨v7, e7, k7⟩ := hs.cell b _ _ hb c7
  cases k2
  cases k3
  cases k4
  cases k5
  cases k7
  have f0 : ∃ k : Int, v0 = .int .i64 k := by cases k0 with
    | same => exact ⟨_, rfl⟩
    | int _ z => exact ⟨z, rfl⟩
  have f1 : ∃ k : Int, v1 = .int .i64 k := by cases k1 with
    | same => exact ⟨_, rfl⟩
    | int _ z => exact ⟨z, rfl⟩
  have f6 : ∃ t : ByteArray, v6 = .string t := by cases k6 with
    | same => exact ⟨_, rfl⟩
    | text _ z => exact ⟨z, rfl⟩
  obtain ⟨k, rfl⟩ := f0
  obtain ⟨n', rfl⟩ := f1
  obtain ⟨t, rfl⟩ := f6
  exact ⟨⟨k, n', h.fl, h.f, h.s, h.A, ys, h.c, t, h.B, h.cap⟩, rfl, ⟨rfl, hy, rfl, rfl, rfl⟩, ⟨e0, e1, e2, e3, e4, by rw [e5]; show some (Value.slice h.A h.xs.length h.c) = some (Value.slice h.A ys.length h.c); rw [hy], e6, e7⟩⟩
/-- and a forest a forest of the same shape -/
theorem FAt.spt {W W' : World} (hs : Spt W W') : ∀ {fr : Fr} {b off : Nat}, FAt W b off fr → ∃ fr', ShF fr fr' ∧ FAt W' b off fr' := by
  intro fr
  induction fr with
  | nil => intro b off _; exact ⟨.nil, trivial, trivial⟩
  | cons h k r ihk ihr =>
    intro b off hf
    obtain ⟨h1, h2, h3, ⟨b', off', h4, h5⟩, h6⟩ := hf
    obtain ⟨ys, y1, y2⟩ := h3.spt hs
    obtain ⟨h', hx, sh, c⟩ := h2.spt h1 hs ys y1
    obtain ⟨k', sk, fk⟩ := ihk h5
    obtain ⟨r', sr, fr⟩ := ihr h6
    refine ⟨.cons h' k' r', ⟨sh, sk, sr⟩, Nat.lt_of_lt_of_le h1 hs.size, ?_, ?_, ⟨b', off', fun hp => ?_, fk⟩, fr⟩
    · rw [sk.len]; exact c
    · rw [hx, sh.1]; exact y2
    · rw [sh.2.2.2.1]; exact h4 (by rw [← sk.len]; exact hp)
end LM
end Go.Proofs.YtnpmfailpgbggaaGreatDoor

namespace Go.Proofs.YtnpmfailpgbggaaGreatDoor
open Go Go.RowKit
namespace LM
set_option linter.unusedVariables false

/-- one limb written over -/
theorem limb_spt {w W : World} {A : Option Addr} {xs : List Nat} {j : Nat} (hr : Rd w A xs) (hs : Spt w W) (hj : j < xs.length) (hf : 0 < xs.length → ∀ ad, A = some ad → ad.block < w.heap.size ∧ ∀ i, w.frozen? ⟨ad.block, i, none⟩ = false) :
    ∃ b off y, A = some ⟨b, off, none⟩ ∧ b < w.heap.size ∧ W.cell? ⟨b, off + j, none⟩ = some (.int .u32 ((y : Nat) : Int)) ∧ W.frozen? ⟨b, off + j, none⟩ = false := by
  obtain ⟨b, off, rfl, hb, hc⟩ := hr (by omega)
  obtain ⟨v', h1, h2⟩ := hs.cell b (off + j) _ hb (hc j hj)
  generalize hv : Value.int .u32 ((xs[j]?.getD 0 : Nat) : Int) = v at h2
  have hfz := (hs.still.ad (hf (by omega) _ rfl)).2 (off + j)
  cases h2 with
  | same => subst hv; exact ⟨b, off, _, rfl, hb, h1, hfz⟩
  | int _ z => cases hv
  | limb _ z => exact ⟨b, off, z, rfl, hb, h1, hfz⟩
  | text _ z => cases hv
theorem kind_limb (y : Nat) : KindOf (.int .u32 (y : Int)) (.int .u32 (((y : Int) + 1) % 4294967296)) := by
  rw [show ((y : Int) + 1) % 4294967296 = (((y + 1) % 4294967296 : Nat) : Int) from by omega]
  exact .limb _ _
theorem slice_spt {W W' : World} (hs : Spt W W') {b i n c : Nat} {A : Option Addr} (hb : b < W.heap.size) (h : W.cell? ⟨b, i, none⟩ = some (.slice A n c)) : W'.cell? ⟨b, i, none⟩ = some (.slice A n c) := by
  obtain ⟨v', h1, h2⟩ := hs.cell b i _ hb h
  cases h2
  exact h1

/-- no row of limbs and no row of data is too long -/
def SmF : Fr → Prop
  | .nil => True
  | .cons h k r => h.xs.length ≤ 1000000 ∧ k.len ≤ 1000000 ∧ SmF k ∧ SmF r
theorem SmF.sh : ∀ {a b : Fr}, SmF a → ShF a b → SmF b := by
  intro a
  induction a with
  | nil => intro b _ h; cases b with
    | nil => exact trivial
    | cons _ _ _ => exact absurd h id
  | cons h k r ihk ihr => intro b f s; cases b with
    | nil => exact absurd s id
    | cons h' k' r' => exact ⟨by have := s.1.2.1; have := f.1; omega, by have := s.2.1.len; have := f.2.1; omega, ihk f.2.2.1 s.2.1, ihr f.2.2.2 s.2.2⟩
theorem SmF.drop : ∀ (j : Nat) {fr : Fr}, SmF fr → SmF (fr.drop j) := by
  intro j
  induction j with
  | zero => intro fr h; exact h
  | succ j ih => intro fr h; cases fr with
    | nil => exact trivial
    | cons _ _ r => exact ih h.2.2.2
theorem FreshF.drop {B : Nat} : ∀ (j : Nat) {fr : Fr}, FreshF B fr → FreshF B (fr.drop j) := by
  intro j
  induction j with
  | zero => intro fr h; exact h
  | succ j ih => intro fr h; cases fr with
    | nil => exact trivial
    | cons _ _ r => exact ih h.2.2
theorem SoftF.drop {w : World} : ∀ (j : Nat) {fr : Fr}, SoftF w fr → SoftF w (fr.drop j) := by
  intro j
  induction j with
  | zero => intro fr h; exact h
  | succ j ih => intro fr h; cases fr with
    | nil => exact trivial
    | cons _ _ r => exact ih h.2.2
/-- one of a datum's Items, whatever was written over -/
theorem item_spt {w W : World} {h : Hd} {kids : Fr} {B j : Nat} (hd : DatV w h kids) (hs : Spt w W) (fh : FreshH B h kids.len) (ff : FreshF B kids) (sh : SoftH w h kids.len) (sf : SoftF w kids) (sm : SmF kids) (hj : j < kids.len) :
    ∃ b off hh k, h.B = some ⟨b, off, none⟩ ∧ B ≤ b ∧ b < w.heap.size ∧ C8 W b (off + j * 8) hh k.len ∧ DatV W hh k ∧ k.size < kids.size ∧ FreshH B hh k.len ∧ FreshF B k ∧ SoftH W hh k.len ∧ SoftF W k ∧ hh.xs.length ≤ 1000000 ∧ k.len ≤ 1000000 ∧ SmF k ∧ (∀ i, W.frozen? ⟨b, i, none⟩ = false) := by
  obtain ⟨b, off, hB, hF⟩ := hd.items
  have hp : 0 < kids.len := by omega
  have hb := hB hp
  obtain ⟨fr', sh', hF'⟩ := hF.spt hs
  have hl := sh'.len
  obtain ⟨hh, k, r, hdr, -⟩ := Fr.cons_of_lt (fr := fr') (i := j) (by omega)
  obtain ⟨-, C, D⟩ := counted_item hF' hdr
  have f1 := FreshF.drop j (ff.sh sh')
  have f2 := SoftF.drop j ((sf.still hs.still).sh sh')
  have f3 := SmF.drop j (sm.sh sh')
  rw [hdr] at f1 f2 f3
  have hz := size_item hdr
  rw [sh'.size] at hz
  have hso := sh.2 hp _ hb
  exact ⟨b, off, hh, k, hb, fh.2 hp _ hb, hso.1, C, D, hz, f1.1, f1.2.1, f2.1, f2.2.1, f3.1, f3.2.1, f3.2.2.1, (hs.still.ad hso).2⟩

set_option maxRecDepth 100000 in
set_option maxHeartbeats 4000000 in
theorem spoil_any : ∀ (m : Nat) (kids : Fr), kids.size < m → ∀ (B : Nat) (h : Hd) (w : World), B ≤ w.heap.size → DatV w h kids → FreshH B h kids.len → FreshF B kids → SoftH w h kids.len → SoftF w kids → h.xs.length ≤ 1000000 → kids.len ≤ 1000000 → SmF kids →
    Calls Tryz.prog 24 #[datA h kids.len] w fun e w' => e = .returned (.tuple #[]) ∧ Spt w w' ∧ Below B w w' := by
  intro m
  induction m with
  | zero => intro kids h; omega
  | succ m ih =>
    intro kids hsz B h w hB hd fh ff sh sf hxl hkl hfew
    obtain ⟨W0, hW0⟩ : ∃ W0, w.alloc (datO h kids.len) = W0 := ⟨_, rfl⟩
    have hb0 : Below w.heap.size w W0 := by rw [← hW0]; exact (Below.refl _ w).alloc (Nat.le_refl _) _
    have ho : W0.heap[w.heap.size]? = some (datO h kids.len) := by rw [← hW0]; unfold World.alloc; simp
    have hs0 : w.heap.size < W0.heap.size := by rw [← hW0]; simp
    have c5 : W0.cell? ⟨w.heap.size, 5, none⟩ = some (.slice h.A h.xs.length h.c) := (C8.of_block ho).c5
    have c7 : W0.cell? ⟨w.heap.size, 7, none⟩ = some (.slice h.B kids.len h.cap) := (C8.of_block ho).c7
    have sp0 : Spt w W0 := .of_below hb0
    have HW0 := Lib.hid hW0
    have HB0 := Lib.hid (show Below B w W0 from bel_trans (B := B) (hB := hB) (Below.refl _ w) hb0)
    have HD := Lib.hid hd
    have HSP0 := Lib.hid sp0
    have HS0 := Lib.hid hs0
    have C5 := Lib.hid c5
    have C7 := Lib.hid c7
    have SH := Lib.hid sh
    have SF := Lib.hid sf
    have FH := Lib.hid fh
    have FF := Lib.hid ff
    have HBS := Lib.hid hB
    clear hW0 hb0 hd sp0 hs0 sh sf fh ff ho hB
    go_enter Tryz.func24, Tryz.ntmps24
    go_wp2_with (fail)
    try rw [HW0.out]
    go_loopg [9] h.xs.length (fun kk i wr => Spt W0 wr ∧ Below B w wr ∧ ∃ j : Nat, j ≤ h.xs.length ∧ kk = h.xs.length - j ∧ i = .int .i64 (j : Int))
    case atStart => exact ⟨.refl _, HB0.out, 0, Nat.zero_le _, rfl, rfl⟩
    case round =>
      obtain ⟨hs, hbw, j, hj, rfl, rfl⟩ := hrel
      have HS := Lib.hid hs
      have HBW := Lib.hid hbw
      by_cases hjl : j < h.xs.length
      · obtain ⟨b, off, y, hA, hb, hcl, hfz⟩ := limb_spt HD.out.xs (HSP0.out.trans hs) hjl SH.out.1
        have x5 := slice_spt hs HS0.out C5.out
        rw [hA] at x5
        have HA := Lib.hid hA
        have HCL := Lib.hid hcl
        have HBB : Hid (B ≤ b) := Lib.hid (FH.out.1 (by omega) _ hA)
        clear hs hbw hA hb c5 c7
        go_wp2_with (fail)
        go_roundg (h.xs.length - (j + 1))
        case measure => omega
        case rel => exact ⟨HS.out.trans (Spt.set HCL.out (kind_limb y)), HBW.out.setCell HBB.out _, j + 1, by omega, rfl, by go_num⟩
      · have hje : j = h.xs.length := by omega
        subst hje
        have x7 := slice_spt hs HS0.out C7.out
        clear hs hbw c5 c7
        go_wp2_with (fail)
        go_loopg [25] kids.len (fun kk i wr => Spt W0 wr ∧ Below B w wr ∧ ∃ j : Nat, j ≤ kids.len ∧ kk = kids.len - j ∧ i = .int .i64 (j : Int))
        case atStart => exact ⟨HS.out, HBW.out, 0, Nat.zero_le _, rfl, rfl⟩
        case round =>
          obtain ⟨hs, hbw, j, hj, rfl, rfl⟩ := hrel
          have HS := Lib.hid hs
          have HBW := Lib.hid hbw
          by_cases hjl : j < kids.len
          · obtain ⟨b, off, hh, k, hBe, hBb, hbl, hC, hD, hz, f1, f2, f3, f4, f5, f6, f7, hfz⟩ := item_spt HD.out (HSP0.out.trans hs) FH.out FF.out SH.out SF.out hfew hjl
            have CL : Hid (∀ W, Below wr.heap.size wr W → Calls Tryz.prog 24 #[datA hh k.len] W fun e w' => e = .returned (.tuple #[]) ∧ Spt W0 w' ∧ Below B w w') := Lib.hid fun W hW => (ih k (by omega) B hh W (by have := hW.size; have := hbw.size; have := HBS.out; omega) (hD.below hW) f1 f2 (f3.still (.of_below hW)) (f4.still (.of_below hW)) f5 f6 f7).mono fun e w' he => ⟨he.1, (hs.trans (.of_below hW)).trans he.2.1, (hbw.trans (hW.mono (by have := hbw.size; have := HBS.out; omega))).trans he.2.2⟩
            have x7 := slice_spt hs HS0.out C7.out
            rw [hBe] at x7
            have HBE := Lib.hid hBe
            obtain ⟨n0, n1, n2, n3, n4, n5, n6, n7⟩ := hC
            have hbne : b ≠ w.heap.size := by omega
            clear hs hbw f1 f2 f3 f4 f5 f6 f7 hD hfz hBe
            go_wp2_with (fail)
            refine (CL.out _ (Below.refl _ _)).mono ?_
            rintro e w3 ⟨rfl, hs3, hb3⟩
            obtain ⟨b2, off2, hh2, k2, hBe2, -, -, hC2, -, -, -, -, -, -, -, -, -, hfz2⟩ := item_spt HD.out (HSP0.out.trans hs3) FH.out FF.out SH.out SF.out hfew hjl
            rw [HBE.out] at hBe2
            injection hBe2 with hBe2
            injection hBe2 with e1 e2
            subst e1 e2
            have y7 := slice_spt hs3 HS0.out C7.out
            rw [HBE.out] at y7
            obtain ⟨m0, m1, m2, m3, m4, m5, m6, m7⟩ := hC2
            have g6 := hfz2 (off + j * 8 + 6)
            have g0 := hfz2 (off + j * 8)
            have HR : Hid (Spt W0 ((w3.setCell ⟨b, off + j * 8 + 6, none⟩ (.string ⟨#[63]⟩)).setCell ⟨b, off + j * 8, none⟩ (.int .i64 9)) ∧ Below B w ((w3.setCell ⟨b, off + j * 8 + 6, none⟩ (.string ⟨#[63]⟩)).setCell ⟨b, off + j * 8, none⟩ (.int .i64 9))) :=
              Lib.hid ⟨(hs3.trans (Spt.set m6 (.text _ _))).trans (Spt.set (u := .int .i64 hh2.k) (by rw [World.cell?_setCell_other _ _ _ _ (by intro e; injection e with _ e2 _; omega)]; exact m0) (.int _ _)), (hb3.setCell hBb _).setCell hBb _⟩
            clear hs3 hb3 hfz2 n0 n1 n2 n3 n4 n5 n6 n7 x7
            go_wp2_with (fail)
            go_roundg (kids.len - (j + 1))
            case measure => omega
            case rel => exact ⟨HR.out.1, HR.out.2, j + 1, by omega, rfl, by go_num⟩
          · have hje : j = kids.len := by omega
            subst hje
            clear hs hbw
            go_wp2_with (fail)
            exact bodyPost_end (v := .tuple #[]) (by simp [results, Tryz.results24, go_sem]) rfl ⟨rfl, HSP0.out.trans HS.out, HBW.out⟩
end LM
end Go.Proofs.YtnpmfailpgbggaaGreatDoor

namespace Go.Proofs.YtnpmfailpgbggaaGreatDoor
open Go Go.RowKit
namespace LM
set_option linter.unusedVariables false

/-- what data one behind the other lead to, wherever they lie themselves -/
def KidsAt (w : World) : Fr → Prop
  | .nil => True
  | .cons h k r => (Rd w h.A h.xs ∧ ∃ b off, (0 < k.len → h.B = some ⟨b, off, none⟩) ∧ FAt w b off k) ∧ KidsAt w r
theorem KidsAt.fat {w : World} {g : Nat} (hg : g < w.heap.size) : ∀ {fr : Fr} {off : Nat}, KidsAt w fr → (∀ j u, (cellsF fr)[j]? = some u → w.cell? ⟨g, off + j, none⟩ = some u) → FAt w g off fr := by
  intro fr
  induction fr with
  | nil => intro off _ _; exact trivial
  | cons h k r _ ih =>
    intro off hk hc
    obtain ⟨⟨h3, b', o', h4, h5⟩, h6⟩ := hk
    refine ⟨hg, ⟨hc 0 _ rfl, hc 1 _ rfl, hc 2 _ rfl, hc 3 _ rfl, hc 4 _ rfl, hc 5 _ rfl, hc 6 _ rfl, hc 7 _ rfl⟩, h3, ⟨b', o', h4, h5⟩, ih h6 fun j u hu => ?_⟩
    have := hc (j + 8) u (by
      rw [← hu]
      exact (List.getElem?_append_right (l₁ := head8 h k.len) (show 8 ≤ j + 8 by omega)).trans (by show (cellsF r)[j + 8 - 8]? = _; rw [Nat.add_sub_cancel]))
    rw [show off + (j + 8) = off + 8 + j from by omega] at this
    exact this
/-- what lies in other blocks reads as it did, when one block grows -/
theorem Rd.grew {W W' : World} {A : Option Addr} {xs : List Nat} {g : Option Nat} (h : Rd W A xs) (hg : W.grownBy W' g) (ho : 0 < xs.length → ∀ ad, A = some ad → some ad.block ≠ g) : Rd W' A xs := fun hx => by
  obtain ⟨b, off, rfl, hb, hc⟩ := h hx
  exact ⟨b, off, rfl, Nat.lt_of_lt_of_le hb hg.size, fun k hk => hg.cell (hc k hk) (ho hx ⟨b, off, Option.none⟩ rfl)⟩
/-- no part of the data lies in that block -/
def OffF (g : Option Nat) : Fr → Prop
  | .nil => True
  | .cons h k r => ((0 < h.xs.length → ∀ ad, h.A = some ad → some ad.block ≠ g) ∧ (0 < k.len → ∀ ad, h.B = some ad → some ad.block ≠ g)) ∧ OffF g k ∧ OffF g r
theorem OffF.of_away {g : Nat} : ∀ {fr : Fr}, AwayF g fr → OffF (some g) fr := by
  intro fr
  induction fr with
  | nil => intro _; exact trivial
  | cons h k r ihk ihr => intro a; exact ⟨⟨fun hx ad e e2 => a.1.1 hx ad e (Option.some.inj e2), fun hx ad e e2 => a.1.2 hx ad e (Option.some.inj e2)⟩, ihk a.2.1, ihr a.2.2⟩
theorem OffF.no : ∀ {fr : Fr}, OffF Option.none fr := by
  intro fr
  induction fr with
  | nil => exact trivial
  | cons h k r ihk ihr => exact ⟨⟨fun _ _ _ e => (by cases e), fun _ _ _ e => (by cases e)⟩, ihk, ihr⟩
theorem FAt.keep {W W' : World} {g : Option Nat} (hg : W.grownBy W' g) : ∀ {fr : Fr} {b off : Nat}, FAt W b off fr → OffF g fr → some b ≠ g → FAt W' b off fr := by
  intro fr
  induction fr with
  | nil => intro b off _ _ _; exact trivial
  | cons h k r ihk ihr =>
    intro b off hf ha hb
    obtain ⟨h1, ⟨c0, c1, c2, c3, c4, c5, c6, c7⟩, h3, ⟨b', off', h4, h5⟩, h6⟩ := hf
    refine ⟨Nat.lt_of_lt_of_le h1 hg.size, ⟨hg.cell c0 hb, hg.cell c1 hb, hg.cell c2 hb, hg.cell c3 hb, hg.cell c4 hb, hg.cell c5 hb, hg.cell c6 hb, hg.cell c7 hb⟩, h3.grew hg ha.1.1, ⟨b', off', h4, ?_⟩, ihr h6 ha.2.2 hb⟩
    rcases Nat.eq_zero_or_pos k.len with h0 | hp
    · cases k with
      | nil => exact trivial
      | cons x y z => have h3 : z.len + 1 = 0 := h0; omega
    · exact ihk h5 ha.2.1 (ha.1.2 hp _ (h4 hp))
theorem KidsAt.keep {W W' : World} {g : Option Nat} (hg : W.grownBy W' g) : ∀ {fr : Fr}, KidsAt W fr → OffF g fr → KidsAt W' fr := by
  intro fr
  induction fr with
  | nil => intro _ _; exact trivial
  | cons h k r _ ihr =>
    intro hf ha
    obtain ⟨⟨h3, b', off', h4, h5⟩, h6⟩ := hf
    refine ⟨⟨h3.grew hg ha.1.1, b', off', h4, ?_⟩, ihr h6 ha.2.2⟩
    rcases Nat.eq_zero_or_pos k.len with h0 | hp
    · cases k with
      | nil => exact trivial
      | cons x y z => have h3 : z.len + 1 = 0 := h0; omega
    · exact FAt.keep hg h5 ha.2.1 (ha.1.2 hp _ (h4 hp))
theorem KidsAt.below {W W' : World} (hb : Below W.heap.size W W') : ∀ {fr : Fr}, KidsAt W fr → KidsAt W' fr := by
  intro fr
  induction fr with
  | nil => intro _; exact trivial
  | cons h k r _ ihr =>
    intro hf
    obtain ⟨⟨h3, b', off', h4, h5⟩, h6⟩ := hf
    exact ⟨⟨h3.below hb, b', off', h4, FAt.below hb _ _ _ h5⟩, ihr h6⟩
theorem KidsAt.snoc {w : World} {h : Hd} {k : Fr} (hd : DatV w h k) : ∀ {x : Fr}, KidsAt w x → KidsAt w (x.app (.cons h k .nil)) := by
  intro x
  induction x with
  | nil => intro _; exact ⟨⟨hd.xs, hd.items⟩, trivial⟩
  | cons a b c _ ih => intro hx; exact ⟨hx.1, ih hx.2⟩
theorem OffF.snoc {g : Option Nat} {h : Hd} {k : Fr} (hh : (0 < h.xs.length → ∀ ad, h.A = some ad → some ad.block ≠ g) ∧ (0 < k.len → ∀ ad, h.B = some ad → some ad.block ≠ g)) (hk : OffF g k) : ∀ {x : Fr}, OffF g x → OffF g (x.app (.cons h k .nil)) := by
  intro x
  induction x with
  | nil => intro _; exact ⟨hh, hk, trivial⟩
  | cons a b c _ ih => intro hx; exact ⟨hx.1, hx.2.1, ih hx.2.2⟩
theorem cellsF_snoc (h : Hd) (k : Fr) : ∀ x : Fr, cellsF (x.app (.cons h k .nil)) = cellsF x ++ head8 h k.len := by
  intro x
  induction x with
  | nil => show head8 h k.len ++ [] = [] ++ head8 h k.len; rw [List.append_nil, List.nil_append]
  | cons a b c _ ih => show head8 a b.len ++ cellsF (c.app (.cons h k .nil)) = (head8 a b.len ++ cellsF c) ++ head8 h k.len; rw [ih, List.append_assoc]
/-- what lay before lies not in a new block -/
theorem off_old {w : World} {g : Nat} (hg : w.heap.size ≤ g) : ∀ {fr : Fr}, KidsAt w fr → OffF (some g) fr := by
  intro fr
  induction fr with
  | nil => intro _; exact trivial
  | cons h k r _ ih =>
    intro hf
    obtain ⟨⟨h3, b', off', h4, h5⟩, h6⟩ := hf
    refine ⟨⟨fun hx ad e e2 => ?_, fun hp ad e e2 => ?_⟩, OffF.of_away (away_old hg h5), ih h6⟩
    · obtain ⟨b, off, e3, hb, _⟩ := h3 hx
      rw [e] at e3
      injection e3 with e3
      injection e2 with e2
      rw [e3] at e2
      dsimp only at e2
      omega
    · have e3 := h4 hp
      rw [e] at e3
      injection e3 with e3
      injection e2 with e2
      rw [e3] at e2
      dsimp only at e2
      have hb : b' < w.heap.size := by
        cases k with
        | nil => exact absurd hp (Nat.lt_irrefl 0)
        | cons x y z => exact h5.1
      omega
end LM
end Go.Proofs.YtnpmfailpgbggaaGreatDoor

namespace Go.Proofs.YtnpmfailpgbggaaGreatDoor
open Go Go.RowKit
namespace LM
set_option linter.unusedVariables false
attribute [local go_sem] run_store_flt

/-- what the document's copy is -/
def RetDC (w : World) (h : Hd) (kids : Fr) (e : Ending) (w' : World) : Prop :=
  ∃ h' kids', e = .returned (datA h' kids'.len) ∧ DatV w' h' kids' ∧ AlikeH h h' ∧ AlikeF kids kids' ∧ h'.Ok kids'.len ∧ kids'.Ok ∧ FreshH w.heap.size h' kids'.len ∧ FreshF w.heap.size kids' ∧ Below w.heap.size w w'

theorem owns_below {W W' : World} {base n : Nat} {e : TypeId} {l : Value} {xs : List Value} (h : W.ownsRow base e 8 l n xs) (hb : Below W.heap.size W W') : W'.ownsRow base e 8 l n xs :=
  h.kept (row := none) ⟨hb.os, hb.tape, hb.output, hb.size, fun k hk _ => hb.block k hk⟩ (by cases l.ownBlock <;> simp)
/-- what stands between two rounds of the document's copying -/
structure RowI (w : World) (h1 : Hd) (kids : Fr) (j : Nat) (x0 done : Fr) (l : Value) (W : World) : Prop where
  bel : Below w.heap.size w W
  blk : W.heap[w.heap.size]? = some (datO h1 kids.len)
  zer : W.heap[w.heap.size + 1]? = some zeroO
  row : W.ownsRow (w.heap.size + 2) 30 8 l j (cellsF done)
  spl : kids = x0.app (kids.drop j)
  alk : AlikeF x0 done
  len : done.len = j
  kid : KidsAt W done
  off : OffF l.ownBlock done
  fre : FreshF (w.heap.size + 2) done
  oks : done.Ok
theorem own_base {W : World} {base n k : Nat} {e : TypeId} {l : Value} {xs : List Value} (h : W.ownsRow base e 8 l n xs) (hk : l.ownBlock = some k) : base ≤ k ∧ k < W.heap.size := by
  obtain ⟨_, ⟨rfl, _⟩ | ⟨g, cap, cur, rfl, hg, hh, _⟩⟩ := h
  · cases hk
  · injection hk with hk
    subst hk
    exact ⟨hg, heap_lt hh⟩
theorem row_step {w wr w2 w3 : World} {o : Obj} {H hh hc : Hd} {kids k r kc x0 done : Fr} {j B : Nat} {l v' : Value} (hI : RowI w H kids j x0 done l wr) (hd : kids.drop j = .cons hh k r) (hd1 : kids.drop (j + 1) = r)
    (dc : DatV w2 hc kc) (ac : AlikeH hh hc) (afc : AlikeF k kc) (okc : hc.Ok kc.len) (okf : kc.Ok) (frc : FreshH B hc kc.len) (frf : FreshF B kc) (hB : wr.heap.size ≤ B) (hb : Below wr.heap.size wr w2)
    (hgrow : (w2.alloc o).grownBy w3 l.ownBlock) (hown : w3.ownsRow (w.heap.size + 2) 30 8 v' (j + 1) (cellsF done ++ head8 hc kc.len)) (hnw : v'.ownBlock = l.ownBlock ∨ v'.ownBlock = some (w2.alloc o).heap.size) :
    RowI w H kids (j + 1) (x0.app (.cons hh k .nil)) (done.app (.cons hc kc .nil)) v' w3 := by
  obtain ⟨ib, ik, iz, ir, ie, ia, idl, iK, iF, iN, iO⟩ := hI
  rw [hd] at ie
  have hwr := ib.size
  have hba : Below wr.heap.size wr (w2.alloc o) := hb.alloc hb.size o
  have hob := fun k hk => own_base ir (k := k) hk
  have hoff : OffF l.ownBlock (done.app (.cons hc kc .nil)) := by
    cases hl : l.ownBlock with
    | none => exact OffF.no
    | some g =>
      rw [hl] at iF
      have hg := (hob g hl).2
      refine OffF.snoc ⟨fun hx ad e e2 => ?_, fun hx ad e e2 => ?_⟩ (OffF.of_away (FreshF.away (by omega) frf)) iF
      · injection e2 with e2; have := frc.1 hx ad e; omega
      · injection e2 with e2; have := frc.2 hx ad e; omega
  have hkid : KidsAt (w2.alloc o) (done.app (.cons hc kc .nil)) := KidsAt.snoc (dc.below ((Below.refl _ w2).alloc (Nat.le_refl _) o)) (KidsAt.below hba iK)
  have h0 := heap_lt ik
  have h1 := heap_lt iz
  have hold : ∀ b, b < w.heap.size + 2 → b < wr.heap.size → w3.heap[b]? = wr.heap[b]? := fun b hb1 hb2 => by
    have hs := hba.size
    rw [hgrow.block b (by omega) (fun e => by have := (hob b e.symm).1; omega)]
    exact hba.block b hb2
  refine ⟨?_, ?_, ?_, ?_, ?_, alike_snoc ac afc ia, ?_, KidsAt.keep hgrow hkid hoff, ?_, ?_, ok_snoc okc okf iO⟩
  · exact (bel_trans (B := w.heap.size) ib hba).grown hgrow (by have := hba.size; omega) (fun k hk => by have := (hob k hk).1; omega)
  · rw [hold _ (by omega) h0]; exact ik
  · rw [hold _ (by omega) h1]; exact iz
  · rw [cellsF_snoc]; exact hown
  · rw [hd1, app_snoc]; exact ie
  · rw [app_len]; show done.len + (0 + 1) = j + 1; omega
  · rcases hnw with e | e
    · rw [e]; exact hoff
    · rw [e]; exact off_old (Nat.le_refl _) hkid
  · exact fresh_snoc ⟨fun hx ad e => by have := frc.1 hx ad e; omega, fun hx ad e => by have := frc.2 hx ad e; omega⟩ (FreshF.mono (by omega) frf) iN

theorem row_out {w W : World} {h : Hd} {kids x0 done : Fr} {l : Value} (hI : RowI w h kids kids.len x0 done l W) :
    ∃ B2 cap2, l = .slice B2 kids.len cap2 ∧ (B2 = none → kids.len = 0 ∧ cap2 = 0) ∧ kids.len ≤ cap2 ∧ cap2 ≤ 9223372036854775807 ∧ (∀ ad, B2 = some ad → ad.spot = none) ∧ (0 < done.len → ∀ ad, B2 = some ad → w.heap.size + 2 ≤ ad.block) ∧
      ∃ b off, (0 < done.len → B2 = some ⟨b, off, none⟩) ∧ FAt W b off done ∧ w.heap.size + 2 ≤ b ∧ AlikeF kids done := by
  obtain ⟨ib, ik, iz, ir, ie, ia, idl, iK, iF, iN, iO⟩ := hI
  rw [drop_all, app_nil] at ie
  subst ie
  obtain ⟨hl, ⟨rfl, h0⟩ | ⟨g, cap, cur, rfl, hg, hh, h1, h2, h3, h4⟩⟩ := ir
  · have hd : done = .nil := by
      cases done with
      | nil => rfl
      | cons x y z => have h3 : z.len + 1 = kids.len := idl; omega
    subst hd
    exact ⟨none, 0, by rw [h0], fun _ => ⟨h0, rfl⟩, by omega, by decide, fun ad e => (by cases e), fun h => absurd h (by show ¬ 0 < 0; omega), w.heap.size + 2, 0, fun h => absurd h (by show ¬ 0 < 0; omega), trivial, Nat.le_refl _, ia⟩
  · refine ⟨some ⟨g, 0, none⟩, cap, rfl, fun e => (by cases e), h1, by unfold maxLen at h2; omega, fun ad e => (by injection e with e; subst e; rfl), fun _ ad e => (by injection e with e; subst e; exact hg), g, 0, fun _ => rfl, KidsAt.fat (heap_lt hh) iK fun i u hu => ?_, hg, ia⟩
    have hi : i < kids.len * 8 := by
      rcases Nat.lt_or_ge i (kids.len * 8) with h | h
      · exact h
      · rw [List.getElem?_eq_none (by rw [hl]; exact h)] at hu; cases hu
    rw [← h4, List.getElem?_take, if_pos hi, Array.getElem?_toList] at hu
    rw [Nat.zero_add]
    simp only [World.cell?, hh]
    exact hu

set_option maxRecDepth 100000 in
set_option maxHeartbeats 8000000 in
theorem rdcopy_any : ∀ (m : Nat) (kids : Fr), kids.size < m → kids.Ok → FewF kids → kids.len ≤ 1000000 → ∀ (h : Hd) (w : World), DatV w h kids → h.Ok kids.len → Calls Tryz.prog 22 #[datA h kids.len] w (RetDC w h kids) := by
  intro m
  induction m with
  | zero => intro kids h; omega
  | succ m ih =>
    intro kids hsz hok hfew hlen h w hd hho
    obtain ⟨W0, hW0⟩ : ∃ W0, (w.alloc (datO h kids.len)).alloc (zeroO) = W0 := ⟨_, rfl⟩
    have hb0 : Below w.heap.size w W0 := by rw [← hW0]; exact ((Below.refl _ w).alloc (Nat.le_refl _) _).alloc (by simp) _
    have hO : Obs W0 [(w.heap.size + 1, zeroO), (w.heap.size, datO h kids.len)] := by
      rw [← hW0]
      have h1 := (Obs.nil.new (w := w) (datO h kids.len)).new (zeroO)
      simp only [World.size_alloc] at h1
      exact h1
    obtain ⟨x0, x1, x2, x3, x4, x5, x6, x7⟩ := C8.of_block hO.tl.hd
    have HW0 := Lib.hid hW0
    have HB0 := Lib.hid hb0
    have O0 := Lib.hid hO
    clear hW0 hb0 hO
    go_enter Tryz.func22, Tryz.ntmps22
    go_wp2_with (fail)
    rw [HW0.out]
    go_wp2_with (fail)
    have hst : RowI w h kids 0 .nil .nil (.slice (some ⟨w.heap.size + 2, 0, none⟩) 0 0) (W0.alloc (.cells #[] 30)) := by
      have hs0 : W0.heap.size = w.heap.size + 2 := by rw [← HW0.out]; simp
      have hba : Below W0.heap.size W0 (W0.alloc (.cells #[] 30)) := (Below.refl _ W0).alloc (Nat.le_refl _) _
      refine ⟨bel_trans (B := w.heap.size) HB0.out hba, (hba.block _ (by omega)).trans O0.out.tl.hd, (hba.block _ (by omega)).trans O0.out.hd, ?_, rfl, trivial, rfl, trivial, trivial, trivial, trivial⟩
      have hm := World.ownsRow_made W0 (e := 30) (size := 8) (base := w.heap.size + 2) #[] 0 (by omega) (Nat.zero_le _) (by simp)
      rw [hs0] at hm
      exact hm
    have HST := Lib.hid hst
    clear hst
    obtain ⟨bB, oB, hB, hF⟩ := hd.items
    have HBI := Lib.hid hB
    have HFF := Lib.hid hF
    have HOK := Lib.hid hok
    have HFW := Lib.hid hfew
    have IH := Lib.hid ih
    have HSZ := Lib.hid hsz
    have HHO := Lib.hid hho
    have HXS := Lib.hid hd.xs
    have hi := datum_info
    have hby := datum_bytes
    cases hinf : Tryz.prog.info? 30 with
    | none => rw [hinf] at hi; cases hi
    | some i0 =>
      rw [hinf] at hi hby
      simp only [Option.map_some, Option.some.injEq, Prod.mk.injEq, decide_eq_true_eq] at hi hby
      clear hB hF hok hfew ih hsz hho hd x0 x1 x2 x3 x4 x5 x6 x7
      go_loopg [3, 5, 10] kids.len (fun kk l _ i wr => ∃ j : Nat, j ≤ kids.len ∧ kk = kids.len - j ∧ i = .int .i64 (j : Int) ∧ ∃ x0 done, RowI w h kids j x0 done l wr)
      case atStart => exact ⟨0, Nat.zero_le _, rfl, rfl, .nil, .nil, HST.out⟩
      case round =>
        obtain ⟨j, hj, rfl, rfl, x0, done, hI⟩ := hrel
        have HI := Lib.hid hI
        by_cases hjl : j < kids.len
        · obtain ⟨hh, k, r, hdr, hdr1⟩ := Fr.cons_of_lt hjl
          have hBe := HBI.out (by omega)
          rw [hBe]
          have hbw := hI.bel
          obtain ⟨hbl, C, D⟩ := counted_item (FAt.below hbw _ _ _ HFF.out) hdr
          have hks := size_item hdr
          have hko := HOK.out.drop j
          have hkf := HFW.out.drop j
          rw [hdr] at hko hkf
          have CK := Lib.hid fun W (hW : Below wr.heap.size wr W) => IH.out k (by have := HSZ.out; omega) hko.2.1 hkf.2.1 hkf.1 hh W (D.below hW) hko.1
          have HDR := Lib.hid hdr
          have HDR1 := Lib.hid hdr1
          obtain ⟨x0, x1, x2, x3, x4, x5, x6, x7⟩ := C
          have hba : Below wr.heap.size wr (wr.alloc (.cells #[.int .i64 hh.k, .int .i64 hh.n, .bool hh.fl, .float .f64 hh.f, .bool hh.s, .slice hh.A hh.xs.length hh.c, .string hh.t, .slice hh.B k.len hh.cap] 30)) := (Below.refl _ wr).alloc (Nat.le_refl _) _
          have HBA := Lib.hid hba
          clear hdr hdr1 hks hko hkf D hba hbw hI
          go_wp2_with (fail)
          refine (CK.out _ HBA.out).mono ?_
          rintro e w2 ⟨hc, kc, rfl, dc, ac, afc, okc, okf, frc, frf, bc⟩
          have hb2 := bel_trans (B := wr.heap.size) HBA.out bc
          have hown := owns_below HI.out.row hb2
          have hsz2 : w.heap.size + 2 ≤ w2.heap.size := by have := heap_lt HI.out.zer; have := hb2.size; omega
          have STEP := Lib.hid fun w3 v' o hgrow hown hnw => row_step (w3 := w3) (v' := v') (o := o) HI.out HDR.out HDR1.out dc ac afc okc okf frc frf HBA.out.size hb2 hgrow hown hnw
          have HOWN := Lib.hid hown
          clear dc ac afc okc okf frc frf bc hb2 hown x0 x1 x2 x3 x4 x5 x6 x7
          go_wp2_with (at_builtin; refine wpList_append_own_at _ rfl _ _ 28 rfl (w.heap.size + 2) 30 i0 _ 8 i0.bytes Tryz.underlying28 hinf hi.1 hi.2 rfl rfl (by decide) _ _ _ rfl (HOWN.out.alloc _) ⟨w2.heap.size, 0, none⟩ 1 1 (head8 hc kc.len) rfl ?qc1 ?qc2 ?qc3 ?qc4 ?qc5 ?qc6 ?_)
          case qc1 => rfl
          case qc2 =>
            intro i u hu
            have hb := heap_alloc_new w2 (datO hc kc.len)
            have ha : ((⟨w2.heap.size, 0, none⟩ : Addr).add i) = ⟨w2.heap.size, i, none⟩ := by
              unfold Addr.add
              split <;> simp_all
            rw [ha, ob_cell hb]
            show (head8 hc kc.len).toArray[i]? = some u
            rw [List.getElem?_toArray]
            exact hu
          case qc3 => intro u hu; exact cellsF_one (.cons hc kc .nil) u (List.mem_append_left _ hu)
          case qc4 => unfold maxLen; omega
          case qc5 => exact Nat.le_trans (Nat.mul_le_mul (by omega : j + 1 ≤ 1000000) hby) (by decide)
          case qc6 => simp; omega
          intro v' w3 hown3 hgrow3 _ hnw3
          have HNEW := Lib.hid (STEP.out w3 v' _ hgrow3 hown3 (by rw [World.size_alloc]; exact hnw3))
          clear hown3 hgrow3 hnw3
          go_wp2_with (fail)
          rw [← hBe]
          go_roundg (kids.len - (j + 1))
          case measure => omega
          case rel => exact ⟨j + 1, by omega, rfl, by go_num, _, _, HNEW.out⟩
        · have hje : j = kids.len := by omega
          subst hje
          obtain ⟨B2, cap2, rfl, q1, q2, q3, q4, q5, bD, oD, q6, q7, q8, q9⟩ := row_out hI
          have hrd := HXS.out.below hI.bel
          have hlw := heap_lt hI.blk
          have hlz := heap_lt hI.zer
          have hxl : h.xs.length ≤ 1000000 := by have := HHO.out.l; omega
          obtain ⟨t0, t1, t2, t3, t4, t5, t6, t7⟩ := C8.of_block hI.blk
          have BLK := Lib.hid hI.blk
          have ZER := Lib.hid hI.zer
          have BEL := Lib.hid hI.bel
          have FRE := Lib.hid hI.fre
          have OKS := Lib.hid hI.oks
          have LEN := Lib.hid hI.len
          clear hI
          go_wp2_with (at_builtin; refine wp_copy rfl _ _ rfl wr h.A h.c h.xs hrd hxl HHO.out.nA rfl rfl ?_; intro g1 k1 w1 p1 p2 p3 p4 p5 p6; clear t0 t1 t2 t3 t4 t5 t6 t7; have X1 := Lib.hid ((p6.block _ hlw).trans BLK.out); have Z1 := Lib.hid ((p6.block _ hlz).trans ZER.out); obtain ⟨s0, s1, s2, s3, s4, s5, s6, s7⟩ := C8.of_block X1.out; have f5 := ob_free X1.out 5 (by simp); have f7 := ob_free X1.out 7 (by simp); obtain ⟨z0, z1, z2, z3, z4, z5, z6, z7, e0, e1, e2, e3, e4, e5, e6, e7, el⟩ := zero_facts Z1.out; have hl1 : w.heap.size < w1.heap.size := (by have := p6.size; omega))
          have hbw := BEL.out.size
          obtain ⟨W1, hW1, Y1, hb1, ho1, hz1⟩ := stored_dat X1.out (bel_trans (B := w.heap.size) BEL.out p6) (Nat.le_refl _) (i := 5) (v := .slice (some ⟨g1, 0, none⟩) h.xs.length k1) (h' := { h with A := some ⟨g1, 0, none⟩, c := k1 }) (n' := kids.len) (by unfold head8; rfl)
          obtain ⟨W2, hW2, Y2, hb2, ho2, hz2⟩ := stored_dat Y1 hb1 (Nat.le_refl _) (i := 7) (v := .slice B2 kids.len cap2) (h' := { h with A := some ⟨g1, 0, none⟩, c := k1, B := B2, cap := cap2 }) (n' := kids.len) (by unfold head8; rfl)
          have Z2 := (ho2 _ (by omega)).trans ((ho1 _ (by omega)).trans Z1.out)
          obtain ⟨WF, hWF, CF, OF, hbF, sWF⟩ := result_dat (h := { h with A := some ⟨g1, 0, none⟩, c := k1, B := B2, cap := cap2 }) (n := kids.len) Z2 hb2 (Nat.le_succ _)
          dsimp only [set8z] at hWF
          rw [hW1, hW2, hWF]
          have HHO := HHO.out
          have fre := FRE.out
          have RF := OF.rd ((p5.other hz1 ho1 (fun _ ad e => by injection e with e; subst e; show g1 ≠ _; omega)).other hz2 ho2 (fun _ ad e => by injection e with e; subst e; show g1 ≠ _; omega)) (fun _ ad e => by injection e with e; subst e; show g1 ≠ _; omega)
          have FF := OF.fat (FAt.other hz2 ho2 (FAt.other hz1 ho1 (FAt.below p6 _ _ _ q7) (FreshF.away (by omega) fre) (by omega)) (FreshF.away (by omega) fre) (by omega)) (FreshF.away (by omega) fre) (.inl (by omega))
          obtain ⟨r0, r1, r2, r3, r4, r5, r6, r7⟩ := CF
          dsimp only [Nat.zero_add] at r0 r1 r2 r3 r4 r5 r6 r7
          refine bodyPost_ret (v := datA { h with A := some ⟨g1, 0, none⟩, c := k1, B := B2, cap := cap2 } kids.len) (by simp [results, Tryz.results22, go_sem, r0, r1, r2, r3, r4, r5, r6, r7]) rfl ?_
          have hl2 := q9.len
          refine ⟨{ h with A := some ⟨g1, 0, none⟩, c := k1, B := B2, cap := cap2 }, done, by rw [hl2], ⟨RF, bD, oD, q6, FF⟩, ⟨rfl, rfl, rfl, rfl, rfl, rfl, rfl⟩, q9, ?_, OKS.out, ?_, FreshF.mono (by omega) fre, hbF⟩
          · rw [hl2]
            exact ⟨HHO.k, HHO.n, HHO.f, HHO.lm, ⟨p1, p2⟩, fun e => (by cases e), HHO.l, HHO.t, ⟨q2, q3⟩, q1, fun ad e _ => (by injection e with e; subst e; rfl), fun ad e _ => q4 ad e⟩
          · exact ⟨fun _ ad e => by injection e with e; subst e; show w.heap.size ≤ g1; omega, fun hp ad e => by have := q5 hp ad e; omega⟩
end LM
end Go.Proofs.YtnpmfailpgbggaaGreatDoor

namespace Go.Proofs.YtnpmfailpgbggaaGreatDoor
open Go Go.RowKit Go.ChangeShapes Go.WideShapes
namespace LM
set_option linter.unusedVariables false

section
variable {H : Type} {enc : TypeId × Value → H} {w : World} {base : Nat} {held : Bool}

theorem trod_struct5 {P : Program} {spare : Nat → Bool} {t : TypeId} {f0 f1 f2 f3 f4 : Field} {fuel : Nat} {cs : List Value} {x : DataW H × List MemPlace} (ht : P.underlying t = some (.struct #[f0, f1, f2, f3, f4])) (h : DataW.trod enc P w base spare held fuel t cs = some x) :
    ∃ y0 y1 y2 y3 y4 n, fuel = n + 1 ∧ cs.length = P.cellsOf t ∧ DataW.trod enc P w base spare held n f0.type ((cs.drop f0.offset).take (P.cellsOf f0.type)) = some y0 ∧
      DataW.trod enc P w base spare held n f1.type ((cs.drop f1.offset).take (P.cellsOf f1.type)) = some y1 ∧ DataW.trod enc P w base spare held n f2.type ((cs.drop f2.offset).take (P.cellsOf f2.type)) = some y2 ∧
      DataW.trod enc P w base spare held n f3.type ((cs.drop f3.offset).take (P.cellsOf f3.type)) = some y3 ∧ DataW.trod enc P w base spare held n f4.type ((cs.drop f4.offset).take (P.cellsOf f4.type)) = some y4 := by
  obtain ⟨xs, n, hn, rfl, hl, hlen, hf⟩ := DataW.trod_struct ht h
  match xs, hlen with
  | [y0, y1, y2, y3, y4], _ => exact ⟨y0, y1, y2, y3, y4, n, hn, hl, by simpa using hf 0 f0 rfl, by simpa using hf 1 f1 rfl, by simpa using hf 2 f2 rfl, by simpa using hf 3 f3 rfl, by simpa using hf 4 f4 rfl⟩

set_option maxRecDepth 100000 in
/-- a number's four cells -/
theorem open_num4 {fuel : Nat} {c0 c1 c2 c3 : Value} {y : DataW H × List MemPlace} (hf : DataW.trod enc Tryz.prog w base (fun _ => true) held fuel 27 [c0, c1, c2, c3] = some y) :
    ∃ fl f s A c xs, c0 = .bool fl ∧ c1 = .float .f64 f ∧ c2 = .bool s ∧ c3 = .slice A (List.length xs) c ∧ f < 18446744073709551616 ∧ Lm xs ∧ Rd w A xs ∧ xs.length ≤ c ∧ c ≤ 9223372036854775807 ∧ (A = none → xs.length = 0 ∧ c = 0) ∧ ∀ ad, A = some ad → 0 < c → ad.spot = none := by
  obtain ⟨y0, y1, y2, n, hx, _, h0, h1, h2⟩ := Go.Deep.trod_struct3 Tryz.underlying27 hf
  have g0 : DataW.trod enc Tryz.prog w base (fun _ => true) held n 4 [c0] = some y0 := h0
  have g1 : DataW.trod enc Tryz.prog w base (fun _ => true) held n 22 [c1] = some y1 := h1
  have g2 : DataW.trod enc Tryz.prog w base (fun _ => true) held n 25 [c2, c3] = some y2 := h2
  obtain ⟨fl, hb, -⟩ := DataW.trod_bool Tryz.underlying4 g0
  obtain ⟨f, hff, hfl⟩ := trod_flt Tryz.underlying22 g1
  obtain ⟨z0, z1, n', -, -, k0, k1⟩ := trod_struct2 Tryz.underlying25 g2
  have e0 : DataW.trod enc Tryz.prog w base (fun _ => true) held n' 4 [c2] = some z0 := k0
  have e1 : DataW.trod enc Tryz.prog w base (fun _ => true) held n' 23 [c3] = some z1 := k1
  obtain ⟨s, hs, -⟩ := DataW.trod_bool Tryz.underlying4 e0
  obtain rfl : c0 = .bool fl := by simpa using hb
  obtain rfl : c1 = .float .f64 f := by simpa using hff
  obtain rfl : c2 = .bool s := by simpa using hs
  rcases open_ints Tryz.underlying23 Tryz.underlying60 (by kernel_rfl) e1 with ⟨hcs, _⟩ | ⟨x, l, c, zs, hcs, _, hl, hm, hz, _, hcell, hwz⟩
  · obtain rfl : c3 = .slice none 0 0 := by simpa using hcs
    exact ⟨fl, f, s, none, 0, [], rfl, rfl, rfl, rfl, hfl, Lm.nil, Rd.nil, Nat.le_refl _, by decide, fun _ => ⟨rfl, rfl⟩, fun ad e => by cases e⟩
  · obtain rfl : c3 = .slice (some x) l c := by simpa using hcs
    obtain ⟨xs, rfl, hx, ha, hca, hcm, hn⟩ := open_row (w := w) (a := some x) (len := l) (cap := c) (zs := zs) (.inr ⟨_, rfl, hl, hm, by simpa using hz, hcell, hwz⟩)
    refine ⟨fl, f, s, some x, c, xs, rfl, rfl, rfl, rfl, hfl, hx, ha, hca, hcm, hn, fun ad e h0 => ?_⟩
    injection e with e
    subst e
    have hzl : zs.length = c := by simpa using hz
    have hc0 := hcell 0 (by omega)
    have hx0 : x.add 0 = x := by simp [Addr.add]
    rw [hx0] at hc0
    have := (spot_none hc0).1
    rw [this]

/-- what is so of each datum that came in -/
structure Hd.Raw (h : Hd) (m : Nat) : Prop where
  k : -9223372036854775808 ≤ h.k ∧ h.k ≤ 9223372036854775807
  n : -9223372036854775808 ≤ h.n ∧ h.n ≤ 9223372036854775807
  f : h.f < 18446744073709551616
  lm : Lm h.xs
  c : h.xs.length ≤ h.c ∧ h.c ≤ 9223372036854775807
  nA : h.A = none → h.xs.length = 0 ∧ h.c = 0
  t : h.t.size ≤ maxLen
  cap : m ≤ h.cap ∧ h.cap ≤ 9223372036854775807
  nB : h.B = none → m = 0 ∧ h.cap = 0
  sA : ∀ ad, h.A = some ad → 0 < h.c → ad.spot = none
  sB : ∀ ad, h.B = some ad → 0 < h.cap → ad.spot = none
def Fr.Raw : Fr → Prop
  | .nil => True
  | .cons h kids rest => h.Raw kids.len ∧ kids.Raw ∧ rest.Raw

theorem int_range {z : Int} (h : (Lit.int .i64 z).wf = true) : -9223372036854775808 ≤ z ∧ z ≤ 9223372036854775807 := by
  simp [Lit.wf, IntKind.min, IntKind.max, IntKind.signed, IntKind.bits] at h
  omega

set_option maxRecDepth 100000 in
theorem open_dat : ∀ (fuel : Nat) (cs : List Value) (x : DataW H × List MemPlace), DataW.trod enc Tryz.prog w 0 (fun _ => true) held fuel 30 cs = some x →
    ∃ h kids, cs = head8 h kids.len ∧ DatV w h kids ∧ h.Raw kids.len ∧ kids.Raw := by
  intro fuel
  induction fuel using Nat.strongRecOn with
  | ind fuel ih =>
    intro cs x hf
    obtain ⟨y0, y1, y2, y3, y4, n, rfl, hl, h0, h1, h2, h3, h4⟩ := trod_struct5 Tryz.underlying30 hf
    have hl8 : cs.length = 8 := hl.trans (by kernel_rfl)
    match cs, hl8 with
    | [c0, c1, c2, c3, c4, c5, c6, c7], _ =>
      have g0 : DataW.trod enc Tryz.prog w 0 (fun _ => true) held n 3 [c0] = some y0 := h0
      have g1 : DataW.trod enc Tryz.prog w 0 (fun _ => true) held n 3 [c1] = some y1 := h1
      have g2 : DataW.trod enc Tryz.prog w 0 (fun _ => true) held n 27 [c2, c3, c4, c5] = some y2 := h2
      have g3 : DataW.trod enc Tryz.prog w 0 (fun _ => true) held n 9 [c6] = some y3 := h3
      have g4 : DataW.trod enc Tryz.prog w 0 (fun _ => true) held n 28 [c7] = some y4 := h4
      obtain ⟨k, hk, -, hkw⟩ := DataW.trod_int Tryz.underlying3 g0
      obtain ⟨nn, hn, -, hnw⟩ := DataW.trod_int Tryz.underlying3 g1
      obtain ⟨fl, f, s, A, c, xs, rfl, rfl, rfl, rfl, hff, hlm, hrd, hxc, hcm, hnA, hsA⟩ := open_num4 g2
      obtain ⟨t, ht, -, htm⟩ := DataW.trod_string Tryz.underlying9 g3
      obtain rfl : c0 = .int .i64 k := by simpa using hk
      obtain rfl : c1 = .int .i64 nn := by simpa using hn
      obtain rfl : c6 = .string t := by simpa using ht
      rcases DataW.trod_slice Tryz.underlying28 g4 with ⟨hcs, _⟩ | ⟨a, len, cap, elems, rest, n2, hn2, hcs, _, _, hlc, hcapm, hel, hall, hsp, _⟩
      · obtain rfl : c7 = .slice none 0 0 := by simpa using hcs
        exact ⟨⟨k, nn, fl, f, s, A, xs, c, t, none, 0⟩, .nil, rfl, ⟨hrd, 0, 0, fun h => absurd h (Nat.lt_irrefl 0), trivial⟩,
          ⟨int_range hkw, int_range hnw, hff, hlm, ⟨hxc, hcm⟩, hnA, htm, ⟨Nat.le_refl _, by show (0 : Nat) ≤ 9223372036854775807; decide⟩, fun _ => ⟨rfl, rfl⟩, hsA, fun ad e => (by cases e)⟩, trivial⟩
      · obtain rfl : c7 = .slice (some a) len cap := by simpa using hcs
        have hce : Tryz.prog.cellsOf 30 = 8 := by kernel_rfl
        rw [hce] at hall hsp
        have hel1 : ∀ i, i < len → ∃ cl e, w.cells? 0 (a.add (i * 8)) 8 = some cl ∧ DataW.trod enc Tryz.prog w 0 (fun _ => true) held n2 30 cl = some e := fun i hi => by
          have h5 := hall i hi
          have h6 : i < elems.length := by omega
          rw [List.getElem?_eq_getElem h6] at h5
          obtain ⟨cl, h7, h8⟩ := Option.bind_eq_some_iff.1 h5
          exact ⟨cl, _, h7, h8⟩
        have hx0 : a.add 0 = a := by simp [Addr.add]
        have hspot : 0 < cap → a.spot = none := fun h => by
          have hc : ∃ cl, w.cells? 0 a 8 = some cl ∧ cl.length = 8 := by
            rcases Nat.eq_zero_or_pos len with h9 | h9
            · obtain ⟨hr, hr2⟩ := hsp rfl
              have h5 := hr2 0 (by omega)
              have h6 : 0 < rest.length := by omega
              rw [List.getElem?_eq_getElem h6, h9, Nat.add_zero, Nat.zero_mul, hx0] at h5
              obtain ⟨cl, h7, h8⟩ := Option.bind_eq_some_iff.1 h5
              exact ⟨cl, h7, (World.cells?_some h7).2.1⟩
            · obtain ⟨cl, e, h7, h8⟩ := hel1 0 h9
              rw [Nat.zero_mul, hx0] at h7
              exact ⟨cl, h7, (World.cells?_some h7).2.1⟩
          obtain ⟨cl, h7, h8⟩ := hc
          have h9 := (World.cells?_some h7).2.2 0 (by decide)
          rw [hx0, List.getElem?_eq_getElem (by omega)] at h9
          have := (spot_none h9).1
          rw [this]
        have F : ∀ j, j ≤ len → ∃ fr : Fr, fr.len = j ∧ fr.Raw ∧ (0 < len → FAt w a.block (a.off + (len - j) * 8) fr) := by
          intro j
          induction j with
          | zero => intro _; exact ⟨.nil, rfl, trivial, fun _ => trivial⟩
          | succ j ihj =>
            intro hj
            obtain ⟨fr, hf1, hf2, hf3⟩ := ihj (by omega)
            obtain ⟨cl, e, hcl, he⟩ := hel1 (len - (j + 1)) (by omega)
            obtain ⟨h', kids', rfl, hv, hr1, hr2⟩ := ih n2 (by omega) cl e he
            have hsp0 := hspot (by omega)
            have hadd : ∀ i, (a.add ((len - (j + 1)) * 8)).add i = ⟨a.block, a.off + (len - (j + 1)) * 8 + i, none⟩ := fun i => by
              obtain ⟨ab, ao, asp⟩ := a
              dsimp only at hsp0
              subst hsp0
              rw [Lib.add_plain, Lib.add_plain]
            have hcell : ∀ i u, (head8 h' kids'.len)[i]? = some u → w.cell? ⟨a.block, a.off + (len - (j + 1)) * 8 + i, none⟩ = some u := fun i u hu => by
              have hi : i < 8 := (List.getElem?_eq_some_iff.1 hu).1
              have h9 := (World.cells?_some hcl).2.2 i hi
              rw [hadd, hu] at h9
              exact h9
            refine ⟨.cons h' kids' fr, by show fr.len + 1 = j + 1; rw [hf1], ⟨hr1, hr2, hf2⟩, fun h10 => ?_⟩
            have hc0 := hcell 0 _ rfl
            refine ⟨(spot_none hc0).2, ⟨hcell 0 _ rfl, hcell 1 _ rfl, hcell 2 _ rfl, hcell 3 _ rfl, hcell 4 _ rfl, hcell 5 _ rfl, hcell 6 _ rfl, hcell 7 _ rfl⟩, hv.xs, hv.items, ?_⟩
            have h11 := hf3 h10
            rw [show a.off + (len - (j + 1)) * 8 + 8 = a.off + (len - j) * 8 from by omega]
            exact h11
        obtain ⟨fr, hf1, hf2, hf3⟩ := F len (Nat.le_refl _)
        rw [Nat.sub_self, Nat.zero_mul, Nat.add_zero] at hf3
        refine ⟨⟨k, nn, fl, f, s, A, xs, c, t, some a, cap⟩, fr, by rw [hf1]; rfl, ⟨hrd, a.block, a.off, fun h => ?_, ?_⟩,
          ⟨int_range hkw, int_range hnw, hff, hlm, ⟨hxc, hcm⟩, hnA, htm, ⟨by rw [hf1]; exact hlc, by unfold maxLen at hcapm; exact Nat.le_trans hcapm (by decide)⟩, fun e => (by cases e), hsA, fun ad e h => ?_⟩, hf2⟩
        · have := hspot (by omega)
          obtain ⟨ab, ao, asp⟩ := a
          dsimp only at this
          subst this
          rfl
        · rcases Nat.eq_zero_or_pos len with h9 | h9
          · cases fr with
            | nil => exact trivial
            | cons x y z => exact absurd hf1 (by show ¬ z.len + 1 = len; omega)
          · exact hf3 h9
        · injection e with e
          subst e
          exact hspot h
end

end LM
end Go.Proofs.YtnpmfailpgbggaaGreatDoor

namespace Go.Proofs.YtnpmfailpgbggaaGreatDoor
open Go Go.RowKit
namespace LM
set_option linter.unusedVariables false
attribute [local go_sem] run_store_flt

/-- is it too great by itself -/
def bigB (deep most : Int) (h : Hd) (n : Nat) : Bool := decide (70 < deep) || decide (most < 0) || decide (most < (n : Int)) || decide (5000 < h.t.size) || decide (200 < h.xs.length)
/-- how many are left behind data one behind the other -/
def smallF : Int → Int → Fr → Int
  | _, most, .nil => most
  | deep, most, .cons h k r => if bigB deep most h k.len then -1 else if smallF (deep + 1) (most - 1) k < 0 then -1 else smallF deep (smallF (deep + 1) (most - 1) k) r
def smallD (deep most : Int) (h : Hd) (k : Fr) : Int := if bigB deep most h k.len then -1 else if smallF (deep + 1) (most - 1) k < 0 then -1 else smallF (deep + 1) (most - 1) k
theorem dsmall_bd : ∀ (fr : Fr) (deep most : Int), -1 ≤ most → -1 ≤ smallF deep most fr ∧ smallF deep most fr ≤ max most (-1) := by
  intro fr
  induction fr with
  | nil => intro deep most h; exact ⟨h, by show most ≤ _; omega⟩
  | cons h k r ihk ihr =>
    intro deep most hm
    unfold smallF
    split
    · omega
    · rename_i hb
      split
      · omega
      · rename_i h0
        have hm0 : 0 ≤ most := by
          unfold bigB at hb
          simp only [Bool.or_eq_true, decide_eq_true_eq, not_or] at hb
          omega
        have h1 := ihk (deep + 1) (most - 1) (by omega)
        have h2 := ihr deep (smallF (deep + 1) (most - 1) k) (by omega)
        omega

theorem Fr.Raw.drop : ∀ (i : Nat) {fr : Fr}, fr.Raw → (fr.drop i).Raw := by
  intro i
  induction i with
  | zero => intro fr h; exact h
  | succ i ih =>
    intro fr h
    cases fr with
    | nil => exact trivial
    | cons hh k r => exact ih h.2.2

theorem small_cons (deep most : Int) (h : Hd) (k r : Fr) : smallF deep most (.cons h k r) = if smallD deep most h k < 0 then -1 else smallF deep (smallD deep most h k) r := by
  rw [smallF]
  unfold smallD
  by_cases h1 : bigB deep most h k.len = true
  · rw [if_pos h1, if_pos h1, if_pos (by decide)]
  · rw [if_neg h1, if_neg h1]
    by_cases h2 : smallF (deep + 1) (most - 1) k < 0
    · rw [if_pos h2, if_pos h2, if_pos (by decide)]
    · rw [if_neg h2, if_neg h2, if_neg h2]
theorem dsmallD_bd (h : Hd) (k : Fr) (deep most : Int) (hm : -1 ≤ most) : -1 ≤ smallD deep most h k ∧ smallD deep most h k ≤ max most (-1) := by
  unfold smallD
  split
  · omega
  · rename_i hb
    split
    · omega
    · rename_i h0
      have hm0 : 0 ≤ most := by
        unfold bigB at hb
        simp only [Bool.or_eq_true, decide_eq_true_eq, not_or] at hb
        omega
      have h1 := dsmall_bd k (deep + 1) (most - 1) (by omega)
      omega

set_option maxRecDepth 100000 in
set_option maxHeartbeats 4000000 in
theorem dsmall_any : ∀ (m : Nat) (kids : Fr), kids.size < m → kids.Raw → ∀ (h : Hd) (deep most : Int) (w : World), DatV w h kids → h.Raw kids.len → 0 ≤ deep → deep ≤ 1000 → -1 ≤ most → most ≤ 4000 →
    Calls Tryz.prog 7 #[datA h kids.len, .int .i64 deep, .int .i64 most] w fun e w' => e = .returned (.int .i64 (smallD deep most h kids)) ∧ Below w.heap.size w w' := by
  intro m
  induction m with
  | zero => intro kids h; omega
  | succ m ih =>
    intro kids hsz hok h deep most w hd hho hd0 hd1 hm0 hm1
    obtain ⟨W0, hW0⟩ : ∃ W0, w.alloc (datO h kids.len) = W0 := ⟨_, rfl⟩
    have hb0 : Below w.heap.size w W0 := by rw [← hW0]; exact (Below.refl _ w).alloc (Nat.le_refl _) _
    have ho : W0.heap[w.heap.size]? = some (datO h kids.len) := by rw [← hW0]; unfold World.alloc; simp
    have hs0 : w.heap.size < W0.heap.size := by rw [← hW0]; simp
    have c5 : W0.cell? ⟨w.heap.size, 5, none⟩ = some (.slice h.A h.xs.length h.c) := (C8.of_block ho).c5
    have c6 : W0.cell? ⟨w.heap.size, 6, none⟩ = some (.string h.t) := (C8.of_block ho).c6
    have c7 : W0.cell? ⟨w.heap.size, 7, none⟩ = some (.slice h.B kids.len h.cap) := (C8.of_block ho).c7
    obtain ⟨b, off, hB, hF⟩ := (hd.below hb0).items
    have hxl : h.xs.length ≤ 9223372036854775807 := Nat.le_trans hho.c.1 hho.c.2
    have hkl : kids.len ≤ 9223372036854775807 := Nat.le_trans hho.cap.1 hho.cap.2
    have htl : h.t.size ≤ 9223372036854775807 := Nat.le_trans hho.t (by decide)
    have e1 : decide (70 < deep) = decide (70 < deep) := rfl
    obtain ⟨q1, hq1⟩ : ∃ q, decide (70 < deep) = q := ⟨_, rfl⟩
    obtain ⟨q2, hq2⟩ : ∃ q, decide (most < 0) = q := ⟨_, rfl⟩
    obtain ⟨q3, hq3⟩ : ∃ q, decide (most < (kids.len : Int)) = q := ⟨_, rfl⟩
    obtain ⟨q4, hq4⟩ : ∃ q, decide (5000 < h.t.size) = q := ⟨_, rfl⟩
    obtain ⟨q5, hq5⟩ : ∃ q, decide (200 < h.xs.length) = q := ⟨_, rfl⟩
    have hq4i : decide ((5000 : Int) < (h.t.size : Int)) = q4 := by rw [← hq4, decide_eq_decide]; omega
    have hq5i : decide ((200 : Int) < (h.xs.length : Int)) = q5 := by rw [← hq5, decide_eq_decide]; omega
    have HR : Hid (smallD deep most h kids = if (q1 || q2 || q3 || q4 || q5) = true then -1 else if smallF (deep + 1) (most - 1) kids < 0 then -1 else smallF (deep + 1) (most - 1) kids) := Lib.hid (by
      unfold smallD bigB
      rw [hq1, hq2, hq3, hq4, hq5])
    have HW0 := Lib.hid hW0
    have HB0 := Lib.hid hb0
    have HF := Lib.hid hF
    have HB := Lib.hid hB
    have HOK := Lib.hid hok
    have IH := Lib.hid ih
    have HSZ := Lib.hid hsz
    have HKL := Lib.hid hkl
    have HM0 := Lib.hid hm0
    have HQ2 := Lib.hid hq2
    have HQ1 := Lib.hid hq1
    clear hW0 hb0 hF hB hok ih hsz hd ho e1
    obtain ⟨RES, hRES⟩ : ∃ RES, smallD deep most h kids = RES := ⟨_, rfl⟩
    rw [hRES] at HR ⊢
    clear hRES
    cases q1
    all_goals cases q2
    all_goals cases q3
    all_goals cases q4
    all_goals cases q5
    any_goals
      go_enter Tryz.func7, Tryz.ntmps7
      go_wp2_with (fail)
      rw [HW0.out]
      go_wp2_with (fail)
      go_ret
      exact ⟨by rw [HR.out]; rfl, HB0.out⟩
    go_enter Tryz.func7, Tryz.ntmps7
    go_wp2_with (fail)
    rw [HW0.out]
    go_wp2_with (fail)
    go_loopg [2, 8, 41] kids.len (fun kk n _ i wr => Below W0.heap.size W0 wr ∧ ∃ j : Nat, j ≤ kids.len ∧ kk = kids.len - j ∧ i = .int .i64 (j : Int) ∧ ∃ a : Int, n = .int .i64 a ∧ smallF (deep + 1) a (kids.drop j) = smallF (deep + 1) (most - 1) kids ∧ -1 ≤ a ∧ a ≤ 4000 ∧ (0 < j → 0 ≤ a))
    case atStart => exact ⟨Below.refl _ _, 0, Nat.zero_le _, rfl, rfl, most - 1, rfl, rfl, by have := of_decide_eq_false HQ2.out; omega, by omega, fun h => absurd h (Nat.lt_irrefl 0)⟩
    case round =>
      obtain ⟨hbr, j, hj, rfl, rfl, a, rfl, hcn, ha1, ha2, ha3⟩ := hrel
      have HBR := Lib.hid hbr
      have HCN := Lib.hid hcn
      have hdp : deep ≤ 70 := by have := of_decide_eq_false HQ1.out; omega
      clear hbr hcn
      by_cases hjl : j < kids.len
      · obtain ⟨hh, k, r, hdr, hdr1⟩ := Fr.cons_of_lt hjl
        have hBe := HB.out (by omega)
        rw [hBe]
        obtain ⟨hbl, C, D⟩ := counted_item (FAt.below HBR.out _ _ _ HF.out) hdr
        have hks := size_item hdr
        have hko := HOK.out.drop j
        rw [hdr] at hko
        have hcn := HCN.out
        rw [hdr, small_cons] at hcn
        obtain ⟨v, hv⟩ : ∃ v, smallD (deep + 1) a hh k = v := ⟨_, rfl⟩
        have hvb := dsmallD_bd hh k (deep + 1) a (by omega)
        rw [hv] at hcn hvb
        have CK := Lib.hid fun W (hW : Below wr.heap.size wr W) => IH.out k (by have := HSZ.out; omega) hko.2.1 hh (deep + 1) a W (D.below hW) hko.1 (by omega) (by omega) (by omega) (by omega)
        rw [hv] at CK
        have HCN2 := Lib.hid hcn
        have HDR := Lib.hid hdr1
        have w1 : IntKind.i64.wrap (deep + 1) = deep + 1 := by rw [IntKind.wrap_i64]; omega
        obtain ⟨x0, x1, x2, x3, x4, x5, x6, x7⟩ := C
        have hba : Below wr.heap.size wr (wr.alloc (.cells #[.int .i64 hh.k, .int .i64 hh.n, .bool hh.fl, .float .f64 hh.f, .bool hh.s, .slice hh.A hh.xs.length hh.c, .string hh.t, .slice hh.B k.len hh.cap] 30)) := (Below.refl _ wr).alloc (Nat.le_refl _) _
        have HBA := Lib.hid hba
        clear hcn hdr hdr1 hks hko D hv hba
        go_wp2_with (fail)
        refine (CK.out _ HBA.out).mono ?_
        rintro e w2 ⟨rfl, hb2⟩
        have HB2 := Lib.hid (bel_trans (B := W0.heap.size) HBR.out (bel_trans (B := wr.heap.size) HBA.out hb2))
        clear hb2 x0 x1 x2 x3 x4 x5 x6 x7
        by_cases hv0 : v < 0
        · have d9 : decide (v < 0) = true := decide_eq_true hv0
          have HRR := Lib.hid (show smallF (deep + 1) (most - 1) kids = -1 by rw [← HCN2.out, if_pos hv0])
          clear hv0
          go_wp2_with (fail)
          go_ret
          refine ⟨?_, bel_trans (B := w.heap.size) HB0.out HB2.out⟩
          have h9 : RES = -1 := by rw [HR.out, HRR.out]; rfl
          rw [h9]
          rfl
        · have d9 : decide (v < 0) = false := decide_eq_false hv0
          have HRR := Lib.hid (show smallF (deep + 1) v (kids.drop (j + 1)) = smallF (deep + 1) (most - 1) kids by rw [HDR.out, ← HCN2.out, if_neg hv0])
          go_wp2_with (fail)
          rw [← hBe]
          go_roundg (kids.len - (j + 1))
          case measure => omega
          case rel => exact ⟨HB2.out, j + 1, by omega, rfl, by go_num, v, rfl, HRR.out, by omega, by omega, fun _ => by omega⟩
      · have hje : j = kids.len := by omega
        subst hje
        have hcn := HCN.out
        have hnil : kids.drop kids.len = .nil := by
          have h1 := Fr.len_drop kids.len kids
          cases h2 : kids.drop kids.len with
          | nil => rfl
          | cons x y z => rw [h2] at h1; have h3 : z.len + 1 = kids.len - kids.len := h1; omega
        rw [hnil] at hcn
        have HRR := Lib.hid (show smallF (deep + 1) (most - 1) kids = a from hcn.symm)
        clear hcn hnil
        go_wp2_with (fail)
        go_ret
        refine ⟨?_, bel_trans (B := w.heap.size) HB0.out HBR.out⟩
        have h9 : RES = a := by
          rw [HR.out, HRR.out, if_neg (by decide)]
          by_cases h9 : a < 0
          · rw [if_pos h9]; omega
          · rw [if_neg h9]
        rw [h9]
        rfl

end LM
end Go.Proofs.YtnpmfailpgbggaaGreatDoor
