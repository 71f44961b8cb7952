/- Walks: slices.Clone of data and of limbs. -/
import Derived.Test.YtcfhiihhfcnfbaaGreatDoorJ44
import Derived.Test.YtcfhiihhfcnfbaaGreatDoorJ46
import Derived.Test.YtcfhiihhfcnfbaaGreatDoorJ45
import Derived.Test.YtcfhiihhfcnfbaaGreatDoorJ48
namespace Go.Proofs.YtcfhiihhfcnfbaaGreatDoor
open Go Go.RowKit
namespace LM
set_option linter.unusedVariables false
attribute [local go_sem] run_store_flt

/-- a code point that is no surrogate -/
def csignB (n : Int) : Bool := decide (0 ≤ n ∧ n < 55296) || decide (57343 < n ∧ n ≤ 1114111)

theorem csign_valid (n : Int) (h0 : 0 ≤ n) (h1 : n ≤ 1114111) : Lib.validRune n = csignB n := by
  unfold Lib.validRune csignB
  rw [Bool.eq_iff_iff]
  simp only [Bool.or_eq_true, decide_eq_true_eq]

set_option maxRecDepth 100000 in
set_option maxHeartbeats 2000000 in
theorem dsign_any (n : Int) (h1 : -9223372036854775808 ≤ n) (h2 : n ≤ 9223372036854775807) (w : World) :
    Calls Tryz.prog 129 #[.int .i64 n] w fun e w' => e = .returned (.bool (csignB n)) ∧ w' = w := by
  by_cases hn : 0 ≤ n ∧ n ≤ 1114111
  · have V1 := Lib.hid fun W => Tryz.utf8_ValidRune n W
    have w1 : IntKind.i32.wrap n = n := by rw [IntKind.wrap_i32]; omega
    rw [← csign_valid n hn.1 hn.2]
    go_enter Tryz.func129, Tryz.ntmps129
    go_wp2_with (fail)
    refine (V1.out _).mono ?_
    rintro e w1 ⟨rfl, rfl⟩
    go_wp2_with (fail)
    go_ret
    exact ⟨rfl, rfl⟩
  · have hf : csignB n = false := by
      unfold csignB
      rw [Bool.or_eq_false_iff, decide_eq_false_iff_not, decide_eq_false_iff_not]
      omega
    rw [hf]
    clear hf
    go_enter Tryz.func129, Tryz.ntmps129
    go_wp2_with (fail)
    all_goals
      go_ret
      exact ⟨rfl, rfl⟩

set_option maxRecDepth 100000 in
set_option maxHeartbeats 2000000 in
theorem dclone_any (s : ByteArray) (w : World) (hs : s.size ≤ 281474976710656) :
    Calls Tryz.prog 81 #[.string s] w fun e w' => e = .returned (.string s) ∧ Below w.heap.size w w' := by
  have H1 := Lib.hid (Tryz.stringslite_Clone s w hs)
  go_enter Tryz.func81, Tryz.ntmps81
  go_wp2_with (fail)
  refine H1.out.mono ?_
  rintro e w1 ⟨rfl, hb⟩
  go_wp2_with (fail)
  go_ret
  exact ⟨rfl, hb⟩

set_option maxRecDepth 100000 in
set_option maxHeartbeats 2000000 in
theorem dtail_any (h : Hd) (n : Nat) (w : World) :
    Calls Tryz.prog 203 #[datA h n] w fun e w' => e = .returned (.bool (h.k != 5 && h.k != 6)) ∧ Below w.heap.size w w' := by
  obtain ⟨W0, hW0, hb0, ho, hs0⟩ := dat_block w h n
  obtain ⟨x0, x1, x2, x3, x4, x5, x6, x7⟩ := C8.of_block ho
  have HW0 := Lib.hid hW0
  have HB0 := Lib.hid hb0
  clear hW0 hb0 ho x1 x2 x3 x4 x5 x6 x7
  go_enter Tryz.func203, Tryz.ntmps203
  go_wp2_with (fail)
  all_goals
    try rw [HW0.out]
    go_wp2_with (fail)
    all_goals
      go_ret
      first | exact ⟨by simp [*], HB0.out⟩ | exact ⟨by simp [*], (Below.refl _ w).alloc (Nat.le_refl _) _⟩

/-- what Items a kind can have: the last one's kind -/
def areB (k : Int) (n : Nat) (kl : Int) : Bool := decide (k = 5) || (decide (k = 6) && decide (2 ≤ n) && (kl != 5 && kl != 6)) || (decide (k = 7) && decide (n ≤ 200))

set_option maxRecDepth 100000 in
set_option maxHeartbeats 4000000 in
theorem dareitems_any (k : Int) (B : Option Addr) (n cap : Nat) (hn : n ≤ 9223372036854775807) (b off : Nat) (h : Hd) (m : Nat) (w : World) (hB : 0 < n → B = some ⟨b, off, none⟩) (hc : 0 < n → C8 w b (off + (n - 1) * 8) h m) :
    Calls Tryz.prog 132 #[.int .i64 k, .slice B n cap] w fun e w' => e = .returned (.bool (areB k n h.k)) ∧ Below w.heap.size w w' := by
  have HT := Lib.hid (dtail_any h m w)
  have HB0 := Lib.hid (Below.refl w.heap.size w)
  by_cases h6 : k = 6 ∧ 2 ≤ n
  · obtain ⟨rfl, h2⟩ := h6
    obtain rfl := hB (by omega)
    obtain ⟨x0, x1, x2, x3, x4, x5, x6, x7⟩ := hc (by omega)
    have d1 : decide (2 ≤ (n : Int)) = true := decide_eq_true (by omega)
    have w1 : IntKind.i64.wrap ((n : Int) - 1) = ((n - 1 : Nat) : Int) := by rw [IntKind.wrap_i64]; omega
    have d2 : decide (((n - 1 : Nat) : Int) < n) = true := decide_eq_true (by omega)
    have d3 : decide (2 ≤ n) = true := decide_eq_true h2
    have hnm : n - 1 < n := by omega
    obtain ⟨q, hq⟩ : ∃ q, n - 1 = q := ⟨_, rfl⟩
    rw [hq] at w1 x0 x1 x2 x3 x4 x5 x6 x7 d2 hnm
    have HR : Hid (areB 6 n h.k = (h.k != 5 && h.k != 6)) := Lib.hid (by unfold areB; rw [d3]; simp)
    clear hB hc hq
    go_enter Tryz.func132, Tryz.ntmps132
    go_wp2_with (go_at_call 203; refine HT.out.mono ?_; rintro e w1 ⟨rfl, hb1⟩; have HB1 := Lib.hid hb1; clear hb1)
    go_ret
    exact ⟨by rw [HR.out]; rfl, HB1.out⟩
  · have h6' : ¬ (k = 6 ∧ 2 ≤ n) := h6
    clear HT hc hB
    rcases kinds k with rfl | rfl | rfl | rfl | rfl | rfl | rfl | rfl | ⟨k0, k1, k2, k3, k4, k5, k6, k7⟩
    rotate_right
    · have HE : Hid (areB k n h.k = false) := Lib.hid (by
        rw [beq_eq_false_iff_ne] at k5 k6 k7
        unfold areB
        rw [decide_eq_false k5, decide_eq_false k6, decide_eq_false k7]
        simp)
      go_enter Tryz.func132, Tryz.ntmps132
      go_wp2_with (fail)
      go_ret
      exact ⟨by rw [HE.out]; rfl, HB0.out⟩
    rotate_right 2
    · have hn2 : decide (2 ≤ (n : Int)) = false := decide_eq_false (by omega)
      have hn3 : decide (2 ≤ n) = false := decide_eq_false (by omega)
      go_enter Tryz.func132, Tryz.ntmps132
      go_wp2_with (fail)
      all_goals
        go_ret
        exact ⟨by simp [areB, *], HB0.out⟩
    all_goals
      go_enter Tryz.func132, Tryz.ntmps132
      go_wp2_with (fail)
      all_goals
        go_ret
        have h200 : ((n : Int) ≤ 200 ↔ n ≤ 200) := by omega
        exact ⟨by simp [areB, *], HB0.out⟩
end LM
end Go.Proofs.YtcfhiihhfcnfbaaGreatDoor

namespace Go.Proofs.YtcfhiihhfcnfbaaGreatDoor
open Go Go.RowKit
namespace LM
set_option linter.unusedVariables false
attribute [local go_sem] run_store_flt

theorem callB_keep {w w' : World} {f : FuncId} {args : Array Value} {r : Value} (h : CallB w f args r) (hb : Below w.heap.size w w') : CallB w' f args r := fun W hW => h W (bel_trans (B := w.heap.size) hb hW)
/-- the library's tables of UTF-8 lie there -/
def UT (w : World) : Prop := ∀ W, Below w.heap.size w W → Lib.Utf8Tabs 2 3 W
theorem UT.keep {w w' : World} (h : UT w) (hb : Below w.heap.size w w') : UT w' := fun W hW => h W (bel_trans (B := w.heap.size) hb hW)

/-- the last one's kind -/
def lastK : Fr → Int
  | .nil => 0
  | .cons h _ .nil => h.k
  | .cons _ _ (.cons h k r) => lastK (.cons h k r)
theorem last_item : ∀ (fr : Fr), 0 < fr.len → ∃ hh k, fr.drop (fr.len - 1) = .cons hh k .nil ∧ hh.k = lastK fr := by
  intro fr
  induction fr with
  | nil => intro h; exact absurd h (by show ¬ 0 < 0; omega)
  | cons h k r _ ih =>
    intro _
    cases r with
    | nil => exact ⟨h, k, rfl, rfl⟩
    | cons h2 k2 r2 =>
      obtain ⟨hh, kk, e1, e2⟩ := ih (by show 0 < r2.len + 1; omega)
      refine ⟨hh, kk, ?_, e2⟩
      have e3 : (Fr.cons h2 k2 r2).len = r2.len + 1 := rfl
      rw [e3] at e1
      have e4 : (Fr.cons h k (Fr.cons h2 k2 r2)).len - 1 = (r2.len + 1 - 1) + 1 := by
        show r2.len + 1 + 1 - 1 = _
        omega
      rw [e4]
      exact e1
/-- a text that can be one's -/
def textB (t : ByteArray) : Bool := Lib.validD t.data.toList && decide (Lib.runeCount t ≤ 400)
/-- can a datum be, as its kind says; sub: can its Items be -/
def rightK (nm : ByteArray → Bool) (d : Int) (h : Hd) (kids : Fr) (sub : Bool) : Bool :=
  elseB h.k (h.n == 0) (nothB h.fl h.f h.s h.xs) (h.t.toList == []) (((kids.len : Nat) : Int) == 0) &&
    (if h.k = 0 then rightN h.fl h.f h.s h.xs else if h.k = 1 then (h.n == 0 || h.n == 1) else if h.k = 2 then csignB h.n else if h.k = 3 then textB h.t else if h.k = 4 then nm h.t else
      (decide (0 < d) && areB h.k kids.len (lastK kids) && sub))
def rightF (nm : ByteArray → Bool) : Int → Fr → Bool
  | _, .nil => true
  | d, .cons h kids rest => rightK nm d h kids (rightF nm (d - 1) kids) && rightF nm d rest
/-- the symbols' texts -/
def SymIn (t : ByteArray) : Fr → Prop
  | .nil => False
  | .cons h kids rest => (h.k = 4 ∧ t = h.t) ∨ SymIn t kids ∨ SymIn t rest
theorem SymIn.drop {t : ByteArray} : ∀ (j : Nat) {fr : Fr}, SymIn t (fr.drop j) → SymIn t fr := by
  intro j
  induction j with
  | zero => intro fr h; exact h
  | succ j ih =>
    intro fr h
    cases fr with
    | nil => exact h
    | cons hh k r => exact .inr (.inr (ih h))

set_option maxRecDepth 100000 in
set_option maxHeartbeats 4000000 in
/-- the first that can't be -/
theorem dindex_any (nm : ByteArray → Bool) (d : Int) (g : Nat) (kids : Fr) (B : Option Addr) (cap b off : Nat) (w : World) (hB : 0 < kids.len → B = some ⟨b, off, none⟩) (hF : FAt w b off kids) (hc1 : kids.len ≤ cap) (hc2 : cap ≤ 9223372036854775807)
    (hcl : ∀ hh k j r, kids.drop j = .cons hh k r → ∀ W, Below w.heap.size w W → DatV W hh k → Calls Tryz.prog 134 #[datA hh k.len, .pointer (some ⟨g, 0, none⟩)] W fun e w' => e = .returned (.bool (!rightK nm d hh k (rightF nm (d - 1) k))) ∧ Below W.heap.size W w') :
    Calls Tryz.prog 204 #[.slice B kids.len cap, .func (.func 134) #[] #[.pointer (some ⟨g, 0, none⟩)]] w fun e w' => (∃ z : Int, e = .returned (.int .i64 z) ∧ decide (0 ≤ z) = !rightF nm d kids) ∧ Below w.heap.size w w' := by
  rcases Nat.eq_zero_or_pos kids.len with h0 | hpos
  · have hk0 : kids = .nil := by
      cases kids with
      | nil => rfl
      | cons x y z => have h3 : z.len + 1 = 0 := h0; omega
    subst hk0
    show Calls Tryz.prog 204 #[.slice B 0 cap, .func (.func 134) #[] #[.pointer (some ⟨g, 0, none⟩)]] w fun e w' => (∃ z : Int, e = .returned (.int .i64 z) ∧ decide (0 ≤ z) = false) ∧ Below w.heap.size w w'
    clear hcl hF hB hc1
    go_enter Tryz.func204, Tryz.ntmps204
    go_wp2_with (fail)
    go_loopg [8] 0 (fun kk i wr => wr = w ∧ i = .int .i64 0)
    case atStart => exact ⟨rfl, rfl⟩
    case round =>
      obtain ⟨rfl, rfl⟩ := hrel
      go_wp2_with (fail)
      go_ret
      exact ⟨⟨-1, rfl, rfl⟩, Below.refl _ _⟩
  obtain rfl := hB hpos
  clear hB
  have HF := Lib.hid hF
  have HCL := Lib.hid hcl
  clear hF hcl
  go_enter Tryz.func204, Tryz.ntmps204
  go_wp2_with (fail)
  go_loopg [8] kids.len (fun kk i wr => Below w.heap.size w wr ∧ ∃ j : Nat, j ≤ kids.len ∧ kk = kids.len - j ∧ i = .int .i64 (j : Int) ∧ rightF nm d (kids.drop j) = rightF nm d kids)
  case atStart => exact ⟨Below.refl _ _, 0, Nat.zero_le _, rfl, rfl, rfl⟩
  case round =>
    obtain ⟨hbr, j, hj, rfl, rfl, hrf⟩ := hrel
    have HBR := Lib.hid hbr
    clear hbr
    by_cases hjl : j < kids.len
    · obtain ⟨hh, k, r, hdr, hdr1⟩ := Fr.cons_of_lt hjl
      rw [hdr] at hrf
      obtain ⟨hbl, ⟨x0, x1, x2, x3, x4, x5, x6, x7⟩, D⟩ := counted_item (FAt.below HBR.out _ _ _ HF.out) hdr
      have CL := Lib.hid (HCL.out hh k j r hdr wr HBR.out D)
      have hrf2 : (rightK nm d hh k (rightF nm (d - 1) k) && rightF nm d r) = rightF nm d kids := hrf
      obtain ⟨q, hq⟩ : ∃ q, rightK nm d hh k (rightF nm (d - 1) k) = q := ⟨_, rfl⟩
      rw [hq] at CL hrf2
      have HRF := Lib.hid hrf2
      have HDR := Lib.hid hdr1
      clear hrf hdr hdr1 D hrf2 hq
      go_wp2_with (fail)
      refine CL.out.mono ?_
      rintro e w2 ⟨rfl, hb2⟩
      have HB2 := Lib.hid (bel_trans (B := w.heap.size) HBR.out hb2)
      clear hb2
      cases q
      · go_wp2_with (fail)
        go_ret
        exact ⟨⟨j, rfl, by rw [← HRF.out]; simp⟩, HB2.out⟩
      · go_wp2_with (fail)
        go_roundg (kids.len - (j + 1))
        case measure => omega
        case rel => exact ⟨HB2.out, j + 1, by omega, rfl, by go_num, by rw [HDR.out]; exact HRF.out⟩
    · have hje : j = kids.len := by omega
      subst hje
      have hnil : kids.drop kids.len = .nil := by
        have h1 := Fr.len_drop kids.len kids
        cases h2 : kids.drop kids.len with
        | nil => rfl
        | cons x y z => rw [h2] at h1; have h3 : z.len + 1 = kids.len - kids.len := h1; omega
      rw [hnil] at hrf
      have HR : Hid (true = rightF nm d kids) := Lib.hid hrf
      clear hrf hnil
      go_wp2_with (fail)
      go_ret
      exact ⟨⟨-1, rfl, by rw [← HR.out]; rfl⟩, HBR.out⟩

end LM
end Go.Proofs.YtcfhiihhfcnfbaaGreatDoor

namespace Go.Proofs.YtcfhiihhfcnfbaaGreatDoor
open Go Go.RowKit
namespace LM
set_option linter.unusedVariables false
attribute [local go_sem] run_store_flt

theorem below_iterD (W : World) (s : ByteArray) (pos : Nat) : Below W.heap.size W (W.iter s pos) := by
  unfold World.iter
  exact (Below.refl _ W).alloc (Nat.le_refl _) _

set_option maxRecDepth 100000 in
set_option maxHeartbeats 4000000 in
theorem dcontains_any (nm : ByteArray → Bool) (d : Int) (g : Nat) (kids : Fr) (B : Option Addr) (cap b off : Nat) (w : World) (hB : 0 < kids.len → B = some ⟨b, off, none⟩) (hF : FAt w b off kids) (hc1 : kids.len ≤ cap) (hc2 : cap ≤ 9223372036854775807)
    (hcl : ∀ hh k j r, kids.drop j = .cons hh k r → ∀ W, Below w.heap.size w W → DatV W hh k → Calls Tryz.prog 134 #[datA hh k.len, .pointer (some ⟨g, 0, none⟩)] W fun e w' => e = .returned (.bool (!rightK nm d hh k (rightF nm (d - 1) k))) ∧ Below W.heap.size W w') :
    Calls Tryz.prog 133 #[.slice B kids.len cap, .func (.func 134) #[] #[.pointer (some ⟨g, 0, none⟩)]] w fun e w' => e = .returned (.bool (!rightF nm d kids)) ∧ Below w.heap.size w w' := by
  have H1 := Lib.hid (dindex_any nm d g kids B cap b off w hB hF hc1 hc2 hcl)
  clear hB hF hcl
  go_enter Tryz.func133, Tryz.ntmps133
  go_wp2_with (fail)
  refine H1.out.mono ?_
  rintro e w1 ⟨⟨z, rfl, hz⟩, hb1⟩
  have HB1 := Lib.hid hb1
  have HZ := Lib.hid hz
  clear hb1 hz
  go_wp2_with (fail)
  go_ret
  exact ⟨by rw [← HZ.out]; rfl, HB1.out⟩

set_option maxRecDepth 100000 in
set_option maxHeartbeats 4000000 in
theorem dclosure_any (hh : Hd) (k : Fr) (depth : Int) (hd1 : 0 ≤ depth) (hd2 : depth ≤ 60) (g : Nat) (q : Bool) (w : World) (hg : g < w.heap.size) (hcell : w.cell? ⟨g, 0, none⟩ = some (.int .i64 depth))
    (hR : ∀ W, Below w.heap.size w W → Calls Tryz.prog 72 #[datA hh k.len, .int .i64 (depth - 1)] W fun e w' => e = .returned (.bool q) ∧ Below W.heap.size W w') :
    Calls Tryz.prog 134 #[datA hh k.len, .pointer (some ⟨g, 0, none⟩)] w fun e w' => e = .returned (.bool (!q)) ∧ Below w.heap.size w w' := by
  obtain ⟨W0, hW0, hb0, ho, hs0⟩ := dat_block w hh k.len
  have x0 : (w.alloc (datO hh k.len)).cell? ⟨g, 0, none⟩ = some (.int .i64 depth) := by rw [hW0]; exact (hb0.cell (p := ⟨g, 0, none⟩) hg).trans hcell
  have HO := Lib.hid ho
  have HW0 := Lib.hid hW0
  have HB0 := Lib.hid hb0
  have HR := Lib.hid (hR W0 hb0)
  have w1 : IntKind.i64.wrap (depth - 1) = depth - 1 := by rw [IntKind.wrap_i64]; omega
  obtain ⟨y0, y1, y2, y3, y4, y5, y6, y7⟩ := C8.of_block ho
  clear hW0 hb0 ho hR hcell
  go_enter Tryz.func134, Tryz.ntmps134
  go_wp2_with (fail)
  rw [HW0.out]
  refine HR.out.mono ?_
  rintro e w1 ⟨rfl, hb1⟩
  have HB1 := Lib.hid (bel_trans (B := w.heap.size) HB0.out hb1)
  clear hb1
  go_wp2_with (fail)
  go_ret
  exact ⟨rfl, HB1.out⟩

set_option maxRecDepth 100000 in
set_option maxHeartbeats 16000000 in
theorem dright_go (nm : ByteArray → Bool) (h : Hd) (kids : Fr) (depth : Int) (hd1 : 0 ≤ depth) (hd2 : depth ≤ 60) (sub : Bool) (w : World) (hD : DatV w h kids) (hok : h.Ok kids.len) (hu : UT w) (hnm : h.k = 4 → CallB w 27 #[.string h.t] (.bool (nm h.t)))
    (hsub : 0 < depth → ∀ g W, Below w.heap.size w W → g < W.heap.size → W.cell? ⟨g, 0, none⟩ = some (.int .i64 depth) →
      Calls Tryz.prog 133 #[.slice h.B kids.len h.cap, .func (.func 134) #[] #[.pointer (some ⟨g, 0, none⟩)]] W fun e w' => e = .returned (.bool (!sub)) ∧ Below W.heap.size W w') :
    Calls Tryz.prog 72 #[datA h kids.len, .int .i64 depth] w fun e w' => e = .returned (.bool (rightK nm depth h kids sub)) ∧ Below w.heap.size w w' := by
  have hE : CallB w 127 #[datA h kids.len] (.bool (elseB h.k (h.n == 0) (nothB h.fl h.f h.s h.xs) (h.t.toList == []) (((kids.len : Nat) : Int) == 0))) := fun W hW =>
    delse_any h kids.len _ _ _ _ W rfl rfl rfl fun W2 h2 => by
      have := dnothing_any h.fl h.f h.s h.A h.xs.length h.c _ W2 fun W3 h3 => tright_any h.fl h.f hok.f h.s h.A h.c h.xs W3 (((hD.xs.below hW).below h2).below h3) hok.lm hok.l
      exact this
  obtain ⟨W0, hW0⟩ : ∃ W0, (w.alloc (datO h kids.len)).alloc (.cells #[.int .i64 depth] 3 (0, 0)) = W0 := ⟨_, rfl⟩
  have hb0 : Below w.heap.size w W0 := by rw [← hW0]; exact ((Below.refl _ w).alloc (Nat.le_refl _) _).alloc (by simp) _
  have hO : Obs W0 [(w.heap.size + 1, .cells #[.int .i64 depth] 3 (0, 0)), (w.heap.size, datO h kids.len)] := by
    rw [← hW0]
    have h1 := (Obs.nil.new (w := w) (datO h kids.len)).new (.cells #[.int .i64 depth] 3 (0, 0))
    simp only [World.size_alloc] at h1
    exact h1
  obtain ⟨q, hq⟩ : ∃ q, elseB h.k (h.n == 0) (nothB h.fl h.f h.s h.xs) (h.t.toList == []) (((kids.len : Nat) : Int) == 0) = q := ⟨_, rfl⟩
  rw [hq] at hE
  have HW0 := Lib.hid hW0
  have HB0 := Lib.hid hb0
  have O0 := Lib.hid hO
  have HE := Lib.hid (hE W0 hb0)
  have c0 := C8.of_block hO.tl.hd
  obtain ⟨x0, x1, x2, x3, x4, x5, x6, x7⟩ := c0
  have HQ : Hid (rightK nm depth h kids sub = (q && (if h.k = 0 then rightN h.fl h.f h.s h.xs else if h.k = 1 then (h.n == 0 || h.n == 1) else if h.k = 2 then csignB h.n else if h.k = 3 then textB h.t else if h.k = 4 then nm h.t else
      (decide (0 < depth) && areB h.k kids.len (lastK kids) && sub)))) := Lib.hid (by unfold rightK; rw [hq])
  clear hW0 hb0 hO hE hq
  cases q
  · go_enter Tryz.func72, Tryz.ntmps72
    go_wp2_with (fail)
    rw [HW0.out]
    refine HE.out.mono ?_
    rintro e w1 ⟨rfl, hb1⟩
    have HB1 := Lib.hid (bel_trans (B := w.heap.size) HB0.out hb1)
    clear hb1
    go_wp2_with (fail)
    go_ret
    exact ⟨by rw [HQ.out]; rfl, HB1.out⟩
  · rcases kinds h.k with hk | hk | hk | hk | hk | hk | hk | hk | ⟨k0, k1, k2, k3, k4, k5, k6, k7⟩
    · have HT := Lib.hid fun W (hW : Below w.heap.size w W) => tright_any h.fl h.f hok.f h.s h.A h.c h.xs W (hD.xs.below hW) hok.lm hok.l
      have HQ2 : Hid (rightK nm depth h kids sub = rightN h.fl h.f h.s h.xs) := Lib.hid (by rw [HQ.out, if_pos hk]; rfl)
      have HK := Lib.hid hk
      clear hD hok hu hnm hsub HQ hk
      go_enter Tryz.func72, Tryz.ntmps72
      go_wp2_with (fail)
      rw [HW0.out]
      refine HE.out.mono ?_
      rintro e w1 ⟨rfl, hb1⟩
      have HB1 := Lib.hid (bel_trans (B := w.heap.size) HB0.out hb1)
      obtain ⟨y0, y1, y2, y3, y4, y5, y6, y7⟩ := C8.of_block (O0.out.below hb1).tl.hd
      have z0 := ob_cell (O0.out.below hb1).hd 0
      rw [HK.out] at y0
      clear hb1
      go_wp2_with (fail)
      refine (HT.out _ HB1.out).mono ?_
      rintro e w2 ⟨rfl, hb2⟩
      have HB2 := Lib.hid (bel_trans (B := w.heap.size) HB1.out hb2)
      clear hb2
      go_wp2_with (fail)
      go_ret
      exact ⟨by rw [HQ2.out]; rfl, HB2.out⟩
    · have HQ2 : Hid (rightK nm depth h kids sub = (h.n == 0 || h.n == 1)) := Lib.hid (by rw [HQ.out, if_neg (by omega), if_pos hk]; rfl)
      have HK := Lib.hid hk
      clear hD hok hu hnm hsub HQ hk
      go_enter Tryz.func72, Tryz.ntmps72
      go_wp2_with (fail)
      rw [HW0.out]
      refine HE.out.mono ?_
      rintro e w1 ⟨rfl, hb1⟩
      have HB1 := Lib.hid (bel_trans (B := w.heap.size) HB0.out hb1)
      obtain ⟨y0, y1, y2, y3, y4, y5, y6, y7⟩ := C8.of_block (O0.out.below hb1).tl.hd
      have z0 := ob_cell (O0.out.below hb1).hd 0
      rw [HK.out] at y0
      clear hb1
      go_wp2_with (fail)
      all_goals
        go_ret
        exact ⟨by rw [HQ2.out]; simp [*], HB1.out⟩
    · have HT := Lib.hid fun W => dsign_any h.n hok.n.1 hok.n.2 W
      have HQ2 : Hid (rightK nm depth h kids sub = csignB h.n) := Lib.hid (by rw [HQ.out, if_neg (by omega), if_neg (by omega), if_pos hk]; rfl)
      have HK := Lib.hid hk
      clear hD hok hu hnm hsub HQ hk
      go_enter Tryz.func72, Tryz.ntmps72
      go_wp2_with (fail)
      rw [HW0.out]
      refine HE.out.mono ?_
      rintro e w1 ⟨rfl, hb1⟩
      have HB1 := Lib.hid (bel_trans (B := w.heap.size) HB0.out hb1)
      obtain ⟨y0, y1, y2, y3, y4, y5, y6, y7⟩ := C8.of_block (O0.out.below hb1).tl.hd
      have z0 := ob_cell (O0.out.below hb1).hd 0
      rw [HK.out] at y0
      clear hb1
      go_wp2_with (fail)
      refine (HT.out _).mono ?_
      rintro e w2 ⟨rfl, rfl⟩
      go_wp2_with (fail)
      go_ret
      exact ⟨by rw [HQ2.out]; rfl, HB1.out⟩
    · have HV := Lib.hid fun W (hW : Below w.heap.size w W) => Tryz.utf8_ValidString h.t W (by have := hok.t; omega) (hu W hW)
      have HC := Lib.hid fun W => Tryz.utf8_RuneCountInString h.t W (by have := hok.t; omega)
      have HQ2 : Hid (rightK nm depth h kids sub = (Lib.validD h.t.data.toList && decide (Lib.runeCount h.t ≤ 400))) := Lib.hid (by rw [HQ.out, if_neg (by omega), if_neg (by omega), if_neg (by omega), if_pos hk]; rfl)
      have HK := Lib.hid hk
      obtain ⟨rc, hrc⟩ : ∃ rc, Lib.runeCount h.t = rc := ⟨_, rfl⟩
      obtain ⟨vd, hvd⟩ : ∃ vd, Lib.validD h.t.data.toList = vd := ⟨_, rfl⟩
      rw [hrc] at HC HQ2
      rw [hvd] at HV HQ2
      clear hD hok hu hnm hsub HQ hk hrc hvd
      go_enter Tryz.func72, Tryz.ntmps72
      go_wp2_with (fail)
      rw [HW0.out]
      refine HE.out.mono ?_
      rintro e w1 ⟨rfl, hb1⟩
      have HB1 := Lib.hid (bel_trans (B := w.heap.size) HB0.out hb1)
      obtain ⟨y0, y1, y2, y3, y4, y5, y6, y7⟩ := C8.of_block (O0.out.below hb1).tl.hd
      have z0 := ob_cell (O0.out.below hb1).hd 0
      rw [HK.out] at y0
      have HX1 := Lib.hid hb1
      clear hb1
      go_wp2_with (fail)
      refine (HV.out _ HB1.out).mono ?_
      rintro e w2 ⟨rfl, hb2⟩
      have HB2 := Lib.hid (bel_trans (B := w.heap.size) HB1.out hb2)
      obtain ⟨v0, v1, v2, v3, v4, v5, v6, v7⟩ := C8.of_block (O0.out.below (bel_trans (B := W0.heap.size) HX1.out hb2)).tl.hd
      clear hb2 y0 y1 y2 y3 y4 y5 y6 y7 z0
      cases vd
      · go_wp2_with (fail)
        go_ret
        exact ⟨by rw [HQ2.out]; rfl, HB2.out⟩
      · go_wp2_with (fail)
        refine (HC.out _).mono ?_
        rintro e w3 ⟨rfl, pos, rfl⟩
        have HB3 := Lib.hid (bel_trans (B := w.heap.size) HB2.out (below_iterD w2 h.t pos))
        have h400 : ((rc : Int) ≤ 400 ↔ rc ≤ 400) := by omega
        have h401 : decide ((rc : Int) ≤ 400) = decide (rc ≤ 400) := decide_eq_decide.2 h400
        clear h400
        go_wp2_with (fail)
        go_ret
        exact ⟨by rw [HQ2.out]; first | rfl | simp [*], HB3.out⟩
    · have HT := Lib.hid (hnm hk)
      have HQ2 : Hid (rightK nm depth h kids sub = nm h.t) := Lib.hid (by rw [HQ.out, if_neg (by omega), if_neg (by omega), if_neg (by omega), if_neg (by omega), if_pos hk]; rfl)
      have HK := Lib.hid hk
      clear hD hok hu hnm hsub HQ hk
      go_enter Tryz.func72, Tryz.ntmps72
      go_wp2_with (fail)
      rw [HW0.out]
      refine HE.out.mono ?_
      rintro e w1 ⟨rfl, hb1⟩
      have HB1 := Lib.hid (bel_trans (B := w.heap.size) HB0.out hb1)
      obtain ⟨y0, y1, y2, y3, y4, y5, y6, y7⟩ := C8.of_block (O0.out.below hb1).tl.hd
      have z0 := ob_cell (O0.out.below hb1).hd 0
      rw [HK.out] at y0
      clear hb1
      go_wp2_with (fail)
      refine (HT.out _ HB1.out).mono ?_
      rintro e w2 ⟨rfl, hb2⟩
      have HB2 := Lib.hid (bel_trans (B := w.heap.size) HB1.out hb2)
      clear hb2
      go_wp2_with (fail)
      go_ret
      exact ⟨by rw [HQ2.out]; rfl, HB2.out⟩
    all_goals
      have f0 : (h.k == 0) = false := by first | exact k0 | (rw [hk]; rfl)
      have f1 : (h.k == 1) = false := by first | exact k1 | (rw [hk]; rfl)
      have f2 : (h.k == 2) = false := by first | exact k2 | (rw [hk]; rfl)
      have f3 : (h.k == 3) = false := by first | exact k3 | (rw [hk]; rfl)
      have f4 : (h.k == 4) = false := by first | exact k4 | (rw [hk]; rfl)
      have HQ2 : Hid (rightK nm depth h kids sub = (decide (0 < depth) && areB h.k kids.len (lastK kids) && sub)) := Lib.hid (by
        rw [beq_eq_false_iff_ne] at f0 f1 f2 f3 f4
        rw [HQ.out, if_neg f0, if_neg f1, if_neg f2, if_neg f3, if_neg f4]; rfl)
      try clear hk
      try clear k0 k1 k2 k3 k4 k5 k6 k7
      by_cases hd0 : 0 < depth
      · have HA : Hid (∀ W, Below w.heap.size w W → Calls Tryz.prog 132 #[.int .i64 h.k, .slice h.B kids.len h.cap] W fun e w' => e = .returned (.bool (areB h.k kids.len (lastK kids))) ∧ Below W.heap.size W w') := Lib.hid fun W hW => by
          obtain ⟨b, off, hB, hF⟩ := (hD.below hW).items
          rcases Nat.eq_zero_or_pos kids.len with h0 | hp
          · have := dareitems_any h.k h.B kids.len h.cap (by omega) b off ⟨lastK kids, 0, false, 0, false, none, [], 0, ⟨#[]⟩, none, 0⟩ 0 W (fun h => by omega) (fun h => by omega)
            exact this
          · obtain ⟨hh, k, e1, e2⟩ := last_item kids hp
            have := dareitems_any h.k h.B kids.len h.cap (by have := hok.cap; omega) b off hh k.len W hB (fun _ => (counted_item hF e1).2.1)
            rw [e2] at this
            exact this
        have HS := Lib.hid (hsub hd0)
        have hdt : decide (0 < depth) = true := decide_eq_true hd0
        obtain ⟨ab, hab⟩ : ∃ ab, areB h.k kids.len (lastK kids) = ab := ⟨_, rfl⟩
        rw [hab, hdt] at HQ2
        rw [hab] at HA
        clear hD hok hu hnm hsub HQ hab
        go_enter Tryz.func72, Tryz.ntmps72
        go_wp2_with (fail)
        rw [HW0.out]
        refine HE.out.mono ?_
        rintro e w1 ⟨rfl, hb1⟩
        have HB1 := Lib.hid (bel_trans (B := w.heap.size) HB0.out hb1)
        obtain ⟨y0, y1, y2, y3, y4, y5, y6, y7⟩ := C8.of_block (O0.out.below hb1).tl.hd
        have z0 := ob_cell (O0.out.below hb1).hd 0
        rw [show (#[Value.int .i64 depth] : Array Value)[0]? = some (.int .i64 depth) from rfl] at z0
        have HX1 := Lib.hid hb1
        clear hb1
        go_wp2_with (fail)
        refine (HA.out _ HB1.out).mono ?_
        rintro e w2 ⟨rfl, hb2⟩
        have HB2 := Lib.hid (bel_trans (B := w.heap.size) HB1.out hb2)
        have O2 := Lib.hid (O0.out.below (bel_trans (B := W0.heap.size) HX1.out hb2))
        have hlt : w.heap.size + 1 < w2.heap.size := by
          have h1 := (O0.out.below (bel_trans (B := W0.heap.size) HX1.out hb2)).hd
          rcases Nat.lt_or_ge (w.heap.size + 1) w2.heap.size with h2 | h2
          · exact h2
          · rw [Array.getElem?_eq_none h2] at h1; cases h1
        obtain ⟨v0, v1, v2, v3, v4, v5, v6, v7⟩ := C8.of_block (O0.out.below (bel_trans (B := W0.heap.size) HX1.out hb2)).tl.hd
        have u0 := ob_cell (O0.out.below (bel_trans (B := W0.heap.size) HX1.out hb2)).hd 0
        rw [show (#[Value.int .i64 depth] : Array Value)[0]? = some (.int .i64 depth) from rfl] at u0
        have HS2 := Lib.hid (HS.out _ _ HB2.out hlt u0)
        clear hb2 y0 y1 y2 y3 y4 y5 y6 y7 z0 u0
        cases ab
        · go_wp2_with (fail)
          go_ret
          exact ⟨by rw [HQ2.out]; rfl, HB2.out⟩
        · go_wp2_with (fail)
          refine HS2.out.mono ?_
          rintro e w3 ⟨rfl, hb3⟩
          have HB3 := Lib.hid (bel_trans (B := w.heap.size) HB2.out hb3)
          clear hb3
          go_wp2_with (fail)
          go_ret
          exact ⟨by rw [HQ2.out]; simp, HB3.out⟩
      · have hdf : decide (0 < depth) = false := decide_eq_false hd0
        rw [hdf] at HQ2
        clear hD hok hu hnm hsub HQ
        go_enter Tryz.func72, Tryz.ntmps72
        go_wp2_with (fail)
        rw [HW0.out]
        refine HE.out.mono ?_
        rintro e w1 ⟨rfl, hb1⟩
        have HB1 := Lib.hid (bel_trans (B := w.heap.size) HB0.out hb1)
        obtain ⟨y0, y1, y2, y3, y4, y5, y6, y7⟩ := C8.of_block (O0.out.below hb1).tl.hd
        have z0 := ob_cell (O0.out.below hb1).hd 0
        rw [show (#[Value.int .i64 depth] : Array Value)[0]? = some (.int .i64 depth) from rfl] at z0
        clear hb1
        go_wp2_with (fail)
        go_ret
        exact ⟨by rw [HQ2.out]; simp, HB1.out⟩

theorem dright_any (nm : ByteArray → Bool) : ∀ (m : Nat) (kids : Fr), kids.size < m → kids.Ok → ∀ (h : Hd) (depth : Int) (w : World), DatV w h kids → h.Ok kids.len → 0 ≤ depth → depth ≤ 60 → UT w → (∀ t, (h.k = 4 ∧ t = h.t) ∨ SymIn t kids → CallB w 27 #[.string t] (.bool (nm t))) →
    Calls Tryz.prog 72 #[datA h kids.len, .int .i64 depth] w fun e w' => e = .returned (.bool (rightK nm depth h kids (rightF nm (depth - 1) kids))) ∧ Below w.heap.size w w' := by
  intro m
  induction m with
  | zero => intro kids h; omega
  | succ m ih =>
    intro kids hsz hok h depth w hd hho h0 h60 hu hnm
    refine dright_go nm h kids depth h0 h60 (rightF nm (depth - 1) kids) w hd hho hu (fun hk => hnm _ (.inl ⟨hk, rfl⟩)) fun hpos g W hW hg hcell => ?_
    obtain ⟨b, off, hB, hF⟩ := (hd.below hW).items
    refine dcontains_any nm (depth - 1) g kids h.B h.cap b off W hB hF hho.cap.1 hho.cap.2 fun hh k j r hdr W2 hW2 hD2 => ?_
    have hko := Fr.Ok.drop j hok
    rw [hdr] at hko
    refine dclosure_any hh k depth h0 h60 g _ W2 (Nat.lt_of_lt_of_le hg hW2.size) ((hW2.cell (p := ⟨g, 0, none⟩) hg).trans hcell) fun W3 hW3 => ?_
    refine ih k (by have := size_item hdr; omega) hko.2.1 hh (depth - 1) W3 (hD2.below hW3) hko.1 (by omega) (by omega) ((hu.keep hW).keep (hW2.trans (hW3.mono hW2.size))) fun t ht => ?_
    refine callB_keep (hnm t (.inr ?_)) (bel_trans (B := w.heap.size) (bel_trans (B := w.heap.size) hW hW2) hW3)
    have h1 : SymIn t (kids.drop j) := by rw [hdr]; exact ht.elim .inl (fun h => .inr (.inl h))
    exact SymIn.drop j h1

/-- can a datum be -/
def rightD (nm : ByteArray → Bool) (h : Hd) (kids : Fr) : Bool := decide (cnt 3001 1 kids ≤ 3000) && rightK nm 60 h kids (rightF nm 59 kids)
set_option maxRecDepth 100000 in
set_option maxHeartbeats 4000000 in
theorem dRight_any (nm : ByteArray → Bool) (kids : Fr) (hok : kids.Ok) (h : Hd) (w : World) (hd : DatV w h kids) (hho : h.Ok kids.len) (hu : UT w) (hnm : ∀ t, (h.k = 4 ∧ t = h.t) ∨ SymIn t kids → CallB w 27 #[.string t] (.bool (nm t))) :
    Calls Tryz.prog 25 #[datA h kids.len] w fun e w' => e = .returned (.bool (rightD nm h kids)) ∧ Below w.heap.size w w' := by
  obtain ⟨W0, hW0, hb0, ho, hs0⟩ := dat_block w h kids.len
  have HC := Lib.hid (counted_any (kids.size + 1) kids (by omega) hok h 3001 W0 (hd.below hb0) hho.cap.1 hho.cap.2 (by decide) (by decide))
  have HR := Lib.hid fun W (hW : Below w.heap.size w W) => dright_any nm (kids.size + 1) kids (by omega) hok h 60 W (hd.below hW) hho (by decide) (by decide) (hu.keep hW) fun t ht => callB_keep (hnm t ht) hW
  have HO := Lib.hid ho
  have HW0 := Lib.hid hW0
  have HB0 := Lib.hid hb0
  have HS := Lib.hid hs0
  obtain ⟨c, hc⟩ : ∃ c, cnt 3001 1 kids = c := ⟨_, rfl⟩
  obtain ⟨r, hr⟩ : ∃ r, rightK nm 60 h kids (rightF nm (60 - 1) kids) = r := ⟨_, rfl⟩
  have HQ : Hid (rightD nm h kids = (decide (c ≤ 3000) && r)) := Lib.hid (by unfold rightD; rw [hc, ← hr]; rfl)
  rw [hc] at HC
  rw [hr] at HR
  obtain ⟨x0, x1, x2, x3, x4, x5, x6, x7⟩ := C8.of_block ho
  clear hW0 hb0 ho hd hho hu hnm hc hr hok hs0
  by_cases h3 : c ≤ 3000
  · have d1 : decide (c ≤ 3000) = true := decide_eq_true h3
    rw [d1] at HQ
    clear h3
    go_enter Tryz.func25, Tryz.ntmps25
    go_wp2_with (fail)
    rw [HW0.out]
    refine HC.out.mono ?_
    rintro e w1 ⟨rfl, hb1⟩
    have HB1 := Lib.hid (bel_trans (B := w.heap.size) HB0.out hb1)
    obtain ⟨y0, y1, y2, y3, y4, y5, y6, y7⟩ := (C8.of_block HO.out).keep hb1 HS.out
    simp only [Nat.zero_add] at y0 y1 y2 y3 y4 y5 y6 y7
    clear hb1
    go_wp2_with (fail)
    refine (HR.out _ HB1.out).mono ?_
    rintro e w2 ⟨rfl, hb2⟩
    have HB2 := Lib.hid (bel_trans (B := w.heap.size) HB1.out hb2)
    clear hb2
    go_wp2_with (fail)
    go_ret
    exact ⟨by rw [HQ.out]; rfl, HB2.out⟩
  · have d1 : decide (c ≤ 3000) = false := decide_eq_false h3
    rw [d1] at HQ
    clear h3
    go_enter Tryz.func25, Tryz.ntmps25
    go_wp2_with (fail)
    rw [HW0.out]
    refine HC.out.mono ?_
    rintro e w1 ⟨rfl, hb1⟩
    have HB1 := Lib.hid (bel_trans (B := w.heap.size) HB0.out hb1)
    clear hb1
    go_wp2_with (fail)
    go_ret
    exact ⟨by rw [HQ.out]; rfl, HB1.out⟩

end LM
end Go.Proofs.YtcfhiihhfcnfbaaGreatDoor

namespace Go.Proofs.YtcfhiihhfcnfbaaGreatDoor
open Go Go.RowKit
namespace LM
set_option linter.unusedVariables false
attribute [local go_sem] run_store_flt

/-- are two numbers that can be the same -/
def numS (h h' : Hd) : Bool := if h.fl then (if h'.fl then canW h.f == canW h'.f else false) else (if h'.fl then false else decide (sg h.s (val h.xs) = sg h'.s (val h'.xs)))
def headS (h h' : Hd) : Bool := (h.k == h'.k) && (h.n == h'.n) && (h.t.toList == h'.t.toList) && numS h h'
def sameF : Fr → Fr → Bool
  | .nil, .nil => true
  | .cons h k r, .cons h' k' r' => headS h h' && sameF k k' && sameF r r'
  | .nil, .cons _ _ _ => false
  | .cons _ _ _, .nil => false
/-- each number can be -/
def NumsR : Fr → Prop
  | .nil => True
  | .cons h k r => rightN h.fl h.f h.s h.xs = true ∧ NumsR k ∧ NumsR r
theorem NumsR.drop : ∀ (j : Nat) {fr : Fr}, NumsR fr → NumsR (fr.drop j) := by
  intro j
  induction j with
  | zero => intro fr h; exact h
  | succ j ih =>
    intro fr h
    cases fr with
    | nil => exact trivial
    | cons hh k r => exact ih h.2.2
theorem sameF_len : ∀ (a b : Fr), a.len ≠ b.len → sameF a b = false := by
  intro a
  induction a with
  | nil =>
    intro b h
    cases b with
    | nil => exact absurd rfl h
    | cons x y z => rfl
  | cons x y z _ ih =>
    intro b h
    cases b with
    | nil => rfl
    | cons x' y' z' =>
      show (headS x x' && sameF y y' && sameF z z') = false
      rw [ih z' (fun e => h (by show z.len + 1 = z'.len + 1; rw [e])), Bool.and_false]

theorem tsame_any {w : World} {h h' : Hd} (ha : NumOk w h.fl h.f h.s h.A h.xs.length h.c) (hb : NumOk w h'.fl h'.f h'.s h'.A h'.xs.length h'.c) (hx : rightN h.fl h.f h.s h.xs = true) (hx' : rightN h'.fl h'.f h'.s h'.xs = true) (rx : Rd w h.A h.xs) (rx' : Rd w h'.A h'.xs) (lx : Lm h.xs) (lx' : Lm h'.xs) (cx : h.xs.length ≤ h.c ∧ h.c ≤ 9223372036854775807) (cx' : h'.xs.length ≤ h'.c ∧ h'.c ≤ 9223372036854775807) :
    CallB w 148 #[numA h.fl h.f h.s h.A h.xs.length h.c, numA h'.fl h'.f h'.s h'.A h'.xs.length h'.c] (.bool (numS h h')) := by
  obtain ⟨k, n, fl, f, s, A, xs, c, t, B, cap⟩ := h
  obtain ⟨k', n', fl', f', s', A', xs', c', t', B', cap'⟩ := h'
  simp only at *
  unfold numS
  simp only
  cases fl <;> cases fl'
  · simp only [Bool.false_eq_true, if_false]
    unfold rightN at hx hx'
    rw [if_neg (by decide), Bool.and_eq_true] at hx hx'
    have h1 := intV_of hx.2 rx lx cx.1 cx.2
    have h2 := intV_of hx'.2 rx' lx' cx'.1 cx'.2
    exact fun W hW => tsame_ii f f' s A xs.length c s' A' xs'.length c' W _ (fun V hV => esame_int ((h1.1.keep hW).keep hV) ((h2.1.keep hW).keep hV) h1.2 h2.2)
  · simp only [Bool.false_eq_true, if_false, if_true]
    exact fun W _ => tsame_if f f' s A xs.length c s' A' xs'.length c' W
  · simp only [Bool.false_eq_true, if_false, if_true]
    exact fun W _ => tsame_fi f f' s A xs.length c s' A' xs'.length c' W
  · simp only [if_true]
    exact fun W _ => tsame_ff f f' s A xs.length c s' A' xs'.length c' W _ (fun V => same_flo f f' V ha.1 hb.1)

set_option maxRecDepth 100000 in
set_option maxHeartbeats 8000000 in
theorem dequal_any (kids kids' : Fr) (B B' : Option Addr) (cap cap' b off b' off' : Nat) (w : World) (hB : 0 < kids.len → B = some ⟨b, off, none⟩) (hB' : 0 < kids'.len → B' = some ⟨b', off', none⟩) (hF : FAt w b off kids) (hF' : FAt w b' off' kids') (hc1 : kids.len ≤ cap) (hc2 : cap ≤ 9223372036854775807) (hc1' : kids'.len ≤ cap') (hc2' : cap' ≤ 9223372036854775807)
    (hcl : ∀ hh k hh' k' j r r', kids.drop j = .cons hh k r → kids'.drop j = .cons hh' k' r' → ∀ W, Below w.heap.size w W → DatV W hh k → DatV W hh' k' → Calls Tryz.prog 84 #[datA hh k.len, datA hh' k'.len] W fun e w' => e = .returned (.bool (headS hh hh' && sameF k k')) ∧ Below W.heap.size W w') :
    Calls Tryz.prog 149 #[.slice B kids.len cap, .slice B' kids'.len cap', .func (.func 84) #[] #[]] w fun e w' => e = .returned (.bool (sameF kids kids')) ∧ Below w.heap.size w w' := by
  by_cases hl : kids.len = kids'.len
  · rcases Nat.eq_zero_or_pos kids.len with h0 | hpos
    · have hk : ∀ fr : Fr, fr.len = 0 → fr = .nil := fun fr h => by
        cases fr with
        | nil => rfl
        | cons x y z => have h3 : z.len + 1 = 0 := h; omega
      obtain rfl := hk kids h0
      obtain rfl := hk kids' (by omega)
      show Calls Tryz.prog 149 #[.slice B 0 cap, .slice B' 0 cap', .func (.func 84) #[] #[]] w fun e w' => e = .returned (.bool true) ∧ Below w.heap.size w w'
      clear hcl hF hB hF' hB' hl h0 hc1 hc1' hk
      go_enter Tryz.func149, Tryz.ntmps149
      go_wp2_with (fail)
      go_loopg [17] 0 (fun kk i wr => wr = w ∧ i = .int .i64 0)
      case atStart => exact ⟨rfl, rfl⟩
      case round =>
        obtain ⟨rfl, rfl⟩ := hrel
        go_wp2_with (fail)
        go_ret
        exact ⟨rfl, Below.refl _ _⟩
    · obtain rfl := hB hpos
      obtain rfl := hB' (by omega)
      have HF := Lib.hid hF
      have HF' := Lib.hid hF'
      have HCL := Lib.hid hcl
      have HL := Lib.hid hl
      have g1 : ((kids.len : Int) != (kids'.len : Int)) = false := by rw [hl]; simp
      clear hF hF' hcl hB hB' hl
      go_enter Tryz.func149, Tryz.ntmps149
      go_wp2_with (fail)
      go_loopg [17] kids.len (fun kk i wr => Below w.heap.size w wr ∧ ∃ j : Nat, j ≤ kids.len ∧ kk = kids.len - j ∧ i = .int .i64 (j : Int) ∧ sameF (kids.drop j) (kids'.drop j) = sameF kids kids')
      case atStart => exact ⟨Below.refl _ _, 0, Nat.zero_le _, rfl, rfl, rfl⟩
      case round =>
        obtain ⟨hbr, j, hj, rfl, rfl, hrf⟩ := hrel
        have HBR := Lib.hid hbr
        clear hbr
        by_cases hjl : j < kids.len
        · obtain ⟨hh, k, r, hdr, hdr1⟩ := Fr.cons_of_lt hjl
          have hjl' : j < kids'.len := by have := HL.out; omega
          obtain ⟨hh', k', r', hdr', hdr1'⟩ := Fr.cons_of_lt hjl'
          rw [hdr, hdr'] at hrf
          obtain ⟨hbl, ⟨x0, x1, x2, x3, x4, x5, x6, x7⟩, D⟩ := counted_item (FAt.below HBR.out _ _ _ HF.out) hdr
          obtain ⟨hbl', hC', D'⟩ := counted_item (FAt.below HBR.out _ _ _ HF'.out) hdr'
          have y := fun (o : Obj) => hC'.keep ((Below.refl wr.heap.size wr).alloc (Nat.le_refl _) o) hbl'
          obtain ⟨y0, y1, y2, y3, y4, y5, y6, y7⟩ := y (datO hh k.len)
          obtain ⟨W2, hW2⟩ : ∃ W2, (wr.alloc (datO hh k.len)).alloc (datO hh' k'.len) = W2 := ⟨_, rfl⟩
          have hb2 : Below wr.heap.size wr W2 := by rw [← hW2]; exact ((Below.refl _ wr).alloc (Nat.le_refl _) _).alloc (by simp) _
          have hO : Obs W2 [(wr.heap.size + 1, datO hh' k'.len), (wr.heap.size, datO hh k.len)] := by
            rw [← hW2]
            have h1 := (Obs.nil.new (w := wr) (datO hh k.len)).new (datO hh' k'.len)
            simp only [World.size_alloc] at h1
            exact h1
          have CL := Lib.hid (HCL.out hh k hh' k' j r r' hdr hdr' W2 (bel_trans (B := w.heap.size) HBR.out hb2) (D.below hb2) (D'.below hb2))
          have hrf2 : (headS hh hh' && sameF k k' && sameF r r') = sameF kids kids' := hrf
          obtain ⟨q, hq⟩ : ∃ q, (headS hh hh' && sameF k k') = q := ⟨_, rfl⟩
          rw [hq] at CL hrf2
          have HRF := Lib.hid hrf2
          have HDR := Lib.hid hdr1
          have HDR' := Lib.hid hdr1'
          have HW2 := Lib.hid hW2
          have HB2 := Lib.hid (bel_trans (B := w.heap.size) HBR.out hb2)
          have z := C8.of_block hO.tl.hd
          have z' := C8.of_block hO.hd
          obtain ⟨u0, u1, u2, u3, u4, u5, u6, u7⟩ := z
          obtain ⟨v0, v1, v2, v3, v4, v5, v6, v7⟩ := z'
          clear hrf hdr hdr1 D hrf2 hq hdr' hdr1' D' y hW2 hb2 hO hC'
          go_wp2_with (fail)
          rw [HW2.out]
          refine CL.out.mono ?_
          rintro e w3 ⟨rfl, hb3⟩
          have HB3 := Lib.hid (bel_trans (B := w.heap.size) HB2.out hb3)
          clear hb3
          cases q
          · go_wp2_with (fail)
            go_ret
            exact ⟨by rw [← HRF.out]; simp, HB3.out⟩
          · go_wp2_with (fail)
            go_roundg (kids.len - (j + 1))
            case measure => omega
            case rel => exact ⟨HB3.out, j + 1, by omega, rfl, by go_num, by rw [HDR.out, HDR'.out]; exact HRF.out⟩
        · have hje : j = kids.len := by omega
          subst hje
          have hnil : ∀ fr : Fr, fr.drop fr.len = .nil := fun fr => by
            have h1 := Fr.len_drop fr.len fr
            cases h2 : fr.drop fr.len with
            | nil => rfl
            | cons x y z => rw [h2] at h1; have h3 : z.len + 1 = fr.len - fr.len := h1; omega
          have hl := HL.out
          rw [hnil kids, hl, hnil kids'] at hrf
          have HR : Hid (true = sameF kids kids') := Lib.hid hrf
          clear hrf hnil hl
          go_wp2_with (fail)
          go_ret
          exact ⟨by rw [← HR.out]; rfl, HBR.out⟩
  · have g1 : ((kids.len : Int) != (kids'.len : Int)) = true := by rw [bne_iff_ne]; omega
    rw [sameF_len _ _ hl]
    clear hcl hF hB hF' hB' hl
    go_enter Tryz.func149, Tryz.ntmps149
    go_wp2_with (fail)
    go_ret
    exact ⟨rfl, Below.refl _ _⟩

set_option maxRecDepth 100000 in
set_option maxHeartbeats 16000000 in
theorem dsame_go (h h' : Hd) (kids kids' : Fr) (sub : Bool) (w : World)
    (hT : CallB w 148 #[numA h.fl h.f h.s h.A h.xs.length h.c, numA h'.fl h'.f h'.s h'.A h'.xs.length h'.c] (.bool (numS h h')))
    (hE : CallB w 149 #[.slice h.B kids.len h.cap, .slice h'.B kids'.len h'.cap, .func (.func 84) #[] #[]] (.bool sub)) :
    Calls Tryz.prog 84 #[datA h kids.len, datA h' kids'.len] w fun e w' => e = .returned (.bool (headS h h' && sub)) ∧ Below w.heap.size w w' := by
  obtain ⟨W0, hW0⟩ : ∃ W0, (w.alloc (datO h kids.len)).alloc (datO h' kids'.len) = W0 := ⟨_, rfl⟩
  have hb0 : Below w.heap.size w W0 := by rw [← hW0]; exact ((Below.refl _ w).alloc (Nat.le_refl _) _).alloc (by simp) _
  have hO : Obs W0 [(w.heap.size + 1, datO h' kids'.len), (w.heap.size, datO h kids.len)] := by
    rw [← hW0]
    have h1 := (Obs.nil.new (w := w) (datO h kids.len)).new (datO h' kids'.len)
    simp only [World.size_alloc] at h1
    exact h1
  obtain ⟨x0, x1, x2, x3, x4, x5, x6, x7⟩ := C8.of_block hO.tl.hd
  obtain ⟨y0, y1, y2, y3, y4, y5, y6, y7⟩ := C8.of_block hO.hd
  have HW0 := Lib.hid hW0
  have HB0 := Lib.hid hb0
  have O0 := Lib.hid hO
  have HT := Lib.hid hT
  have HE := Lib.hid hE
  clear hW0 hb0 hO hT hE
  obtain ⟨b1, e1⟩ : ∃ b, (h.k == h'.k) = b := ⟨_, rfl⟩
  obtain ⟨b2, e2⟩ : ∃ b, (h.n == h'.n) = b := ⟨_, rfl⟩
  obtain ⟨b3, e3⟩ : ∃ b, (h.t.toList == h'.t.toList) = b := ⟨_, rfl⟩
  obtain ⟨b4, e4⟩ : ∃ b, numS h h' = b := ⟨_, rfl⟩
  have HQ : Hid (headS h h' = (b1 && b2 && b3 && b4)) := Lib.hid (by unfold headS; rw [e1, e2, e3, e4])
  rw [e4] at HT
  clear e4
  cases b1
  · go_enter Tryz.func84, Tryz.ntmps84
    go_wp2_with (fail)
    go_ret
    exact ⟨by rw [HQ.out]; rfl, HW0.out ▸ HB0.out⟩
  cases b2
  · go_enter Tryz.func84, Tryz.ntmps84
    go_wp2_with (fail)
    go_ret
    exact ⟨by rw [HQ.out]; rfl, HW0.out ▸ HB0.out⟩
  cases b3
  · go_enter Tryz.func84, Tryz.ntmps84
    go_wp2_with (fail)
    go_ret
    exact ⟨by rw [HQ.out]; rfl, HW0.out ▸ HB0.out⟩
  go_enter Tryz.func84, Tryz.ntmps84
  go_wp2_with (fail)
  rw [HW0.out]
  refine (HT.out _ HB0.out).mono ?_
  rintro e w1 ⟨rfl, hb1⟩
  have HB1 := Lib.hid (bel_trans (B := w.heap.size) HB0.out hb1)
  obtain ⟨u0, u1, u2, u3, u4, u5, u6, u7⟩ := C8.of_block (O0.out.below hb1).tl.hd
  obtain ⟨v0, v1, v2, v3, v4, v5, v6, v7⟩ := C8.of_block (O0.out.below hb1).hd
  clear hb1 x0 x1 x2 x3 x4 x5 x6 x7 y0 y1 y2 y3 y4 y5 y6 y7
  cases b4
  · go_wp2_with (fail)
    go_ret
    exact ⟨by rw [HQ.out]; rfl, HB1.out⟩
  · go_wp2_with (fail)
    refine (HE.out _ HB1.out).mono ?_
    rintro e w2 ⟨rfl, hb2⟩
    have HB2 := Lib.hid (bel_trans (B := w.heap.size) HB1.out hb2)
    clear hb2
    go_wp2_with (fail)
    go_ret
    exact ⟨by rw [HQ.out]; rfl, HB2.out⟩

theorem dsame_any : ∀ (m : Nat) (kids kids' : Fr), kids.size < m → kids.Ok → kids'.Ok → NumsR kids → NumsR kids' → ∀ (h h' : Hd) (w : World), DatV w h kids → DatV w h' kids' → h.Ok kids.len → h'.Ok kids'.len → rightN h.fl h.f h.s h.xs = true → rightN h'.fl h'.f h'.s h'.xs = true →
    Calls Tryz.prog 84 #[datA h kids.len, datA h' kids'.len] w fun e w' => e = .returned (.bool (headS h h' && sameF kids kids')) ∧ Below w.heap.size w w' := by
  intro m
  induction m with
  | zero => intro kids _ h; omega
  | succ m ih =>
    intro kids kids' hsz hok hok' hn hn' h h' w hd hd' hho hho' hr hr'
    refine dsame_go h h' kids kids' _ w (tsame_any (numOk_of hr hho.f hd.xs hho.lm hho.c.1 hho.c.2) (numOk_of hr' hho'.f hd'.xs hho'.lm hho'.c.1 hho'.c.2) hr hr' hd.xs hd'.xs hho.lm hho'.lm hho.c hho'.c) fun W hW => ?_
    obtain ⟨b, off, hB, hF⟩ := (hd.below hW).items
    obtain ⟨b', off', hB', hF'⟩ := (hd'.below hW).items
    refine dequal_any kids kids' h.B h'.B h.cap h'.cap b off b' off' W hB hB' hF hF' hho.cap.1 hho.cap.2 hho'.cap.1 hho'.cap.2 fun hh k hh' k' j r r' e1 e2 W2 hW2 hD hD' => ?_
    have o1 := Fr.Ok.drop j hok
    have o2 := Fr.Ok.drop j hok'
    have n1 := NumsR.drop j hn
    have n2 := NumsR.drop j hn'
    rw [e1] at o1 n1
    rw [e2] at o2 n2
    exact ih k k' (by have := size_item e1; omega) o1.2.1 o2.2.1 n1.2.1 n2.2.1 hh hh' W2 hD hD' o1.1 o2.1 n1.1 n2.1

end LM
end Go.Proofs.YtcfhiihhfcnfbaaGreatDoor

namespace Go.Proofs.YtcfhiihhfcnfbaaGreatDoor
open Go Go.RowKit
namespace LM
set_option linter.unusedVariables false

/-- the same but for where it lies -/
def AlikeH (h h' : Hd) : Prop := h'.k = h.k ∧ h'.n = h.n ∧ h'.fl = h.fl ∧ h'.f = h.f ∧ h'.s = h.s ∧ h'.xs = h.xs ∧ h'.t = h.t
def AlikeF : Fr → Fr → Prop
  | .nil, .nil => True
  | .cons h k r, .cons h' k' r' => AlikeH h h' ∧ AlikeF k k' ∧ AlikeF r r'
  | .nil, .cons _ _ _ => False
  | .cons _ _ _, .nil => False
theorem AlikeF.len : ∀ {a b : Fr}, AlikeF a b → b.len = a.len := by
  intro a
  induction a with
  | nil => intro b h; cases b with
    | nil => rfl
    | cons x y z => exact absurd h id
  | cons x y z _ ih => intro b h; cases b with
    | nil => exact absurd h id
    | cons x' y' z' =>
      have := ih h.2.2
      show z'.len + 1 = z.len + 1
      omega
/-- all of it lies from block B on -/
def FreshH (B : Nat) (h : Hd) (n : Nat) : Prop := (0 < h.xs.length → ∀ ad, h.A = some ad → B ≤ ad.block) ∧ (0 < n → ∀ ad, h.B = some ad → B ≤ ad.block)
def FreshF (B : Nat) : Fr → Prop
  | .nil => True
  | .cons h k r => FreshH B h k.len ∧ FreshF B k ∧ FreshF B r
/-- none of it lies in a block -/
def AwayH (g : Nat) (h : Hd) (n : Nat) : Prop := (0 < h.xs.length → Off h.A g) ∧ (0 < n → Off h.B g)
def AwayF (g : Nat) : Fr → Prop
  | .nil => True
  | .cons h k r => AwayH g h k.len ∧ AwayF g k ∧ AwayF g r
theorem FreshF.away {B g : Nat} (hg : g < B) : ∀ {fr : Fr}, FreshF B fr → AwayF g fr := by
  intro fr
  induction fr with
  | nil => intro _; exact trivial
  | cons h k r ihk ihr =>
    intro hf
    refine ⟨⟨fun hx ad e => ?_, fun hx ad e => ?_⟩, ihk hf.2.1, ihr hf.2.2⟩
    · have := hf.1.1 hx ad e; omega
    · have := hf.1.2 hx ad e; omega
theorem FreshF.mono {B C : Nat} (hC : C ≤ B) : ∀ {fr : Fr}, FreshF B fr → FreshF C fr := by
  intro fr
  induction fr with
  | nil => intro _; exact trivial
  | cons h k r ihk ihr =>
    intro hf
    exact ⟨⟨fun hx ad e => Nat.le_trans hC (hf.1.1 hx ad e), fun hx ad e => Nat.le_trans hC (hf.1.2 hx ad e)⟩, ihk hf.2.1, ihr hf.2.2⟩
theorem away_old {w : World} {g : Nat} (hg : w.heap.size ≤ g) : ∀ {fr : Fr} {b off : Nat}, FAt w b off fr → AwayF g fr := by
  intro fr
  induction fr with
  | nil => intro b off _; exact trivial
  | cons h k r ihk ihr =>
    intro b off hf
    obtain ⟨h1, h2, h3, ⟨b', off', h4, h5⟩, h6⟩ := hf
    refine ⟨⟨fun hx => h3.off hx hg, fun hx ad e => ?_⟩, ihk h5, ihr h6⟩
    rw [h4 hx] at e
    injection e with e
    subst e
    cases k with
    | nil => exact absurd hx (by show ¬ 0 < 0; omega)
    | cons x y z =>
      have : b' < w.heap.size := h5.1
      show b' ≠ g
      omega

/-- outside eight cells nothing has turned -/
structure Out8 (g o : Nat) (W W' : World) : Prop where
  size : W'.heap.size = W.heap.size
  cell : ∀ c i, (c ≠ g ∨ i < o ∨ o + 8 ≤ i) → W'.cell? ⟨c, i, none⟩ = W.cell? ⟨c, i, none⟩
theorem Out8.rd {g o : Nat} {W W' : World} (h : Out8 g o W W') {A : Option Addr} {xs : List Nat} (hr : Rd W A xs) (ho : 0 < xs.length → Off A g) : Rd W' A xs := fun hx => by
  obtain ⟨b, off, rfl, hb, hc⟩ := hr hx
  exact ⟨b, off, rfl, by rw [h.size]; exact hb, fun k hk => (h.cell b _ (.inl (ho hx _ rfl))).trans (hc k hk)⟩
theorem Out8.c8 {g o : Nat} {W W' : World} (h : Out8 g o W W') {b off n : Nat} {hh : Hd} (hc : C8 W b off hh n) (hb : b ≠ g ∨ off + 8 ≤ o ∨ o + 8 ≤ off) : C8 W' b off hh n := by
  have hx : ∀ i, i < 8 → W'.cell? ⟨b, off + i, none⟩ = W.cell? ⟨b, off + i, none⟩ := fun i hi => h.cell _ _ (by omega)
  exact ⟨(hx 0 (by decide)).trans hc.c0, (hx 1 (by decide)).trans hc.c1, (hx 2 (by decide)).trans hc.c2, (hx 3 (by decide)).trans hc.c3, (hx 4 (by decide)).trans hc.c4, (hx 5 (by decide)).trans hc.c5, (hx 6 (by decide)).trans hc.c6, (hx 7 (by decide)).trans hc.c7⟩
theorem Out8.fat {g o : Nat} {W W' : World} (h : Out8 g o W W') : ∀ {fr : Fr} {b off : Nat}, FAt W b off fr → AwayF g fr → (b ≠ g ∨ off + fr.len * 8 ≤ o ∨ o + 8 ≤ off) → FAt W' b off fr := by
  intro fr
  induction fr with
  | nil => intro b off _ _ _; exact trivial
  | cons hh k r ihk ihr =>
    intro b off hf ha hb
    obtain ⟨h1, h2, h3, ⟨b', off', h4, h5⟩, h6⟩ := hf
    have hl : (Fr.cons hh k r).len = r.len + 1 := rfl
    rw [hl] at hb
    refine ⟨by rw [h.size]; exact h1, h.c8 h2 (by omega), h.rd h3 ha.1.1, ⟨b', off', h4, ?_⟩, ihr h6 ha.2.2 (by omega)⟩
    rcases Nat.eq_zero_or_pos k.len with h0 | hp
    · cases k with
      | nil => exact trivial
      | cons x y z => have h3 : z.len + 1 = 0 := h0; omega
    · exact ihk h5 ha.2.1 (.inl (ha.1.2 hp _ (h4 hp)))
theorem Out8.dat {g o : Nat} {W W' : World} (h : Out8 g o W W') {hh : Hd} {k : Fr} (hd : DatV W hh k) (ha : AwayH g hh k.len) (hk : AwayF g k) : DatV W' hh k := by
  obtain ⟨h1, b, off, h2, h3⟩ := hd
  refine ⟨h.rd h1 ha.1, b, off, h2, ?_⟩
  rcases Nat.eq_zero_or_pos k.len with h0 | hp
  · cases k with
    | nil => exact trivial
    | cons x y z => have h3 : z.len + 1 = 0 := h0; omega
  · exact h.fat h3 hk (.inl (ha.2 hp _ (h2 hp)))

def Fr.app : Fr → Fr → Fr
  | .nil, y => y
  | .cons h k r, y => .cons h k (r.app y)
theorem app_len : ∀ (x y : Fr), (x.app y).len = x.len + y.len := by
  intro x y
  induction x with
  | nil => show y.len = 0 + y.len; omega
  | cons h k r _ ih => show (r.app y).len + 1 = r.len + 1 + y.len; omega
theorem fat_app {W : World} {b : Nat} : ∀ {x y : Fr} {off : Nat}, FAt W b off (x.app y) ↔ FAt W b off x ∧ FAt W b (off + x.len * 8) y := by
  intro x
  induction x with
  | nil => intro y off; show FAt W b off y ↔ True ∧ FAt W b (off + 0 * 8) y; rw [Nat.zero_mul, Nat.add_zero, true_and]
  | cons h k r _ ih =>
    intro y off
    have hl : (Fr.cons h k r).len = r.len + 1 := rfl
    have := @ih y (off + 8)
    rw [hl, show off + (r.len + 1) * 8 = off + 8 + r.len * 8 from by omega]
    constructor
    · rintro ⟨h1, h2, h3, h4, h5⟩
      have h6 := this.1 h5
      exact ⟨⟨h1, h2, h3, h4, h6.1⟩, h6.2⟩
    · rintro ⟨⟨h1, h2, h3, h4, h5⟩, h6⟩
      exact ⟨h1, h2, h3, h4, this.2 ⟨h5, h6⟩⟩
theorem away_app {g : Nat} : ∀ {x y : Fr}, AwayF g (x.app y) ↔ AwayF g x ∧ AwayF g y := by
  intro x
  induction x with
  | nil => intro y; exact ⟨fun h => ⟨trivial, h⟩, fun h => h.2⟩
  | cons h k r _ ih =>
    intro y
    constructor
    · rintro ⟨h1, h2, h3⟩
      have h6 := ih.1 h3
      exact ⟨⟨h1, h2, h6.1⟩, h6.2⟩
    · rintro ⟨⟨h1, h2, h3⟩, h4⟩
      exact ⟨h1, h2, ih.2 ⟨h3, h4⟩⟩

/-- the eight cells of a datum in a row are stored -/
abbrev set8 (w : World) (g o : Nat) (h : Hd) (n : Nat) : World :=
  (((((((w.setCell ⟨g, o, none⟩ (.int .i64 h.k)).setCell ⟨g, o + 1, none⟩ (.int .i64 h.n)).setCell ⟨g, o + 2, none⟩ (.bool h.fl)).setCell ⟨g, o + 3, none⟩ (.float .f64 h.f)).setCell ⟨g, o + 4, none⟩ (.bool h.s)).setCell ⟨g, o + 5, none⟩ (.slice h.A h.xs.length h.c)).setCell ⟨g, o + 6, none⟩ (.string h.t)).setCell ⟨g, o + 7, none⟩ (.slice h.B n h.cap)
theorem cell_set_ne {w : World} {b i c j : Nat} {u : Value} (h : b ≠ c ∨ i ≠ j) : (w.setCell ⟨c, j, none⟩ u).cell? ⟨b, i, none⟩ = w.cell? ⟨b, i, none⟩ := by
  by_cases hb : b = c
  · subst hb
    have ho : i ≠ j := h.resolve_left (fun e => e rfl)
    unfold World.cell? World.setCell
    simp only [Array.getElem?_modify, if_pos]
    cases w.heap[b]? with
    | none => rfl
    | some o =>
      cases o <;> simp
      exact Array.getElem?_setIfInBounds_ne (fun e => ho e.symm)
  · exact World.cell?_of_block (Below.heap_setCell w _ u _ hb)
theorem cell_set_eq {w : World} {b i : Nat} {u v : Value} (h : w.cell? ⟨b, i, none⟩ = some v) : (w.setCell ⟨b, i, none⟩ u).cell? ⟨b, i, none⟩ = some u := by
  unfold World.cell? at h ⊢
  unfold World.setCell
  simp only [Array.getElem?_modify, if_pos]
  cases hb : w.heap[b]? with
  | none => rw [hb] at h; cases h
  | some o =>
    rw [hb] at h
    cases o <;> simp_all
    rename_i cs _ _
    rcases Nat.lt_or_ge i cs.size with h1 | h1
    · simp [h1]
    · rw [Array.getElem?_eq_none h1] at h; cases h
theorem set8_out (w : World) (g o : Nat) (h : Hd) (n : Nat) : Out8 g o w (set8 w g o h n) := by
  refine ⟨by simp [World.setCell], fun c i hc => ?_⟩
  unfold set8
  rw [cell_set_ne (by omega), cell_set_ne (by omega), cell_set_ne (by omega), cell_set_ne (by omega), cell_set_ne (by omega), cell_set_ne (by omega), cell_set_ne (by omega), cell_set_ne (by omega)]
theorem set8_c8 {w : World} {g o m : Nat} {h0 : Hd} (hc : C8 w g o h0 m) (h : Hd) (n : Nat) : C8 (set8 w g o h n) g o h n := by
  have k : ∀ (W : World) (i j : Nat) (u : Value), i ≠ j → (W.setCell ⟨g, o + j, none⟩ u).cell? ⟨g, o + i, none⟩ = W.cell? ⟨g, o + i, none⟩ := fun W i j u hij => cell_set_ne (.inr (by omega))
  have k0 : ∀ (W : World) (i : Nat) (u : Value), i ≠ 0 → (W.setCell ⟨g, o, none⟩ u).cell? ⟨g, o + i, none⟩ = W.cell? ⟨g, o + i, none⟩ := fun W i u hij => cell_set_ne (.inr (by omega))
  have k1 : ∀ (W : World) (j : Nat) (u : Value), j ≠ 0 → (W.setCell ⟨g, o + j, none⟩ u).cell? ⟨g, o, none⟩ = W.cell? ⟨g, o, none⟩ := fun W j u hij => cell_set_ne (.inr (by omega))
  obtain ⟨c0, c1, c2, c3, c4, c5, c6, c7⟩ := hc
  unfold set8
  refine ⟨?_, ?_, ?_, ?_, ?_, ?_, ?_, ?_⟩
  · rw [k1 _ 7 _ (by decide), k1 _ 6 _ (by decide), k1 _ 5 _ (by decide), k1 _ 4 _ (by decide), k1 _ 3 _ (by decide), k1 _ 2 _ (by decide), k1 _ 1 _ (by decide)]
    exact cell_set_eq c0
  · rw [k _ 1 7 _ (by decide), k _ 1 6 _ (by decide), k _ 1 5 _ (by decide), k _ 1 4 _ (by decide), k _ 1 3 _ (by decide), k _ 1 2 _ (by decide)]
    exact cell_set_eq (v := .int .i64 h0.n) (by rw [k0 _ 1 _ (by decide)]; exact c1)
  · rw [k _ 2 7 _ (by decide), k _ 2 6 _ (by decide), k _ 2 5 _ (by decide), k _ 2 4 _ (by decide), k _ 2 3 _ (by decide)]
    exact cell_set_eq (v := .bool h0.fl) (by rw [k _ 2 1 _ (by decide), k0 _ 2 _ (by decide)]; exact c2)
  · rw [k _ 3 7 _ (by decide), k _ 3 6 _ (by decide), k _ 3 5 _ (by decide), k _ 3 4 _ (by decide)]
    exact cell_set_eq (v := .float .f64 h0.f) (by rw [k _ 3 2 _ (by decide), k _ 3 1 _ (by decide), k0 _ 3 _ (by decide)]; exact c3)
  · rw [k _ 4 7 _ (by decide), k _ 4 6 _ (by decide), k _ 4 5 _ (by decide)]
    exact cell_set_eq (v := .bool h0.s) (by rw [k _ 4 3 _ (by decide), k _ 4 2 _ (by decide), k _ 4 1 _ (by decide), k0 _ 4 _ (by decide)]; exact c4)
  · rw [k _ 5 7 _ (by decide), k _ 5 6 _ (by decide)]
    exact cell_set_eq (v := .slice h0.A h0.xs.length h0.c) (by rw [k _ 5 4 _ (by decide), k _ 5 3 _ (by decide), k _ 5 2 _ (by decide), k _ 5 1 _ (by decide), k0 _ 5 _ (by decide)]; exact c5)
  · rw [k _ 6 7 _ (by decide)]
    exact cell_set_eq (v := .string h0.t) (by rw [k _ 6 5 _ (by decide), k _ 6 4 _ (by decide), k _ 6 3 _ (by decide), k _ 6 2 _ (by decide), k _ 6 1 _ (by decide), k0 _ 6 _ (by decide)]; exact c6)
  · exact cell_set_eq (v := .slice h0.B m h0.cap) (by rw [k _ 7 6 _ (by decide), k _ 7 5 _ (by decide), k _ 7 4 _ (by decide), k _ 7 3 _ (by decide), k _ 7 2 _ (by decide), k _ 7 1 _ (by decide), k0 _ 7 _ (by decide)]; exact c7)
/-- one of a row is written over -/
theorem fat_set {W : World} {g off : Nat} {x r k k' : Fr} {h h' : Hd} (hf : FAt W g off (x.app (.cons h k r))) (ha : AwayF g (x.app (.cons h k r))) (hd : DatV W h' k') (hh : AwayH g h' k'.len) (hk : AwayF g k') :
    FAt (set8 W g (off + x.len * 8) h' k'.len) g off (x.app (.cons h' k' r)) ∧ AwayF g (x.app (.cons h' k' r)) := by
  obtain ⟨f1, f2⟩ := fat_app.1 hf
  obtain ⟨a1, a2⟩ := away_app.1 ha
  have hO := set8_out W g (off + x.len * 8) h' k'.len
  obtain ⟨b1, b2, b3, b4, b5⟩ := f2
  have hd' := hO.dat hd hh hk
  refine ⟨fat_app.2 ⟨hO.fat f1 a1 (by omega), ?_⟩, away_app.2 ⟨a1, hh, hk, a2.2.2⟩⟩
  exact ⟨by rw [hO.size]; exact b1, set8_c8 b2 h' k'.len, hd'.xs, hd'.items, hO.fat b5 a2.2.2 (by omega)⟩
end LM
end Go.Proofs.YtcfhiihhfcnfbaaGreatDoor

namespace Go.Proofs.YtcfhiihhfcnfbaaGreatDoor
open Go Go.RowKit
namespace LM
set_option linter.unusedVariables false

/-- a datum's cells -/
def head8 (h : Hd) (n : Nat) : List Value := [.int .i64 h.k, .int .i64 h.n, .bool h.fl, .float .f64 h.f, .bool h.s, .slice h.A h.xs.length h.c, .string h.t, .slice h.B n h.cap]
/-- the cells of data one behind the other -/
def cellsF : Fr → List Value
  | .nil => []
  | .cons h k r => head8 h k.len ++ cellsF r
theorem cellsF_len : ∀ fr : Fr, (cellsF fr).length = fr.len * 8 := by
  intro fr
  induction fr with
  | nil => rfl
  | cons h k r _ ih =>
    show (_ ++ cellsF r).length = (r.len + 1) * 8
    rw [List.length_append, ih]
    show 8 + r.len * 8 = _
    omega
theorem cellsF_one : ∀ fr : Fr, ∀ u ∈ cellsF fr, u.oneCell' = true := by
  intro fr
  induction fr with
  | nil => intro u hu; cases hu
  | cons h k r _ ih =>
    intro u hu
    rcases List.mem_append.1 hu with hu | hu
    · simp only [head8, List.mem_cons, List.not_mem_nil, or_false] at hu
      rcases hu with rfl | rfl | rfl | rfl | rfl | rfl | rfl | rfl <;> rfl
    · exact ih u hu
theorem fat_cells {w : World} {b : Nat} : ∀ {fr : Fr} {off : Nat}, FAt w b off fr → ∀ j u, (cellsF fr)[j]? = some u → w.cell? ⟨b, off + j, none⟩ = some u := by
  intro fr
  induction fr with
  | nil => intro off _ j u hu; cases hu
  | cons h k r _ ih =>
    intro off hf j u hu
    obtain ⟨h1, ⟨c0, c1, c2, c3, c4, c5, c6, c7⟩, h3, h4, h5⟩ := hf
    rcases Nat.lt_or_ge j 8 with hj | hj
    · have hu2 : (head8 h k.len)[j]? = some u := by
        rw [← hu]
        exact (List.getElem?_append_left (l₁ := head8 h k.len) hj).symm
      rcases (by omega : j = 0 ∨ j = 1 ∨ j = 2 ∨ j = 3 ∨ j = 4 ∨ j = 5 ∨ j = 6 ∨ j = 7) with rfl | rfl | rfl | rfl | rfl | rfl | rfl | rfl
      · exact c0.trans hu2
      · exact c1.trans hu2
      · exact c2.trans hu2
      · exact c3.trans hu2
      · exact c4.trans hu2
      · exact c5.trans hu2
      · exact c6.trans hu2
      · exact c7.trans hu2
    · have hu2 : (cellsF r)[j - 8]? = some u := by
        rw [← hu]
        exact (List.getElem?_append_right (l₁ := head8 h k.len) hj).symm
      have := ih h5 (j - 8) u hu2
      rw [show off + 8 + (j - 8) = off + j from by omega] at this
      exact this
theorem fat_move {w w' : World} {b g : Nat} (hb : Below w.heap.size w w') (hg : g < w'.heap.size) : ∀ {fr : Fr} {off off' : Nat}, FAt w b off fr → (∀ j u, (cellsF fr)[j]? = some u → w'.cell? ⟨g, off' + j, none⟩ = some u) → FAt w' g off' fr := by
  intro fr
  induction fr with
  | nil => intro off off' _ _; exact trivial
  | cons h k r _ ih =>
    intro off off' hf hc
    obtain ⟨h1, h2, h3, ⟨b', o', h4, h5⟩, h6⟩ := hf
    refine ⟨hg, ⟨hc 0 _ rfl, hc 1 _ rfl, hc 2 _ rfl, hc 3 _ rfl, hc 4 _ rfl, hc 5 _ rfl, hc 6 _ rfl, hc 7 _ rfl⟩, h3.below hb, ⟨b', o', h4, FAt.below hb _ _ _ h5⟩, ih h6 fun j u hu => ?_⟩
    have := hc (j + 8) u (by
      rw [← hu]
      exact (List.getElem?_append_right (l₁ := head8 h k.len) (show 8 ≤ j + 8 by omega)).trans (by show (cellsF r)[j + 8 - 8]? = _; rw [Nat.add_sub_cancel]))
    rw [show off' + (j + 8) = off' + 8 + j from by omega] at this
    exact this

theorem datum_info : (Tryz.prog.info? 49).map (fun i => (i.zero, i.size)) = some (some (.agg #[.int .i64 0, .int .i64 0, .bool false, .float .f64 0, .bool false, .slice none 0 0, .string ⟨#[]⟩, .slice none 0 0]), 8) := by kernel_rfl
theorem datum_bytes : ((Tryz.prog.info? 49).map (fun i => decide (i.bytes ≤ 1024))) = some true := by kernel_rfl
theorem datum_size : ∀ w, (Go.sizeOf 49).run Tryz.prog w = .ok 8 w := by intro w; kernel_rfl

/-- what slices.Clone gives of data -/
def CloneD (w : World) (kids : Fr) (e : Ending) (w' : World) : Prop :=
  ∃ B' cap', e = .returned (.slice B' kids.len cap') ∧ (∀ ad, B' = some ad → ∃ g, ad = ⟨g, 0, none⟩ ∧ w.heap.size ≤ g ∧ g < w'.heap.size ∧ FAt w' g 0 kids ∧ ∀ i, w'.frozen? ⟨g, i, none⟩ = false) ∧ kids.len ≤ cap' ∧ cap' ≤ 9223372036854775807 ∧ (B' = none → kids.len = 0 ∧ cap' = 0) ∧ Below w.heap.size w w'
set_option maxRecDepth 100000 in
theorem dclone_data (kids : Fr) (B : Option Addr) (cap : Nat) (w : World) (hB : ∃ b off, (0 < kids.len → B = some ⟨b, off, none⟩) ∧ FAt w b off kids) (hs : ∀ ad, B = some ad → ad.spot = none) (hn : B = none → kids.len = 0 ∧ cap = 0) (hl : kids.len ≤ 1000000) :
    Calls Tryz.prog 147 #[.slice B kids.len cap] w (CloneD w kids) := by
  cases B with
  | none =>
    obtain ⟨h0, rfl⟩ := hn rfl
    rw [h0]
    refine (Tryz.clone_data_nil 0 0 w).mono ?_
    rintro e w' ⟨rfl, rfl⟩
    exact ⟨none, 0, by rw [h0], fun ad e => (by cases e), by omega, by decide, fun _ => ⟨h0, rfl⟩, Below.refl _ _⟩
  | some ad =>
    obtain ⟨ab, ao, sp⟩ := ad
    obtain rfl : sp = none := hs _ rfl
    obtain ⟨b, off, hB1, hF⟩ := hB
    have hi := datum_info
    have hby := datum_bytes
    cases hinf : Tryz.prog.info? 49 with
    | none => rw [hinf] at hi; cases hi
    | some i0 =>
      rw [hinf] at hi hby
      simp only [Option.map_some, Option.some.injEq, Prod.mk.injEq, decide_eq_true_eq] at hi hby
      have hcell : ∀ j u, (cellsF kids)[j]? = some u → w.cell? ⟨ab, ao + j, none⟩ = some u := fun j u hu => by
        have hp : 0 < kids.len := by
          rcases Nat.eq_zero_or_pos kids.len with h0 | h0
          · have h2 := cellsF_len kids
            rw [h0] at h2
            rw [List.getElem?_eq_none (by omega)] at hu
            cases hu
          · exact h0
        have e := hB1 hp
        injection e with e
        injection e with e1 e2
        subst e1 e2
        exact fat_cells hF j u hu
      have hC := Tryz.clone_data i0 _ 8 i0.bytes hinf hi.1 hi.2 rfl rfl (by decide) datum_size ab ao kids.len cap (cellsF kids) w (by rw [cellsF_len]) (by unfold maxLen; omega)
        (Nat.le_trans (Nat.mul_le_mul hl hby) (by decide)) hcell (cellsF_one kids)
      refine hC.mono ?_
      rintro e w' ⟨v', rfl, ⟨_, ⟨rfl, h0⟩ | ⟨g, cp, cur, rfl, hg, hh, h1, h2, h3, h4⟩⟩, hne, hb⟩
      · exact absurd rfl hne
      · have hgl : g < w'.heap.size := by
          rcases Nat.lt_or_ge g w'.heap.size with h | h
          · exact h
          · rw [Array.getElem?_eq_none h] at hh; cases hh
        refine ⟨some ⟨g, 0, none⟩, cp, rfl, fun ad e => ?_, h1, by unfold maxLen at h2; omega, fun e => by (cases e), hb⟩
        injection e with e
        subst e
        refine ⟨g, rfl, hg, hgl, fat_move hb hgl hF fun j u hu => ?_, fun i => by simp [World.frozen?, hh]⟩
        have hj : j < kids.len * 8 := by
          rcases Nat.lt_or_ge j (kids.len * 8) with h | h
          · exact h
          · rw [List.getElem?_eq_none (by rw [cellsF_len]; exact h)] at hu; cases hu
        rw [← h4, List.getElem?_take, if_pos hj, Array.getElem?_toList] at hu
        rw [Nat.zero_add]
        simp only [World.cell?, hh]
        exact hu

/-- and of limbs -/
def CloneL (w : World) (xs : List Nat) (e : Ending) (w' : World) : Prop :=
  ∃ A' c', e = .returned (.slice A' xs.length c') ∧ Rd w' A' xs ∧ (∀ ad, A' = some ad → w.heap.size ≤ ad.block ∧ ad.spot = none) ∧ xs.length ≤ c' ∧ c' ≤ 9223372036854775807 ∧ (A' = none → xs.length = 0 ∧ c' = 0) ∧ Below w.heap.size w w'
set_option maxRecDepth 100000 in
theorem dclone_limbs (xs : List Nat) (A : Option Addr) (c : Nat) (w : World) (hr : Rd w A xs) (hs : ∀ ad, A = some ad → ad.spot = none) (hn : A = none → xs.length = 0 ∧ c = 0) (hl : xs.length ≤ 1000000) :
    Calls Tryz.prog 146 #[.slice A xs.length c] w (CloneL w xs) := by
  cases A with
  | none =>
    obtain ⟨h0, rfl⟩ := hn rfl
    obtain rfl := List.eq_nil_of_length_eq_zero h0
    refine (Tryz.clone_limbs_nil 0 0 w).mono ?_
    rintro e w' ⟨rfl, rfl⟩
    exact ⟨none, 0, rfl, Rd.nil, fun ad e => (by cases e), Nat.le_refl _, by decide, fun _ => ⟨rfl, rfl⟩, Below.refl _ _⟩
  | some ad =>
    obtain ⟨ab, ao, sp⟩ := ad
    obtain rfl : sp = none := hs _ rfl
    obtain ⟨i0, hi0, hz0, hz1, hz2⟩ := info_parts u32_info
    have hcell : ∀ j u, (U xs)[j]? = some u → w.cell? ⟨ab, ao + j, none⟩ = some u := fun j u hu => by
      have hj : j < xs.length := by
        rcases Nat.lt_or_ge j xs.length with h | h
        · exact h
        · rw [List.getElem?_eq_none (by rw [U_len]; exact h)] at hu; cases hu
      obtain ⟨b, off, e, hb, hc⟩ := hr.at_ hj
      injection e with e
      injection e with e1 e2
      subst e1 e2
      rw [U_get _ _ hj] at hu
      exact hc.trans hu
    have hC := Tryz.clone_limbs i0 (.int .u32 0) 1 4 hi0 hz0 hz1 hz2 rfl (by decide) (fun w => by kernel_rfl) ab ao xs.length c (U xs) w (by rw [U_len, Nat.mul_one]) (by unfold maxLen; omega) (by omega) hcell (fun u hu => by
      unfold U at hu
      obtain ⟨x, _, rfl⟩ := List.mem_map.1 hu
      rfl)
    refine hC.mono ?_
    rintro e w' ⟨v', rfl, ho, hne, hb⟩
    rcases own_cases ho with ⟨rfl, rfl⟩ | ⟨g, cp, rest, rfl, hg, hB, h1, h2, h3⟩
    · exact absurd rfl hne
    · refine ⟨some ⟨g, 0, none⟩, cp, rfl, fun _ => ⟨g, 0, rfl, hB.lt, fun k hk => ?_⟩, fun ad e => by injection e with e; subst e; exact ⟨hg, rfl⟩, h1, by unfold maxLen at h2; omega, fun e => by (cases e), hb⟩
      rw [Nat.zero_add, hB.cell, List.getElem?_append_left (by rw [U_len]; exact hk), U_get _ _ hk]

end LM
end Go.Proofs.YtcfhiihhfcnfbaaGreatDoor
