/- Walks of the document's answer for layer 2: Text, Parse. -/
import Derived.Test.YtpnjddfnlaonoaaGreatDoorK28
import Derived.Test.YtpnjddfnlaonoaaGreatDoorK31
import Derived.Test.YtpnjddfnlaonoaaGreatDoorK32
import Derived.Test.YtpnjddfnlaonoaaGreatDoorK34
namespace Go.Proofs.YtpnjddfnlaonoaaGreatDoor
open Go.RowKit
namespace LM
set_option linter.unusedVariables false

theorem POut.same {l : List UInt8} {a b e f : Int} (h : POut l a e) (k : POut l b f) : a = b ∧ e = f := by
  rcases h with ⟨h1, rfl, rfl⟩ | ⟨h1, h2, rfl, rfl⟩ | ⟨h1, h2, rfl, rfl⟩ <;> rcases k with ⟨k1, rfl, rfl⟩ | ⟨k1, k2, rfl, rfl⟩ | ⟨k1, k2, rfl, rfl⟩ <;> first | exact ⟨rfl, rfl⟩ | exact absurd k1 h1 | exact absurd h1 k1 | exact absurd k2 h2 | exact absurd h2 k2
set_option maxRecDepth 100000 in
set_option maxHeartbeats 2000000 in
theorem rtext2_pos (A : Option Addr) (ca : Nat) (xs : List Nat) (w : World) (ha : Rd w A xs) (hx : Can xs) (hxl : xs.length ≤ 64) (hna : A = none → xs.length = 0 ∧ ca = 0) :
    Calls Tryz.prog 40 #[.agg #[.bool false, .slice A xs.length ca]] w fun e w' => e = .returned (.string ⟨(Lib.decDigits (val xs)).toArray⟩) ∧ Below w.heap.size w w' := by
  have hb0 : Below w.heap.size w (w.alloc (.cells #[.bool false, .slice A xs.length ca] 36)) := (Below.refl _ w).alloc (Nat.le_refl _) _
  have HB0 := Lib.hid hb0
  have H1 := Lib.hid (rtext_any A ca xs _ (ha.below hb0) hx.1 (by omega) hna)
  have NX := Lib.hid (not_big_len hx hxl)
  clear hb0 ha hx hna
  go_enter Tryz.func40, Tryz.ntmps40
  go_wp2_with fail
  refine H1.out.mono ?_
  rintro e w1 ⟨⟨l, rfl, hl⟩, hb1⟩
  obtain rfl : l = _ := hl.elim (fun h => absurd h.1 NX.out) fun h => h.2
  have HB1 := Lib.hid (HB0.out.trans (hb1.mono HB0.out.size))
  clear hl hb1
  go_wp2
  go_ret
  exact ⟨rfl, HB1.out⟩

set_option maxRecDepth 100000 in
set_option maxHeartbeats 2000000 in
theorem rtext2_neg (A : Option Addr) (ca : Nat) (xs : List Nat) (w : World) (ha : Rd w A xs) (hx : Can xs) (hxl : xs.length ≤ 64) (hna : A = none → xs.length = 0 ∧ ca = 0) :
    Calls Tryz.prog 40 #[.agg #[.bool true, .slice A xs.length ca]] w fun e w' => e = .returned (.string ⟨(45 :: Lib.decDigits (val xs)).toArray⟩) ∧ Below w.heap.size w w' := by
  have hb0 : Below w.heap.size w (w.alloc (.cells #[.bool true, .slice A xs.length ca] 36)) := (Below.refl _ w).alloc (Nat.le_refl _) _
  have HB0 := Lib.hid hb0
  have H1 := Lib.hid (rtext_any A ca xs _ (ha.below hb0) hx.1 (by omega) hna)
  have NX := Lib.hid (not_big_len hx hxl)
  clear hb0 ha hx hna
  go_enter Tryz.func40, Tryz.ntmps40
  go_wp2_with fail
  refine H1.out.mono ?_
  rintro e w1 ⟨⟨l, rfl, hl⟩, hb1⟩
  obtain rfl : l = _ := hl.elim (fun h => absurd h.1 NX.out) fun h => h.2
  have HB1 := Lib.hid (HB0.out.trans (hb1.mono HB0.out.size))
  have hsz : ¬ 9223372036854775807 < 1 + (Lib.decDigits (val xs)).length := by
    have := (dec_fits NX.out).2
    omega
  have HSC := Lib.hid (str_cons 45 (Lib.decDigits (val xs)))
  clear hl hb1
  go_wp2
  go_ret
  exact ⟨congrArg (fun t => Ending.returned (.string t)) HSC.out, HB1.out⟩

/-- the document's text of what is right -/
theorem rtext2_right (s : Bool) (A : Option Addr) (ca : Nat) (xs : List Nat) (w : World) (ha : Rd w A xs) (hx : Lm xs) (hr : rightB s xs = true) (hna : A = none → xs.length = 0 ∧ ca = 0) :
    Calls Tryz.prog 40 #[.agg #[.bool s, .slice A xs.length ca]] w fun e w' => e = .returned (.string ⟨(decI (sg s (val xs))).toArray⟩) ∧ Below w.heap.size w w' := by
  obtain ⟨h1, h2, h3, h4, h5⟩ := right_parts hr hx
  unfold decI
  rw [← h4]
  by_cases hn : sg s (val xs) < 0
  · rw [decide_eq_true hn] at h3
    rw [if_pos hn, h3]
    exact rtext2_neg A ca xs w ha h2 h1 hna
  · rw [decide_eq_false hn] at h3
    rw [if_neg hn, h3]
    exact rtext2_pos A ca xs w ha h2 h1 hna

end LM
end Go.Proofs.YtpnjddfnlaonoaaGreatDoor
