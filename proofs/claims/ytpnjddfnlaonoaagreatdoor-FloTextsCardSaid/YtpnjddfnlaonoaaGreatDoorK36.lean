/- Walks: the floating number of an exact one, at one number. -/
import Derived.Test.YtpnjddfnlaonoaaGreatDoorK20
import Derived.Test.YtpnjddfnlaonoaaGreatDoorK15
import Derived.Test.YtpnjddfnlaonoaaGreatDoorK35
namespace Go.Proofs.YtpnjddfnlaonoaaGreatDoor
open Go Go.RowKit
namespace LM
set_option linter.unusedVariables false

set_option maxRecDepth 100000 in
set_option maxHeartbeats 1000000 in
theorem highest_150 (A : Option Addr) (ca : Nat) (xs : List Nat) (w : World) (ha : Rd w A xs) (hx : Lm xs) (hca : xs.length ≤ ca) (hcam : ca ≤ 9223372036854775807) (hv : val xs = 150) :
    Calls Tryz.prog 89 #[.slice A xs.length ca] w fun e w' => e = .returned (.tuple #[.int .u64 150, .int .i64 0]) ∧ w = w' := by
  have S1 : Hid (Calls Tryz.prog 150 #[.slice A xs.length ca] w fun e w' => e = .returned (.tuple #[.int .u64 150, .bool true]) ∧ w = w') := Lib.hid ((small_any A ca xs w ha hx hca hcam).mono fun e w' ⟨h, h2⟩ => by
    refine ⟨?_, h2⟩
    rw [hv] at h
    rcases h with ⟨_, h⟩ | ⟨h, _⟩
    · exact h
    · exact absurd h (by decide))
  clear ha hx hv
  go_enter Tryz.func89, Tryz.ntmps89
  go_wp2_with (fail)
  refine S1.out.mono ?_
  rintro e w' ⟨rfl, rfl⟩
  go_wp2
  go_ret2
  exact ⟨rfl, rfl⟩

abbrev P150 : Nat := 4639481672377565184
theorem mldexp_p150 (w : World) : Calls Tryz.prog 85 #[.float .f64 P150, .int .i64 0] w fun e w' => e = .returned (.float .f64 P150) ∧ ∃ k, w' = w.drewN k :=
  mldexp_0 P150 1030 774056185954304 w (by decide) (by decide) (by decide) (by decide) (by decide) (by decide) (by decide) (by decide) (by decide) (by decide) (by decide)

set_option maxRecDepth 100000 in
set_option maxHeartbeats 2000000 in
theorem floof_150 (v : Value) (w : World) (hv : IntV w v (-150)) :
    Calls Tryz.prog 41 #[v] w fun e w' => e = .returned (.float .f64 M150) ∧ Below w.heap.size w w' := by
  obtain ⟨A, c, r, rfl, h1, h2, h3, h4, h5⟩ := hv
  have h5' : val r = 150 := h5
  have hrl : r.length ≤ 1000 := by
    have := can_len h4 1
    have h6 : ¬ 1 < r.length := fun h => by
      have h7 := this.1 h
      rw [h5'] at h7
      exact absurd h7 (by decide)
    omega
  have hb0 : Below w.heap.size w (w.alloc (.cells #[.bool true, .slice A r.length c] 36)) := (Below.refl _ w).alloc (Nat.le_refl _) _
  have X0 := Lib.hid (Bx.new w true A r.length c)
  have T1 := Lib.hid (trimUp_any A c r _ (h3.below hb0) h4.1 h1 h2 hrl)
  have HB0 := Lib.hid hb0
  have H5 := Lib.hid h5'
  have L1 := Lib.hid mldexp_p150
  have d1 : floatOfInt .f64 150 = P150 := by decide
  have d2 : ∀ W, (Op.unary .neg (.float .f64 P150)).run Tryz.prog W = .ok (.float .f64 M150) W := fun W => by
    show Result.ok (Value.float .f64 (Op.negFloat .f64 P150)) W = _
    rw [show Op.negFloat .f64 P150 = M150 from by decide]
  have dneg : decide ((-150 : Int) < 0) = true := by decide
  clear h3 h4 h5 h5' hb0
  go_enter Tryz.func41, Tryz.ntmps41
  go_wp2_with (fail)
  refine T1.out.mono ?_
  rintro e w1 ⟨q, rfl, hB, hq, hqv, hql, hb1⟩
  have X1 := Lib.hid (X0.out.below hb1)
  have HB1 := Lib.hid (HB0.out.trans (hb1.mono HB0.out.size))
  have HH := Lib.hid (highest_150 _ _ q w1 (Rd.of_blk (pre := []) (post := []) (by simpa using hB)) hq.1 (Nat.le_refl _) (by omega) (hqv.trans H5.out))
  clear hB hq hqv hb1
  obtain ⟨q0, q1, -, -, ql⟩ := X1.out.facts
  go_wp2_with (fail)
  refine HH.out.mono ?_
  rintro e w2 ⟨rfl, rfl⟩
  go_wp2_with (fail)
  refine (L1.out _).mono ?_
  rintro e w2 ⟨rfl, k, rfl⟩
  go_wp2_with (fail)
  go_ret
  exact ⟨rfl, below_drewN HB1.out _⟩

theorem dec_150 : Lib.decDigits 150 = [49, 53, 48] := by
  rw [dec_big (by decide), show 150 / 10 = 15 from by decide, dec_big (by decide), show 15 / 10 = 1 from by decide, Lib.decDigits_one (by decide)]
  rfl
theorem rtext_150 (v : Value) (w : World) (hv : IntV w v (-150)) :
    Calls Tryz.prog 40 #[v] w fun e w' => e = .returned (.string ⟨#[45, 49, 53, 48]⟩) ∧ Below w.heap.size w w' := by
  obtain ⟨A, c, r, rfl, h1, h2, h3, h4, h5⟩ := hv
  have h5' : val r = 150 := h5
  have hrl : r.length ≤ 1 := by
    have h6 : ¬ 1 < r.length := fun h => by
      have h7 := (can_len h4 1).1 h
      rw [h5'] at h7
      exact absurd h7 (by decide)
    omega
  have hr0 : r.length ≠ 0 := fun h => by
    have := List.eq_nil_of_length_eq_zero h
    rw [this] at h5'
    exact absurd h5' (by decide)
  have h := rtext2_right true A c r w h3 h4.1 (decide_eq_true ⟨by omega, h4.2, fun h => hr0 h.2⟩) (fun hA => by
    obtain ⟨b, off, e, _⟩ := h3 (by omega)
    rw [hA] at e
    cases e)
  rw [h5', show sg true 150 = -150 from rfl, show decI (-150) = [45, 49, 53, 48] from by unfold decI; rw [if_pos (by decide), show (-150 : Int).natAbs = 150 from rfl, dec_150]] at h
  exact h

end LM
end Go.Proofs.YtpnjddfnlaonoaaGreatDoor
