/- Pow, of the program and of the document, whatever the exponent. -/
import Derived.Test.YtpaefbojilnnnaaGreatDoorJ40
namespace Go.Proofs.YtpaefbojilnnnaaGreatDoor
open Go.RowKit
namespace LM
set_option linter.unusedVariables false

set_option maxRecDepth 100000 in
set_option maxHeartbeats 4000000 in
theorem epow_bad (s t : Bool) (A B : Option Addr) (n c m d : Nat) (x : Int) (w : World) (hn : IntV w (.agg #[.bool t, .slice B m d]) x) (hx : ¬ (0 ≤ x ∧ x ≤ 1000)) :
    Calls Tryz.prog 74 #[.agg #[.bool s, .slice A n c], .agg #[.bool t, .slice B m d]] w fun e w' => e = .returned (.tuple #[.agg #[.bool false, .slice none 0 0], .int .i64 21]) ∧ Below w.heap.size w w' := by
  obtain ⟨hb0, x0, y0, z0⟩ := new3 w s t A B n c m d
  have HB0 := Lib.hid hb0
  have XS0 := Lib.hid (((Bxs.nil.cons z0).cons y0).cons x0)
  have C1 := Lib.hid (esmall_int (hn.keep hb0))
  clear hb0 x0 y0 z0 hn
  go_enter Tryz.func74, Tryz.ntmps74
  go_wp2_with fail
  refine C1.out.mono ?_
  rintro e w1 ⟨he1, hb1⟩
  have XR1 := Lib.hid (XS0.out.below hb1).tl.tl.hd
  have HB1 := Lib.hid (HB0.out.trans (hb1.mono HB0.out.size))
  obtain ⟨q0, q1, q2, q3, ql⟩ := XR1.out.facts
  clear hb1 C1
  obtain ⟨V, hV, ZR, hbV, -, -, -, -⟩ := stored_world XR1.out HB1.out (by omega) false none 0 0
  obtain ⟨z0, z1, z2, z3, z4⟩ := ZR.facts
  have HBV := Lib.hid hbV
  clear hbV
  rcases he1 with ⟨r1, r2, rfl⟩ | ⟨r1, rfl⟩
  · by_cases hx0 : x < 0
    · have d1 : decide (x < 0) = true := decide_eq_true hx0
      go_wp2
      first | rw [hV] | skip
      refine bodyPost_ret (v := .tuple #[.agg #[.bool false, .slice none 0 0], .int .i64 21]) (by simp [results, Tryz.results74, go_sem, z0, z1]) rfl ?_
      exact ⟨rfl, HBV.out⟩
    · have d1 : decide (x < 0) = false := decide_eq_false hx0
      have d2 : decide (1000 < x) = true := decide_eq_true (by omega)
      go_wp2
      first | rw [hV] | skip
      refine bodyPost_ret (v := .tuple #[.agg #[.bool false, .slice none 0 0], .int .i64 21]) (by simp [results, Tryz.results74, go_sem, z0, z1]) rfl ?_
      exact ⟨rfl, HBV.out⟩
  · clear r1
    go_wp2
    first | rw [hV] | skip
    refine bodyPost_ret (v := .tuple #[.agg #[.bool false, .slice none 0 0], .int .i64 21]) (by simp [results, Tryz.results74, go_sem, z0, z1]) rfl ?_
    exact ⟨rfl, HBV.out⟩

set_option maxRecDepth 100000 in
set_option maxHeartbeats 4000000 in
theorem rpow_bad (s t : Bool) (A B : Option Addr) (n c m d : Nat) (x : Int) (w : World) (hn : ∀ W, Below w.heap.size w W → Calls Tryz.prog 159 #[.agg #[.bool t, .slice B m d]] W fun e w' => SmallE x e ∧ Below W.heap.size W w') (hx : ¬ (0 ≤ x ∧ x ≤ 1000)) :
    Calls Tryz.prog 104 #[.agg #[.bool s, .slice A n c], .agg #[.bool t, .slice B m d]] w fun e w' => e = .returned (.tuple #[.agg #[.bool false, .slice none 0 0], .int .i64 21]) ∧ Below w.heap.size w w' := by
  obtain ⟨hb0, x0, y0, z0⟩ := new3 w s t A B n c m d
  have HB0 := Lib.hid hb0
  have XS0 := Lib.hid (((Bxs.nil.cons z0).cons y0).cons x0)
  have C1 := Lib.hid (hn _ hb0)
  clear hb0 x0 y0 z0 hn
  go_enter Tryz.func104, Tryz.ntmps104
  go_wp2_with fail
  refine C1.out.mono ?_
  rintro e w1 ⟨he1, hb1⟩
  have XR1 := Lib.hid (XS0.out.below hb1).tl.tl.hd
  have HB1 := Lib.hid (HB0.out.trans (hb1.mono HB0.out.size))
  obtain ⟨q0, q1, q2, q3, ql⟩ := XR1.out.facts
  clear hb1 C1
  obtain ⟨V, hV, ZR, hbV, -, -, -, -⟩ := stored_world XR1.out HB1.out (by omega) false none 0 0
  obtain ⟨z0, z1, z2, z3, z4⟩ := ZR.facts
  have HBV := Lib.hid hbV
  clear hbV
  rcases he1 with ⟨r1, r2, rfl⟩ | ⟨r1, rfl⟩
  · by_cases hx0 : x < 0
    · have d1 : decide (x < 0) = true := decide_eq_true hx0
      go_wp2
      first | rw [hV] | skip
      refine bodyPost_ret (v := .tuple #[.agg #[.bool false, .slice none 0 0], .int .i64 21]) (by simp [results, Tryz.results104, go_sem, z0, z1]) rfl ?_
      exact ⟨rfl, HBV.out⟩
    · have d1 : decide (x < 0) = false := decide_eq_false hx0
      have d2 : decide (1000 < x) = true := decide_eq_true (by omega)
      go_wp2
      first | rw [hV] | skip
      refine bodyPost_ret (v := .tuple #[.agg #[.bool false, .slice none 0 0], .int .i64 21]) (by simp [results, Tryz.results104, go_sem, z0, z1]) rfl ?_
      exact ⟨rfl, HBV.out⟩
  · clear r1
    go_wp2
    first | rw [hV] | skip
    refine bodyPost_ret (v := .tuple #[.agg #[.bool false, .slice none 0 0], .int .i64 21]) (by simp [results, Tryz.results104, go_sem, z0, z1]) rfl ?_
    exact ⟨rfl, HBV.out⟩

def powR (x y : Int) : Int × Int := if 0 ≤ y ∧ y ≤ 1000 then (match powI y.natAbs 1 x with | none => (0, 11) | some z => (z, 0)) else (0, 21)
theorem zero_fits : ¬ BigI 0 := small_not_big (by decide)
theorem epow_all (s t : Bool) (A B : Option Addr) (n c m d : Nat) (x y : Int) (w : World) (ha : IntV w (.agg #[.bool s, .slice A n c]) x) (hn : IntV w (.agg #[.bool t, .slice B m d]) y) (na : ¬ BigI x) :
    Calls Tryz.prog 74 #[.agg #[.bool s, .slice A n c], .agg #[.bool t, .slice B m d]] w fun e w' => ∃ s1 A1 n1 c1, e = .returned (.tuple #[.agg #[.bool s1, .slice A1 n1 c1], .int .i64 (powR x y).2]) ∧ IntV w' (.agg #[.bool s1, .slice A1 n1 c1]) (powR x y).1 ∧ Below w.heap.size w w' := by
  unfold powR
  by_cases h : 0 ≤ y ∧ y ≤ 1000
  · rw [if_pos h]
    obtain ⟨k, rfl⟩ : ∃ k : Nat, y = (k : Int) := ⟨y.natAbs, by omega⟩
    refine (epow_go s t A B n c m d x k w ha hn na (by omega)).mono ?_
    rintro e w' ⟨s1, A1, n1, c1, er, rfl, hc, hb⟩
    rw [Int.natAbs_natCast]
    rcases hc with ⟨h1, rfl, h3⟩ | ⟨z, h1, rfl, h3⟩
    · rw [h1]
      exact ⟨s1, A1, n1, c1, rfl, h3, hb⟩
    · rw [h1]
      exact ⟨s1, A1, n1, c1, rfl, h3, hb⟩
  · rw [if_neg h]
    refine (epow_bad s t A B n c m d y w hn h).mono ?_
    rintro e w' ⟨rfl, hb⟩
    exact ⟨_, _, _, _, rfl, intV_zero _, hb⟩
theorem rpow_all (s t : Bool) (A B : Option Addr) (n c m d : Nat) (x y : Int) (w : World) (ha : IntR w (.agg #[.bool s, .slice A n c]) x)
    (hn : ∀ W, Below w.heap.size w W → Calls Tryz.prog 159 #[.agg #[.bool t, .slice B m d]] W fun e w' => SmallE y e ∧ Below W.heap.size W w') (na : ¬ BigI x) :
    Calls Tryz.prog 104 #[.agg #[.bool s, .slice A n c], .agg #[.bool t, .slice B m d]] w fun e w' => ∃ s1 A1 n1 c1, e = .returned (.tuple #[.agg #[.bool s1, .slice A1 n1 c1], .int .i64 (powR x y).2]) ∧ IntR w' (.agg #[.bool s1, .slice A1 n1 c1]) (powR x y).1 ∧ ¬ BigI (powR x y).1 ∧ Below w.heap.size w w' := by
  unfold powR
  by_cases h : 0 ≤ y ∧ y ≤ 1000
  · rw [if_pos h]
    obtain ⟨k, rfl⟩ : ∃ k : Nat, y = (k : Int) := ⟨y.natAbs, by omega⟩
    refine (rpow_go s t A B n c m d x k w ha hn na (by omega)).mono ?_
    rintro e w' ⟨s1, A1, n1, c1, er, rfl, hc, hb⟩
    rw [Int.natAbs_natCast]
    rcases hc with ⟨h1, rfl, h3⟩ | ⟨z, h1, rfl, h2, h3⟩
    · rw [h1]
      exact ⟨s1, A1, n1, c1, rfl, h3, zero_fits, hb⟩
    · rw [h1]
      exact ⟨s1, A1, n1, c1, rfl, h3, h2, hb⟩
  · rw [if_neg h]
    refine (rpow_bad s t A B n c m d y w hn h).mono ?_
    rintro e w' ⟨rfl, hb⟩
    exact ⟨_, _, _, _, rfl, (intV_zero _).toR, zero_fits, hb⟩

end LM
end Go.Proofs.YtpaefbojilnnnaaGreatDoor
