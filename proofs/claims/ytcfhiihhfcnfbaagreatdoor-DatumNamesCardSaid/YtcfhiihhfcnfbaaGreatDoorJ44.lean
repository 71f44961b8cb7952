/- Walks of package datum: has a datum nothing but what its kind has; signs; Items that a kind can have. -/
import Derived.Test.YtcfhiihhfcnfbaaGreatDoorJ43
import Derived.Test.YtcfhiihhfcnfbaaGreatDoorJ40
import Derived.Test.YtcfhiihhfcnfbaaGreatDoorJ36
import Derived.Handy
namespace Go.Proofs.YtcfhiihhfcnfbaaGreatDoor
open Go Go.RowKit
namespace LM
set_option linter.unusedVariables false
attribute [local go_sem] run_store_flt

set_option maxRecDepth 100000 in
set_option maxHeartbeats 2000000 in
theorem tright_f (f : Nat) (s : Bool) (A : Option Addr) (n c : Nat) (w : World) :
    Calls Tryz.prog 128 #[numA true f s A n c] w fun e w' => e = .returned (.bool (!s && decide (n = 0))) ∧ Below w.heap.size w w' := by
  have Y0 := Nx.new w true f s A n c
  have hb0 : Below w.heap.size w (w.alloc (numO true f s A n c)) := (Below.refl _ w).alloc (Nat.le_refl _) _
  obtain ⟨y0, y1, y2, y3, -, -, -, -, yl⟩ := Y0.facts
  have HB0 := Lib.hid hb0
  have N1 := Lib.hid (tnothing_any s A n c (w.alloc (numO true f s A n c)))
  clear hb0 Y0
  cases s
  · go_enter Tryz.func128, Tryz.ntmps128
    go_wp2_with (fail)
    refine N1.out.mono ?_
    rintro e w1 ⟨rfl, hb1⟩
    go_wp2_with (fail)
    go_ret
    exact ⟨by simp, bel_trans (B := w.heap.size) HB0.out hb1⟩
  · go_enter Tryz.func128, Tryz.ntmps128
    go_wp2_with (fail)
    go_ret
    exact ⟨by simp, HB0.out⟩

set_option maxRecDepth 100000 in
set_option maxHeartbeats 2000000 in
theorem tright_i (f : Nat) (hf : f < 18446744073709551616) (s : Bool) (A : Option Addr) (n c : Nat) (rb : Bool) (w : World) (hR : CallB w 200 #[.agg #[.bool s, .slice A n c]] (.bool rb)) :
    Calls Tryz.prog 128 #[numA false f s A n c] w fun e w' => e = .returned (.bool (decide (f = 0) && rb)) ∧ Below w.heap.size w w' := by
  have Y0 := Nx.new w false f s A n c
  have hb0 : Below w.heap.size w (w.alloc (numO false f s A n c)) := (Below.refl _ w).alloc (Nat.le_refl _) _
  obtain ⟨y0, y1, y2, y3, -, -, -, -, yl⟩ := Y0.facts
  have HB0 := Lib.hid hb0
  have HR := Lib.hid (hR _ hb0)
  have B1 := Lib.hid fun W => bits_any f W hf
  have hz : ((canW f : Nat) : Int) = 0 ↔ f = 0 := by
    unfold canW
    split
    · rename_i h; unfold nanW at h; omega
    · omega
  obtain ⟨g, hg⟩ : ∃ g, canW f = g := ⟨_, rfl⟩
  rw [hg] at hz B1
  clear hb0 Y0 hR hg
  by_cases h0 : f = 0
  · obtain rfl : g = 0 := by omega
    have h2 : decide (f = 0) = true := decide_eq_true h0
    rw [h2]
    clear h2 h0 hz
    go_enter Tryz.func128, Tryz.ntmps128
    go_wp2_with (fail)
    refine (B1.out _).mono ?_
    rintro e w1 ⟨rfl, rfl⟩
    go_wp2_with (fail)
    refine HR.out.mono ?_
    rintro e w1 ⟨rfl, hb1⟩
    go_wp2_with (fail)
    go_ret
    exact ⟨by simp, bel_trans (B := w.heap.size) HB0.out hb1⟩
  · have h1 : ((g : Int) == 0) = false := by rw [beq_eq_false_iff_ne]; omega
    have h2 : decide (f = 0) = false := decide_eq_false h0
    rw [h2]
    clear h2 h0 hz
    go_enter Tryz.func128, Tryz.ntmps128
    go_wp2_with (fail)
    refine (B1.out _).mono ?_
    rintro e w1 ⟨rfl, rfl⟩
    go_wp2_with (fail)
    go_ret
    exact ⟨by simp, HB0.out⟩

theorem tright_any (fl : Bool) (f : Nat) (hf : f < 18446744073709551616) (s : Bool) (A : Option Addr) (c : Nat) (xs : List Nat) (w : World) (ha : Rd w A xs) (hx : Lm xs) (hl : xs.length ≤ 1000) :
    Calls Tryz.prog 128 #[numA fl f s A xs.length c] w fun e w' => e = .returned (.bool (rightN fl f s xs)) ∧ Below w.heap.size w w' := by
  unfold rightN
  cases fl
  · rw [if_neg (by decide)]
    exact tright_i f hf s A xs.length c _ w fun W hW => eright_any s A c xs W (ha.below hW) hx hl
  · rw [if_pos rfl]
    exact tright_f f s A xs.length c w

/-- is a number the zero value -/
def nothB (fl : Bool) (f : Nat) (s : Bool) (xs : List Nat) : Bool := !fl && decide (xs.length = 0) && rightN fl f s xs
set_option maxRecDepth 100000 in
set_option maxHeartbeats 2000000 in
theorem dnothing_any (fl : Bool) (f : Nat) (s : Bool) (A : Option Addr) (n c : Nat) (rb : Bool) (w : World) (hR : CallB w 128 #[numA fl f s A n c] (.bool rb)) :
    Calls Tryz.prog 198 #[numA fl f s A n c] w fun e w' => e = .returned (.bool (!fl && decide (n = 0) && rb)) ∧ Below w.heap.size w w' := by
  have Y0 := Nx.new w fl f s A n c
  have hb0 : Below w.heap.size w (w.alloc (numO fl f s A n c)) := (Below.refl _ w).alloc (Nat.le_refl _) _
  obtain ⟨y0, y1, y2, y3, -, -, -, -, yl⟩ := Y0.facts
  have HB0 := Lib.hid hb0
  have HR := Lib.hid (hR _ hb0)
  clear hb0 Y0 hR
  cases fl
  · by_cases hn : n = 0
    · subst hn
      go_enter Tryz.func198, Tryz.ntmps198
      go_wp2_with (fail)
      refine HR.out.mono ?_
      rintro e w1 ⟨rfl, hb1⟩
      go_wp2_with (fail)
      go_ret
      exact ⟨by simp, bel_trans (B := w.heap.size) HB0.out hb1⟩
    · have h1 : ((n : Int) == 0) = false := by rw [beq_eq_false_iff_ne]; omega
      have h2 : decide (n = 0) = false := decide_eq_false hn
      rw [h2]
      clear h2 hn
      go_enter Tryz.func198, Tryz.ntmps198
      go_wp2_with (fail)
      go_ret
      exact ⟨by simp, HB0.out⟩
  · go_enter Tryz.func198, Tryz.ntmps198
    go_wp2_with (fail)
    go_ret
    exact ⟨by simp, HB0.out⟩

end LM
end Go.Proofs.YtcfhiihhfcnfbaaGreatDoor

namespace Go.Proofs.YtcfhiihhfcnfbaaGreatDoor
open Go Go.RowKit
namespace LM
set_option linter.unusedVariables false
attribute [local go_sem] run_store_flt

/-- has a datum nothing but what its kind has: by its kind; is N 0, is the number nothing, is the text empty, are there no Items -/
def elseB (k : Int) (bn nb bt bi : Bool) : Bool :=
  (decide (k = 1 ∨ k = 2) || bn) && (decide (k = 0) || nb) && (decide (k = 3 ∨ k = 4) || bt) && (decide (5 ≤ k ∧ k ≤ 7) || bi)

theorem dat_block (w : World) (h : Hd) (n : Nat) : ∃ W0, w.alloc (datO h n) = W0 ∧ Below w.heap.size w W0 ∧ W0.heap[w.heap.size]? = some (datO h n) ∧ w.heap.size < W0.heap.size :=
  ⟨_, rfl, (Below.refl _ w).alloc (Nat.le_refl _) _, by unfold World.alloc; simp, by simp⟩
theorem kinds (k : Int) : k = 0 ∨ k = 1 ∨ k = 2 ∨ k = 3 ∨ k = 4 ∨ k = 5 ∨ k = 6 ∨ k = 7 ∨ ((k == 0) = false ∧ (k == 1) = false ∧ (k == 2) = false ∧ (k == 3) = false ∧ (k == 4) = false ∧ (k == 5) = false ∧ (k == 6) = false ∧ (k == 7) = false) := by
  by_cases h0 : k = 0; · exact .inl h0
  by_cases h1 : k = 1; · exact .inr (.inl h1)
  by_cases h2 : k = 2; · exact .inr (.inr (.inl h2))
  by_cases h3 : k = 3; · exact .inr (.inr (.inr (.inl h3)))
  by_cases h4 : k = 4; · exact .inr (.inr (.inr (.inr (.inl h4))))
  by_cases h5 : k = 5; · exact .inr (.inr (.inr (.inr (.inr (.inl h5)))))
  by_cases h6 : k = 6; · exact .inr (.inr (.inr (.inr (.inr (.inr (.inl h6))))))
  by_cases h7 : k = 7; · exact .inr (.inr (.inr (.inr (.inr (.inr (.inr (.inl h7)))))))
  refine .inr (.inr (.inr (.inr (.inr (.inr (.inr (.inr ⟨?_, ?_, ?_, ?_, ?_, ?_, ?_, ?_⟩))))))) <;> rw [beq_eq_false_iff_ne] <;> assumption

set_option maxRecDepth 100000 in
set_option maxHeartbeats 16000000 in
theorem delse_any (h : Hd) (n : Nat) (nb bn bt bi : Bool) (w : World) (hbn : (h.n == 0) = bn) (hbt : (h.t.toList == []) = bt) (hbi : ((n : Int) == 0) = bi) (hN : CallB w 198 #[numA h.fl h.f h.s h.A h.xs.length h.c] (.bool nb)) :
    Calls Tryz.prog 127 #[datA h n] w fun e w' => e = .returned (.bool (elseB h.k bn nb bt bi)) ∧ Below w.heap.size w w' := by
  obtain ⟨W0, hW0, hb0, ho, hs0⟩ := dat_block w h n
  have C := C8.of_block ho
  obtain ⟨x0, x1, x2, x3, x4, x5, x6, x7⟩ := C
  obtain ⟨k, m, fl, f, s, A, xs, c, t, B, cap⟩ := h
  simp only [Nat.zero_add] at x0 x1 x2 x3 x4 x5 x6 x7 hbn hbt hN ⊢
  have HW0 := Lib.hid hW0
  have HB0 := Lib.hid hb0
  have HN := Lib.hid (hN W0 hb0)
  clear hW0 hb0 hN ho
  have HC := Lib.hid fun W (hb : Below W0.heap.size W0 W) => (show C8 W w.heap.size 0 ⟨k, m, fl, f, s, A, xs, c, t, B, cap⟩ n from ⟨(hb.cell (p := ⟨w.heap.size, 0, none⟩) hs0).trans x0, (hb.cell (p := ⟨w.heap.size, 1, none⟩) hs0).trans x1, (hb.cell (p := ⟨w.heap.size, 2, none⟩) hs0).trans x2, (hb.cell (p := ⟨w.heap.size, 3, none⟩) hs0).trans x3, (hb.cell (p := ⟨w.heap.size, 4, none⟩) hs0).trans x4, (hb.cell (p := ⟨w.heap.size, 5, none⟩) hs0).trans x5, (hb.cell (p := ⟨w.heap.size, 6, none⟩) hs0).trans x6, (hb.cell (p := ⟨w.heap.size, 7, none⟩) hs0).trans x7⟩)
  rcases kinds k with rfl | rfl | rfl | rfl | rfl | rfl | rfl | rfl | ⟨k0, k1, k2, k3, k4, k5, k6, k7⟩
  · go_enter Tryz.func127, Tryz.ntmps127
    go_wp2_with (fail)
    all_goals
      try rw [HW0.out]
      go_wp2_with (fail)
      all_goals
        go_ret
        exact ⟨by simp [elseB, *], HB0.out⟩
  rotate_right
  · have HE : Hid (elseB k bn nb bt bi = (bn && nb && bt && bi)) := Lib.hid (by
      rw [beq_eq_false_iff_ne] at k0 k1 k2 k3 k4 k5 k6 k7
      unfold elseB
      rw [decide_eq_false (by omega), decide_eq_false (by omega), decide_eq_false (by omega), decide_eq_false (by omega)]
      simp)
    go_enter Tryz.func127, Tryz.ntmps127
    go_wp2_with (fail)
    all_goals
      try rw [HW0.out]
      go_wp2_with (go_at_call 198; refine HN.out.mono ?_; rintro e w1 ⟨rfl, hb1⟩; have HB1 := Lib.hid (bel_trans (B := w.heap.size) HB0.out hb1); obtain ⟨y0, y1, y2, y3, y4, y5, y6, y7⟩ := HC.out _ hb1; simp only [Nat.zero_add] at y0 y1 y2 y3 y4 y5 y6 y7; clear hb1)
      all_goals
        go_ret
        first | exact ⟨by rw [HE.out]; simp [*], HB1.out⟩ | exact ⟨by rw [HE.out]; simp [*], HB0.out⟩
  all_goals
    go_enter Tryz.func127, Tryz.ntmps127
    go_wp2_with (fail)
    all_goals
      try rw [HW0.out]
      go_wp2_with (go_at_call 198; refine HN.out.mono ?_; rintro e w1 ⟨rfl, hb1⟩; have HB1 := Lib.hid (bel_trans (B := w.heap.size) HB0.out hb1); obtain ⟨y0, y1, y2, y3, y4, y5, y6, y7⟩ := HC.out _ hb1; simp only [Nat.zero_add] at y0 y1 y2 y3 y4 y5 y6 y7; clear hb1)
      all_goals
        go_ret
        first | exact ⟨by simp [elseB, *], HB1.out⟩ | exact ⟨by simp [elseB, *], HB0.out⟩
end LM
end Go.Proofs.YtcfhiihhfcnfbaaGreatDoor
