/- The statement TowerChain: its walk, at any three numbers. -/
import Derived.Test.YtcfhiihhfcnfbaaGreatDoorJ35
import Derived.Test.YtcfhiihhfcnfbaaGreatDoorJ20
import Derived.Test.YtcfhiihhfcnfbaaGreatDoorJ36
import Derived.Test.YtcfhiihhfcnfbaaGreatDoorJ16
import Derived.Lib.SmallJoins
import Derived.Deep.Strs
import Derived.OpenShut
import Derived.ShutString
namespace Go.Proofs.YtcfhiihhfcnfbaaGreatDoor
open Go Go.RowKit
namespace LM
set_option linter.unusedVariables false
attribute [local go_sem] run_store_flt

/-- can it be? -/
def rightN (fl : Bool) (f : Nat) (s : Bool) (xs : List Nat) : Bool := if fl then (!s && decide (xs.length = 0)) else (decide (f = 0) && rightB s xs)

set_option maxRecDepth 100000 in
set_option maxHeartbeats 2000000 in
theorem rnright_f (f : Nat) (s : Bool) (A : Option Addr) (n c : Nat) (w : World) :
    Calls Tryz.prog 20 #[numA true f s A n c] w fun e w' => e = .returned (.bool (!s && decide (n = 0))) ∧ Below w.heap.size w w' := by
  have Y0 := Nx.new w true f s A n c
  have hb0 : Below w.heap.size w (w.alloc (numO true f s A n c)) := (Below.refl _ w).alloc (Nat.le_refl _) _
  obtain ⟨y0, y1, y2, y3, -, -, -, -, yl⟩ := Y0.facts
  have HB0 := Lib.hid hb0
  have hd : ((n : Int) == 0) = decide (n = 0) := by
    rw [Bool.eq_iff_iff, beq_iff_eq, decide_eq_true_iff]; omega
  clear hb0 Y0
  cases s
  · go_enter Tryz.func20, Tryz.ntmps20
    go_wp2_with (fail)
    go_ret
    exact ⟨rfl, HB0.out⟩
  · go_enter Tryz.func20, Tryz.ntmps20
    go_wp2_with (fail)
    go_ret
    exact ⟨rfl, HB0.out⟩
set_option maxRecDepth 100000 in
set_option maxHeartbeats 2000000 in
theorem rnright_n (f : Nat) (hf : f ≠ 0) (s : Bool) (A : Option Addr) (n c : Nat) (w : World) :
    Calls Tryz.prog 20 #[numA false f s A n c] w fun e w' => e = .returned (.bool false) ∧ Below w.heap.size w w' := by
  have Y0 := Nx.new w false f s A n c
  have hb0 : Below w.heap.size w (w.alloc (numO false f s A n c)) := (Below.refl _ w).alloc (Nat.le_refl _) _
  obtain ⟨y0, y1, y2, y3, -, -, -, -, yl⟩ := Y0.facts
  have HB0 := Lib.hid hb0
  have h1 := run_mbits f
  have hd : ((f : Int) == 0) = false := by
    rw [beq_eq_false_iff_ne]; omega
  clear hb0 Y0 hf
  go_enter Tryz.func20, Tryz.ntmps20
  go_wp2_with (fail)
  go_ret
  exact ⟨rfl, HB0.out⟩
set_option maxRecDepth 100000 in
set_option maxHeartbeats 2000000 in
theorem rnright_z (s : Bool) (A : Option Addr) (c : Nat) (xs : List Nat) (w : World) (ha : Rd w A xs) (hx : Lm xs) (hca : xs.length ≤ c) (hcm : c ≤ 9223372036854775807) (hnil : A = none → xs.length = 0 ∧ c = 0) :
    Calls Tryz.prog 20 #[numA false 0 s A xs.length c] w fun e w' => e = .returned (.bool (rightB s xs)) ∧ Below w.heap.size w w' := by
  have Y0 := Nx.new w false 0 s A xs.length c
  have hb0 : Below w.heap.size w (w.alloc (numO false 0 s A xs.length c)) := (Below.refl _ w).alloc (Nat.le_refl _) _
  obtain ⟨y0, y1, y2, y3, -, -, -, -, yl⟩ := Y0.facts
  have HB0 := Lib.hid hb0
  have h1 := run_mbits 0
  have R1 := Lib.hid (rright_any s A c xs _ (ha.below hb0) hx hca hcm hnil)
  clear hb0 Y0 ha hx hnil
  go_enter Tryz.func20, Tryz.ntmps20
  go_wp2_with (fail)
  refine R1.out.mono ?_
  rintro e w1 ⟨rfl, hb1⟩
  go_wp2_with (fail)
  go_ret
  exact ⟨rfl, bel_trans (B := w.heap.size) HB0.out hb1⟩
theorem rnright_any (fl : Bool) (f : Nat) (s : Bool) (A : Option Addr) (c : Nat) (xs : List Nat) (w : World) (ha : Rd w A xs) (hx : Lm xs) (hca : xs.length ≤ c) (hcm : c ≤ 9223372036854775807) (hnil : A = none → xs.length = 0 ∧ c = 0) :
    Calls Tryz.prog 20 #[numA fl f s A xs.length c] w fun e w' => e = .returned (.bool (rightN fl f s xs)) ∧ Below w.heap.size w w' := by
  unfold rightN
  cases fl
  · by_cases hf : f = 0
    · subst hf
      have h := rnright_z s A c xs w ha hx hca hcm hnil
      simpa using h
    · have h := rnright_n f hf s A xs.length c w
      rw [if_neg (by decide), decide_eq_false hf, Bool.false_and]
      exact h
  · rw [if_pos rfl]
    exact rnright_f f s A xs.length c w

set_option maxRecDepth 100000 in
set_option maxHeartbeats 2000000 in
/-- can both be? -/
theorem right2_any (fl : Bool) (f : Nat) (s : Bool) (A : Option Addr) (n c : Nat) (fl' : Bool) (f' : Nat) (s' : Bool) (A' : Option Addr) (n' c' : Nat) (ra rb : Bool) (w : World)
    (hA : ∀ W, Below w.heap.size w W → Calls Tryz.prog 20 #[numA fl f s A n c] W fun e w' => e = .returned (.bool ra) ∧ Below W.heap.size W w')
    (hB : ∀ W, Below w.heap.size w W → Calls Tryz.prog 20 #[numA fl' f' s' A' n' c'] W fun e w' => e = .returned (.bool rb) ∧ Below W.heap.size W w') :
    Calls Tryz.prog 19 #[numA fl f s A n c, numA fl' f' s' A' n' c'] w fun e w' => e = .returned (.bool (ra && rb)) ∧ Below w.heap.size w w' := by
  obtain ⟨W0, hW0, hb0, hO⟩ := two_num w fl f s A n c fl' f' s' A' n' c'
  have HB0 := Lib.hid hb0
  have O0 := Lib.hid hO
  have HW0 := Lib.hid hW0
  have C1 := Lib.hid (hA W0 hb0)
  have C2 := Lib.hid hB
  clear hb0 hO hW0 hA hB
  cases ra
  · go_enter Tryz.func19, Tryz.ntmps19
    go_wp2_with (fail)
    rw [HW0.out]
    refine C1.out.mono ?_
    rintro e w1 ⟨rfl, hb1⟩
    go_wp2_with (fail)
    go_ret
    exact ⟨rfl, bel_trans (B := w.heap.size) HB0.out hb1⟩
  · go_enter Tryz.func19, Tryz.ntmps19
    go_wp2_with (fail)
    rw [HW0.out]
    refine C1.out.mono ?_
    rintro e w1 ⟨rfl, hb1⟩
    have O1 := Lib.hid (O0.out.below hb1)
    have HB1 := Lib.hid (bel_trans (B := w.heap.size) HB0.out hb1)
    clear hb1
    obtain ⟨p0, p1, p2, p3, -, -, -, -, pl⟩ := O1.out.nx0.facts
    go_wp2_with (fail)
    refine (C2.out _ HB1.out).mono ?_
    rintro e w2 ⟨rfl, hb2⟩
    go_wp2_with (fail)
    go_ret
    exact ⟨rfl, bel_trans (B := w.heap.size) HB1.out hb2⟩

set_option maxRecDepth 100000 in
set_option maxHeartbeats 2000000 in
/-- two exact ones -/
theorem rnsame_i (f f' : Nat) (s : Bool) (A : Option Addr) (n c : Nat) (s' : Bool) (A' : Option Addr) (n' c' : Nat) (z : Int) (w : World) (hx : IntR w (.agg #[.bool s, .slice A n c]) z) (hy : IntR w (.agg #[.bool s', .slice A' n' c']) z) (nz : ¬ BigI z) :
    Calls Tryz.prog 78 #[numA false f s A n c, numA false f' s' A' n' c'] w fun e w' => e = .returned (.bool true) ∧ Below w.heap.size w w' := by
  obtain ⟨W0, hW0, hb0, hO⟩ := two_num w false f s A n c false f' s' A' n' c'
  have HB0 := Lib.hid hb0
  have HW0 := Lib.hid hW0
  have C1 := Lib.hid (rsame2_yes (hx.keep hb0) (hy.keep hb0) nz)
  clear hb0 hO hW0 hx hy nz
  go_enter Tryz.func78, Tryz.ntmps78
  go_wp2_with (fail)
  rw [HW0.out]
  refine C1.out.mono ?_
  rintro e w1 ⟨rfl, hb1⟩
  go_wp2_with (fail)
  go_ret
  exact ⟨rfl, bel_trans (B := w.heap.size) HB0.out hb1⟩

theorem powI_fit : ∀ (k : Nat) (p a z : Int), powI k p a = some z → ¬ BigI z := by
  intro k
  induction k using Nat.strongRecOn with
  | _ k ih =>
    intro p a z h
    rw [powI] at h
    obtain ⟨u, hu⟩ : ∃ u, (if k % 2 = 1 then p * a else p) = u := ⟨_, rfl⟩
    rw [hu] at h
    by_cases hb : BigI u
    · rw [if_pos hb] at h; cases h
    · rw [if_neg hb] at h
      by_cases h2 : k / 2 = 0
      · rw [if_pos h2] at h
        injection h with h
        rw [← h]
        exact hb
      · rw [if_neg h2] at h
        by_cases h3 : BigI (a * a)
        · rw [if_pos h3] at h; cases h
        · rw [if_neg h3] at h
          exact ih (k / 2) (by omega) _ _ _ h
theorem gcd_fits {x y : Int} (hx : ¬ BigI x) (hy : ¬ BigI y) : ¬ BigI (Nat.gcd x.natAbs y.natAbs : Nat) := by
  intro hb
  unfold BigI at *
  rw [Int.natAbs_natCast] at hb
  rcases Nat.eq_zero_or_pos x.natAbs with h | h
  · rw [h, Nat.gcd_zero_left] at hb
    exact hy hb
  · exact hx (hb.mono (Nat.gcd_le_left _ h))
theorem AnsW.fit {op x y z e : Int} (h : AnsW op x y z e) (hx : ¬ BigI x) (hy : ¬ BigI y) : ¬ BigI z := by
  rcases h with ⟨_, r, h⟩ | ⟨_, q, h⟩ | ⟨_, h⟩ | ⟨_, rfl, _⟩ | ⟨_, rfl, _⟩ | ⟨_, rfl, _⟩
  · exact (h.fit hx).1
  · exact (h.fit hx).2
  · exact h.fit hy
  · exact gcd_fits hx hy
  · unfold powR
    split
    · split
      · exact zero_fits
      · rename_i hz
        exact powI_fit _ _ _ _ hz
    · exact zero_fits
  · exact zero_fits

end LM
end Go.Proofs.YtcfhiihhfcnfbaaGreatDoor

namespace Go.Proofs.YtcfhiihhfcnfbaaGreatDoor
open Go Go.RowKit Go.ChangeShapes Go.WideShapes Go.ChangeAt
namespace LM
set_option linter.unusedVariables false

theorem AnsW.ex (op x y : Int) : ∃ z e, AnsW op x y z e := by
  by_cases h0 : op = 0
  · by_cases hy : y = 0
    · exact ⟨0, 12, .inl ⟨h0, 0, .inl ⟨hy, rfl, rfl, rfl⟩⟩⟩
    · exact ⟨_, _, .inl ⟨h0, _, .inr ⟨hy, rfl, rfl, rfl⟩⟩⟩
  by_cases h1 : op = 1
  · by_cases hy : y = 0
    · exact ⟨0, 12, .inr (.inl ⟨h1, 0, .inl ⟨hy, rfl, rfl, rfl⟩⟩)⟩
    · exact ⟨_, _, .inr (.inl ⟨h1, _, .inr ⟨hy, rfl, rfl, rfl⟩⟩)⟩
  by_cases h2 : op = 2
  · by_cases hy : y = 0
    · exact ⟨0, 12, .inr (.inr (.inl ⟨h2, .inl ⟨hy, rfl, rfl⟩⟩))⟩
    · exact ⟨_, _, .inr (.inr (.inl ⟨h2, .inr ⟨hy, rfl, rfl⟩⟩))⟩
  by_cases h3 : op = 3
  · exact ⟨_, _, .inr (.inr (.inr (.inl ⟨h3, rfl, rfl⟩)))⟩
  by_cases h4 : op = 4
  · exact ⟨_, _, .inr (.inr (.inr (.inr (.inl ⟨h4, rfl, rfl⟩))))⟩
  exact ⟨_, _, .inr (.inr (.inr (.inr (.inr ⟨⟨h0, h1, h2, h3, h4⟩, rfl, rfl⟩))))⟩

/-! a number that came in -/
theorem trod_flt {H : Type} {enc : TypeId × Value → H} {P : Program} {w : World} {base : Nat} {spare : Nat → Bool} {held : Bool} {fuel : Nat} {t : TypeId} {cs : List Value} {x : DataW H × List MemPlace} (ht : P.underlying t = some (.float .f64)) (h : DataW.trod enc P w base spare held fuel t cs = some x) : ∃ n, cs = [.float .f64 n] ∧ n < 18446744073709551616 := by
  cases fuel with
  | zero => simp [DataW.trod] at h
  | succ n =>
    unfold DataW.trod at h
    rw [ht] at h
    split at h <;> simp_all
    rename_i hk
    subst hk
    have h3 := h.1.2
    unfold Lit.wf at h3
    simpa using h3

set_option maxRecDepth 1000000 in
theorem open_num {H : Type} {enc : TypeId × Value → H} {w : World} {base b0 : Nat} {held : Bool} {r : Reach} {v : Value} {d : DataW H} {p : List MemPlace}
    (hv : Value.okWide Tryz.prog w r b0 38 v) (h : DataW.Trod enc Tryz.prog w base (fun _ => true) held 38 v d p) :
    ∃ fl f s A c xs, v = numA fl f s A (List.length xs) c ∧ f < 18446744073709551616 ∧ Lm xs ∧ Rd w A xs ∧ xs.length ≤ c ∧ c ≤ 9223372036854775807 ∧ (A = none → xs.length = 0 ∧ c = 0) := by
  obtain ⟨cs, rfl, hsz⟩ := okWide_struct Tryz.underlying38 hv
  obtain ⟨c0, c1, c2, c3, rfl⟩ := Joins.array4 (hsz.trans (by kernel_rfl))
  obtain ⟨fuel, hf⟩ := h
  obtain ⟨y0, y1, y2, n, hx, _, h0, h1, h2⟩ := Go.Deep.trod_struct3 Tryz.underlying38 hf
  have g0 : DataW.trod enc Tryz.prog w base (fun _ => true) held n 4 [c0] = some y0 := h0
  have g1 : DataW.trod enc Tryz.prog w base (fun _ => true) held n 24 [c1] = some y1 := h1
  have g2 : DataW.trod enc Tryz.prog w base (fun _ => true) held n 36 [c2, c3] = some y2 := h2
  obtain ⟨fl, hb, -⟩ := DataW.trod_bool Tryz.underlying4 g0
  obtain ⟨f, hff, hfl⟩ := trod_flt Tryz.underlying24 g1
  obtain ⟨z0, z1, n', -, -, k0, k1⟩ := trod_struct2 Tryz.underlying36 g2
  have e0 : DataW.trod enc Tryz.prog w base (fun _ => true) held n' 4 [c2] = some z0 := k0
  have e1 : DataW.trod enc Tryz.prog w base (fun _ => true) held n' 34 [c3] = some z1 := k1
  obtain ⟨s, hs, -⟩ := DataW.trod_bool Tryz.underlying4 e0
  obtain rfl : c0 = .bool fl := by simpa using hb
  obtain rfl : c1 = .float .f64 f := by simpa using hff
  obtain rfl : c2 = .bool s := by simpa using hs
  rcases open_ints Tryz.underlying34 Tryz.underlying108 (by kernel_rfl) e1 with ⟨hcs, _⟩ | ⟨x, l, c, zs, hcs, _, hl, hm, hz, _, hcell, hwz⟩
  · obtain rfl : c3 = .slice none 0 0 := by simpa using hcs
    exact ⟨fl, f, s, none, 0, [], rfl, hfl, Lm.nil, Rd.nil, Nat.le_refl _, by decide, fun _ => ⟨rfl, rfl⟩⟩
  · obtain rfl : c3 = .slice (some x) l c := by simpa using hcs
    obtain ⟨xs, rfl, hx, ha, hca, hcm, hn⟩ := open_row (w := w) (a := some x) (len := l) (cap := c) (zs := zs) (.inr ⟨_, rfl, hl, hm, by simpa using hz, hcell, hwz⟩)
    exact ⟨fl, f, s, some x, c, xs, rfl, hfl, hx, ha, hca, hcm, hn⟩

end LM
end Go.Proofs.YtcfhiihhfcnfbaaGreatDoor

namespace Go.Proofs.YtcfhiihhfcnfbaaGreatDoor
open Go Go.RowKit
namespace LM
set_option linter.unusedVariables false
attribute [local go_sem] run_store_flt

/-- a number that can be, as it is read -/
def NumOk (w : World) (fl : Bool) (f : Nat) (s : Bool) (A : Option Addr) (n c : Nat) : Prop := f < 18446744073709551616 ∧ (fl = true ∨ (fl = false ∧ ∃ x, IntV w (.agg #[.bool s, .slice A n c]) x ∧ ¬ BigI x))
theorem numOk_of {fl : Bool} {f : Nat} {s : Bool} {A : Option Addr} {c : Nat} {xs : List Nat} {w : World} (hr : rightN fl f s xs = true) (hf : f < 18446744073709551616) (ha : Rd w A xs) (hx : Lm xs) (hca : xs.length ≤ c) (hcm : c ≤ 9223372036854775807) : NumOk w fl f s A xs.length c := by
  refine ⟨hf, ?_⟩
  cases fl
  · right
    unfold rightN at hr
    rw [if_neg (by decide), Bool.and_eq_true] at hr
    exact ⟨rfl, _, (intV_of hr.2 ha hx hca hcm).1, (intV_of hr.2 ha hx hca hcm).2⟩
  · exact .inl rfl
theorem NumOk.keep {w w' : World} {fl : Bool} {f : Nat} {s : Bool} {A : Option Addr} {n c : Nat} (h : NumOk w fl f s A n c) (hb : Below w.heap.size w w') : NumOk w' fl f s A n c := by
  obtain ⟨h1, h2 | ⟨h2, x, h3, h4⟩⟩ := h
  · exact ⟨h1, .inl h2⟩
  · exact ⟨h1, .inr ⟨h2, x, h3.keep hb, h4⟩⟩

abbrev CallB (w : World) (f : FuncId) (args : Array Value) (r : Value) : Prop := ∀ W, Below w.heap.size w W → Calls Tryz.prog f args W fun e w' => e = .returned r ∧ Below W.heap.size W w'

theorem same2_both {w : World} {fl : Bool} {f : Nat} {s : Bool} {A : Option Addr} {n c : Nat} {fl' : Bool} {f' : Nat} {s' : Bool} {A' : Option Addr} {n' c' : Nat} (ha : NumOk w fl f s A n c) (hb : NumOk w fl' f' s' A' n' c') :
    ∃ b, CallB w 148 #[numA fl f s A n c, numA fl' f' s' A' n' c'] (.bool b) ∧ CallB w 78 #[numA fl f s A n c, numA fl' f' s' A' n' c'] (.bool b) := by
  obtain ⟨hf, rfl | ⟨rfl, x, hx, nx⟩⟩ := ha
  · obtain ⟨hf', rfl | ⟨rfl, y, hy, ny⟩⟩ := hb
    · exact ⟨canW f == canW f', fun W _ => tsame_ff f f' s A n c s' A' n' c' W _ (fun V => same_flo f f' V hf hf'), fun W _ => rtsame_ff f f' s A n c s' A' n' c' W _ (fun V => rsame_flo f f' V hf hf')⟩
    · exact ⟨false, fun W _ => tsame_fi f f' s A n c s' A' n' c' W, fun W _ => rtsame_fi f f' s A n c s' A' n' c' W⟩
  · obtain ⟨hf', rfl | ⟨rfl, y, hy, ny⟩⟩ := hb
    · exact ⟨false, fun W _ => tsame_if f f' s A n c s' A' n' c' W, fun W _ => rtsame_if f f' s A n c s' A' n' c' W⟩
    · exact ⟨decide (x = y), fun W hW => tsame_ii f f' s A n c s' A' n' c' W _ (fun V hV => esame_int ((hx.keep hW).keep hV) ((hy.keep hW).keep hV) nx ny), fun W hW => rtsame_ii f f' s A n c s' A' n' c' W _ (fun V hV => rsame2_int ((hx.keep hW).keep hV).toR ((hy.keep hW).keep hV).toR (fit_of nx))⟩

end LM
end Go.Proofs.YtcfhiihhfcnfbaaGreatDoor

namespace Go.Proofs.YtcfhiihhfcnfbaaGreatDoor
open Go Go.RowKit Ieee
namespace LM
set_option linter.unusedVariables false

/-- beyond all finite and all exact numbers -/
def Top (T : Int) : Prop := 0 < T ∧ (∀ s m e, CanF m e → -T < sv s m e ∧ sv s m e < T) ∧ (∀ x : Int, ¬ BigI x → -T < x * unit ∧ x * unit < T)
theorem top_ex : ∃ T, Top T := by
  obtain ⟨u, hu⟩ : ∃ u, unit = u := ⟨_, rfl⟩
  have hu0 : 0 < u := hu ▸ unit_pos
  obtain ⟨B, hB⟩ : ∃ B : Nat, 4294967296 ^ 64 = B := ⟨_, rfl⟩
  obtain ⟨M, hM⟩ : ∃ M, sv false 9007199254740991 971 = M := ⟨_, rfl⟩
  have hB0 : 0 ≤ (B : Int) * u := Int.mul_nonneg (by omega) (by omega)
  have hM0 : 0 ≤ M := by
    rw [← hM, sv_false]
    exact Int.natCast_nonneg _
  refine ⟨(B : Int) * u + M + 1, by omega, fun s m e h => ?_, fun x hx => ?_⟩
  · have h1 := sv_le_max h
    rw [hM] at h1
    have h2 : 0 ≤ sv false m e := by rw [sv_false]; exact Int.natCast_nonneg _
    cases s
    · omega
    · have h3 : sv true m e = - sv false m e := rfl
      omega
  · rw [hu]
    have h1 : x.natAbs < B := by rw [← hB]; exact Nat.lt_of_not_le hx
    have h2 : x * u ≤ (B : Int) * u := Int.mul_le_mul_of_nonneg_right (by omega) (by omega)
    have h3 : (-(B : Int)) * u ≤ x * u := Int.mul_le_mul_of_nonneg_right (by omega) (by omega)
    rw [Int.neg_mul] at h3
    omega

/-- where a number stands; nowhere, if it is none -/
def Ev (T : Int) (w : World) (fl : Bool) (f : Nat) (s : Bool) (A : Option Addr) (n c : Nat) (o : Option Int) : Prop :=
  f < 18446744073709551616 ∧ ((fl = true ∧ nanW f ∧ o = none) ∨ (fl = true ∧ ∃ t m e, CanF m e ∧ f = wordF t m e ∧ o = some (sv t m e)) ∨ (fl = true ∧ f = 9218868437227405312 ∧ o = some T) ∨ (fl = true ∧ f = 18442240474082181120 ∧ o = some (-T)) ∨
    (fl = false ∧ ∃ x, IntV w (.agg #[.bool s, .slice A n c]) x ∧ ¬ BigI x ∧ o = some (x * unit)))
theorem ev_ex (T : Int) {w : World} {fl : Bool} {f : Nat} {s : Bool} {A : Option Addr} {n c : Nat} (h : NumOk w fl f s A n c) : ∃ o, Ev T w fl f s A n c o := by
  obtain ⟨hf, rfl | ⟨rfl, x, hx, nx⟩⟩ := h
  · by_cases hn : nanW f
    · exact ⟨none, hf, .inl ⟨rfl, hn, rfl⟩⟩
    · by_cases hi : f % 9223372036854775808 < 9218868437227405312
      · obtain ⟨t, m, e, hc, he⟩ := word_of f hf hi
        exact ⟨_, hf, .inr (.inl ⟨rfl, t, m, e, hc, he, rfl⟩)⟩
      · unfold nanW at hn
        have h2 : f = 9218868437227405312 ∨ f = 18442240474082181120 := by omega
        rcases h2 with h2 | h2
        · exact ⟨_, hf, .inr (.inr (.inl ⟨rfl, h2, rfl⟩))⟩
        · exact ⟨_, hf, .inr (.inr (.inr (.inl ⟨rfl, h2, rfl⟩)))⟩
  · exact ⟨_, hf, .inr (.inr (.inr (.inr ⟨rfl, x, hx, nx, rfl⟩)))⟩

/-- what Cmp tells of two places -/
def ordE : Option Int → Option Int → Int × Bool
  | some p, some q => (cmpI p q, true)
  | _, _ => (0, false)

theorem ord_inf_num (b : Nat) (s t : Bool) (m : Nat) (e : Int) (hb : double.read b = .infinity s) (h : CanF m e) : double.order b (wordF t m e) = some (if s then .lt else .gt) := by
  unfold Format.order
  rw [hb, read_word h]
  cases s <;> rfl
theorem ord_num_inf (b : Nat) (s t : Bool) (m : Nat) (e : Int) (hb : double.read b = .infinity s) (h : CanF m e) : double.order (wordF t m e) b = some (if s then .gt else .lt) := by
  unfold Format.order
  rw [hb, read_word h]
  cases s <;> rfl

theorem ev_flo {T : Int} (hT : Top T) {f : Nat} (hf : f < 18446744073709551616) {o : Option Int} (h : (nanW f ∧ o = none) ∨ (∃ t m e, CanF m e ∧ f = wordF t m e ∧ o = some (sv t m e)) ∨ (f = 9218868437227405312 ∧ o = some T) ∨ (f = 18442240474082181120 ∧ o = some (-T)))
    {f' : Nat} (hf' : f' < 18446744073709551616) {o' : Option Int} (h' : (nanW f' ∧ o' = none) ∨ (∃ t m e, CanF m e ∧ f' = wordF t m e ∧ o' = some (sv t m e)) ∨ (f' = 9218868437227405312 ∧ o' = some T) ∨ (f' = 18442240474082181120 ∧ o' = some (-T))) :
    ((nanW f ∨ nanW f') ∧ ordE o o' = (0, false)) ∨ (¬ nanW f ∧ ¬ nanW f' ∧ ∃ r, double.order f f' = some r ∧ ordE o o' = (match r with | .lt => -1 | .eq => 0 | .gt => 1, true)) := by
  obtain ⟨t1, t2, t3⟩ := hT
  have ip : double.read 9218868437227405312 = .infinity false := by rw [read_inf _ (by decide)]; rfl
  have im : double.read 18442240474082181120 = .infinity true := by rw [read_inf _ (by decide)]; rfl
  have cmpO : ∀ a b : Int, ∃ r, (compare a b) = r ∧ cmpI a b = (match r with | .lt => -1 | .eq => 0 | .gt => 1) := fun a b => by
    refine ⟨_, rfl, ?_⟩
    show cmpI a b = match compareOfLessAndEq a b with | .lt => -1 | .eq => 0 | .gt => 1
    unfold compareOfLessAndEq cmpI
    by_cases h1 : a < b
    · rw [if_pos h1, if_pos h1]
    · rw [if_neg h1, if_neg h1]
      by_cases h2 : a = b
      · rw [if_pos h2, if_neg (by omega)]
      · rw [if_neg h2, if_pos (by omega)]
  rcases h with ⟨hn, rfl⟩ | h
  · exact .inl ⟨.inl hn, by cases o' <;> rfl⟩
  rcases h' with ⟨hn, rfl⟩ | h'
  · exact .inl ⟨.inr hn, by rcases h with ⟨_, _, _, _, _, rfl⟩ | ⟨_, rfl⟩ | ⟨_, rfl⟩ <;> rfl⟩
  right
  have np : ¬ nanW 9218868437227405312 := by unfold nanW; decide
  have nm : ¬ nanW 18442240474082181120 := by unfold nanW; decide
  rcases h with ⟨t, m, e, hc, rfl, rfl⟩ | ⟨rfl, rfl⟩ | ⟨rfl, rfl⟩ <;> rcases h' with ⟨t', m', e', hc', rfl, rfl⟩ | ⟨rfl, rfl⟩ | ⟨rfl, rfl⟩
  · obtain ⟨r, hr, hk⟩ := cmpO (sv t m e) (sv t' m' e')
    exact ⟨can_nan hc, can_nan hc', r, by rw [order_num hc hc', hr], by show (cmpI _ _, true) = _; rw [hk]⟩
  · exact ⟨can_nan hc, np, _, ord_num_inf _ _ t m e ip hc, by show (cmpI _ _, true) = _; rw [cmpI_lt (t2 t m e hc).2]; rfl⟩
  · exact ⟨can_nan hc, nm, _, ord_num_inf _ _ t m e im hc, by show (cmpI _ _, true) = _; rw [cmpI_gt (t2 t m e hc).1]; rfl⟩
  · exact ⟨np, can_nan hc', _, ord_inf_num _ _ t' m' e' ip hc', by show (cmpI _ _, true) = _; rw [cmpI_gt (t2 t' m' e' hc').2]; rfl⟩
  · exact ⟨np, np, .eq, by unfold Format.order; rw [ip]; rfl, by show (cmpI _ _, true) = _; rw [cmpI_eq rfl]⟩
  · exact ⟨np, nm, .gt, by unfold Format.order; rw [ip, im]; rfl, by show (cmpI _ _, true) = _; rw [cmpI_gt (by omega)]⟩
  · exact ⟨nm, can_nan hc', _, ord_inf_num _ _ t' m' e' im hc', by show (cmpI _ _, true) = _; rw [cmpI_lt (t2 t' m' e' hc').1]; rfl⟩
  · exact ⟨nm, np, .lt, by unfold Format.order; rw [ip, im]; rfl, by show (cmpI _ _, true) = _; rw [cmpI_lt (by omega)]⟩
  · exact ⟨nm, nm, .eq, by unfold Format.order; rw [im]; rfl, by show (cmpI _ _, true) = _; rw [cmpI_eq rfl]⟩

/-- an exact and a floating number -/
theorem ev_mix {T : Int} (hT : Top T) {f : Nat} (hf : f < 18446744073709551616) {o : Option Int} (h : (nanW f ∧ o = none) ∨ (∃ t m e, CanF m e ∧ f = wordF t m e ∧ o = some (sv t m e)) ∨ (f = 9218868437227405312 ∧ o = some T) ∨ (f = 18442240474082181120 ∧ o = some (-T))) (x : Int) (nx : ¬ BigI x) :
    (-1 ≤ (ordE (some (x * unit)) o).1 ∧ (ordE (some (x * unit)) o).1 ≤ 1) ∧ (ordE o (some (x * unit))) = (-(ordE (some (x * unit)) o).1, (ordE (some (x * unit)) o).2) ∧
    ∀ v W, IntV W v x → Calls Tryz.prog 66 #[v, .float .f64 f] W fun e w' => e = .returned (.tuple #[.int .i64 (ordE (some (x * unit)) o).1, .bool (ordE (some (x * unit)) o).2]) ∧ Below W.heap.size W w' := by
  obtain ⟨t1, t2, t3⟩ := hT
  have sym : ∀ a b : Int, cmpI a b = - cmpI b a := fun a b => by
    rcases Int.lt_trichotomy a b with h | h | h
    · rw [cmpI_lt h, cmpI_gt h]
    · rw [cmpI_eq h, cmpI_eq h.symm]; rfl
    · rw [cmpI_gt h, cmpI_lt h]; rfl
  rcases h with ⟨hn, rfl⟩ | ⟨t, m, e, hc, rfl, rfl⟩ | ⟨rfl, rfl⟩ | ⟨rfl, rfl⟩
  · refine ⟨⟨by show (-1 : Int) ≤ 0; decide, by show (0 : Int) ≤ 1; decide⟩, rfl, fun v W h => ?_⟩
    obtain ⟨A, n, c, rfl⟩ := h.bx
    exact flocmp_nan f hf hn _ A n c W
  · refine ⟨cmpI_bd _ _, by show (cmpI _ _, true) = (-cmpI _ _, true); rw [sym], fun v W h => flocmp_can hc x v W h nx⟩
  · have h0 : ordE (some (x * unit)) (some T) = (-1, true) := by show (cmpI _ _, true) = _; rw [cmpI_lt (t3 x nx).2]
    refine ⟨by rw [h0]; decide, by rw [h0]; show (cmpI _ _, true) = _; rw [cmpI_gt (t3 x nx).2]; rfl, fun v W h => ?_⟩
    obtain ⟨A, n, c, rfl⟩ := h.bx
    rw [h0]
    exact flocmp_pinf _ A n c W
  · have h0 : ordE (some (x * unit)) (some (-T)) = (1, true) := by show (cmpI _ _, true) = _; rw [cmpI_gt (t3 x nx).1]
    refine ⟨by rw [h0]; decide, by rw [h0]; show (cmpI _ _, true) = _; rw [cmpI_lt (t3 x nx).1], fun v W h => ?_⟩
    obtain ⟨A, n, c, rfl⟩ := h.bx
    rw [h0]
    exact flocmp_minf _ A n c W

/-- what Cmp answers is told by where both stand -/
theorem cmp_ev {T : Int} (hT : Top T) {w : World} {fl : Bool} {f : Nat} {s : Bool} {A : Option Addr} {n c : Nat} {o : Option Int} {fl' : Bool} {f' : Nat} {s' : Bool} {A' : Option Addr} {n' c' : Nat} {o' : Option Int} (ha : Ev T w fl f s A n c o) (hb : Ev T w fl' f' s' A' n' c' o') :
    CallB w 21 #[numA fl f s A n c, numA fl' f' s' A' n' c'] (.tuple #[.int .i64 (ordE o o').1, .bool (ordE o o').2]) := by
  obtain ⟨hf, ha⟩ := ha
  obtain ⟨hf', hb⟩ := hb
  have spl : ∀ {fl : Bool} {f : Nat} {s : Bool} {A : Option Addr} {n c : Nat} {o : Option Int}, ((fl = true ∧ nanW f ∧ o = none) ∨ (fl = true ∧ ∃ t m e, CanF m e ∧ f = wordF t m e ∧ o = some (sv t m e)) ∨ (fl = true ∧ f = 9218868437227405312 ∧ o = some T) ∨ (fl = true ∧ f = 18442240474082181120 ∧ o = some (-T)) ∨
    (fl = false ∧ ∃ x, IntV w (.agg #[.bool s, .slice A n c]) x ∧ ¬ BigI x ∧ o = some (x * unit))) → (fl = true ∧ ((nanW f ∧ o = none) ∨ (∃ t m e, CanF m e ∧ f = wordF t m e ∧ o = some (sv t m e)) ∨ (f = 9218868437227405312 ∧ o = some T) ∨ (f = 18442240474082181120 ∧ o = some (-T)))) ∨ (fl = false ∧ ∃ x, IntV w (.agg #[.bool s, .slice A n c]) x ∧ ¬ BigI x ∧ o = some (x * unit)) := by
    intro fl f s A n c o h
    rcases h with ⟨a, b⟩ | ⟨a, b⟩ | ⟨a, b⟩ | ⟨a, b⟩ | h
    · exact .inl ⟨a, .inl b⟩
    · exact .inl ⟨a, .inr (.inl b)⟩
    · exact .inl ⟨a, .inr (.inr (.inl b))⟩
    · exact .inl ⟨a, .inr (.inr (.inr b))⟩
    · exact .inr h
  rcases spl ha with ⟨rfl, ha2⟩ | ⟨rfl, x, hx, nx, rfl⟩ <;> rcases spl hb with ⟨rfl, hb2⟩ | ⟨rfl, y, hy, ny, rfl⟩
  · rcases ev_flo hT hf ha2 hf' hb2 with ⟨hn, h0⟩ | ⟨n1, n2, r, ho, h0⟩
    · rw [h0]
      exact fun W _ => tcmp_nan f f' hf hf' hn s A n c s' A' n' c' W
    · rw [h0]
      cases r
      · exact fun W _ => tcmp_ff f f' (-1) hf hf' n1 n2 s A n c s' A' n' c' W (fun V => ccmp_lt f f' V hf hf' n1 n2 ho)
      · exact fun W _ => tcmp_ff f f' 0 hf hf' n1 n2 s A n c s' A' n' c' W (fun V => ccmp_eq f f' V hf hf' n1 n2 ho)
      · exact fun W _ => tcmp_ff f f' 1 hf hf' n1 n2 s A n c s' A' n' c' W (fun V => ccmp_gt f f' V hf hf' n1 n2 ho)
  · obtain ⟨hk, hs, hc⟩ := ev_mix hT hf ha2 y ny
    rw [hs]
    exact fun W hW => tcmp_fi f f' _ _ hk s A n c s' A' n' c' W (fun V hV => hc _ V ((hy.keep hW).keep hV))
  · obtain ⟨hk, hs, hc⟩ := ev_mix hT hf' hb2 x nx
    exact fun W hW => tcmp_if f f' _ _ s A n c s' A' n' c' W (fun V hV => hc _ V ((hx.keep hW).keep hV))
  · have hz : ordE (some (x * unit)) (some (y * unit)) = (cmpI x y, true) := by
      show (cmpI _ _, true) = _
      rw [cmpI_scale _ _ _ unit_pos]
    rw [hz]
    exact fun W hW => tcmp_ii f f' (cmpI x y) (cmpI_bd x y) s A n c s' A' n' c' W (fun V hV => ecmp_int ((hx.keep hW).keep hV) ((hy.keep hW).keep hV) nx ny)

end LM
end Go.Proofs.YtcfhiihhfcnfbaaGreatDoor

namespace Go.Proofs.YtcfhiihhfcnfbaaGreatDoor
open Go Go.RowKit
namespace LM
set_option linter.unusedVariables false
attribute [local go_sem] run_store_flt

theorem tri_num (w : World) (fl : Bool) (f : Nat) (s : Bool) (A : Option Addr) (n c : Nat) (fl' : Bool) (f' : Nat) (s' : Bool) (A' : Option Addr) (n' c' : Nat) (fq : Bool) (q : Nat) (t : Bool) (C : Option Addr) (m d : Nat) :
    ∃ W, ((w.alloc (numO fl f s A n c)).alloc (numO fl' f' s' A' n' c')).alloc (numO fq q t C m d) = W ∧ Below w.heap.size w W ∧ Obs W [(w.heap.size + 1 + 1, numO fq q t C m d), (w.heap.size + 1, numO fl' f' s' A' n' c'), (w.heap.size, numO fl f s A n c)] := by
  refine ⟨_, rfl, (((Below.refl _ w).alloc (Nat.le_refl _) _).alloc (by simp) _).alloc (by simp; omega) _, ?_⟩
  have h := ((Obs.nil.new (w := w) (numO fl f s A n c)).new (numO fl' f' s' A' n' c')).new (numO fq q t C m d)
  simp only [World.size_alloc] at h
  exact h

set_option maxRecDepth 10000000 in
set_option maxHeartbeats 4000000 in
/-- some that can't be -/
theorem tchain_no (fl : Bool) (f : Nat) (s : Bool) (A : Option Addr) (n c : Nat) (fl' : Bool) (f' : Nat) (s' : Bool) (A' : Option Addr) (n' c' : Nat) (fq : Bool) (q : Nat) (t : Bool) (C : Option Addr) (m d : Nat) (w : World) (hv : TV w) (r1 r2 : Bool) (hr : r1 = false ∨ (r1 = true ∧ r2 = false))
    (hR : CallB w 19 #[numA fl f s A n c, numA fl' f' s' A' n' c'] (.bool r1)) (hQ : CallB w 20 #[numA fq q t C m d] (.bool r2)) :
    Calls Tryz.prog 4 #[numA fl f s A n c, numA fl' f' s' A' n' c', numA fq q t C m d] w fun e w' => e = .returned (.bool true) ∧ Below w.heap.size w w' := by
  obtain ⟨W0, hW0, hb0, hO⟩ := tri_num w fl f s A n c fl' f' s' A' n' c' fq q t C m d
  have HB0 := Lib.hid hb0
  have O0 := Lib.hid hO
  have HW0 := Lib.hid hW0
  have AL := Lib.hid (talive_any W0 (hv.below hb0))
  have HR := Lib.hid hR
  have HQ := Lib.hid hQ
  clear hb0 hO hW0 hv hR hQ
  rcases hr with rfl | ⟨rfl, rfl⟩
  all_goals
    go_enter Tryz.func4, Tryz.ntmps4
    go_wp2_with (fail)
    rw [HW0.out]
    refine AL.out.mono ?_
    rintro e w1 ⟨rfl, hb1⟩
    have O1 := Lib.hid (O0.out.below hb1)
    have HB1 := Lib.hid (bel_trans (B := w.heap.size) HB0.out hb1)
    clear hb1
    obtain ⟨p0, p1, p2, p3, -, -, -, -, pl⟩ := O1.out.nx0.facts
    obtain ⟨q0, q1, q2, q3, -, -, -, -, ql⟩ := O1.out.tl.nx0.facts
    obtain ⟨v0, v1, v2, v3, -, -, -, -, vl⟩ := O1.out.tl.tl.nx0.facts
    go_wp2_with (fail)
    refine (HR.out _ HB1.out).mono ?_
    rintro e w2 ⟨rfl, hb2⟩
    have O2 := Lib.hid (O1.out.below hb2)
    have HB2 := Lib.hid (bel_trans (B := w.heap.size) HB1.out hb2)
    clear hb2 p0 p1 p2 p3 pl q0 q1 q2 q3 ql v0 v1 v2 v3 vl
    obtain ⟨p0, p1, p2, p3, -, -, -, -, pl⟩ := O2.out.nx0.facts
    go_wp2_with (fail)
  · go_ret
    exact ⟨rfl, HB2.out⟩
  · refine (HQ.out _ HB2.out).mono ?_
    rintro e w3 ⟨rfl, hb3⟩
    have HB3 := Lib.hid (bel_trans (B := w.heap.size) HB2.out hb3)
    clear hb3
    go_wp2_with (fail)
    go_ret
    exact ⟨rfl, HB3.out⟩

/-- what the four answers can be together -/
def ChainOk (ok ok2 ok3 ok4 : Bool) (k k2 k3 k4 : Int) (nn : Bool) : Prop :=
  (ok = false ∧ ok4 = false ∧ nn = true) ∨
  (ok = true ∧ ok4 = true ∧ nn = false ∧ k4 = -k ∧ -1 ≤ k ∧ k ≤ 1 ∧ (ok2 = false ∨ (ok2 = true ∧ ok3 = true ∧ (0 < k ∨ (k ≤ 0 ∧ 0 < k2) ∨ (k ≤ 0 ∧ k2 ≤ 0 ∧ k3 < 0) ∨ (k = 0 ∧ k2 = 0 ∧ k3 = 0)))))
/-- is one of two none -/
def NanOk (fl : Bool) (f : Nat) (fl' : Bool) (f' : Nat) (nn : Bool) : Prop := nn = ((fl && decide (nanW f)) || (fl' && decide (nanW f')))

set_option maxRecDepth 10000000 in
set_option maxHeartbeats 16000000 in
theorem tchain_yes (fl : Bool) (f : Nat) (s : Bool) (A : Option Addr) (n c : Nat) (fl' : Bool) (f' : Nat) (s' : Bool) (A' : Option Addr) (n' c' : Nat) (fq : Bool) (q : Nat) (t : Bool) (C : Option Addr) (m d : Nat) (w : World) (hv : TV w) (hf : f < 18446744073709551616) (hf' : f' < 18446744073709551616)
    (hR : CallB w 19 #[numA fl f s A n c, numA fl' f' s' A' n' c'] (.bool true)) (hQ : CallB w 20 #[numA fq q t C m d] (.bool true))
    (k k2 k3 k4 : Int) (ok ok2 ok3 ok4 nn : Bool)
    (h1 : CallB w 21 #[numA fl f s A n c, numA fl' f' s' A' n' c'] (.tuple #[.int .i64 k, .bool ok])) (h2 : CallB w 21 #[numA fl' f' s' A' n' c', numA fq q t C m d] (.tuple #[.int .i64 k2, .bool ok2]))
    (h3 : CallB w 21 #[numA fl f s A n c, numA fq q t C m d] (.tuple #[.int .i64 k3, .bool ok3])) (h4 : CallB w 21 #[numA fl' f' s' A' n' c', numA fl f s A n c] (.tuple #[.int .i64 k4, .bool ok4]))
    (hc : ChainOk ok ok2 ok3 ok4 k k2 k3 k4 nn) (hn : NanOk fl f fl' f' nn) :
    Calls Tryz.prog 4 #[numA fl f s A n c, numA fl' f' s' A' n' c', numA fq q t C m d] w fun e w' => e = .returned (.bool true) ∧ Below w.heap.size w w' := by
  obtain ⟨W0, hW0, hb0, hO⟩ := tri_num w fl f s A n c fl' f' s' A' n' c' fq q t C m d
  have HB0 := Lib.hid hb0
  have O0 := Lib.hid hO
  have HW0 := Lib.hid hW0
  have AL := Lib.hid (talive_any W0 (hv.below hb0))
  have HR := Lib.hid hR
  have HQ := Lib.hid hQ
  have H1 := Lib.hid h1
  have H2 := Lib.hid h2
  have H3 := Lib.hid h3
  have H4 := Lib.hid h4
  have HC := Lib.hid hc
  have HN := Lib.hid hn
  have NA := Lib.hid fun W => isNaN_any f W hf
  have NB := Lib.hid fun W => isNaN_any f' W hf'
  clear hb0 hO hW0 hv hR hQ h1 h2 h3 h4 hc hn
  go_enter Tryz.func4, Tryz.ntmps4
  go_wp2_with (fail)
  rw [HW0.out]
  refine AL.out.mono ?_
  rintro e w1 ⟨rfl, hb1⟩
  have O1 := Lib.hid (O0.out.below hb1)
  have HB1 := Lib.hid (bel_trans (B := w.heap.size) HB0.out hb1)
  clear hb1
  obtain ⟨p0, p1, p2, p3, -, -, -, -, pl⟩ := O1.out.nx0.facts
  obtain ⟨q0, q1, q2, q3, -, -, -, -, ql⟩ := O1.out.tl.nx0.facts
  obtain ⟨v0, v1, v2, v3, -, -, -, -, vl⟩ := O1.out.tl.tl.nx0.facts
  go_wp2_with (fail)
  refine (HR.out _ HB1.out).mono ?_
  rintro e w2 ⟨rfl, hb2⟩
  have O2 := Lib.hid (O1.out.below hb2)
  have HB2 := Lib.hid (bel_trans (B := w.heap.size) HB1.out hb2)
  clear hb2 p0 p1 p2 p3 pl q0 q1 q2 q3 ql v0 v1 v2 v3 vl
  obtain ⟨p0, p1, p2, p3, -, -, -, -, pl⟩ := O2.out.nx0.facts
  go_wp2_with (fail)
  refine (HQ.out _ HB2.out).mono ?_
  rintro e w3 ⟨rfl, hb3⟩
  have O3 := Lib.hid (O2.out.below hb3)
  have HB3 := Lib.hid (bel_trans (B := w.heap.size) HB2.out hb3)
  clear hb3 p0 p1 p2 p3 pl
  obtain ⟨p0, p1, p2, p3, -, -, -, -, pl⟩ := O3.out.nx0.facts
  obtain ⟨q0, q1, q2, q3, -, -, -, -, ql⟩ := O3.out.tl.nx0.facts
  obtain ⟨v0, v1, v2, v3, -, -, -, -, vl⟩ := O3.out.tl.tl.nx0.facts
  go_wp2_with (fail)
  refine (H1.out _ HB3.out).mono ?_
  rintro e w4 ⟨rfl, hb4⟩
  have O4 := Lib.hid (O3.out.below hb4)
  have HB4 := Lib.hid (bel_trans (B := w.heap.size) HB3.out hb4)
  clear hb4 p0 p1 p2 p3 pl q0 q1 q2 q3 ql v0 v1 v2 v3 vl
  obtain ⟨p0, p1, p2, p3, -, -, -, -, pl⟩ := O4.out.nx0.facts
  obtain ⟨q0, q1, q2, q3, -, -, -, -, ql⟩ := O4.out.tl.nx0.facts
  obtain ⟨v0, v1, v2, v3, -, -, -, -, vl⟩ := O4.out.tl.tl.nx0.facts
  go_wp2_with (fail)
  refine (H2.out _ HB4.out).mono ?_
  rintro e w5 ⟨rfl, hb5⟩
  have O5 := Lib.hid (O4.out.below hb5)
  have HB5 := Lib.hid (bel_trans (B := w.heap.size) HB4.out hb5)
  clear hb5 p0 p1 p2 p3 pl q0 q1 q2 q3 ql v0 v1 v2 v3 vl
  obtain ⟨p0, p1, p2, p3, -, -, -, -, pl⟩ := O5.out.nx0.facts
  obtain ⟨q0, q1, q2, q3, -, -, -, -, ql⟩ := O5.out.tl.nx0.facts
  obtain ⟨v0, v1, v2, v3, -, -, -, -, vl⟩ := O5.out.tl.tl.nx0.facts
  go_wp2_with (fail)
  refine (H3.out _ HB5.out).mono ?_
  rintro e w6 ⟨rfl, hb6⟩
  have O6 := Lib.hid (O5.out.below hb6)
  have HB6 := Lib.hid (bel_trans (B := w.heap.size) HB5.out hb6)
  clear hb6 p0 p1 p2 p3 pl q0 q1 q2 q3 ql v0 v1 v2 v3 vl
  obtain ⟨p0, p1, p2, p3, -, -, -, -, pl⟩ := O6.out.nx0.facts
  obtain ⟨q0, q1, q2, q3, -, -, -, -, ql⟩ := O6.out.tl.nx0.facts
  obtain ⟨v0, v1, v2, v3, -, -, -, -, vl⟩ := O6.out.tl.tl.nx0.facts
  go_wp2_with (fail)
  refine (H4.out _ HB6.out).mono ?_
  rintro e w7 ⟨rfl, hb7⟩
  have O7 := Lib.hid (O6.out.below hb7)
  have HB7 := Lib.hid (bel_trans (B := w.heap.size) HB6.out hb7)
  clear hb7 p0 p1 p2 p3 pl q0 q1 q2 q3 ql v0 v1 v2 v3 vl
  obtain ⟨p0, p1, p2, p3, -, -, -, -, pl⟩ := O7.out.nx0.facts
  obtain ⟨q0, q1, q2, q3, -, -, -, -, ql⟩ := O7.out.tl.nx0.facts
  obtain ⟨v0, v1, v2, v3, -, -, -, -, vl⟩ := O7.out.tl.tl.nx0.facts
  have hc := HC.out
  have hn := HN.out
  rcases hc with ⟨rfl, rfl, rfl⟩ | ⟨rfl, rfl, rfl, rfl, hk1, hk2, hc⟩
  · have hn2 : (fl && decide (nanW f)) = true ∨ ((fl && decide (nanW f)) = false ∧ fl' = true ∧ nanW f') := by
      unfold NanOk at hn
      revert hn
      cases fl <;> cases fl' <;> by_cases h1 : nanW f <;> by_cases h2 : nanW f' <;> simp [h1, h2]
    clear hn HN
    rcases hn2 with hn2 | ⟨hn2, rfl, hn3⟩
    · rw [Bool.and_eq_true, decide_eq_true_eq] at hn2
      obtain ⟨rfl, hn2⟩ := hn2
      have NA2 := NA.out
      rw [decide_eq_true hn2] at NA2
      have NA3 := Lib.hid NA2
      clear NA2 hn2 NA NB
      go_wp2_with (fail)
      refine (NA3.out _).mono ?_
      rintro e w8 ⟨rfl, rfl⟩
      go_wp2_with (fail)
      go_ret
      exact ⟨rfl, HB7.out⟩
    · have NB2 := NB.out
      rw [decide_eq_true hn3] at NB2
      have NB3 := Lib.hid NB2
      clear NB2 NB
      cases fl
      · clear hn2 NA
        go_wp2_with (fail)
        refine (NB3.out _).mono ?_
        rintro e w8 ⟨rfl, rfl⟩
        go_wp2_with (fail)
        go_ret
        exact ⟨rfl, HB7.out⟩
      · have NA2 := NA.out
        rw [show decide (nanW f) = false from by simpa using hn2] at NA2
        have NA3 := Lib.hid NA2
        clear NA2 hn2 NA
        go_wp2_with (fail)
        refine (NA3.out _).mono ?_
        rintro e w8 ⟨rfl, rfl⟩
        go_wp2_with (fail)
        refine (NB3.out _).mono ?_
        rintro e w9 ⟨rfl, rfl⟩
        go_wp2_with (fail)
        go_ret
        exact ⟨rfl, HB7.out⟩
  · have hn2 : (fl = true → decide (nanW f) = false) ∧ (fl' = true → decide (nanW f') = false) := by
      unfold NanOk at hn
      revert hn
      cases fl <;> cases fl' <;> by_cases h1 : nanW f <;> by_cases h2 : nanW f' <;> simp [h1, h2]
    have w1 : IntKind.i64.wrap (-k) = -k := by rw [IntKind.wrap_i64]; omega
    have w2 : (-k != -k) = false := by simp
    have w3 : (-k == -k) = true := by simp
    have HC2 := Lib.hid hc
    have HN2 := Lib.hid hn2
    have HK1 := Lib.hid hk1
    have HK2 := Lib.hid hk2
    clear hn hn2 hc HN HC hk1 hk2
    have fin : ∀ (fl0 fl1 : Bool), fl = fl0 → fl' = fl1 → True := fun _ _ _ _ => trivial
    clear fin
    cases fl <;> cases fl'
    · go_wp2_with (fail)
      all_goals
        go_ret
        refine ⟨congrArg (fun b => Ending.returned (Value.bool b)) (?_ : _ = true), HB7.out⟩
        have h := HC2.out
        have h8 := HK1.out
        have h9 := HK2.out
        clear HC2 HK1 HK2
        rcases h with rfl | ⟨rfl, rfl, h | h | h | h⟩ <;> first | rfl | (simp_all; done) | (exfalso; omega) | (simp only [Bool.or_eq_true, Bool.and_eq_true, decide_eq_true_eq, beq_iff_eq]; omega)
    · have NB2 := NB.out
      rw [HN2.out.2 rfl] at NB2
      have NB3 := Lib.hid NB2
      clear NB2 NB NA
      go_wp2_with (fail)
      refine (NB3.out _).mono ?_
      rintro e w8 ⟨rfl, rfl⟩
      go_wp2_with (fail)
      all_goals
        go_ret
        refine ⟨congrArg (fun b => Ending.returned (Value.bool b)) (?_ : _ = true), HB7.out⟩
        have h := HC2.out
        have h8 := HK1.out
        have h9 := HK2.out
        clear HC2 HK1 HK2
        rcases h with rfl | ⟨rfl, rfl, h | h | h | h⟩ <;> first | rfl | (simp_all; done) | (exfalso; omega) | (simp only [Bool.or_eq_true, Bool.and_eq_true, decide_eq_true_eq, beq_iff_eq]; omega)
    · have NA2 := NA.out
      rw [HN2.out.1 rfl] at NA2
      have NA3 := Lib.hid NA2
      clear NA2 NB NA
      go_wp2_with (fail)
      refine (NA3.out _).mono ?_
      rintro e w8 ⟨rfl, rfl⟩
      go_wp2_with (fail)
      all_goals
        go_ret
        refine ⟨congrArg (fun b => Ending.returned (Value.bool b)) (?_ : _ = true), HB7.out⟩
        have h := HC2.out
        have h8 := HK1.out
        have h9 := HK2.out
        clear HC2 HK1 HK2
        rcases h with rfl | ⟨rfl, rfl, h | h | h | h⟩ <;> first | rfl | (simp_all; done) | (exfalso; omega) | (simp only [Bool.or_eq_true, Bool.and_eq_true, decide_eq_true_eq, beq_iff_eq]; omega)
    · have NA2 := NA.out
      rw [HN2.out.1 rfl] at NA2
      have NA3 := Lib.hid NA2
      have NB2 := NB.out
      rw [HN2.out.2 rfl] at NB2
      have NB3 := Lib.hid NB2
      clear NA2 NB2 NB NA
      go_wp2_with (fail)
      refine (NA3.out _).mono ?_
      rintro e w8 ⟨rfl, rfl⟩
      go_wp2_with (fail)
      refine (NB3.out _).mono ?_
      rintro e w9 ⟨rfl, rfl⟩
      go_wp2_with (fail)
      all_goals
        go_ret
        refine ⟨congrArg (fun b => Ending.returned (Value.bool b)) (?_ : _ = true), HB7.out⟩
        have h := HC2.out
        have h8 := HK1.out
        have h9 := HK2.out
        clear HC2 HK1 HK2
        rcases h with rfl | ⟨rfl, rfl, h | h | h | h⟩ <;> first | rfl | (simp_all; done) | (exfalso; omega) | (simp only [Bool.or_eq_true, Bool.and_eq_true, decide_eq_true_eq, beq_iff_eq]; omega)

/-- the order of four places -/
theorem chain_ok (o o2 o3 : Option Int) (nn : Bool) (h : nn = (o.isNone || o2.isNone)) : ChainOk (ordE o o2).2 (ordE o2 o3).2 (ordE o o3).2 (ordE o2 o).2 (ordE o o2).1 (ordE o2 o3).1 (ordE o o3).1 (ordE o2 o).1 nn := by
  subst h
  rcases o with _ | p <;> rcases o2 with _ | p2
  · exact .inl ⟨rfl, rfl, rfl⟩
  · exact .inl ⟨rfl, rfl, rfl⟩
  · exact .inl ⟨rfl, rfl, rfl⟩
  · have h1 : cmpI p2 p = -cmpI p p2 := by
      rcases Int.lt_trichotomy p p2 with h | h | h
      · rw [cmpI_lt h, cmpI_gt h]; rfl
      · rw [cmpI_eq h, cmpI_eq h.symm]; rfl
      · rw [cmpI_gt h, cmpI_lt h]
    refine .inr ⟨rfl, rfl, rfl, h1, (cmpI_bd _ _).1, (cmpI_bd _ _).2, ?_⟩
    rcases o3 with _ | p3
    · exact .inl rfl
    · refine .inr ⟨rfl, rfl, ?_⟩
      show 0 < cmpI p p2 ∨ (cmpI p p2 ≤ 0 ∧ 0 < cmpI p2 p3) ∨ (cmpI p p2 ≤ 0 ∧ cmpI p2 p3 ≤ 0 ∧ cmpI p p3 < 0) ∨ (cmpI p p2 = 0 ∧ cmpI p2 p3 = 0 ∧ cmpI p p3 = 0)
      unfold cmpI
      split <;> split <;> split <;> (try split) <;> (try split) <;> (try split) <;> omega
theorem ev_nan {T : Int} {w : World} {fl : Bool} {f : Nat} {s : Bool} {A : Option Addr} {n c : Nat} {o : Option Int} (h : Ev T w fl f s A n c o) : (fl && decide (nanW f)) = o.isNone := by
  have np : ¬ nanW 9218868437227405312 := by unfold nanW; decide
  have nm : ¬ nanW 18442240474082181120 := by unfold nanW; decide
  obtain ⟨_, ⟨rfl, h, rfl⟩ | ⟨rfl, t, m, e, hc, rfl, rfl⟩ | ⟨rfl, rfl, rfl⟩ | ⟨rfl, rfl, rfl⟩ | ⟨rfl, x, _, _, rfl⟩⟩ := h
  · rw [decide_eq_true h]; rfl
  · rw [decide_eq_false (can_nan hc)]; rfl
  · rw [decide_eq_false np]; rfl
  · rw [decide_eq_false nm]; rfl
  · rfl

theorem chain_walk (fl : Bool) (f : Nat) (s : Bool) (A : Option Addr) (ca : Nat) (xs : List Nat) (fl' : Bool) (f' : Nat) (t : Bool) (B : Option Addr) (cb : Nat) (ys : List Nat) (fq : Bool) (q : Nat) (u : Bool) (C : Option Addr) (cc : Nat) (zs : List Nat) (w : World) (hv : TV w)
    (hf : f < 18446744073709551616) (hf' : f' < 18446744073709551616) (hq : q < 18446744073709551616) (ha : Rd w A xs) (hb : Rd w B ys) (hc : Rd w C zs) (hx : Lm xs) (hy : Lm ys) (hz : Lm zs) (hca : xs.length ≤ ca) (hcb : ys.length ≤ cb) (hcc : zs.length ≤ cc) (hcam : ca ≤ 9223372036854775807) (hcbm : cb ≤ 9223372036854775807) (hccm : cc ≤ 9223372036854775807)
    (hna : A = none → xs.length = 0 ∧ ca = 0) (hnb : B = none → ys.length = 0 ∧ cb = 0) (hnc : C = none → zs.length = 0 ∧ cc = 0) :
    Calls Tryz.prog 4 #[numA fl f s A xs.length ca, numA fl' f' t B ys.length cb, numA fq q u C zs.length cc] w fun e w' => e = .returned (.bool true) ∧ Below w.heap.size w w' := by
  have hR : CallB w 19 #[numA fl f s A xs.length ca, numA fl' f' t B ys.length cb] (.bool (rightN fl f s xs && rightN fl' f' t ys)) := fun W hW =>
    right2_any fl f s A xs.length ca fl' f' t B ys.length cb _ _ W (fun W' h' => rnright_any fl f s A ca xs W' ((ha.below hW).below h') hx hca hcam hna) (fun W' h' => rnright_any fl' f' t B cb ys W' ((hb.below hW).below h') hy hcb hcbm hnb)
  have hQ : CallB w 20 #[numA fq q u C zs.length cc] (.bool (rightN fq q u zs)) := fun W hW => rnright_any fq q u C cc zs W (hc.below hW) hz hcc hccm hnc
  by_cases hr : (rightN fl f s xs && rightN fl' f' t ys) = true
  · by_cases hr2 : rightN fq q u zs = true
    · rw [hr] at hR
      rw [hr2] at hQ
      rw [Bool.and_eq_true] at hr
      obtain ⟨T, hT⟩ := top_ex
      obtain ⟨o, e1⟩ := ev_ex T (numOk_of hr.1 hf ha hx hca hcam)
      obtain ⟨o2, e2⟩ := ev_ex T (numOk_of hr.2 hf' hb hy hcb hcbm)
      obtain ⟨o3, e3⟩ := ev_ex T (numOk_of hr2 hq hc hz hcc hccm)
      refine tchain_yes fl f s A xs.length ca fl' f' t B ys.length cb fq q u C zs.length cc w hv hf hf' hR hQ _ _ _ _ _ _ _ _ _ (cmp_ev hT e1 e2) (cmp_ev hT e2 e3) (cmp_ev hT e1 e3) (cmp_ev hT e2 e1) (chain_ok o o2 o3 (o.isNone || o2.isNone) rfl) ?_
      unfold NanOk
      rw [ev_nan e1, ev_nan e2]
    · have hr0 : rightN fq q u zs = false := by simpa using hr2
      exact tchain_no fl f s A xs.length ca fl' f' t B ys.length cb fq q u C zs.length cc w hv _ _ (.inr ⟨hr, hr0⟩) hR hQ
  · have hr0 : (rightN fl f s xs && rightN fl' f' t ys) = false := by simpa using hr
    exact tchain_no fl f s A xs.length ca fl' f' t B ys.length cb fq q u C zs.length cc w hv _ _ (.inl hr0) hR hQ

end LM
end Go.Proofs.YtcfhiihhfcnfbaaGreatDoor
