/- Walks of package limb: Div: where nothing is divided: an argument too great, a divisor that is nothing, a number below the divisor. -/
import Derived.Test.YtfckjapedjjhpaaDoorLimbO
namespace Go.Proofs.YtfckjapedjjhpaaDoor
open Go.RowKit
namespace LM

/-- what a division answers -/
def DivE (w : World) (x y : Nat) (e : Ending) (w' : World) : Prop :=
  ∃ (q r : Value) (er : Int), e = .returned (.tuple #[q, r, .int .i64 er]) ∧ Below w.heap.size w w' ∧
    (((BIG x ∨ BIG y) ∧ q = .slice none 0 0 ∧ r = .slice none 0 0 ∧ er = 11) ∨
     (¬ BIG x ∧ ¬ BIG y ∧ y = 0 ∧ q = .slice none 0 0 ∧ r = .slice none 0 0 ∧ er = 12) ∨
     (¬ BIG x ∧ ¬ BIG y ∧ 0 < y ∧ er = 0 ∧ NumV w' q (x / y) ∧ NumV w' r (x % y)))

theorem numV_nil (w : World) : NumV w (.slice none 0 0) 0 := ⟨none, 0, [], rfl, Nat.le_refl _, by decide, Rd.nil, can_nil, rfl⟩

set_option maxRecDepth 100000 in
set_option maxHeartbeats 1000000 in
theorem div_small (A B : Option Addr) (ca cb : Nat) (xs ys : List Nat) (w : World) (ha : Rd w A xs) (hb : Rd w B ys) (hx : Lm xs) (hy : Lm ys) (hca : xs.length ≤ ca) (hcb : ys.length ≤ cb) (hcam : ca ≤ 9223372036854775807) (hcbm : cb ≤ 9223372036854775807)
    (hs : BIG (val xs) ∨ BIG (val ys) ∨ val ys = 0 ∨ (trim xs).length < (trim ys).length) :
    Calls Tryd.prog 57 #[.slice A xs.length ca, .slice B ys.length cb] w fun e w' => DivE w (val xs) (val ys) e w' := by
  have H1 := Lib.hid (fun W (h : Rd W A xs) => trimmed_any A ca xs W h hca (by unfold maxLen; omega))
  have H2 := Lib.hid (fun W (h : Rd W B ys) => trimmed_any B cb ys W h hcb (by unfold maxLen; omega))
  have hta := ha.trim
  have hcx := can_trim hx
  have hcy := can_trim hy
  rw [← val_trim xs, ← val_trim ys] at hs ⊢
  have hlx := trim_length_le xs
  have hly := trim_length_le ys
  have htt := trim_trim xs
  have ha3 := (ha.alloc (.cells #[.slice B ys.length cb] 22)).drew
  have hb3 := (hb.alloc (.cells #[.slice B ys.length cb] 22)).drew
  generalize trim xs = xt at *
  generalize trim ys = yt at *
  have I1 : ∀ n, n ≤ 9223372036854775807 → ∀ A c W, Calls Tryd.prog 63 #[.slice A n c] W fun e w' => e = .returned (.bool (decide (64 < n))) ∧ W = w' := fun n hn A c W => isBig_any A n c W (by unfold maxLen; omega)
  have HI := Lib.hid I1
  have HS := Lib.hid hs
  have HTT := Lib.hid htt
  clear I1 ha hb hs htt
  by_cases b1 : 64 < xt.length
  · have hd : decide (64 < xt.length) = true := decide_eq_true b1
    go_enter Tryd.func57, Tryd.ntmps57
    go_wp2_with fail
    go_region_with (first | (go_at_call_of 62 (Value.slice A xs.length ca); refine (H1.out _ ha3).mono ?_; rintro e w1 ⟨rfl, rfl⟩) | (go_at_call_of 62 (Value.slice B ys.length cb); refine (H2.out _ hb3).mono ?_; rintro e w1 ⟨rfl, rfl⟩))
    all_goals
      go_wp2_with (go_at_call 63; refine (HI.out xt.length (by omega) _ _ _).mono ?_; rintro e w' ⟨rfl, rfl⟩)
      go_ret3
      exact ⟨_, _, _, rfl, ((Below.refl _ w).alloc (Nat.le_refl _) _).drew, .inl ⟨.inl ((big_iff hcx).1 b1), rfl, rfl, rfl⟩⟩
  · have hd : decide (64 < xt.length) = false := decide_eq_false b1
    have nb1 : ¬ BIG (val xt) := fun h => b1 ((big_iff hcx).2 h)
    by_cases b2 : 64 < yt.length
    · have hd2 : decide (64 < yt.length) = true := decide_eq_true b2
      go_enter Tryd.func57, Tryd.ntmps57
      go_wp2_with fail
      go_region_with (first | (go_at_call_of 62 (Value.slice A xs.length ca); refine (H1.out _ ha3).mono ?_; rintro e w1 ⟨rfl, rfl⟩) | (go_at_call_of 62 (Value.slice B ys.length cb); refine (H2.out _ hb3).mono ?_; rintro e w1 ⟨rfl, rfl⟩))
      all_goals
        go_wp2_with fail
        refine (HI.out xt.length (by omega) _ _ _).mono ?_; rintro e w' ⟨rfl, rfl⟩
        go_wp2_with fail
        refine (HI.out yt.length (by omega) _ _ _).mono ?_; rintro e w' ⟨rfl, rfl⟩
        go_wp2
        go_ret3
        exact ⟨_, _, _, rfl, ((Below.refl _ w).alloc (Nat.le_refl _) _).drew, .inl ⟨.inr ((big_iff hcy).1 b2), rfl, rfl, rfl⟩⟩
    · have hd2 : decide (64 < yt.length) = false := decide_eq_false b2
      have nb2 : ¬ BIG (val yt) := fun h => b2 ((big_iff hcy).2 h)
      rcases Nat.eq_zero_or_pos yt.length with h0 | h0
      · have hyz : yt = [] := List.eq_nil_of_length_eq_zero h0
        have HY := Lib.hid hyz
        have h0' : ((yt.length : Int) == 0) = true := by rw [h0]; rfl
        have h0'' : yt.length = 0 := h0
        clear hyz h0
        go_enter Tryd.func57, Tryd.ntmps57
        go_wp2_with fail
        go_region_with (first | (go_at_call_of 62 (Value.slice A xs.length ca); refine (H1.out _ ha3).mono ?_; rintro e w1 ⟨rfl, rfl⟩) | (go_at_call_of 62 (Value.slice B ys.length cb); refine (H2.out _ hb3).mono ?_; rintro e w1 ⟨rfl, rfl⟩))
        all_goals
          go_wp2_with fail
          refine (HI.out xt.length (by omega) _ _ _).mono ?_; rintro e w' ⟨rfl, rfl⟩
          go_wp2_with fail
          refine (HI.out _ (by omega) _ _ _).mono ?_; rintro e w' ⟨rfl, rfl⟩
          go_wp2
          go_ret3
          exact ⟨_, _, _, rfl, ((Below.refl _ w).alloc (Nat.le_refl _) _).drew, .inr (.inl ⟨nb1, nb2, by rw [HY.out]; rfl, rfl, rfl, rfl⟩)⟩
      · have hlt : xt.length < yt.length := by
          rcases HS.out with h | h | h | h
          · exact absurd h nb1
          · exact absurd h nb2
          · have h2 := trim_nil_iff.2 h
            rw [hcy.2] at h2
            rw [h2] at h0; simp at h0
          · exact h
        have hvlt := can_len_lt hcx hcy hlt
        have HV := Lib.hid hvlt
        clear hvlt
        go_enter Tryd.func57, Tryd.ntmps57
        go_wp2_with fail
        go_region_with (first | (go_at_call_of 62 (Value.slice A xs.length ca); refine (H1.out _ ha3).mono ?_; rintro e w1 ⟨rfl, rfl⟩) | (go_at_call_of 62 (Value.slice B ys.length cb); refine (H2.out _ hb3).mono ?_; rintro e w1 ⟨rfl, rfl⟩))
        all_goals
          go_wp2_with fail
          refine (HI.out xt.length (by omega) _ _ _).mono ?_; rintro e w' ⟨rfl, rfl⟩
          go_wp2_with fail
          refine (HI.out yt.length (by omega) _ _ _).mono ?_; rintro e w' ⟨rfl, rfl⟩
          go_wp2_with fail
          refine (trimUp_any A ca xt _ ((hta.alloc _).drew) hcx.1 (by omega) (by omega) (by omega)).mono ?_
          rintro e w2 ⟨r, rfl, hB, hcr, hvr, hrl, hb2⟩
          have HVR := Lib.hid hvr
          clear hvr
          go_wp2
          go_ret3
          have hvlt := HV.out
          refine ⟨_, _, _, rfl, ?_, .inr (.inr ⟨nb1, nb2, by omega, rfl, ?_, ?_⟩)⟩
          · exact ((Below.refl _ w).alloc (Nat.le_refl _) (.cells #[.slice B yt.length cb] 22)).drew.trans (hb2.mono (by simp))
          · rw [Nat.div_eq_of_lt hvlt]; exact numV_nil _
          · rw [Nat.mod_eq_of_lt hvlt, ← HVR.out]
            have hr := Rd.of_blk (w := w2) (pre := []) (xs := r) (post := []) (by simpa using hB)
            exact ⟨_, _, r, rfl, Nat.le_refl _, by omega, by simpa using hr, hcr, rfl⟩

end LM
end Go.Proofs.YtfckjapedjjhpaaDoor
