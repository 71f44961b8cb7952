/- Walks of package limb: Add: the sum. -/
import Derived.Test.YtfckjapedjjhpaaDoorLimbL
import Derived.Test.YtfckjapedjjhpaaDoorLimbE
namespace Go.Proofs.YtfckjapedjjhpaaDoor
open Go.RowKit
namespace LM

/-- too great for 64 limbs -/
def BIG (n : Nat) : Prop := 4294967296 ^ 64 ≤ n
theorem big_iff {xs : List Nat} (h : Can xs) : 64 < xs.length ↔ BIG (val xs) := can_len h 64
theorem big_trim {xs : List Nat} (h : Lm xs) : 64 < (trim xs).length ↔ BIG (val xs) := by rw [big_iff (can_trim h), val_trim]
theorem BIG.mono {a b : Nat} (h : BIG a) (hab : a ≤ b) : BIG b := Nat.le_trans h hab

/-- a slice that reads as this number, without leading zeros -/
def NumV (w : World) (v : Value) (n : Nat) : Prop := ∃ A c r, v = .slice A (List.length r) c ∧ r.length ≤ c ∧ c ≤ 1000000 ∧ Rd w A r ∧ Can r ∧ val r = n
theorem NumV.keep {w w' : World} {v : Value} {n : Nat} (h : NumV w v n) (hb : Below w.heap.size w w') : NumV w' v n := by
  obtain ⟨A, c, r, e, h1, h2, h3, h4, h5⟩ := h
  exact ⟨A, c, r, e, h1, h2, h3.below hb, h4, h5⟩
/-- what a reckoning answers whose outcome may be too great -/
def Ans (w : World) (v : Value) (er : Int) (bad : Prop) (n : Nat) : Prop := (bad ∧ v = .slice none 0 0 ∧ er = 11) ∨ (¬ bad ∧ er = 0 ∧ NumV w v n)
def AnsE (w : World) (bad : Prop) (n : Nat) (e : Ending) (w' : World) : Prop := ∃ v er, e = .returned (.tuple #[v, .int .i64 er]) ∧ Ans w' v er bad n ∧ Below w.heap.size w w'

/-- the last step of such a reckoning, in a block of the call's own -/
theorem bounded_ans {w1 : World} {g N : Nat} {us : List Nat} {bad : Prop} (hB : Blk w1 g (U us)) (hul : us.length = N) (huL : Lm us) (hN : N ≤ 4000) (hbad : bad ↔ BIG (val us)) :
    Calls Tryd.prog 74 #[.slice (some ⟨g, 0, none⟩) N N] w1 fun e w' => (∃ v er, e = .returned (.tuple #[v, .int .i64 er]) ∧ Ans w' v er bad (val us)) ∧ w1 = w' := by
  subst hul
  have hr : Rd w1 (some ⟨g, 0, none⟩) us := by
    have h := Rd.of_blk (w := w1) (g := g) (pre := []) (xs := us) (post := []) (by simpa using hB)
    simpa using h
  by_cases hl : 64 < (trim us).length
  · exact (bounded_big _ _ us w1 hr (Nat.le_refl _) (by unfold maxLen; omega) hl).mono fun e w' ⟨he, hw⟩ => ⟨⟨_, _, he, .inl ⟨hbad.2 ((big_trim huL).1 hl), rfl, rfl⟩⟩, hw⟩
  · exact (bounded_ok _ _ us w1 hr (Nat.le_refl _) (by unfold maxLen; omega) (by omega)).mono fun e w' ⟨he, hw⟩ => by
      subst hw
      exact ⟨⟨_, _, he, .inr ⟨fun h => hl ((big_trim huL).2 (hbad.1 h)), rfl, _, _, trim us, rfl, by have := trim_length_le us; omega, by omega, hr.trim, can_trim huL, val_trim us⟩⟩, rfl⟩

theorem carry_zero {xt yt us : List Nat} {c N : Nat} (hx : Lm xt) (hy : Lm yt) (hN : N = max xt.length yt.length + 1) (hc : c ≤ 1) (h : val us + 4294967296 ^ N * c = val xt + val yt) : c = 0 ∧ val us = val xt + val yt := by
  have e1 := val_len_lt hx (n := max xt.length yt.length) (by omega)
  have e2 := val_len_lt hy (n := max xt.length yt.length) (by omega)
  rw [hN, Nat.pow_succ] at h
  generalize 4294967296 ^ (max xt.length yt.length) = P at *
  generalize val us = u at *
  generalize val xt = x at *
  generalize val yt = y at *
  have h3 : c = 0 ∨ c = 1 := by omega
  rcases h3 with rfl | rfl
  · exact ⟨rfl, by rw [Nat.mul_zero, Nat.add_zero] at h; exact h⟩
  · rw [Nat.mul_one] at h; omega

set_option maxRecDepth 100000 in
set_option maxHeartbeats 1000000 in
theorem add_any (A B : Option Addr) (ca cb : Nat) (xs ys : List Nat) (w : World) (ha : Rd w A xs) (hb : Rd w B ys) (hx : Lm xs) (hy : Lm ys) (hca : xs.length ≤ ca) (hcb : ys.length ≤ cb) (hcam : ca ≤ 9223372036854775807) (hcbm : cb ≤ 9223372036854775807) :
    Calls Tryd.prog 49 #[.slice A xs.length ca, .slice B ys.length cb] w fun e w' => AnsE w (BIG (val xs) ∨ BIG (val ys) ∨ BIG (val xs + val ys)) (val xs + val ys) e w' := by
  have H1 := Lib.hid (trimmed_any A ca xs w ha hca (by unfold maxLen; omega))
  have H2 := Lib.hid (trimmed_any B cb ys w hb hcb (by unfold maxLen; omega))
  have hta := ha.trim
  have htb := hb.trim
  have hcx := can_trim hx
  have hcy := can_trim hy
  rw [← val_trim xs, ← val_trim ys]
  have hlx := trim_length_le xs
  have hly := trim_length_le ys
  generalize trim xs = xt at *
  generalize trim ys = yt at *
  have I1 : ∀ n, n ≤ 9223372036854775807 → ∀ A c W, Calls Tryd.prog 63 #[.slice A n c] W fun e w' => e = .returned (.bool (decide (64 < n))) ∧ W = w' := fun n hn A c W => isBig_any A n c W (by unfold maxLen; omega)
  have HI := Lib.hid I1
  clear I1 ha hb
  by_cases b1 : 64 < xt.length
  · have hd : decide (64 < xt.length) = true := decide_eq_true b1
    go_enter Tryd.func49, Tryd.ntmps49
    go_wp2_with fail
    refine H1.out.mono ?_; rintro e w' ⟨rfl, rfl⟩
    go_wp2_with fail
    refine H2.out.mono ?_; rintro e w' ⟨rfl, rfl⟩
    go_wp2_with fail
    refine (HI.out xt.length (by omega) _ _ _).mono ?_; rintro e w' ⟨rfl, rfl⟩
    go_wp2
    go_ret2
    exact ⟨_, _, rfl, .inl ⟨.inl ((big_iff hcx).1 b1), rfl, rfl⟩, Below.refl _ _⟩
  · have hd : decide (64 < xt.length) = false := decide_eq_false b1
    by_cases b2 : 64 < yt.length
    · have hd2 : decide (64 < yt.length) = true := decide_eq_true b2
      go_enter Tryd.func49, Tryd.ntmps49
      go_wp2_with fail
      refine H1.out.mono ?_; rintro e w' ⟨rfl, rfl⟩
      go_wp2_with fail
      refine H2.out.mono ?_; rintro e w' ⟨rfl, rfl⟩
      go_wp2_with fail
      refine (HI.out xt.length (by omega) _ _ _).mono ?_; rintro e w' ⟨rfl, rfl⟩
      go_wp2_with fail
      refine (HI.out yt.length (by omega) _ _ _).mono ?_; rintro e w' ⟨rfl, rfl⟩
      go_wp2
      go_ret2
      exact ⟨_, _, rfl, .inl ⟨.inr (.inl ((big_iff hcy).1 b2)), rfl, rfl⟩, Below.refl _ _⟩
    · have hd2 : decide (64 < yt.length) = false := decide_eq_false b2
      have nb1 : ¬ BIG (val xt) := fun h => b1 ((big_iff hcx).2 h)
      have nb2 : ¬ BIG (val yt) := fun h => b2 ((big_iff hcy).2 h)
      obtain ⟨N, hN1, hN2⟩ : ∃ N : Nat, N = max xt.length yt.length + 1 ∧ N ≤ 65 := ⟨_, rfl, by omega⟩
      have HN := Lib.hid hN1
      clear hN1
      go_enter Tryd.func49, Tryd.ntmps49
      go_wp2_with fail
      refine H1.out.mono ?_; rintro e w' ⟨rfl, rfl⟩
      go_wp2_with fail
      refine H2.out.mono ?_; rintro e w' ⟨rfl, rfl⟩
      go_wp2_with fail
      refine (HI.out xt.length (by omega) _ _ _).mono ?_; rintro e w' ⟨rfl, rfl⟩
      go_wp2_with fail
      refine (HI.out yt.length (by omega) _ _ _).mono ?_; rintro e w' ⟨rfl, rfl⟩
      go_wp2_with fail
      all_goals
        first
        | rw [show ((xt.length : Int) + 1) = (N : Int) from by have := HN.out; omega]
        | rw [show ((yt.length : Int) + 1) = (N : Int) from by have := HN.out; omega]
        refine (widened_any A ca N xt _ hta (by have := HN.out; omega) (by omega)).mono ?_; rintro e w1 ⟨rfl, hB1, hb1⟩
        obtain ⟨zs, hzs⟩ : ∃ zs, xt ++ List.replicate (N - xt.length) 0 = zs := ⟨_, rfl⟩
        have hzl : zs.length = N := by rw [← hzs]; have := HN.out; simp; omega
        have hzL : Lm zs := by rw [← hzs]; exact hcx.1.append (Lm.replicate _)
        have hzv : val zs = val xt := by rw [← hzs, val_append, val_replicate]; simp
        rw [hzs] at hB1
        have h55 := addTo_any w.heap.size N [] zs [] B cb yt w1 (by simpa using hB1) (htb.below hb1) (fun h0 ad e => by have := addr_lt htb h0 ad e; omega) (by have := HN.out; omega) hzL hcy.1 (by omega)
        rw [hzl] at h55
        simp only [List.length_nil, List.nil_append, List.append_nil] at h55
        have H55 := Lib.hid h55
        have HZV := Lib.hid hzv
        clear h55 hzs hzl hzv hB1
        go_wp2_with fail
        refine H55.out.mono ?_; rintro e w2 ⟨us, c, rfl, hc, hul, huL, huv, hB2, hG2⟩
        have HUV := Lib.hid huv
        have HUL := Lib.hid hul
        have hb2 : Below w.heap.size w w2 := below_of_only hb1 hG2 (Nat.le_refl _) hb1.size
        clear huv hul H55
        go_wp2_with fail
        have hsum : c = 0 ∧ val us = val xt + val yt := by
          have h := HUV.out
          rw [HZV.out] at h
          exact carry_zero hcx.1 hcy.1 HN.out hc h
        obtain ⟨rfl, hsum⟩ := hsum
        refine (bounded_ans hB2 HUL.out huL (by omega) (bad := BIG (val xt) ∨ BIG (val yt) ∨ BIG (val xt + val yt)) ?_).mono ?_
        · rw [hsum]; exact ⟨fun h => h.elim (fun h => h.mono (by omega)) fun h => h.elim (fun h => h.mono (by omega)) id, fun h => .inr (.inr h)⟩
        rintro e w3 ⟨⟨v, er, rfl, hans⟩, rfl⟩
        have HANS := Lib.hid hans
        have HSUM := Lib.hid hsum
        clear hans hsum
        go_wp2
        go_ret2
        exact ⟨_, _, rfl, by have h := HANS.out; rw [HSUM.out] at h; exact h, hb2⟩

end LM
end Go.Proofs.YtfckjapedjjhpaaDoor
