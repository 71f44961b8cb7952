import Derived.Test.YtaonablbgicmpaaGreatDoorE07
import Derived.Test.YtaonablbgicmpaaGreatDoorE17
import Derived.Deep.RegionHeld3
import Derived.Deep.QuietTactic
import Derived.BigQuiet
import Derived.Lib.SmallJoins
set_option linter.unusedVariables false
set_option linter.unusedSimpArgs false
set_option maxRecDepth 100000
set_option maxHeartbeats 16000000
namespace Go.Proofs.YtaonablbgicmpaaGreatDoor
open Go.RowKit
namespace LM
def rightB (s : Bool) (xs : List Nat) : Bool:=decide (xs.length ≤ 64∧trim xs = xs∧¬ (s = true∧xs.length = 0))
theorem right_parts {s : Bool} {xs : List Nat} (h : rightB s xs = true) (hx : Lm xs) : xs.length ≤ 64∧Can xs∧s = decide (sg s (val xs) < 0)∧val xs = (sg s (val xs)).natAbs∧¬ BigI (sg s (val xs)):=by
 obtain ⟨h1,h2,h3⟩:=of_decide_eq_true h
 have hc : Can xs:=⟨hx,h2⟩
 refine ⟨h1,hc,?_,(sg_abs _ _).symm,fun hb=>not_big_len hc h1 ((bigI_sg _ _).1 hb)⟩
 rw [sg_neg]
 cases s with
 | false=>rfl
 | true =>
  have : 0 < val xs:=(can_pos hc).1 (by have : ¬ xs.length = 0:=fun h=>h3 ⟨rfl,h⟩; omega)
  rw [decide_eq_true this]
  rfl
theorem rright_long (s : Bool) (A : Option Addr) (c : Nat) (xs : List Nat) (w : World) (hl : 64 < xs.length) (hm : xs.length ≤ 9223372036854775807) :
  Calls Tryz.prog 83 #[.agg #[.bool s,.slice A xs.length c]] w fun e w'=>e = .returned (.bool false)∧Below w.heap.size w w':=by
 have hd : decide ((xs.length : Int) ≤ 64) = false:=decide_eq_false (by omega)
 have X0:=Lib.hid (Bx.new w s A xs.length c).drew
 have hb : Below w.heap.size w (w.alloc (.cells #[.bool s,.slice A xs.length c] 40)):=(Below.refl _ w).alloc (Nat.le_refl _) _
 have HB:=Lib.hid hb
 clear hb
 go_enter Tryz.func83,Tryz.ntmps83
 go_wp2
 go_quiet (fail)
 go_wp2
 go_ret
 exact ⟨rfl,HB.out.trans (Joins.below_le (Joins.below_draws _ _ _) HB.out.size)⟩
theorem rright_plus (A : Option Addr) (c : Nat) (xs : List Nat) (w : World) (ha : Rd w A xs) (hx : Lm xs) (hl : xs.length ≤ 64) (hnil : A = none → xs.length = 0∧c = 0) (hcan : decide (trim xs = xs) = true) :
  Calls Tryz.prog 83 #[.agg #[.bool false,.slice A xs.length c]] w fun e w'=>e = .returned (.bool true)∧Below w.heap.size w w':=by
 have hd : decide ((xs.length : Int) ≤ 64) = true:=decide_eq_true (by omega)
 have X0:=Lib.hid (Bx.new w false A xs.length c).drew
 have hb : Below w.heap.size w (w.alloc (.cells #[.bool false,.slice A xs.length c] 40)).drew:=((Below.refl _ w).alloc (Nat.le_refl _) _).drew
 have HB:=Lib.hid hb
 have HA:=Lib.hid (ha.below hb)
 have HX:=Lib.hid hx
 have HC:=Lib.hid hcan
 have HL:=Lib.hid hl
 have H1:=Lib.hid (rtrim_any A c xs _ (ha.below hb) hx (by omega) hnil)
 clear hb ha hnil hx hcan hl
 go_enter Tryz.func83,Tryz.ntmps83
 go_wp2
 refine wp_region_held_drew (S:=fun W=>W.cell? ⟨w.heap.size,0,none⟩ = some (.bool false)∧W.cell? ⟨w.heap.size,1,none⟩ = some (.slice A xs.length c)) (by kernel_rfl) ⟨X0.out.c0,X0.out.c1⟩ (fun hHeld=>?_)
 refine wpAnyH_take (i:=0) (v:=?v0) rfl (by kernel_rfl) (by kernel_rfl) (by kernel_rfl) (fun _ _ _ h=>h) (Or.inl ⟨by rfl,?y0⟩) (by assumption) ?r0
 case y0 =>
  intro W hSw
  go_simp
  all_goals (with_reducible rfl)
 change wpAnyH _ _ _ _ _ _ _ (Act.put _ (some 3) _) _
 simp only [Act.put,List.setIfInBounds_toArray,List.set_cons_zero,List.set_cons_succ]
 refine wpAnyH_take (i:=1) (v:=?v1) rfl (by kernel_rfl) (by kernel_rfl) (by kernel_rfl) (fun _ _ _ h=>h) (Or.inl ⟨by rfl,?y1⟩) (by assumption) ?r1
 case y1 =>
  intro W hSw
  go_simp
  all_goals (with_reducible rfl)
 change wpAnyH _ _ _ _ _ _ _ (Act.put _ (some 4) _) _
 simp only [Act.put,List.setIfInBounds_toArray,List.set_cons_zero,List.set_cons_succ]
 refine wpAnyH_take (i:=2) (v:=?v2) rfl (by kernel_rfl) (by kernel_rfl) (by kernel_rfl) (fun _ _ _ h=>h) (Or.inl ⟨by rfl,?y2⟩) (by assumption) ?r2
 case y2 =>
  intro W hSw
  go_simp
  all_goals (with_reducible rfl)
 change wpAnyH _ _ _ _ _ _ _ (Act.put _ (some 5) _) _
 simp only [Act.put,List.setIfInBounds_toArray,List.set_cons_zero,List.set_cons_succ]
 refine wpAnyH_take (i:=3) (v:=?v3) rfl (by kernel_rfl) (by kernel_rfl) (by kernel_rfl) (fun _ _ _ h=>h) (Or.inl ⟨by rfl,?y3⟩) (by assumption) ?r3
 case y3 =>
  intro W hSw
  go_simp
  all_goals (with_reducible rfl)
 change wpAnyH _ _ _ _ _ _ _ (Act.put _ (some 6) _) _
 simp only [Act.put,List.setIfInBounds_toArray,List.set_cons_zero,List.set_cons_succ]
 refine wpAnyH_take (i:=4) (v:=?v4) rfl (by kernel_rfl) (by kernel_rfl) (by kernel_rfl) (fun _ _ _ h=>h) (Or.inl ⟨by rfl,?y4⟩) (by assumption) ?r4
 case y4 =>
  intro W hSw
  go_simp
  all_goals (with_reducible rfl)
 change wpAnyH _ _ _ _ _ _ _ (Act.put _ (some 7) _) _
 simp only [Act.put,List.setIfInBounds_toArray,List.set_cons_zero,List.set_cons_succ]
 refine wpAnyH_take (i:=5) (v:=?v5) rfl (by kernel_rfl) (by kernel_rfl) (by kernel_rfl) (fun _ _ _ h=>h) (Or.inl ⟨by rfl,?y5⟩) (by assumption) ?r5
 case y5 =>
  intro W hSw
  go_simp
  all_goals (with_reducible rfl)
 change wpAnyH _ _ _ _ _ _ _ (Act.put _ (some 8) _) _
 simp only [Act.put,List.setIfInBounds_toArray,List.set_cons_zero,List.set_cons_succ]
 refine wpAnyH_take (i:=6) (v:=?v6) rfl (by kernel_rfl) (by kernel_rfl) (by kernel_rfl) (fun _ _ _ h=>h) (Or.inl ⟨by rfl,?y6⟩) (by assumption) ?r6
 case y6 =>
  intro W hSw
  go_simp
  all_goals (with_reducible rfl)
 change wpAnyH _ _ _ _ _ _ _ (Act.put _ (some 9) _) _
 simp only [Act.put,List.setIfInBounds_toArray,List.set_cons_zero,List.set_cons_succ]
 refine wpAnyH_take (i:=8) (v:=?v8) rfl (by kernel_rfl) (by kernel_rfl) (by kernel_rfl) (fun _ _ _ h=>h) (Or.inl ⟨by rfl,?y8⟩) (by assumption) ?r8
 case y8 =>
  intro W hSw
  go_simp
  all_goals (with_reducible rfl)
 change wpAnyH _ _ _ _ _ _ _ (Act.put _ (some 11) _) _
 simp only [Act.put,List.setIfInBounds_toArray,List.set_cons_zero,List.set_cons_succ]
 refine wpAnyH_take (i:=9) (v:=?v9) rfl (by kernel_rfl) (by kernel_rfl) (by kernel_rfl) (fun _ _ _ h=>h) (Or.inl ⟨by rfl,?y9⟩) (by assumption) ?r9
 case y9 =>
  intro W hSw
  go_simp
  all_goals (with_reducible rfl)
 change wpAnyH _ _ _ _ _ _ _ (Act.put _ (some 12) _) _
 simp only [Act.put,List.setIfInBounds_toArray,List.set_cons_zero,List.set_cons_succ]
 refine wpAnyH_ready (rs:=[7]) (by kernel_rfl) (by simp) ?_
 refine AllReadyH.cons rfl (fun K hK=>?_) AllReadyH.nil
 go_simp
 refine H1.out.mono ?_
 rintro e w1 ⟨⟨v,rfl,B1,d1,r1,rfl,hn1,hrd1,hcan1,hval1⟩,hb1⟩
 have HE:=Lib.hid (can_ext hcan1 (can_trim HX.out) (hval1.trans (val_trim xs).symm))
 have HB1:=Lib.hid (HB.out.trans (hb1.mono HB.out.size))
 have X1:=Lib.hid (X0.out.below hb1)
 have HS:=Lib.hid (same_any B1 A d1 c r1 xs w1 hrd1 (HA.out.below hb1) (by have:=HL.out; rw [HE.out]; have:=trim_length_le xs; omega))
 rw [show sameB r1 xs = true from by unfold sameB; rw [HE.out]; exact HC.out] at HS
 clear hn1 hrd1 hcan1 hval1 hb1 hHeld
 refine hK.out _ _ ⟨X1.out.c0,X1.out.c1⟩ (fun hHeld=>?_)
 clear hK K
 refine wpAnyH_ready (rs:=[10]) (by kernel_rfl) (by simp) ?_
 refine AllReadyH.cons rfl (fun K hK=>?_) AllReadyH.nil
 go_simp
 refine HS.out.mono ?_
 rintro e w2 ⟨rfl,hb2⟩
 have HB2:=Lib.hid (HB1.out.trans (hb2.mono HB1.out.size))
 have X2:=Lib.hid (X1.out.below hb2)
 clear hb2 hHeld
 refine hK.out _ _ ⟨X2.out.c0,X2.out.c1⟩ (fun hHeld=>?_)
 clear hK K
 refine wpAnyH_take (i:=11) (v:=?v11) rfl (by kernel_rfl) (by kernel_rfl) (by kernel_rfl) (fun _ _ _ h=>h) (Or.inl ⟨by rfl,?y11⟩) (by assumption) ?r11
 case y11 =>
  intro W hSw
  go_simp
  all_goals (with_reducible rfl)
 change wpAnyH _ _ _ _ _ _ _ (Act.put _ (some 14) _) _
 simp only [Act.put,List.setIfInBounds_toArray,List.set_cons_zero,List.set_cons_succ]
 refine wpAnyH_take (i:=12) (v:=?v12) rfl (by kernel_rfl) (by kernel_rfl) (by kernel_rfl) (fun _ _ _ h=>h) (Or.inl ⟨by rfl,?y12⟩) (by assumption) ?r12
 case y12 =>
  intro W hSw
  go_simp
  all_goals (with_reducible rfl)
 change wpAnyH _ _ _ _ _ _ _ (Act.put _ (some 15) _) _
 simp only [Act.put,List.setIfInBounds_toArray,List.set_cons_zero,List.set_cons_succ]
 refine wpAnyH_take (i:=13) (v:=?v13) rfl (by kernel_rfl) (by kernel_rfl) (by kernel_rfl) (fun _ _ _ h=>h) (Or.inl ⟨by rfl,?y13⟩) (by assumption) ?r13
 case y13 =>
  intro W hSw
  go_simp
  all_goals (with_reducible rfl)
 change wpAnyH _ _ _ _ _ _ _ (Act.put _ (some 16) _) _
 simp only [Act.put,List.setIfInBounds_toArray,List.set_cons_zero,List.set_cons_succ]
 refine wpAnyH_take (i:=14) (v:=?v14) rfl (by kernel_rfl) (by kernel_rfl) (by kernel_rfl) (fun _ _ _ h=>h) (Or.inl ⟨by rfl,?y14⟩) (by assumption) ?r14
 case y14 =>
  intro W hSw
  go_simp
  all_goals (with_reducible rfl)
 change wpAnyH _ _ _ _ _ _ _ (Act.put _ (some 17) _) _
 simp only [Act.put,List.setIfInBounds_toArray,List.set_cons_zero,List.set_cons_succ]
 refine wpAnyH_take (i:=15) (v:=?v15) rfl (by kernel_rfl) (by kernel_rfl) (by kernel_rfl) (fun _ _ _ h=>h) (Or.inl ⟨by rfl,?y15⟩) (by assumption) ?r15
 case y15 =>
  intro W hSw
  go_simp
  all_goals (with_reducible rfl)
 change wpAnyH _ _ _ _ _ _ _ (Act.put _ (some 18) _) _
 simp only [Act.put,List.setIfInBounds_toArray,List.set_cons_zero,List.set_cons_succ]
 refine wpAnyH_take (i:=16) (v:=undef) rfl (by kernel_rfl) (by kernel_rfl) (by kernel_rfl) (fun _ _ _ h=>h) (Or.inr ⟨by rfl,rfl⟩) (by assumption) ?_
 change wpAnyH _ _ _ _ _ _ _ (Act.put _ (some 19) _) _
 simp only [Act.put,List.setIfInBounds_toArray,List.set_cons_zero,List.set_cons_succ]
 refine wpAnyH_take (i:=17) (v:=undef) rfl (by kernel_rfl) (by kernel_rfl) (by kernel_rfl) (fun _ _ _ h=>h) (Or.inr ⟨by rfl,rfl⟩) (by assumption) ?_
 change wpAnyH _ _ _ _ _ _ _ (Act.put _ (some 20) _) _
 simp only [Act.put,List.setIfInBounds_toArray,List.set_cons_zero,List.set_cons_succ]
 refine wpAnyH_take (i:=18) (v:=undef) rfl (by kernel_rfl) (by kernel_rfl) (by kernel_rfl) (fun _ _ _ h=>h) (Or.inr ⟨by rfl,rfl⟩) (by assumption) ?_
 change wpAnyH _ _ _ _ _ _ _ (Act.put _ (some 21) _) _
 simp only [Act.put,List.setIfInBounds_toArray,List.set_cons_zero,List.set_cons_succ]
 refine wpAnyH_take (i:=19) (v:=undef) rfl (by kernel_rfl) (by kernel_rfl) (by kernel_rfl) (fun _ _ _ h=>h) (Or.inr ⟨by rfl,rfl⟩) (by assumption) ?_
 change wpAnyH _ _ _ _ _ _ _ (Act.put _ (some 22) _) _
 simp only [Act.put,List.setIfInBounds_toArray,List.set_cons_zero,List.set_cons_succ]
 refine wpAnyH_take (i:=20) (v:=?v20) rfl (by kernel_rfl) (by kernel_rfl) (by kernel_rfl) (fun _ _ _ h=>h) (Or.inl ⟨by rfl,?y20⟩) (by assumption) ?r20
 case y20 =>
  intro W hSw
  go_simp
  all_goals (with_reducible rfl)
 change wpAnyH _ _ _ _ _ _ _ (Act.put _ (some 23) _) _
 simp only [Act.put,List.setIfInBounds_toArray,List.set_cons_zero,List.set_cons_succ]
 refine wpAnyH_take (i:=21) (v:=?v21) rfl (by kernel_rfl) (by kernel_rfl) (by kernel_rfl) (fun _ _ _ h=>h) (Or.inl ⟨by rfl,?y21⟩) (by assumption) ?r21
 case y21 =>
  intro W hSw
  go_simp
  all_goals (with_reducible rfl)
 change wpAnyH _ _ _ _ _ _ _ (Act.put _ (some 24) _) _
 simp only [Act.put,List.setIfInBounds_toArray,List.set_cons_zero,List.set_cons_succ]
 refine wpAnyH_take (i:=22) (v:=?v22) rfl (by kernel_rfl) (by kernel_rfl) (by kernel_rfl) (fun _ _ _ h=>h) (Or.inl ⟨by rfl,?y22⟩) (by assumption) ?r22
 case y22 =>
  intro W hSw
  go_simp
  all_goals (with_reducible rfl)
 change wpAnyH _ _ _ _ _ _ _ (Act.put _ (some 25) _) _
 simp only [Act.put,List.setIfInBounds_toArray,List.set_cons_zero,List.set_cons_succ]
 refine wpAnyH_take (i:=23) (v:=?v23) rfl (by kernel_rfl) (by kernel_rfl) (by kernel_rfl) (fun _ _ _ h=>h) (Or.inl ⟨by rfl,?y23⟩) (by assumption) ?r23
 case y23 =>
  intro W hSw
  go_simp
  all_goals (with_reducible rfl)
 change wpAnyH _ _ _ _ _ _ _ (Act.put _ (some 2) _) _
 simp only [Act.put,List.setIfInBounds_toArray,List.set_cons_zero,List.set_cons_succ]
 refine wpAnyH_done (by kernel_rfl) ?_ _
 go_wp2
 go_ret
 exact ⟨rfl,HB2.out⟩
theorem rright_minus (A : Option Addr) (c : Nat) (xs : List Nat) (w : World) (ha : Rd w A xs) (hx : Lm xs) (hl : xs.length ≤ 64) (hnil : A = none → xs.length = 0∧c = 0) (hcan : decide (trim xs = xs) = true) (h0 : 0 < xs.length) :
  Calls Tryz.prog 83 #[.agg #[.bool true,.slice A xs.length c]] w fun e w'=>e = .returned (.bool true)∧Below w.heap.size w w':=by
 have hd : decide ((xs.length : Int) ≤ 64) = true:=decide_eq_true (by omega)
 have X0:=Lib.hid (Bx.new w true A xs.length c).drew
 have hb : Below w.heap.size w (w.alloc (.cells #[.bool true,.slice A xs.length c] 40)).drew:=((Below.refl _ w).alloc (Nat.le_refl _) _).drew
 have HB:=Lib.hid hb
 have HA:=Lib.hid (ha.below hb)
 have HX:=Lib.hid hx
 have HC:=Lib.hid hcan
 have HL:=Lib.hid hl
 have H1:=Lib.hid (rtrim_any A c xs _ (ha.below hb) hx (by omega) hnil)
 have hz : ((xs.length : Int) == 0) = false:=by simp; intro h; rw [h] at h0; simp at h0
 clear h0
 clear hb ha hnil hx hcan hl
 go_enter Tryz.func83,Tryz.ntmps83
 go_wp2
 refine wp_region_held_drew (S:=fun W=>W.cell? ⟨w.heap.size,0,none⟩ = some (.bool true)∧W.cell? ⟨w.heap.size,1,none⟩ = some (.slice A xs.length c)) (by kernel_rfl) ⟨X0.out.c0,X0.out.c1⟩ (fun hHeld=>?_)
 refine wpAnyH_take (i:=0) (v:=?v0) rfl (by kernel_rfl) (by kernel_rfl) (by kernel_rfl) (fun _ _ _ h=>h) (Or.inl ⟨by rfl,?y0⟩) (by assumption) ?r0
 case y0 =>
  intro W hSw
  go_simp
  all_goals (with_reducible rfl)
 change wpAnyH _ _ _ _ _ _ _ (Act.put _ (some 3) _) _
 simp only [Act.put,List.setIfInBounds_toArray,List.set_cons_zero,List.set_cons_succ]
 refine wpAnyH_take (i:=1) (v:=?v1) rfl (by kernel_rfl) (by kernel_rfl) (by kernel_rfl) (fun _ _ _ h=>h) (Or.inl ⟨by rfl,?y1⟩) (by assumption) ?r1
 case y1 =>
  intro W hSw
  go_simp
  all_goals (with_reducible rfl)
 change wpAnyH _ _ _ _ _ _ _ (Act.put _ (some 4) _) _
 simp only [Act.put,List.setIfInBounds_toArray,List.set_cons_zero,List.set_cons_succ]
 refine wpAnyH_take (i:=2) (v:=?v2) rfl (by kernel_rfl) (by kernel_rfl) (by kernel_rfl) (fun _ _ _ h=>h) (Or.inl ⟨by rfl,?y2⟩) (by assumption) ?r2
 case y2 =>
  intro W hSw
  go_simp
  all_goals (with_reducible rfl)
 change wpAnyH _ _ _ _ _ _ _ (Act.put _ (some 5) _) _
 simp only [Act.put,List.setIfInBounds_toArray,List.set_cons_zero,List.set_cons_succ]
 refine wpAnyH_take (i:=3) (v:=?v3) rfl (by kernel_rfl) (by kernel_rfl) (by kernel_rfl) (fun _ _ _ h=>h) (Or.inl ⟨by rfl,?y3⟩) (by assumption) ?r3
 case y3 =>
  intro W hSw
  go_simp
  all_goals (with_reducible rfl)
 change wpAnyH _ _ _ _ _ _ _ (Act.put _ (some 6) _) _
 simp only [Act.put,List.setIfInBounds_toArray,List.set_cons_zero,List.set_cons_succ]
 refine wpAnyH_take (i:=4) (v:=?v4) rfl (by kernel_rfl) (by kernel_rfl) (by kernel_rfl) (fun _ _ _ h=>h) (Or.inl ⟨by rfl,?y4⟩) (by assumption) ?r4
 case y4 =>
  intro W hSw
  go_simp
  all_goals (with_reducible rfl)
 change wpAnyH _ _ _ _ _ _ _ (Act.put _ (some 7) _) _
 simp only [Act.put,List.setIfInBounds_toArray,List.set_cons_zero,List.set_cons_succ]
 refine wpAnyH_take (i:=5) (v:=?v5) rfl (by kernel_rfl) (by kernel_rfl) (by kernel_rfl) (fun _ _ _ h=>h) (Or.inl ⟨by rfl,?y5⟩) (by assumption) ?r5
 case y5 =>
  intro W hSw
  go_simp
  all_goals (with_reducible rfl)
 change wpAnyH _ _ _ _ _ _ _ (Act.put _ (some 8) _) _
 simp only [Act.put,List.setIfInBounds_toArray,List.set_cons_zero,List.set_cons_succ]
 refine wpAnyH_take (i:=6) (v:=?v6) rfl (by kernel_rfl) (by kernel_rfl) (by kernel_rfl) (fun _ _ _ h=>h) (Or.inl ⟨by rfl,?y6⟩) (by assumption) ?r6
 case y6 =>
  intro W hSw
  go_simp
  all_goals (with_reducible rfl)
 change wpAnyH _ _ _ _ _ _ _ (Act.put _ (some 9) _) _
 simp only [Act.put,List.setIfInBounds_toArray,List.set_cons_zero,List.set_cons_succ]
 refine wpAnyH_take (i:=8) (v:=?v8) rfl (by kernel_rfl) (by kernel_rfl) (by kernel_rfl) (fun _ _ _ h=>h) (Or.inl ⟨by rfl,?y8⟩) (by assumption) ?r8
 case y8 =>
  intro W hSw
  go_simp
  all_goals (with_reducible rfl)
 change wpAnyH _ _ _ _ _ _ _ (Act.put _ (some 11) _) _
 simp only [Act.put,List.setIfInBounds_toArray,List.set_cons_zero,List.set_cons_succ]
 refine wpAnyH_take (i:=9) (v:=?v9) rfl (by kernel_rfl) (by kernel_rfl) (by kernel_rfl) (fun _ _ _ h=>h) (Or.inl ⟨by rfl,?y9⟩) (by assumption) ?r9
 case y9 =>
  intro W hSw
  go_simp
  all_goals (with_reducible rfl)
 change wpAnyH _ _ _ _ _ _ _ (Act.put _ (some 12) _) _
 simp only [Act.put,List.setIfInBounds_toArray,List.set_cons_zero,List.set_cons_succ]
 refine wpAnyH_ready (rs:=[7]) (by kernel_rfl) (by simp) ?_
 refine AllReadyH.cons rfl (fun K hK=>?_) AllReadyH.nil
 go_simp
 refine H1.out.mono ?_
 rintro e w1 ⟨⟨v,rfl,B1,d1,r1,rfl,hn1,hrd1,hcan1,hval1⟩,hb1⟩
 have HE:=Lib.hid (can_ext hcan1 (can_trim HX.out) (hval1.trans (val_trim xs).symm))
 have HB1:=Lib.hid (HB.out.trans (hb1.mono HB.out.size))
 have X1:=Lib.hid (X0.out.below hb1)
 have HS:=Lib.hid (same_any B1 A d1 c r1 xs w1 hrd1 (HA.out.below hb1) (by have:=HL.out; rw [HE.out]; have:=trim_length_le xs; omega))
 rw [show sameB r1 xs = true from by unfold sameB; rw [HE.out]; exact HC.out] at HS
 clear hn1 hrd1 hcan1 hval1 hb1 hHeld
 refine hK.out _ _ ⟨X1.out.c0,X1.out.c1⟩ (fun hHeld=>?_)
 clear hK K
 refine wpAnyH_ready (rs:=[10]) (by kernel_rfl) (by simp) ?_
 refine AllReadyH.cons rfl (fun K hK=>?_) AllReadyH.nil
 go_simp
 refine HS.out.mono ?_
 rintro e w2 ⟨rfl,hb2⟩
 have HB2:=Lib.hid (HB1.out.trans (hb2.mono HB1.out.size))
 have X2:=Lib.hid (X1.out.below hb2)
 clear hb2 hHeld
 refine hK.out _ _ ⟨X2.out.c0,X2.out.c1⟩ (fun hHeld=>?_)
 clear hK K
 refine wpAnyH_take (i:=11) (v:=?v11) rfl (by kernel_rfl) (by kernel_rfl) (by kernel_rfl) (fun _ _ _ h=>h) (Or.inl ⟨by rfl,?y11⟩) (by assumption) ?r11
 case y11 =>
  intro W hSw
  go_simp
  all_goals (with_reducible rfl)
 change wpAnyH _ _ _ _ _ _ _ (Act.put _ (some 14) _) _
 simp only [Act.put,List.setIfInBounds_toArray,List.set_cons_zero,List.set_cons_succ]
 refine wpAnyH_take (i:=12) (v:=?v12) rfl (by kernel_rfl) (by kernel_rfl) (by kernel_rfl) (fun _ _ _ h=>h) (Or.inl ⟨by rfl,?y12⟩) (by assumption) ?r12
 case y12 =>
  intro W hSw
  go_simp
  all_goals (with_reducible rfl)
 change wpAnyH _ _ _ _ _ _ _ (Act.put _ (some 15) _) _
 simp only [Act.put,List.setIfInBounds_toArray,List.set_cons_zero,List.set_cons_succ]
 refine wpAnyH_take (i:=13) (v:=?v13) rfl (by kernel_rfl) (by kernel_rfl) (by kernel_rfl) (fun _ _ _ h=>h) (Or.inl ⟨by rfl,?y13⟩) (by assumption) ?r13
 case y13 =>
  intro W hSw
  go_simp
  all_goals (with_reducible rfl)
 change wpAnyH _ _ _ _ _ _ _ (Act.put _ (some 16) _) _
 simp only [Act.put,List.setIfInBounds_toArray,List.set_cons_zero,List.set_cons_succ]
 refine wpAnyH_take (i:=14) (v:=?v14) rfl (by kernel_rfl) (by kernel_rfl) (by kernel_rfl) (fun _ _ _ h=>h) (Or.inl ⟨by rfl,?y14⟩) (by assumption) ?r14
 case y14 =>
  intro W hSw
  go_simp
  all_goals (with_reducible rfl)
 change wpAnyH _ _ _ _ _ _ _ (Act.put _ (some 17) _) _
 simp only [Act.put,List.setIfInBounds_toArray,List.set_cons_zero,List.set_cons_succ]
 refine wpAnyH_take (i:=15) (v:=?v15) rfl (by kernel_rfl) (by kernel_rfl) (by kernel_rfl) (fun _ _ _ h=>h) (Or.inl ⟨by rfl,?y15⟩) (by assumption) ?r15
 case y15 =>
  intro W hSw
  go_simp
  all_goals (with_reducible rfl)
 change wpAnyH _ _ _ _ _ _ _ (Act.put _ (some 18) _) _
 simp only [Act.put,List.setIfInBounds_toArray,List.set_cons_zero,List.set_cons_succ]
 refine wpAnyH_take (i:=16) (v:=?v16) rfl (by kernel_rfl) (by kernel_rfl) (by kernel_rfl) (fun _ _ _ h=>h) (Or.inl ⟨by rfl,?y16⟩) (by assumption) ?r16
 case y16 =>
  intro W hSw
  go_simp
  all_goals (with_reducible rfl)
 change wpAnyH _ _ _ _ _ _ _ (Act.put _ (some 19) _) _
 simp only [Act.put,List.setIfInBounds_toArray,List.set_cons_zero,List.set_cons_succ]
 refine wpAnyH_take (i:=17) (v:=?v17) rfl (by kernel_rfl) (by kernel_rfl) (by kernel_rfl) (fun _ _ _ h=>h) (Or.inl ⟨by rfl,?y17⟩) (by assumption) ?r17
 case y17 =>
  intro W hSw
  go_simp
  all_goals (with_reducible rfl)
 change wpAnyH _ _ _ _ _ _ _ (Act.put _ (some 20) _) _
 simp only [Act.put,List.setIfInBounds_toArray,List.set_cons_zero,List.set_cons_succ]
 refine wpAnyH_take (i:=18) (v:=?v18) rfl (by kernel_rfl) (by kernel_rfl) (by kernel_rfl) (fun _ _ _ h=>h) (Or.inl ⟨by rfl,?y18⟩) (by assumption) ?r18
 case y18 =>
  intro W hSw
  go_simp
  all_goals (with_reducible rfl)
 change wpAnyH _ _ _ _ _ _ _ (Act.put _ (some 21) _) _
 simp only [Act.put,List.setIfInBounds_toArray,List.set_cons_zero,List.set_cons_succ]
 refine wpAnyH_take (i:=19) (v:=?v19) rfl (by kernel_rfl) (by kernel_rfl) (by kernel_rfl) (fun _ _ _ h=>h) (Or.inl ⟨by rfl,?y19⟩) (by assumption) ?r19
 case y19 =>
  intro W hSw
  go_simp
  all_goals (with_reducible rfl)
 change wpAnyH _ _ _ _ _ _ _ (Act.put _ (some 22) _) _
 simp only [Act.put,List.setIfInBounds_toArray,List.set_cons_zero,List.set_cons_succ]
 refine wpAnyH_take (i:=20) (v:=?v20) rfl (by kernel_rfl) (by kernel_rfl) (by kernel_rfl) (fun _ _ _ h=>h) (Or.inl ⟨by rfl,?y20⟩) (by assumption) ?r20
 case y20 =>
  intro W hSw
  go_simp
  all_goals (with_reducible rfl)
 change wpAnyH _ _ _ _ _ _ _ (Act.put _ (some 23) _) _
 simp only [Act.put,List.setIfInBounds_toArray,List.set_cons_zero,List.set_cons_succ]
 refine wpAnyH_take (i:=21) (v:=?v21) rfl (by kernel_rfl) (by kernel_rfl) (by kernel_rfl) (fun _ _ _ h=>h) (Or.inl ⟨by rfl,?y21⟩) (by assumption) ?r21
 case y21 =>
  intro W hSw
  go_simp
  all_goals (with_reducible rfl)
 change wpAnyH _ _ _ _ _ _ _ (Act.put _ (some 24) _) _
 simp only [Act.put,List.setIfInBounds_toArray,List.set_cons_zero,List.set_cons_succ]
 refine wpAnyH_take (i:=22) (v:=?v22) rfl (by kernel_rfl) (by kernel_rfl) (by kernel_rfl) (fun _ _ _ h=>h) (Or.inl ⟨by rfl,?y22⟩) (by assumption) ?r22
 case y22 =>
  intro W hSw
  go_simp
  all_goals (with_reducible rfl)
 change wpAnyH _ _ _ _ _ _ _ (Act.put _ (some 25) _) _
 simp only [Act.put,List.setIfInBounds_toArray,List.set_cons_zero,List.set_cons_succ]
 refine wpAnyH_take (i:=23) (v:=?v23) rfl (by kernel_rfl) (by kernel_rfl) (by kernel_rfl) (fun _ _ _ h=>h) (Or.inl ⟨by rfl,?y23⟩) (by assumption) ?r23
 case y23 =>
  intro W hSw
  go_simp
  all_goals (with_reducible rfl)
 change wpAnyH _ _ _ _ _ _ _ (Act.put _ (some 2) _) _
 simp only [Act.put,List.setIfInBounds_toArray,List.set_cons_zero,List.set_cons_succ]
 refine wpAnyH_done (by kernel_rfl) ?_ _
 go_wp2
 go_ret
 exact ⟨rfl,HB2.out⟩
theorem rright_nought (A : Option Addr) (c : Nat) (xs : List Nat) (w : World) (ha : Rd w A xs) (hx : Lm xs) (hl : xs.length ≤ 64) (hnil : A = none → xs.length = 0∧c = 0) (hcan : decide (trim xs = xs) = true) (h0 : xs.length = 0) :
  Calls Tryz.prog 83 #[.agg #[.bool true,.slice A xs.length c]] w fun e w'=>e = .returned (.bool false)∧Below w.heap.size w w':=by
 have hd : decide ((xs.length : Int) ≤ 64) = true:=decide_eq_true (by omega)
 have X0:=Lib.hid (Bx.new w true A xs.length c).drew
 have hb : Below w.heap.size w (w.alloc (.cells #[.bool true,.slice A xs.length c] 40)).drew:=((Below.refl _ w).alloc (Nat.le_refl _) _).drew
 have HB:=Lib.hid hb
 have HA:=Lib.hid (ha.below hb)
 have HX:=Lib.hid hx
 have HC:=Lib.hid hcan
 have HL:=Lib.hid hl
 have H1:=Lib.hid (rtrim_any A c xs _ (ha.below hb) hx (by omega) hnil)
 have hz : ((xs.length : Int) == 0) = true:=by simp; exact List.eq_nil_of_length_eq_zero h0
 clear h0
 clear hb ha hnil hx hcan hl
 go_enter Tryz.func83,Tryz.ntmps83
 go_wp2
 refine wp_region_held_drew (S:=fun W=>W.cell? ⟨w.heap.size,0,none⟩ = some (.bool true)∧W.cell? ⟨w.heap.size,1,none⟩ = some (.slice A xs.length c)) (by kernel_rfl) ⟨X0.out.c0,X0.out.c1⟩ (fun hHeld=>?_)
 refine wpAnyH_take (i:=0) (v:=?v0) rfl (by kernel_rfl) (by kernel_rfl) (by kernel_rfl) (fun _ _ _ h=>h) (Or.inl ⟨by rfl,?y0⟩) (by assumption) ?r0
 case y0 =>
  intro W hSw
  go_simp
  all_goals (with_reducible rfl)
 change wpAnyH _ _ _ _ _ _ _ (Act.put _ (some 3) _) _
 simp only [Act.put,List.setIfInBounds_toArray,List.set_cons_zero,List.set_cons_succ]
 refine wpAnyH_take (i:=1) (v:=?v1) rfl (by kernel_rfl) (by kernel_rfl) (by kernel_rfl) (fun _ _ _ h=>h) (Or.inl ⟨by rfl,?y1⟩) (by assumption) ?r1
 case y1 =>
  intro W hSw
  go_simp
  all_goals (with_reducible rfl)
 change wpAnyH _ _ _ _ _ _ _ (Act.put _ (some 4) _) _
 simp only [Act.put,List.setIfInBounds_toArray,List.set_cons_zero,List.set_cons_succ]
 refine wpAnyH_take (i:=2) (v:=?v2) rfl (by kernel_rfl) (by kernel_rfl) (by kernel_rfl) (fun _ _ _ h=>h) (Or.inl ⟨by rfl,?y2⟩) (by assumption) ?r2
 case y2 =>
  intro W hSw
  go_simp
  all_goals (with_reducible rfl)
 change wpAnyH _ _ _ _ _ _ _ (Act.put _ (some 5) _) _
 simp only [Act.put,List.setIfInBounds_toArray,List.set_cons_zero,List.set_cons_succ]
 refine wpAnyH_take (i:=3) (v:=?v3) rfl (by kernel_rfl) (by kernel_rfl) (by kernel_rfl) (fun _ _ _ h=>h) (Or.inl ⟨by rfl,?y3⟩) (by assumption) ?r3
 case y3 =>
  intro W hSw
  go_simp
  all_goals (with_reducible rfl)
 change wpAnyH _ _ _ _ _ _ _ (Act.put _ (some 6) _) _
 simp only [Act.put,List.setIfInBounds_toArray,List.set_cons_zero,List.set_cons_succ]
 refine wpAnyH_take (i:=4) (v:=?v4) rfl (by kernel_rfl) (by kernel_rfl) (by kernel_rfl) (fun _ _ _ h=>h) (Or.inl ⟨by rfl,?y4⟩) (by assumption) ?r4
 case y4 =>
  intro W hSw
  go_simp
  all_goals (with_reducible rfl)
 change wpAnyH _ _ _ _ _ _ _ (Act.put _ (some 7) _) _
 simp only [Act.put,List.setIfInBounds_toArray,List.set_cons_zero,List.set_cons_succ]
 refine wpAnyH_take (i:=5) (v:=?v5) rfl (by kernel_rfl) (by kernel_rfl) (by kernel_rfl) (fun _ _ _ h=>h) (Or.inl ⟨by rfl,?y5⟩) (by assumption) ?r5
 case y5 =>
  intro W hSw
  go_simp
  all_goals (with_reducible rfl)
 change wpAnyH _ _ _ _ _ _ _ (Act.put _ (some 8) _) _
 simp only [Act.put,List.setIfInBounds_toArray,List.set_cons_zero,List.set_cons_succ]
 refine wpAnyH_take (i:=6) (v:=?v6) rfl (by kernel_rfl) (by kernel_rfl) (by kernel_rfl) (fun _ _ _ h=>h) (Or.inl ⟨by rfl,?y6⟩) (by assumption) ?r6
 case y6 =>
  intro W hSw
  go_simp
  all_goals (with_reducible rfl)
 change wpAnyH _ _ _ _ _ _ _ (Act.put _ (some 9) _) _
 simp only [Act.put,List.setIfInBounds_toArray,List.set_cons_zero,List.set_cons_succ]
 refine wpAnyH_take (i:=8) (v:=?v8) rfl (by kernel_rfl) (by kernel_rfl) (by kernel_rfl) (fun _ _ _ h=>h) (Or.inl ⟨by rfl,?y8⟩) (by assumption) ?r8
 case y8 =>
  intro W hSw
  go_simp
  all_goals (with_reducible rfl)
 change wpAnyH _ _ _ _ _ _ _ (Act.put _ (some 11) _) _
 simp only [Act.put,List.setIfInBounds_toArray,List.set_cons_zero,List.set_cons_succ]
 refine wpAnyH_take (i:=9) (v:=?v9) rfl (by kernel_rfl) (by kernel_rfl) (by kernel_rfl) (fun _ _ _ h=>h) (Or.inl ⟨by rfl,?y9⟩) (by assumption) ?r9
 case y9 =>
  intro W hSw
  go_simp
  all_goals (with_reducible rfl)
 change wpAnyH _ _ _ _ _ _ _ (Act.put _ (some 12) _) _
 simp only [Act.put,List.setIfInBounds_toArray,List.set_cons_zero,List.set_cons_succ]
 refine wpAnyH_ready (rs:=[7]) (by kernel_rfl) (by simp) ?_
 refine AllReadyH.cons rfl (fun K hK=>?_) AllReadyH.nil
 go_simp
 refine H1.out.mono ?_
 rintro e w1 ⟨⟨v,rfl,B1,d1,r1,rfl,hn1,hrd1,hcan1,hval1⟩,hb1⟩
 have HE:=Lib.hid (can_ext hcan1 (can_trim HX.out) (hval1.trans (val_trim xs).symm))
 have HB1:=Lib.hid (HB.out.trans (hb1.mono HB.out.size))
 have X1:=Lib.hid (X0.out.below hb1)
 have HS:=Lib.hid (same_any B1 A d1 c r1 xs w1 hrd1 (HA.out.below hb1) (by have:=HL.out; rw [HE.out]; have:=trim_length_le xs; omega))
 rw [show sameB r1 xs = true from by unfold sameB; rw [HE.out]; exact HC.out] at HS
 clear hn1 hrd1 hcan1 hval1 hb1 hHeld
 refine hK.out _ _ ⟨X1.out.c0,X1.out.c1⟩ (fun hHeld=>?_)
 clear hK K
 refine wpAnyH_ready (rs:=[10]) (by kernel_rfl) (by simp) ?_
 refine AllReadyH.cons rfl (fun K hK=>?_) AllReadyH.nil
 go_simp
 refine HS.out.mono ?_
 rintro e w2 ⟨rfl,hb2⟩
 have HB2:=Lib.hid (HB1.out.trans (hb2.mono HB1.out.size))
 have X2:=Lib.hid (X1.out.below hb2)
 clear hb2 hHeld
 refine hK.out _ _ ⟨X2.out.c0,X2.out.c1⟩ (fun hHeld=>?_)
 clear hK K
 refine wpAnyH_take (i:=11) (v:=?v11) rfl (by kernel_rfl) (by kernel_rfl) (by kernel_rfl) (fun _ _ _ h=>h) (Or.inl ⟨by rfl,?y11⟩) (by assumption) ?r11
 case y11 =>
  intro W hSw
  go_simp
  all_goals (with_reducible rfl)
 change wpAnyH _ _ _ _ _ _ _ (Act.put _ (some 14) _) _
 simp only [Act.put,List.setIfInBounds_toArray,List.set_cons_zero,List.set_cons_succ]
 refine wpAnyH_take (i:=12) (v:=?v12) rfl (by kernel_rfl) (by kernel_rfl) (by kernel_rfl) (fun _ _ _ h=>h) (Or.inl ⟨by rfl,?y12⟩) (by assumption) ?r12
 case y12 =>
  intro W hSw
  go_simp
  all_goals (with_reducible rfl)
 change wpAnyH _ _ _ _ _ _ _ (Act.put _ (some 15) _) _
 simp only [Act.put,List.setIfInBounds_toArray,List.set_cons_zero,List.set_cons_succ]
 refine wpAnyH_take (i:=13) (v:=?v13) rfl (by kernel_rfl) (by kernel_rfl) (by kernel_rfl) (fun _ _ _ h=>h) (Or.inl ⟨by rfl,?y13⟩) (by assumption) ?r13
 case y13 =>
  intro W hSw
  go_simp
  all_goals (with_reducible rfl)
 change wpAnyH _ _ _ _ _ _ _ (Act.put _ (some 16) _) _
 simp only [Act.put,List.setIfInBounds_toArray,List.set_cons_zero,List.set_cons_succ]
 refine wpAnyH_take (i:=14) (v:=?v14) rfl (by kernel_rfl) (by kernel_rfl) (by kernel_rfl) (fun _ _ _ h=>h) (Or.inl ⟨by rfl,?y14⟩) (by assumption) ?r14
 case y14 =>
  intro W hSw
  go_simp
  all_goals (with_reducible rfl)
 change wpAnyH _ _ _ _ _ _ _ (Act.put _ (some 17) _) _
 simp only [Act.put,List.setIfInBounds_toArray,List.set_cons_zero,List.set_cons_succ]
 refine wpAnyH_take (i:=15) (v:=?v15) rfl (by kernel_rfl) (by kernel_rfl) (by kernel_rfl) (fun _ _ _ h=>h) (Or.inl ⟨by rfl,?y15⟩) (by assumption) ?r15
 case y15 =>
  intro W hSw
  go_simp
  all_goals (with_reducible rfl)
 change wpAnyH _ _ _ _ _ _ _ (Act.put _ (some 18) _) _
 simp only [Act.put,List.setIfInBounds_toArray,List.set_cons_zero,List.set_cons_succ]
 refine wpAnyH_take (i:=16) (v:=?v16) rfl (by kernel_rfl) (by kernel_rfl) (by kernel_rfl) (fun _ _ _ h=>h) (Or.inl ⟨by rfl,?y16⟩) (by assumption) ?r16
 case y16 =>
  intro W hSw
  go_simp
  all_goals (with_reducible rfl)
 change wpAnyH _ _ _ _ _ _ _ (Act.put _ (some 19) _) _
 simp only [Act.put,List.setIfInBounds_toArray,List.set_cons_zero,List.set_cons_succ]
 refine wpAnyH_take (i:=17) (v:=?v17) rfl (by kernel_rfl) (by kernel_rfl) (by kernel_rfl) (fun _ _ _ h=>h) (Or.inl ⟨by rfl,?y17⟩) (by assumption) ?r17
 case y17 =>
  intro W hSw
  go_simp
  all_goals (with_reducible rfl)
 change wpAnyH _ _ _ _ _ _ _ (Act.put _ (some 20) _) _
 simp only [Act.put,List.setIfInBounds_toArray,List.set_cons_zero,List.set_cons_succ]
 refine wpAnyH_take (i:=18) (v:=?v18) rfl (by kernel_rfl) (by kernel_rfl) (by kernel_rfl) (fun _ _ _ h=>h) (Or.inl ⟨by rfl,?y18⟩) (by assumption) ?r18
 case y18 =>
  intro W hSw
  go_simp
  all_goals (with_reducible rfl)
 change wpAnyH _ _ _ _ _ _ _ (Act.put _ (some 21) _) _
 simp only [Act.put,List.setIfInBounds_toArray,List.set_cons_zero,List.set_cons_succ]
 refine wpAnyH_take (i:=19) (v:=?v19) rfl (by kernel_rfl) (by kernel_rfl) (by kernel_rfl) (fun _ _ _ h=>h) (Or.inl ⟨by rfl,?y19⟩) (by assumption) ?r19
 case y19 =>
  intro W hSw
  go_simp
  all_goals (with_reducible rfl)
 change wpAnyH _ _ _ _ _ _ _ (Act.put _ (some 22) _) _
 simp only [Act.put,List.setIfInBounds_toArray,List.set_cons_zero,List.set_cons_succ]
 refine wpAnyH_take (i:=20) (v:=?v20) rfl (by kernel_rfl) (by kernel_rfl) (by kernel_rfl) (fun _ _ _ h=>h) (Or.inl ⟨by rfl,?y20⟩) (by assumption) ?r20
 case y20 =>
  intro W hSw
  go_simp
  all_goals (with_reducible rfl)
 change wpAnyH _ _ _ _ _ _ _ (Act.put _ (some 23) _) _
 simp only [Act.put,List.setIfInBounds_toArray,List.set_cons_zero,List.set_cons_succ]
 refine wpAnyH_take (i:=21) (v:=?v21) rfl (by kernel_rfl) (by kernel_rfl) (by kernel_rfl) (fun _ _ _ h=>h) (Or.inl ⟨by rfl,?y21⟩) (by assumption) ?r21
 case y21 =>
  intro W hSw
  go_simp
  all_goals (with_reducible rfl)
 change wpAnyH _ _ _ _ _ _ _ (Act.put _ (some 24) _) _
 simp only [Act.put,List.setIfInBounds_toArray,List.set_cons_zero,List.set_cons_succ]
 refine wpAnyH_take (i:=22) (v:=?v22) rfl (by kernel_rfl) (by kernel_rfl) (by kernel_rfl) (fun _ _ _ h=>h) (Or.inl ⟨by rfl,?y22⟩) (by assumption) ?r22
 case y22 =>
  intro W hSw
  go_simp
  all_goals (with_reducible rfl)
 change wpAnyH _ _ _ _ _ _ _ (Act.put _ (some 25) _) _
 simp only [Act.put,List.setIfInBounds_toArray,List.set_cons_zero,List.set_cons_succ]
 refine wpAnyH_take (i:=23) (v:=?v23) rfl (by kernel_rfl) (by kernel_rfl) (by kernel_rfl) (fun _ _ _ h=>h) (Or.inl ⟨by rfl,?y23⟩) (by assumption) ?r23
 case y23 =>
  intro W hSw
  go_simp
  all_goals (with_reducible rfl)
 change wpAnyH _ _ _ _ _ _ _ (Act.put _ (some 2) _) _
 simp only [Act.put,List.setIfInBounds_toArray,List.set_cons_zero,List.set_cons_succ]
 refine wpAnyH_done (by kernel_rfl) ?_ _
 go_wp2
 go_ret
 exact ⟨rfl,HB2.out⟩
theorem rright_untrimmed (s : Bool) (A : Option Addr) (c : Nat) (xs : List Nat) (w : World) (ha : Rd w A xs) (hx : Lm xs) (hl : xs.length ≤ 64) (hnil : A = none → xs.length = 0∧c = 0) (hcan : decide (trim xs = xs) = false) :
  Calls Tryz.prog 83 #[.agg #[.bool s,.slice A xs.length c]] w fun e w'=>e = .returned (.bool false)∧Below w.heap.size w w':=by
 have hd : decide ((xs.length : Int) ≤ 64) = true:=decide_eq_true (by omega)
 have X0:=Lib.hid (Bx.new w s A xs.length c).drew
 have hb : Below w.heap.size w (w.alloc (.cells #[.bool s,.slice A xs.length c] 40)).drew:=((Below.refl _ w).alloc (Nat.le_refl _) _).drew
 have HB:=Lib.hid hb
 have HA:=Lib.hid (ha.below hb)
 have HX:=Lib.hid hx
 have HC:=Lib.hid hcan
 have HL:=Lib.hid hl
 have H1:=Lib.hid (rtrim_any A c xs _ (ha.below hb) hx (by omega) hnil)
 clear hb ha hnil hx hcan hl
 go_enter Tryz.func83,Tryz.ntmps83
 go_wp2
 refine wp_region_held_drew (S:=fun W=>W.cell? ⟨w.heap.size,0,none⟩ = some (.bool s)∧W.cell? ⟨w.heap.size,1,none⟩ = some (.slice A xs.length c)) (by kernel_rfl) ⟨X0.out.c0,X0.out.c1⟩ (fun hHeld=>?_)
 refine wpAnyH_take (i:=0) (v:=?v0) rfl (by kernel_rfl) (by kernel_rfl) (by kernel_rfl) (fun _ _ _ h=>h) (Or.inl ⟨by rfl,?y0⟩) (by assumption) ?r0
 case y0 =>
  intro W hSw
  go_simp
  all_goals (with_reducible rfl)
 change wpAnyH _ _ _ _ _ _ _ (Act.put _ (some 3) _) _
 simp only [Act.put,List.setIfInBounds_toArray,List.set_cons_zero,List.set_cons_succ]
 refine wpAnyH_take (i:=1) (v:=?v1) rfl (by kernel_rfl) (by kernel_rfl) (by kernel_rfl) (fun _ _ _ h=>h) (Or.inl ⟨by rfl,?y1⟩) (by assumption) ?r1
 case y1 =>
  intro W hSw
  go_simp
  all_goals (with_reducible rfl)
 change wpAnyH _ _ _ _ _ _ _ (Act.put _ (some 4) _) _
 simp only [Act.put,List.setIfInBounds_toArray,List.set_cons_zero,List.set_cons_succ]
 refine wpAnyH_take (i:=2) (v:=?v2) rfl (by kernel_rfl) (by kernel_rfl) (by kernel_rfl) (fun _ _ _ h=>h) (Or.inl ⟨by rfl,?y2⟩) (by assumption) ?r2
 case y2 =>
  intro W hSw
  go_simp
  all_goals (with_reducible rfl)
 change wpAnyH _ _ _ _ _ _ _ (Act.put _ (some 5) _) _
 simp only [Act.put,List.setIfInBounds_toArray,List.set_cons_zero,List.set_cons_succ]
 refine wpAnyH_take (i:=3) (v:=?v3) rfl (by kernel_rfl) (by kernel_rfl) (by kernel_rfl) (fun _ _ _ h=>h) (Or.inl ⟨by rfl,?y3⟩) (by assumption) ?r3
 case y3 =>
  intro W hSw
  go_simp
  all_goals (with_reducible rfl)
 change wpAnyH _ _ _ _ _ _ _ (Act.put _ (some 6) _) _
 simp only [Act.put,List.setIfInBounds_toArray,List.set_cons_zero,List.set_cons_succ]
 refine wpAnyH_take (i:=4) (v:=?v4) rfl (by kernel_rfl) (by kernel_rfl) (by kernel_rfl) (fun _ _ _ h=>h) (Or.inl ⟨by rfl,?y4⟩) (by assumption) ?r4
 case y4 =>
  intro W hSw
  go_simp
  all_goals (with_reducible rfl)
 change wpAnyH _ _ _ _ _ _ _ (Act.put _ (some 7) _) _
 simp only [Act.put,List.setIfInBounds_toArray,List.set_cons_zero,List.set_cons_succ]
 refine wpAnyH_take (i:=5) (v:=?v5) rfl (by kernel_rfl) (by kernel_rfl) (by kernel_rfl) (fun _ _ _ h=>h) (Or.inl ⟨by rfl,?y5⟩) (by assumption) ?r5
 case y5 =>
  intro W hSw
  go_simp
  all_goals (with_reducible rfl)
 change wpAnyH _ _ _ _ _ _ _ (Act.put _ (some 8) _) _
 simp only [Act.put,List.setIfInBounds_toArray,List.set_cons_zero,List.set_cons_succ]
 refine wpAnyH_take (i:=6) (v:=?v6) rfl (by kernel_rfl) (by kernel_rfl) (by kernel_rfl) (fun _ _ _ h=>h) (Or.inl ⟨by rfl,?y6⟩) (by assumption) ?r6
 case y6 =>
  intro W hSw
  go_simp
  all_goals (with_reducible rfl)
 change wpAnyH _ _ _ _ _ _ _ (Act.put _ (some 9) _) _
 simp only [Act.put,List.setIfInBounds_toArray,List.set_cons_zero,List.set_cons_succ]
 refine wpAnyH_take (i:=8) (v:=?v8) rfl (by kernel_rfl) (by kernel_rfl) (by kernel_rfl) (fun _ _ _ h=>h) (Or.inl ⟨by rfl,?y8⟩) (by assumption) ?r8
 case y8 =>
  intro W hSw
  go_simp
  all_goals (with_reducible rfl)
 change wpAnyH _ _ _ _ _ _ _ (Act.put _ (some 11) _) _
 simp only [Act.put,List.setIfInBounds_toArray,List.set_cons_zero,List.set_cons_succ]
 refine wpAnyH_take (i:=9) (v:=?v9) rfl (by kernel_rfl) (by kernel_rfl) (by kernel_rfl) (fun _ _ _ h=>h) (Or.inl ⟨by rfl,?y9⟩) (by assumption) ?r9
 case y9 =>
  intro W hSw
  go_simp
  all_goals (with_reducible rfl)
 change wpAnyH _ _ _ _ _ _ _ (Act.put _ (some 12) _) _
 simp only [Act.put,List.setIfInBounds_toArray,List.set_cons_zero,List.set_cons_succ]
 refine wpAnyH_ready (rs:=[7]) (by kernel_rfl) (by simp) ?_
 refine AllReadyH.cons rfl (fun K hK=>?_) AllReadyH.nil
 go_simp
 refine H1.out.mono ?_
 rintro e w1 ⟨⟨v,rfl,B1,d1,r1,rfl,hn1,hrd1,hcan1,hval1⟩,hb1⟩
 have HE:=Lib.hid (can_ext hcan1 (can_trim HX.out) (hval1.trans (val_trim xs).symm))
 have HB1:=Lib.hid (HB.out.trans (hb1.mono HB.out.size))
 have X1:=Lib.hid (X0.out.below hb1)
 have HS:=Lib.hid (same_any B1 A d1 c r1 xs w1 hrd1 (HA.out.below hb1) (by have:=HL.out; rw [HE.out]; have:=trim_length_le xs; omega))
 rw [show sameB r1 xs = false from by unfold sameB; rw [HE.out]; exact HC.out] at HS
 clear hn1 hrd1 hcan1 hval1 hb1 hHeld
 refine hK.out _ _ ⟨X1.out.c0,X1.out.c1⟩ (fun hHeld=>?_)
 clear hK K
 refine wpAnyH_ready (rs:=[10]) (by kernel_rfl) (by simp) ?_
 refine AllReadyH.cons rfl (fun K hK=>?_) AllReadyH.nil
 go_simp
 refine HS.out.mono ?_
 rintro e w2 ⟨rfl,hb2⟩
 have HB2:=Lib.hid (HB1.out.trans (hb2.mono HB1.out.size))
 have X2:=Lib.hid (X1.out.below hb2)
 clear hb2 hHeld
 refine hK.out _ _ ⟨X2.out.c0,X2.out.c1⟩ (fun hHeld=>?_)
 clear hK K
 refine wpAnyH_take (i:=11) (v:=?v11) rfl (by kernel_rfl) (by kernel_rfl) (by kernel_rfl) (fun _ _ _ h=>h) (Or.inl ⟨by rfl,?y11⟩) (by assumption) ?r11
 case y11 =>
  intro W hSw
  go_simp
  all_goals (with_reducible rfl)
 change wpAnyH _ _ _ _ _ _ _ (Act.put _ (some 14) _) _
 simp only [Act.put,List.setIfInBounds_toArray,List.set_cons_zero,List.set_cons_succ]
 refine wpAnyH_take (i:=12) (v:=?v12) rfl (by kernel_rfl) (by kernel_rfl) (by kernel_rfl) (fun _ _ _ h=>h) (Or.inl ⟨by rfl,?y12⟩) (by assumption) ?r12
 case y12 =>
  intro W hSw
  go_simp
  all_goals (with_reducible rfl)
 change wpAnyH _ _ _ _ _ _ _ (Act.put _ (some 15) _) _
 simp only [Act.put,List.setIfInBounds_toArray,List.set_cons_zero,List.set_cons_succ]
 refine wpAnyH_take (i:=13) (v:=undef) rfl (by kernel_rfl) (by kernel_rfl) (by kernel_rfl) (fun _ _ _ h=>h) (Or.inr ⟨by rfl,rfl⟩) (by assumption) ?_
 change wpAnyH _ _ _ _ _ _ _ (Act.put _ (some 16) _) _
 simp only [Act.put,List.setIfInBounds_toArray,List.set_cons_zero,List.set_cons_succ]
 refine wpAnyH_take (i:=14) (v:=undef) rfl (by kernel_rfl) (by kernel_rfl) (by kernel_rfl) (fun _ _ _ h=>h) (Or.inr ⟨by rfl,rfl⟩) (by assumption) ?_
 change wpAnyH _ _ _ _ _ _ _ (Act.put _ (some 17) _) _
 simp only [Act.put,List.setIfInBounds_toArray,List.set_cons_zero,List.set_cons_succ]
 refine wpAnyH_take (i:=15) (v:=undef) rfl (by kernel_rfl) (by kernel_rfl) (by kernel_rfl) (fun _ _ _ h=>h) (Or.inr ⟨by rfl,rfl⟩) (by assumption) ?_
 change wpAnyH _ _ _ _ _ _ _ (Act.put _ (some 18) _) _
 simp only [Act.put,List.setIfInBounds_toArray,List.set_cons_zero,List.set_cons_succ]
 refine wpAnyH_take (i:=16) (v:=undef) rfl (by kernel_rfl) (by kernel_rfl) (by kernel_rfl) (fun _ _ _ h=>h) (Or.inr ⟨by rfl,rfl⟩) (by assumption) ?_
 change wpAnyH _ _ _ _ _ _ _ (Act.put _ (some 19) _) _
 simp only [Act.put,List.setIfInBounds_toArray,List.set_cons_zero,List.set_cons_succ]
 refine wpAnyH_take (i:=17) (v:=undef) rfl (by kernel_rfl) (by kernel_rfl) (by kernel_rfl) (fun _ _ _ h=>h) (Or.inr ⟨by rfl,rfl⟩) (by assumption) ?_
 change wpAnyH _ _ _ _ _ _ _ (Act.put _ (some 20) _) _
 simp only [Act.put,List.setIfInBounds_toArray,List.set_cons_zero,List.set_cons_succ]
 refine wpAnyH_take (i:=18) (v:=undef) rfl (by kernel_rfl) (by kernel_rfl) (by kernel_rfl) (fun _ _ _ h=>h) (Or.inr ⟨by rfl,rfl⟩) (by assumption) ?_
 change wpAnyH _ _ _ _ _ _ _ (Act.put _ (some 21) _) _
 simp only [Act.put,List.setIfInBounds_toArray,List.set_cons_zero,List.set_cons_succ]
 refine wpAnyH_take (i:=19) (v:=undef) rfl (by kernel_rfl) (by kernel_rfl) (by kernel_rfl) (fun _ _ _ h=>h) (Or.inr ⟨by rfl,rfl⟩) (by assumption) ?_
 change wpAnyH _ _ _ _ _ _ _ (Act.put _ (some 22) _) _
 simp only [Act.put,List.setIfInBounds_toArray,List.set_cons_zero,List.set_cons_succ]
 refine wpAnyH_take (i:=20) (v:=undef) rfl (by kernel_rfl) (by kernel_rfl) (by kernel_rfl) (fun _ _ _ h=>h) (Or.inr ⟨by rfl,rfl⟩) (by assumption) ?_
 change wpAnyH _ _ _ _ _ _ _ (Act.put _ (some 23) _) _
 simp only [Act.put,List.setIfInBounds_toArray,List.set_cons_zero,List.set_cons_succ]
 refine wpAnyH_take (i:=21) (v:=undef) rfl (by kernel_rfl) (by kernel_rfl) (by kernel_rfl) (fun _ _ _ h=>h) (Or.inr ⟨by rfl,rfl⟩) (by assumption) ?_
 change wpAnyH _ _ _ _ _ _ _ (Act.put _ (some 24) _) _
 simp only [Act.put,List.setIfInBounds_toArray,List.set_cons_zero,List.set_cons_succ]
 refine wpAnyH_take (i:=22) (v:=?v22) rfl (by kernel_rfl) (by kernel_rfl) (by kernel_rfl) (fun _ _ _ h=>h) (Or.inl ⟨by rfl,?y22⟩) (by assumption) ?r22
 case y22 =>
  intro W hSw
  go_simp
  all_goals (with_reducible rfl)
 change wpAnyH _ _ _ _ _ _ _ (Act.put _ (some 25) _) _
 simp only [Act.put,List.setIfInBounds_toArray,List.set_cons_zero,List.set_cons_succ]
 refine wpAnyH_take (i:=23) (v:=?v23) rfl (by kernel_rfl) (by kernel_rfl) (by kernel_rfl) (fun _ _ _ h=>h) (Or.inl ⟨by rfl,?y23⟩) (by assumption) ?r23
 case y23 =>
  intro W hSw
  go_simp
  all_goals (with_reducible rfl)
 change wpAnyH _ _ _ _ _ _ _ (Act.put _ (some 2) _) _
 simp only [Act.put,List.setIfInBounds_toArray,List.set_cons_zero,List.set_cons_succ]
 refine wpAnyH_done (by kernel_rfl) ?_ _
 go_wp2
 go_ret
 exact ⟨rfl,HB2.out⟩
theorem rright_any (s : Bool) (A : Option Addr) (c : Nat) (xs : List Nat) (w : World) (ha : Rd w A xs) (hx : Lm xs) (hca : xs.length ≤ c) (hcm : c ≤ 9223372036854775807) (hnil : A = none → xs.length = 0∧c = 0) :
  Calls Tryz.prog 83 #[.agg #[.bool s,.slice A xs.length c]] w fun e w'=>e = .returned (.bool (rightB s xs))∧Below w.heap.size w w':=by
 by_cases hl : xs.length ≤ 64
 ·by_cases hc : trim xs = xs
  ·cases s with
   | false =>
    rw [show rightB false xs = true from decide_eq_true ⟨hl,hc,by simp⟩]
    exact rright_plus A c xs w ha hx hl hnil (decide_eq_true hc)
   | true =>
    by_cases h0 : xs.length = 0
    ·rw [show rightB true xs = false from decide_eq_false fun h=>h.2.2 ⟨rfl,h0⟩]
     exact rright_nought A c xs w ha hx hl hnil (decide_eq_true hc) h0
    ·rw [show rightB true xs = true from decide_eq_true ⟨hl,hc,fun h=>h0 h.2⟩]
     exact rright_minus A c xs w ha hx hl hnil (decide_eq_true hc) (by omega)
  ·rw [show rightB s xs = false from decide_eq_false fun h=>hc h.2.1]
   exact rright_untrimmed s A c xs w ha hx hl hnil (decide_eq_false hc)
 ·rw [show rightB s xs = false from decide_eq_false fun h=>hl h.1]
  exact rright_long s A c xs w (by omega) (by omega)
theorem intV_of {s : Bool} {A : Option Addr} {c : Nat} {xs : List Nat} {w : World} (hr : rightB s xs = true) (ha : Rd w A xs) (hx : Lm xs) (hca : xs.length ≤ c) (hcm : c ≤ 9223372036854775807) :
  IntV w (.agg #[.bool s,.slice A xs.length c]) (sg s (val xs))∧¬ BigI (sg s (val xs)):=by
 obtain ⟨h1,h2,h3,h4,h5⟩:=right_parts hr hx
 refine ⟨⟨A,c,xs,?_,hca,hcm,ha,h2,h4⟩,h5⟩
 rw [← h3]
end LM
end Go.Proofs.YtaonablbgicmpaaGreatDoor
