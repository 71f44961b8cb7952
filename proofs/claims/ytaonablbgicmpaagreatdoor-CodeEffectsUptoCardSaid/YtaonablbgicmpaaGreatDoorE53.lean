import Derived.Test.YtaonablbgicmpaaGreatDoorE50
import Derived.Test.YtaonablbgicmpaaGreatDoorE52
import Derived.Test.YtaonablbgicmpaaGreatDoorE46
set_option linter.unusedVariables false
set_option linter.unusedSimpArgs false
set_option maxRecDepth 100000
set_option maxHeartbeats 16000000
namespace Go.Proofs.YtaonablbgicmpaaGreatDoor
open Go Go.RowKit
namespace LM
attribute [local go_sem] run_store_flt
theorem ceffects_by (op a b : Int) (c : Cod) (w : World) (hv : CodV w c) (hok : c.Ok)
  (hal : ∀ W,Below w.heap.size w W → Calls Tryz.prog 4 #[] W fun e w'=>e = .returned (.bool true)∧Below W.heap.size W w')
  (hR : greatB c = false → ∀ W,Below w.heap.size w W → Calls Tryz.prog 6 #[codA c] W fun e w'=>RB e∧Below W.heap.size W w') :
  Calls Tryz.prog 3 #[insA ⟨op,a,b⟩,codA c] w fun e w'=>e = .returned (.bool true)∧Below w.heap.size w w':=by
 obtain ⟨W0,hW0⟩ : ∃ W0,(w.alloc (insO ⟨op,a,b⟩)).alloc (codO c) = W0:=⟨_,rfl⟩
 have hb0 : Below w.heap.size w W0:=by rw [← hW0]; exact ((Below.refl _ w).alloc (Nat.le_refl _) _).alloc (by simp) _
 have hO : Obs W0 [(w.heap.size + 1,codO c),(w.heap.size,insO ⟨op,a,b⟩)]:=by
  rw [← hW0]
  have h1:=(Obs.nil.new (w:=w) (insO ⟨op,a,b⟩)).new (codO c)
  simp only [World.size_alloc] at h1
  exact h1
 have BI : Hid (∀ W,Below W0.heap.size W0 W → I3 W w.heap.size 0 ⟨op,a,b⟩):=Lib.hid fun W hW=>I3.of_block (hO.below hW).tl.hd
 have BC : Hid (∀ W,Below W0.heap.size W0 W → K3 W (w.heap.size + 1) 0 c):=Lib.hid fun W hW=>K3.of_block (hO.below hW).hd
 have AL:=Lib.hid hal
 have GR:=Lib.hid fun W=>cgreat_any c W
 have RR:=Lib.hid hR
 have HV:=Lib.hid hv
 have HOK:=Lib.hid hok
 obtain ⟨g,hg⟩ : ∃ g,greatB c = g:=⟨_,rfl⟩
 rw [hg] at GR RR
 have HB0:=Lib.hid hb0
 have HW0:=Lib.hid hW0
 clear hal hR hv hok hg hO hW0 hb0
 go_enter Tryz.func3,Tryz.ntmps3
 go_wp2_with (fail)
 rw [HW0.out]
 refine (AL.out _ HB0.out).mono ?_
 rintro e w1 ⟨rfl,hb1⟩
 have HB1:=Lib.hid (show Below W0.heap.size W0 w1 from hb1)
 obtain ⟨y0,y1,y2⟩:=BC.out _ HB1.out
 simp only [Nat.zero_add] at y0 y1 y2
 clear hb1
 go_wp2_with (fail)
 refine (GR.out _).mono ?_
 rintro e w2 ⟨rfl,hb2⟩
 have HB2:=Lib.hid (bel_trans (B:=W0.heap.size) HB1.out hb2)
 clear hb2 y0 y1 y2
 rcases (by cases g <;> simp : g = true ∨ g = false) with rfl | rfl
 ·go_wp2_with (fail)
  go_ret
  exact ⟨rfl,bel_trans (B:=w.heap.size) HB0.out HB2.out⟩
 have RR2:=Lib.hid (RR.out rfl)
 clear RR
 obtain ⟨y0,y1,y2⟩:=BC.out _ HB2.out
 simp only [Nat.zero_add] at y0 y1 y2
 go_wp2_with (fail)
 refine (RR2.out _ (bel_trans (B:=w.heap.size) HB0.out HB2.out)).mono ?_
 rintro e w3 ⟨⟨rb,rfl⟩,hb3⟩
 have HB3:=Lib.hid (bel_trans (B:=W0.heap.size) HB2.out hb3)
 clear hb3 y0 y1 y2
 cases rb
 ·go_wp2_with (fail)
  go_ret
  exact ⟨rfl,bel_trans (B:=w.heap.size) HB0.out HB3.out⟩
 obtain ⟨y0,y1,y2⟩:=BC.out _ HB3.out
 obtain ⟨x0,x1,x2⟩:=BI.out _ HB3.out
 simp only [Nat.zero_add] at y0 y1 y2 x0 x1 x2
 by_cases ha0 : a < 0
 ·have d1 : decide (a < 0) = true:=decide_eq_true ha0
  go_wp2_with (fail)
  go_ret
  exact ⟨rfl,bel_trans (B:=w.heap.size) HB0.out HB3.out⟩
 by_cases ha1 : 16777215 < a
 ·have d1 : decide (a < 0) = false:=decide_eq_false ha0
  have d2 : decide (16777215 < a) = true:=decide_eq_true ha1
  go_wp2_with (fail)
  go_ret
  exact ⟨rfl,bel_trans (B:=w.heap.size) HB0.out HB3.out⟩
 have d1 : decide (a < 0) = false:=decide_eq_false ha0
 have d2 : decide (16777215 < a) = false:=decide_eq_false ha1
 obtain ⟨n,rfl⟩ : ∃ n : Nat,a = (n : Int):=⟨a.toNat,by omega⟩
 obtain ⟨k,hk⟩ : ∃ k,effK op n (frV c.ps n) = k:=⟨_,rfl⟩
 obtain ⟨m,hm⟩ : ∃ m,effM op = m:=⟨_,rfl⟩
 have C1:=Lib.hid fun W (hW : Below w.heap.size w W)=>ceffect_any op n (by omega) b c W (HV.out.below hW) HOK.out
 have C2:=Lib.hid fun W (hW : Below w.heap.size w W)=>rceffect_any op n (by omega) b c W (HV.out.below hW) HOK.out.ps
 rw [hk,hm] at C1 C2
 clear hk hm ha0 ha1
 go_wp2_with (fail)
 refine (C1.out _ (bel_trans (B:=w.heap.size) HB0.out HB3.out)).mono ?_
 rintro e w4 ⟨rfl,hb4⟩
 have HB4:=Lib.hid (bel_trans (B:=W0.heap.size) HB3.out hb4)
 clear hb4 x0 x1 x2 y0 y1 y2
 obtain ⟨y0,y1,y2⟩:=BC.out _ HB4.out
 obtain ⟨x0,x1,x2⟩:=BI.out _ HB4.out
 simp only [Nat.zero_add] at y0 y1 y2 x0 x1 x2
 go_wp2_with (fail)
 refine (C2.out _ (bel_trans (B:=w.heap.size) HB0.out HB4.out)).mono ?_
 rintro e w5 ⟨rfl,hb5⟩
 have HB5:=Lib.hid (bel_trans (B:=W0.heap.size) HB4.out hb5)
 clear hb5
 have e1 : (k == k) = true:=beq_self_eq_true k
 have e2 : (m == m) = true:=beq_self_eq_true m
 go_wp2_with (fail)
 go_ret
 exact ⟨by first | rfl | simp,bel_trans (B:=w.heap.size) HB0.out HB5.out⟩
end LM
end Go.Proofs.YtaonablbgicmpaaGreatDoor
