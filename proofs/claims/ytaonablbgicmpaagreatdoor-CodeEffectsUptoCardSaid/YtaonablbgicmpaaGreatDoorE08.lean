import Derived.Test.YtaonablbgicmpaaGreatDoorE07
import Derived.Test.YtaonablbgicmpaaGreatDoorE03
import Derived.Handy
import Derived.Deep.RegionHeld3
set_option linter.unusedVariables false
set_option linter.unusedSimpArgs false
set_option maxRecDepth 100000
set_option maxHeartbeats 16000000
namespace Go.Proofs.YtaonablbgicmpaaGreatDoor
open Go.RowKit
namespace LM
end LM
namespace LM
def cmpS (a : Bool) (m : Nat) (b : Bool) (n : Nat) : Int:=if a then (if b then cmpN n m else -1) else (if b then 1 else cmpN m n)
theorem ecmp_any (a b : Bool) (A B : Option Addr) (ca cb : Nat) (xs ys : List Nat) (w : World) (ha : Rd w A xs) (hb : Rd w B ys) (hx : Lm xs) (hy : Lm ys) (hca : xs.length ≤ ca) (hcb : ys.length ≤ cb) (hcam : ca ≤ 9223372036854775807) (hcbm : cb ≤ 9223372036854775807) (hxl : xs.length ≤ 1000000) (hyl : ys.length ≤ 1000000) :
  Calls Tryz.prog 157 #[.agg #[.bool a,.slice A xs.length ca],.agg #[.bool b,.slice B ys.length cb]] w fun e w'=>e = .returned (.int .i64 (cmpS a (val xs) b (val ys)))∧Below w.heap.size w w':=by
 have h1:=fun W (k : Below w.heap.size w W)=>cmp_any A B ca cb xs ys W (ha.below k) (hb.below k) hx hy hca hcb hcam hcbm hxl
 have h2:=fun W (k : Below w.heap.size w W)=>cmp_any B A cb ca ys xs W (hb.below k) (ha.below k) hy hx hcb hca hcbm hcam hyl
 have H1:=Lib.hid h1
 have H2:=Lib.hid h2
 have bw : ∀ o1 o2 : Obj,Below w.heap.size w ((w.alloc o1).alloc o2):=fun o1 o2=>((Below.refl _ w).alloc (Nat.le_refl _) _).alloc (by simp) _
 have BW:=Lib.hid bw
 clear h1 h2 ha hb bw
 cases a <;> cases b
 ·go_enter Tryz.func157,Tryz.ntmps157
  go_wp2_with fail
  refine (H1.out _ (BW.out _ _)).mono ?_
  rintro e w1 ⟨rfl,b1⟩
  go_wp2
  go_ret
  exact ⟨rfl,(BW.out _ _).trans (b1.mono (by simp; omega))⟩
 ·go_enter Tryz.func157,Tryz.ntmps157
  go_wp2
  go_ret
  exact ⟨rfl,BW.out _ _⟩
 ·go_enter Tryz.func157,Tryz.ntmps157
  go_wp2
  go_ret
  exact ⟨rfl,BW.out _ _⟩
 ·go_enter Tryz.func157,Tryz.ntmps157
  go_wp2_with fail
  refine (H2.out _ (BW.out _ _)).mono ?_
  rintro e w1 ⟨rfl,b1⟩
  go_wp2
  go_ret
  exact ⟨rfl,(BW.out _ _).trans (b1.mono (by simp; omega))⟩
theorem cmpI_sg2 (s t : Bool) (m n : Nat) (hs : s = (s && decide (0 < m))) (ht : t = (t && decide (0 < n))) : cmpI (sg s m) (sg t n) = cmpS s m t n:=by
 refine cmpI_sg s t m n (fun h=>?_) (fun h=>?_)
 ·subst h; simp at hs; exact hs
 ·subst h; simp at ht; exact ht
theorem ecmp_int {va vb : Value} {x y : Int} {w : World} (ha : IntV w va x) (hb : IntV w vb y) (hx : ¬ BigI x) (hy : ¬ BigI y) :
  Calls Tryz.prog 157 #[va,vb] w fun e w'=>e = .returned (.int .i64 (cmpI x y))∧Below w.heap.size w w':=by
 obtain ⟨A,ca,xs,rfl,h1,h2,h3,h4,h5⟩:=ha
 obtain ⟨B,cb,ys,rfl,k1,k2,k3,k4,k5⟩:=hb
 have l1 : xs.length ≤ 64:=len_not_big h4 (by rw [h5]; exact hx)
 have l2 : ys.length ≤ 64:=len_not_big k4 (by rw [k5]; exact hy)
 have h:=ecmp_any (decide (x < 0)) (decide (y < 0)) A B ca cb xs ys w h3 k3 h4.1 k4.1 h1 k1 h2 k2 (by omega) (by omega)
 rw [h5,k5,← cmpI_sg2 _ _ _ _ (by rw [← sg_neg,sg_of]) (by rw [← sg_neg,sg_of]),sg_of,sg_of] at h
 exact h
theorem cmpI_zero {x y : Int} : (cmpI x y == 0) = decide (x = y):=by
 unfold cmpI
 by_cases h : x < y
 ·rw [if_pos h,decide_eq_false (by omega)]; rfl
 ·rw [if_neg h]
  by_cases h2 : y < x
  ·rw [if_pos h2,decide_eq_false (by omega)]; rfl
  ·rw [if_neg h2,decide_eq_true (by omega)]; rfl
theorem IntV.bx {w : World} {v : Value} {z : Int} (h : IntV w v z) : ∃ A n c,v = .agg #[.bool (decide (z < 0)),.slice A n c]:=by
 obtain ⟨A,n,c,e,_⟩:=h.open
 exact ⟨A,n,c,e⟩
theorem newp2 (w : World) (s t : Bool) (A B : Option Addr) (n c m d : Nat) :
  Below w.heap.size w ((w.alloc (.cells #[.bool s,.slice A n c] 40)).alloc (.cells #[.bool t,.slice B m d] 40)) ∧
  Bx ((w.alloc (.cells #[.bool s,.slice A n c] 40)).alloc (.cells #[.bool t,.slice B m d] 40)) w.heap.size s A n c ∧
  Bx ((w.alloc (.cells #[.bool s,.slice A n c] 40)).alloc (.cells #[.bool t,.slice B m d] 40)) (w.heap.size + 1) t B m d:=by
 refine ⟨((Below.refl _ w).alloc (Nat.le_refl _) _).alloc (by simp) _,(Bx.new w s A n c).alloc _,?_⟩
 have h:=Bx.new (w.alloc (.cells #[.bool s,.slice A n c] 40)) t B m d
 rw [World.size_alloc] at h
 exact h
theorem esame_int {va vb : Value} {x y : Int} {w : World} (ha : IntV w va x) (hb : IntV w vb y) (hx : ¬ BigI x) (hy : ¬ BigI y) :
  Calls Tryz.prog 117 #[va,vb] w fun e w'=>e = .returned (.bool (decide (x = y)))∧Below w.heap.size w w':=by
 obtain ⟨A,n,c,rfl⟩:=ha.bx
 obtain ⟨B,m,d,rfl⟩:=hb.bx
 generalize decide (x < 0) = s at *
 generalize decide (y < 0) = t at *
 obtain ⟨hb0,x0,y0⟩:=newp2 w s t A B n c m d
 have H1:=Lib.hid (ecmp_int (ha.keep hb0) (hb.keep hb0) hx hy)
 have HB:=Lib.hid hb0
 have HZ:=Lib.hid (@cmpI_zero x y)
 clear hb0 x0 y0 ha hb hx hy
 go_enter Tryz.func117,Tryz.ntmps117
 go_wp2_with fail
 refine H1.out.mono ?_
 rintro e w1 ⟨rfl,hb1⟩
 have HB1:=Lib.hid (HB.out.trans (hb1.mono HB.out.size))
 clear hb1
 go_wp2
 go_ret
 exact ⟨by rw [HZ.out]; rfl,HB1.out⟩
end LM
end Go.Proofs.YtaonablbgicmpaaGreatDoor
