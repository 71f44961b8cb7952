import Derived.Test.YtaonablbgicmpaaGreatDoorE35
import Derived.Test.YtaonablbgicmpaaGreatDoorE48
set_option linter.unusedVariables false
set_option linter.unusedSimpArgs false
set_option maxRecDepth 100000
set_option maxHeartbeats 16000000
namespace Go.Proofs.YtaonablbgicmpaaGreatDoor
open Go Go.RowKit
namespace LM
attribute [local go_sem] run_store_flt
def RB (e : Ending) : Prop:=∃ b,e = .returned (.bool b)
theorem rcnum_any (n : Int) (w : World) : Calls Tryz.prog 12 #[.int .i64 n] w fun e w'=>e = .returned (.bool (numB n))∧w = w':=by
 obtain ⟨b1,h1⟩ : ∃ b,decide (0 ≤ n) = b:=⟨_,rfl⟩
 obtain ⟨b2,h2⟩ : ∃ b,decide (n ≤ 16777215) = b:=⟨_,rfl⟩
 have HQ : Hid (numB n = (b1 && b2)):=Lib.hid (by unfold numB; rw [h1,h2])
 cases b1 <;> cases b2
 all_goals
  go_enter Tryz.func12,Tryz.ntmps12
  go_wp2_with (fail)
  go_ret
  exact ⟨by rw [HQ.out]; rfl,rfl⟩
theorem rcright_some (c : Cod) (w : World) (hv : CodV w c) (hpr : ∀ p ∈ c.ps,p.code.length ≤ p.cap∧p.cap ≤ 9223372036854775807) (h1 : c.ps.length ≤ 4000) (h2 : c.kids.len ≤ 4000) (h3 : c.gs.length ≤ 4000)
  (hq : ∀ hh k j r,c.kids.drop j = .cons hh k r → ∃ b,(∀ W,Below w.heap.size w W → Calls Tryz.prog 13 #[datA hh k.len] W fun e w'=>e = .returned (.bool b)∧Below W.heap.size W w') ∧
   (b = true → ∃ t : ByteArray,∀ W,Below w.heap.size w W → Calls Tryz.prog 14 #[datA hh k.len] W fun e w'=>e = .returned (.string t)∧Below W.heap.size W w')) :
  Calls Tryz.prog 6 #[codA c] w fun e w'=>RB e∧Below w.heap.size w w':=by
 obtain ⟨W0,hW0,hb0,ho,hs0,hz0⟩:=cod_block w c
 obtain ⟨PB,pc,ps,CB,cc,kids,GB,gc,gs⟩:=c
 obtain ⟨b,off,hB,hF⟩:=(hv.below hb0).ps
 obtain ⟨cb,coff,hCB,hCF⟩:=(hv.below hb0).kids
 obtain ⟨gb,goff,hGB,hGF⟩:=(hv.below hb0).gs
 dsimp only [codA,codO] at *
 have HV : Hid (∀ p ∈ ps,PrV W0 p):=Lib.hid fun p hp=>(hv.pv p hp).below hb0
 have HPR:=Lib.hid hpr
 have K0 : Hid (∀ W,Below W0.heap.size W0 W → K3 W w.heap.size 0 ⟨PB,pc,ps,CB,cc,kids,GB,gc,gs⟩):=Lib.hid fun W hW=>K3.of_block ((hW.block _ (by omega)).trans ho)
 have HB0:=Lib.hid hb0
 have HW0:=Lib.hid hW0
 have HF:=Lib.hid hF
 have HB:=Lib.hid hB
 have HCF:=Lib.hid hCF
 have HCB:=Lib.hid hCB
 have HGF:=Lib.hid hGF
 have HGB:=Lib.hid hGB
 have HQ:=Lib.hid hq
 have H1:=Lib.hid h1
 have H2:=Lib.hid h2
 have H3:=Lib.hid h3
 obtain ⟨y0,y1,y2⟩:=K0.out _ (Below.refl _ _)
 simp only [Nat.zero_add] at y0 y1 y2
 have d1 : decide ((4000 : Int) < (ps.length : Int)) = false:=decide_eq_false (by omega)
 have d2 : decide ((4000 : Int) < (kids.len : Int)) = false:=decide_eq_false (by omega)
 have d3 : decide ((4000 : Int) < (gs.length : Int)) = false:=decide_eq_false (by omega)
 have d1' : decide (4000 < ps.length) = false:=decide_eq_false (by omega)
 have d2' : decide (4000 < kids.len) = false:=decide_eq_false (by omega)
 have d3' : decide (4000 < gs.length) = false:=decide_eq_false (by omega)
 clear hW0 hb0 ho hs0 hz0 hv hpr hq hF hB hCF hCB hGF hGB h1 h2 h3
 go_enter Tryz.func6,Tryz.ntmps6
 go_wp2_with (fail)
 rw [HW0.out]
 go_wp2_with (fail)
 go_loopg [3,31] ps.length (fun kk n i wr=>Below W0.heap.size W0 wr∧∃ j : Nat,j ≤ ps.length∧kk = ps.length - j∧i = .int .i64 (j : Int)∧∃ a : Nat,n = .int .i64 (a : Int)∧a ≤ 40000)
 case atStart=>exact ⟨Below.refl _ _,0,Nat.zero_le _,rfl,rfl,0,rfl,by decide⟩
 case round =>
  obtain ⟨hbr,j,hj,rfl,rfl,a,rfl,ha⟩:=hrel
  have HBR:=Lib.hid hbr
  clear hbr y0 y1 y2
  by_cases hjl : j < ps.length
  ·obtain ⟨p,hp,hdr⟩:=drop_at hjl
   have hBe:=HB.out (by omega)
   rw [hBe]
   obtain ⟨hbl,x0,x1,x2,x3,x4,x5,x6⟩:=(HF.out.below HBR.out) j p hp
   obtain ⟨W1,hW1⟩ : ∃ W1,wr.alloc (prO p) = W1:=⟨_,rfl⟩
   have hb1 : Below wr.heap.size wr W1:=by rw [← hW1]; exact (Below.refl _ wr).alloc (Nat.le_refl _) _
   have ho1 : W1.heap[wr.heap.size]? = some (prO p):=by rw [← hW1]; unfold World.alloc; simp
   have hs1 : wr.heap.size < W1.heap.size:=by rw [← hW1]; simp
   have HB1:=Lib.hid (bel_trans (B:=W0.heap.size) HBR.out hb1)
   have KP : Hid (∀ W,Below W1.heap.size W1 W → P7 W wr.heap.size 0 p):=Lib.hid fun W hW=>P7.of_block ((hW.block _ hs1).trans ho1)
   have hpv:=(HV.out p (List.mem_of_getElem? hp)).below HB1.out
   obtain ⟨ib,io,hIB,hIF⟩:=hpv
   have hcap:=HPR.out p (List.mem_of_getElem? hp)
   have HIB:=Lib.hid hIB
   have HIF:=Lib.hid hIF
   have HW1:=Lib.hid hW1
   have q1 : (p.code.length : Int) ≤ (p.cap : Int):=by omega
   have q2 : (p.cap : Int) ≤ 9223372036854775807:=by omega
   have HC:=Lib.hid hcap
   dsimp only [prO] at HW1
   have w1 : IntKind.i64.wrap ((40000 : Int) - (a : Int)) = (40000 : Int) - (a : Int):=by rw [IntKind.wrap_i64]; omega
   obtain ⟨b1,e1⟩ : ∃ b,numB p.pa = b:=⟨_,rfl⟩
   obtain ⟨b3,e3⟩ : ∃ b,numB p.sl = b:=⟨_,rfl⟩
   obtain ⟨b4,e4⟩ : ∃ b,numB p.de = b:=⟨_,rfl⟩
   obtain ⟨b5,e5⟩ : ∃ b,numB p.fr = b:=⟨_,rfl⟩
   have N1:=Lib.hid fun W=>rcnum_any p.pa W
   have N3:=Lib.hid fun W=>rcnum_any p.sl W
   have N4:=Lib.hid fun W=>rcnum_any p.de W
   have N5:=Lib.hid fun W=>rcnum_any p.fr W
   rw [e1] at N1
   rw [e3] at N3
   rw [e4] at N4
   rw [e5] at N5
   obtain ⟨z0,z1,z2,z3,z4,z5,z6⟩:=KP.out _ (Below.refl _ _)
   simp only [Nat.zero_add] at z0 z1 z2 z3 z4 z5 z6
   clear hdr hp hW1 hb1 ho1 hs1 hIB hIF e1 e3 e4 e5 hcap
   by_cases c1 : (40000 : Int) - (a : Int) < (p.code.length : Int)
   ·have g1 : decide ((40000 : Int) - (a : Int) < (p.code.length : Int)) = true:=decide_eq_true c1
    go_wp2_with (fail)
    rw [HW1.out]
    go_wp2_with (fail)
    go_ret
    exact ⟨⟨_,rfl⟩,bel_trans (B:=w.heap.size) HB0.out HB1.out⟩
   have g1 : decide ((40000 : Int) - (a : Int) < (p.code.length : Int)) = false:=decide_eq_false c1
   by_cases c2 : 100 < p.nm.size
   ·have g2 : decide ((100 : Int) < (p.nm.size : Int)) = true:=decide_eq_true (by omega)
    have g2' : decide (100 < p.nm.size) = true:=decide_eq_true c2
    go_wp2_with (fail)
    rw [HW1.out]
    go_wp2_with (fail)
    go_ret
    exact ⟨⟨_,rfl⟩,bel_trans (B:=w.heap.size) HB0.out HB1.out⟩
   have g2 : decide ((100 : Int) < (p.nm.size : Int)) = false:=decide_eq_false (by omega)
   have g2' : decide (100 < p.nm.size) = false:=decide_eq_false c2
   cases b1
   ·go_wp2_with (fail)
    rw [HW1.out]
    go_wp2_with (fail)
    refine (N1.out _).mono ?_
    rintro e9 w9 ⟨rfl,rfl⟩
    go_wp2_with (fail)
    go_ret
    exact ⟨⟨_,rfl⟩,bel_trans (B:=w.heap.size) HB0.out HB1.out⟩
   cases b3
   ·go_wp2_with (fail)
    rw [HW1.out]
    go_wp2_with (fail)
    refine (N1.out _).mono ?_
    rintro e9 w9 ⟨rfl,rfl⟩
    go_wp2_with (fail)
    refine (N3.out _).mono ?_
    rintro e9 w9 ⟨rfl,rfl⟩
    go_wp2_with (fail)
    go_ret
    exact ⟨⟨_,rfl⟩,bel_trans (B:=w.heap.size) HB0.out HB1.out⟩
   cases b4
   ·go_wp2_with (fail)
    rw [HW1.out]
    go_wp2_with (fail)
    refine (N1.out _).mono ?_
    rintro e9 w9 ⟨rfl,rfl⟩
    go_wp2_with (fail)
    refine (N3.out _).mono ?_
    rintro e9 w9 ⟨rfl,rfl⟩
    go_wp2_with (fail)
    refine (N4.out _).mono ?_
    rintro e9 w9 ⟨rfl,rfl⟩
    go_wp2_with (fail)
    go_ret
    exact ⟨⟨_,rfl⟩,bel_trans (B:=w.heap.size) HB0.out HB1.out⟩
   cases b5
   ·go_wp2_with (fail)
    rw [HW1.out]
    go_wp2_with (fail)
    refine (N1.out _).mono ?_
    rintro e9 w9 ⟨rfl,rfl⟩
    go_wp2_with (fail)
    refine (N3.out _).mono ?_
    rintro e9 w9 ⟨rfl,rfl⟩
    go_wp2_with (fail)
    refine (N4.out _).mono ?_
    rintro e9 w9 ⟨rfl,rfl⟩
    go_wp2_with (fail)
    refine (N5.out _).mono ?_
    rintro e9 w9 ⟨rfl,rfl⟩
    go_wp2_with (fail)
    go_ret
    exact ⟨⟨_,rfl⟩,bel_trans (B:=w.heap.size) HB0.out HB1.out⟩
   go_wp2_with (fail)
   rw [HW1.out]
   go_wp2_with (fail)
   refine (N1.out _).mono ?_
   rintro e9 w9 ⟨rfl,rfl⟩
   go_wp2_with (fail)
   refine (N3.out _).mono ?_
   rintro e9 w9 ⟨rfl,rfl⟩
   go_wp2_with (fail)
   refine (N4.out _).mono ?_
   rintro e9 w9 ⟨rfl,rfl⟩
   go_wp2_with (fail)
   refine (N5.out _).mono ?_
   rintro e9 w9 ⟨rfl,rfl⟩
   go_wp2_with (fail)
   have wa : IntKind.i64.wrap ((a : Int) + (p.code.length : Int)) = ((a + p.code.length : Nat) : Int):=by rw [IntKind.wrap_i64]; omega
   try simp only [wa]
   go_wp2_with (fail)
   go_loopg [79] p.code.length (fun kk i wx=>Below W1.heap.size W1 wx∧∃ m : Nat,m ≤ p.code.length∧kk = p.code.length - m∧i = .int .i64 (m : Int))
   case atStart=>exact ⟨Below.refl _ _,0,Nat.zero_le _,rfl,rfl⟩
   case round =>
    obtain ⟨hbx,m,hm,rfl,rfl⟩:=hrel
    have HBX:=Lib.hid hbx
    clear hbx z0 z1 z2 z3 z4 z5 z6
    by_cases hml : m < p.code.length
    ·obtain ⟨x,hx,hdx⟩:=drop_at hml
     have hIBe:=HIB.out (by omega)
     rw [hIBe]
     obtain ⟨hibl,v0,v1,v2⟩:=(HIF.out.below HBX.out) m x hx
     obtain ⟨W2,hW2⟩ : ∃ W2,wr.alloc (insO x) = W2:=⟨_,rfl⟩
     have hb2 : Below wr.heap.size wr W2:=by rw [← hW2]; exact (Below.refl _ wr).alloc (Nat.le_refl _) _
     have ho2 : W2.heap[wr.heap.size]? = some (insO x):=by rw [← hW2]; unfold World.alloc; simp
     have HB2:=Lib.hid (bel_trans (B:=W1.heap.size) HBX.out hb2)
     have HW2:=Lib.hid hW2
     dsimp only [insO] at HW2
     obtain ⟨u0,u1,u2⟩:=I3.of_block ho2
     simp only [Nat.zero_add] at u0 u1 u2
     obtain ⟨r1,f1⟩ : ∃ b,numB x.op = b:=⟨_,rfl⟩
     obtain ⟨r2,f2⟩ : ∃ b,numB x.a = b:=⟨_,rfl⟩
     obtain ⟨r3,f3⟩ : ∃ b,numB x.b = b:=⟨_,rfl⟩
     have M1:=Lib.hid fun W=>rcnum_any x.op W
     have M2:=Lib.hid fun W=>rcnum_any x.a W
     have M3:=Lib.hid fun W=>rcnum_any x.b W
     rw [f1] at M1
     rw [f2] at M2
     rw [f3] at M3
     clear hx hdx hW2 hb2 ho2 f1 f2 f3
     cases r1
     ·go_wp2_with (fail)
      rw [HW2.out]
      go_wp2_with (fail)
      refine (M1.out _).mono ?_
      rintro e9 w9 ⟨rfl,rfl⟩
      go_wp2_with (fail)
      go_ret
      exact ⟨⟨_,rfl⟩,bel_trans (B:=w.heap.size) HB0.out (bel_trans (B:=W0.heap.size) HB1.out HB2.out)⟩
     cases r2
     ·go_wp2_with (fail)
      rw [HW2.out]
      go_wp2_with (fail)
      refine (M1.out _).mono ?_
      rintro e9 w9 ⟨rfl,rfl⟩
      go_wp2_with (fail)
      refine (M2.out _).mono ?_
      rintro e9 w9 ⟨rfl,rfl⟩
      go_wp2_with (fail)
      go_ret
      exact ⟨⟨_,rfl⟩,bel_trans (B:=w.heap.size) HB0.out (bel_trans (B:=W0.heap.size) HB1.out HB2.out)⟩
     cases r3
     ·go_wp2_with (fail)
      rw [HW2.out]
      go_wp2_with (fail)
      refine (M1.out _).mono ?_
      rintro e9 w9 ⟨rfl,rfl⟩
      go_wp2_with (fail)
      refine (M2.out _).mono ?_
      rintro e9 w9 ⟨rfl,rfl⟩
      go_wp2_with (fail)
      refine (M3.out _).mono ?_
      rintro e9 w9 ⟨rfl,rfl⟩
      go_wp2_with (fail)
      go_ret
      exact ⟨⟨_,rfl⟩,bel_trans (B:=w.heap.size) HB0.out (bel_trans (B:=W0.heap.size) HB1.out HB2.out)⟩
     go_wp2_with (fail)
     rw [HW2.out]
     go_wp2_with (fail)
     refine (M1.out _).mono ?_
     rintro e9 w9 ⟨rfl,rfl⟩
     go_wp2_with (fail)
     refine (M2.out _).mono ?_
     rintro e9 w9 ⟨rfl,rfl⟩
     go_wp2_with (fail)
     refine (M3.out _).mono ?_
     rintro e9 w9 ⟨rfl,rfl⟩
     go_wp2_with (fail)
     rw [← hIBe]
     go_roundg (p.code.length - (m + 1))
     case measure=>omega
     case rel=>exact ⟨HB2.out,m + 1,by omega,rfl,by first | go_num | (refine congrArg _ ?_; unfold RowKit.wrap64; omega)⟩
    ·have hme : m = p.code.length:=by omega
     subst hme
     go_wp2_with (fail)
     rw [← hBe]
     go_roundg (ps.length - (j + 1))
     case measure=>omega
     case rel =>
      have hz1:=H1.out
      have hz2 : a + p.code.length ≤ 40000:=by omega
      exact ⟨bel_trans (B:=W0.heap.size) HB1.out HBX.out,j + 1,by omega,rfl,by first | go_num | (refine congrArg _ ?_; unfold RowKit.wrap64; omega),a + p.code.length,by first | go_num | (refine congrArg _ ?_; unfold RowKit.wrap64; omega),hz2⟩
  ·have hje : j = ps.length:=by omega
   subst hje
   obtain ⟨y0,y1,y2⟩:=K0.out _ HBR.out
   simp only [Nat.zero_add] at y0 y1 y2
   go_wp2_with (fail)
   go_loopg [104] kids.len (fun kk i wx=>Below W0.heap.size W0 wx∧∃ m : Nat,m ≤ kids.len∧kk = kids.len - m∧i = .int .i64 (m : Int))
   case atStart=>exact ⟨HBR.out,0,Nat.zero_le _,rfl,rfl⟩
   case round =>
    obtain ⟨hbx,m,hm,rfl,rfl⟩:=hrel
    have HBX:=Lib.hid hbx
    clear hbx y0 y1 y2
    by_cases hml : m < kids.len
    ·obtain ⟨hh,k,r,hdr,hdr1⟩:=Fr.cons_of_lt hml
     have hCBe:=HCB.out (by omega)
     rw [hCBe]
     obtain ⟨hbl,C,D⟩:=counted_item (FAt.below HBX.out _ _ _ HCF.out) hdr
     obtain ⟨qb,hq1,hq2⟩:=HQ.out hh k m r hdr
     obtain ⟨x0,x1,x2,x3,x4,x5,x6,x7⟩:=C
     obtain ⟨W2,hW2⟩ : ∃ W2,wr.alloc (datO hh k.len) = W2:=⟨_,rfl⟩
     have hb2 : Below wr.heap.size wr W2:=by rw [← hW2]; exact (Below.refl _ wr).alloc (Nat.le_refl _) _
     have ho2 : W2.heap[wr.heap.size]? = some (datO hh k.len):=by rw [← hW2]; unfold World.alloc; simp
     have hs2 : wr.heap.size < W2.heap.size:=by rw [← hW2]; simp
     have BLK : Hid (∀ W,Below W2.heap.size W2 W → C8 W wr.heap.size 0 hh k.len):=Lib.hid fun W hW=>C8.of_block ((hW.block _ hs2).trans ho2)
     have HB2:=Lib.hid (bel_trans (B:=w.heap.size) HB0.out (bel_trans (B:=W0.heap.size) HBX.out hb2))
     have HC2:=Lib.hid (bel_trans (B:=W0.heap.size) HBX.out hb2)
     have HW2:=Lib.hid hW2
     dsimp only [datO] at HW2
     have Q1:=Lib.hid hq1
     have Q2:=Lib.hid hq2
     obtain ⟨u0,u1,u2,u3,u4,u5,u6,u7⟩:=BLK.out _ (Below.refl _ _)
     simp only [Nat.zero_add] at u0 u1 u2 u3 u4 u5 u6 u7
     clear hdr hdr1 D hq1 hq2 hW2 hb2 ho2 hs2
     go_wp2_with (fail)
     rw [HW2.out]
     go_wp2_with (fail)
     refine (Q1.out _ HB2.out).mono ?_
     rintro e9 w3 ⟨rfl,hb3⟩
     have HB3:=Lib.hid hb3
     clear hb3 u0 u1 u2 u3 u4 u5 u6 u7
     cases qb
     ·go_wp2_with (fail)
      go_ret
      exact ⟨⟨_,rfl⟩,bel_trans (B:=w.heap.size) HB2.out HB3.out⟩
     obtain ⟨t,ht⟩:=Q2.out rfl
     have HT:=Lib.hid ht
     obtain ⟨u0,u1,u2,u3,u4,u5,u6,u7⟩:=BLK.out _ HB3.out
     simp only [Nat.zero_add] at u0 u1 u2 u3 u4 u5 u6 u7
     clear ht Q1 Q2
     go_wp2_with (fail)
     refine (HT.out _ (bel_trans (B:=w.heap.size) HB2.out HB3.out)).mono ?_
     rintro e9 w4 ⟨rfl,hb4⟩
     have HB4:=Lib.hid (bel_trans (B:=W2.heap.size) HB3.out hb4)
     clear hb4 u0 u1 u2 u3 u4 u5 u6 u7
     by_cases c9 : 20000 < t.size
     ·have g9 : decide ((20000 : Int) < (t.size : Int)) = true:=decide_eq_true (by omega)
      have g9' : decide (20000 < t.size) = true:=decide_eq_true c9
      go_wp2_with (fail)
      go_ret
      exact ⟨⟨_,rfl⟩,bel_trans (B:=w.heap.size) HB2.out HB4.out⟩
     have g9 : decide ((20000 : Int) < (t.size : Int)) = false:=decide_eq_false (by omega)
     have g9' : decide (20000 < t.size) = false:=decide_eq_false c9
     go_wp2_with (fail)
     rw [← hCBe]
     go_roundg (kids.len - (m + 1))
     case measure=>omega
     case rel =>
      have hz1:=H2.out
      exact ⟨bel_trans (B:=W0.heap.size) HC2.out HB4.out,m + 1,by omega,rfl,by first | go_num | (refine congrArg _ ?_; unfold RowKit.wrap64; omega)⟩
    ·have hme : m = kids.len:=by omega
     subst hme
     obtain ⟨y0,y1,y2⟩:=K0.out _ HBX.out
     simp only [Nat.zero_add] at y0 y1 y2
     go_wp2_with (fail)
     go_loopg [121] gs.length (fun kk i wx=>Below W0.heap.size W0 wx∧∃ q : Nat,q ≤ gs.length∧kk = gs.length - q∧i = .int .i64 (q : Int))
     case atStart=>exact ⟨HBX.out,0,Nat.zero_le _,rfl,rfl⟩
     case round =>
      obtain ⟨hby,q,hq,rfl,rfl⟩:=hrel
      have HBY:=Lib.hid hby
      clear hby y0 y1 y2
      by_cases hql : q < gs.length
      ·obtain ⟨s,hs,hdq⟩:=drop_at hql
       have hGBe:=HGB.out (by omega)
       rw [hGBe]
       obtain ⟨hgl,s0⟩:=(HGF.out.below HBY.out) q s hs
       clear hs hdq
       by_cases c9 : 100 < s.size
       ·have g9 : decide ((100 : Int) < (s.size : Int)) = true:=decide_eq_true (by omega)
        have g9' : decide (100 < s.size) = true:=decide_eq_true c9
        go_wp2_with (fail)
        go_ret
        exact ⟨⟨_,rfl⟩,bel_trans (B:=w.heap.size) HB0.out HBY.out⟩
       have g9 : decide ((100 : Int) < (s.size : Int)) = false:=decide_eq_false (by omega)
       have g9' : decide (100 < s.size) = false:=decide_eq_false c9
       go_wp2_with (fail)
       rw [← hGBe]
       go_roundg (gs.length - (q + 1))
       case measure=>omega
       case rel =>
        have hz1:=H3.out
        exact ⟨HBY.out,q + 1,by omega,rfl,by first | go_num | (refine congrArg _ ?_; unfold RowKit.wrap64; omega)⟩
      ·have hqe : q = gs.length:=by omega
       subst hqe
       go_wp2_with (fail)
       go_ret
       exact ⟨⟨_,rfl⟩,bel_trans (B:=w.heap.size) HB0.out HBY.out⟩
end LM
end Go.Proofs.YtaonablbgicmpaaGreatDoor
