import Derived.Test.YtaonablbgicmpaaGreatDoorE32
set_option linter.unusedVariables false
set_option linter.unusedSimpArgs false
set_option maxRecDepth 100000
set_option maxHeartbeats 16000000
namespace Go.Proofs.YtaonablbgicmpaaGreatDoor
open Go Go.Shelf Go.RowKit Go.Sort Go.Lib
namespace LM
theorem data_app (a b : ByteArray) : (a ++ b).data.toList = a.data.toList ++ b.data.toList:=by
 simp [ByteArray.data_append]
def atF (n j : Nat) : Nat:=if j ≤ n then 0 else n
theorem dot_app : ∀ (l r : List UInt8),dotB (l ++ r) = (dotB l || dotB r)
 | [],r=>rfl
 | c :: l,r=>by
  show (decide (c.toNat = 46) || dotB (l ++ r)) = ((decide (c.toNat = 46) || dotB l) || dotB r)
  rw [dot_app l r,Bool.or_assoc]
theorem text_step {s : ByteArray} {pre ex : List UInt8} (hs : s.data.toList = pre ++ 101 :: ex) (hp : 101 ∉ pre) (he : 101 ∉ ex) {j : Nat} (hj : j < s.size) :
  (byF s j = 101 → atF pre.length (j + 1) = j)∧(byF s j ≠ 101 → atF pre.length (j + 1) = atF pre.length j)∧dotB (s.data.toList.take (j + 1)) = (dotB (s.data.toList.take j) || decide (byF s j = 46)):=by
 have hjl : j < s.data.toList.length:=by rw [← Lib.size_eq]; exact hj
 have hb : (s.data.toList[j]'hjl).toNat = byF s j:=by
  rw [← byF_at s j hj]
  have h1:=Lib.data_getElem? s j hj
  rw [List.getElem?_eq_getElem hjl] at h1
  rw [Option.some.inj h1]
 have h101 : byF s j = 101 ↔ j = pre.length:=by
  rw [← hb]
  have hu : (s.data.toList[j]'hjl).toNat = 101 ↔ s.data.toList[j]'hjl = 101:=⟨fun h=>UInt8.toNat_inj.1 h,fun h=>by rw [h]; rfl⟩
  rw [hu]
  have h2 : s.data.toList[j]? = some (s.data.toList[j]'hjl):=List.getElem?_eq_getElem hjl
  generalize s.data.toList[j]'hjl = c at h2 ⊢
  rw [hs] at h2
  rcases Nat.lt_trichotomy j pre.length with h | h | h
  ·rw [List.getElem?_append_left h] at h2
   have hm:=List.mem_of_getElem? h2
   exact ⟨fun e=>absurd (e ▸ hm) hp,fun e=>absurd e (by omega)⟩
  ·rw [List.getElem?_append_right (by omega),h,Nat.sub_self] at h2
   exact ⟨fun _=>h,fun _=>(Option.some.inj h2).symm⟩
  ·rw [List.getElem?_append_right (by omega),show j - pre.length = (j - pre.length - 1) + 1 from by omega,List.getElem?_cons_succ] at h2
   have hm:=List.mem_of_getElem? h2
   exact ⟨fun e=>absurd (e ▸ hm) he,fun e=>absurd e (by omega)⟩
 refine ⟨fun h=>?_,fun h=>?_,?_⟩
 ·have:=h101.1 h
  unfold atF
  rw [if_neg (by omega)]
  exact this.symm
 ·have h3 : j ≠ pre.length:=fun e=>h (h101.2 e)
  unfold atF
  by_cases h4 : j ≤ pre.length
  ·rw [if_pos h4,if_pos (by omega)]
  ·rw [if_neg h4,if_neg (by omega)]
 ·rw [List.take_succ_eq_append_getElem hjl,dot_app]
  show (_ || (decide ((s.data.toList[j]'hjl).toNat = 46) || false)) = _
  rw [hb,Bool.or_false]
theorem rtext_e (b a c : Nat) (l pre ex P T : List UInt8) (sg : UInt8) (x : Int) (w : World) (hb : b < 18446744073709551616) (ha : b % 9223372036854775808 = a) (hcw : canW b = c) (hc1 : c ≠ 9221120237041090561) (hc2 : c ≠ 9218868437227405312) (hc3 : c ≠ 18442240474082181120)
  (z0 : (FloatKind.f64.format.order a 0 == some .eq) = false) (z : ((FloatKind.f64.format.order a 4562254508917369340 == some .gt || FloatKind.f64.format.order a 4562254508917369340 == some .eq) = false) ∨ ((FloatKind.f64.format.order a 4562254508917369340 == some .gt || FloatKind.f64.format.order a 4562254508917369340 == some .eq) = true∧(FloatKind.f64.format.order a 4921056587992461136 == some .lt) = false))
  (hle : l = pre ++ 101 :: ex) (hpre : 101 ∉ pre) (hpl : pre.length ≤ 22) (hex : ex = sg :: P) (hsg : (sg = 43∧Lib.itoa x = T) ∨ (sg = 45∧Lib.itoa x = 45 :: T))
  (hPT : (∃ k,P = [48,k]∧T = [k]) ∨ (T = P∧∃ k r,P = k :: r∧48 < k.toNat)) (hP2 : 2 ≤ P.length) (hP3 : P.length ≤ 3) (hPd : ∀ y ∈ P,48 ≤ y.toNat∧y.toNat ≤ 57)
  (hF : ∀ v w1,OB w.heap.size w 0 [] v [] w1 → Calls Tryz.prog 164 #[v,.float .f64 b,.int .u8 (101 : Nat),.int .i64 (-1)] w1 fun r w'=>∃ v' g ds,r = .returned v'∧OB w.heap.size w g ds v' l w') :
  Calls Tryz.prog 55 #[.float .f64 b] w fun e w'=>e = .returned (.string ⟨(pointB pre ++ 101 :: Lib.itoa x).toArray⟩)∧Below w.heap.size w w':=by
 have hA:=fun W=>abs_any b W hb
 rw [ha] at hA
 have hB:=fun W=>rbits_any b W hb
 rw [hcw] at hB
 have A1:=Lib.hid hA
 have B1:=Lib.hid hB
 have F1:=Lib.hid (format_any b 101 l w (by rw [hle]; simp) (by decide) hF)
 have d1 : ((c : Int) == 9221120237041090561) = false:=by rw [beq_eq_false_iff_ne]; omega
 have d2 : ((c : Int) == 9218868437227405312) = false:=by rw [beq_eq_false_iff_ne]; omega
 have d3 : ((c : Int) == 18442240474082181120) = false:=by rw [beq_eq_false_iff_ne]; omega
 obtain ⟨s,hs⟩ : ∃ s : ByteArray,s = ⟨l.toArray⟩:=⟨_,rfl⟩
 have hsl : s.data.toList = l:=by rw [hs]
 have hss : s.size ≤ 1000:=by rw [Lib.size_eq,hsl,hle,hex]; simp; omega
 rw [← hs] at F1
 have HBY:=Lib.hid (byF_at s)
 have HSL:=Lib.hid hsl
 have hex1 : 101 ∉ ex:=fun hm=>by
  rw [hex] at hm
  rcases List.mem_cons.1 hm with h | h
  ·rcases hsg with ⟨h2,-⟩ | ⟨h2,-⟩ <;> rw [h2] at h <;> cases h
  ·have:=hPd _ h
   have e : (101 : UInt8).toNat = 101:=rfl
   omega
 have ST:=Lib.hid fun j (hj : j < s.size)=>text_step (s:=s) (hsl.trans hle) hpre hex1 hj
 have EA:=Lib.hid (show atF pre.length s.size = pre.length from by rw [atF,if_neg (by rw [Lib.size_eq,hsl,hle]; simp)])
 have hex2 : dotB ex = false:=by
  rw [dot_iff,decide_eq_false_iff_not]
  intro hm
  rw [hex] at hm
  rcases List.mem_cons.1 hm with h | h
  ·rcases hsg with ⟨h2,-⟩ | ⟨h2,-⟩ <;> rw [h2] at h <;> cases h
  ·have:=hPd _ h
   have e : (46 : UInt8).toNat = 46:=rfl
   omega
 have ED:=Lib.hid (show dotB (l.take s.size) = dotB pre from by
  rw [List.take_of_length_le (by rw [Lib.size_eq,hsl]; exact Nat.le_refl _),hle,dot_app]
  show (dotB pre || (decide ((101 : UInt8).toNat = 46) || dotB ex)) = _
  rw [hex2]
  simp)
 have X1 : Hid (∃ F0 : ByteArray,F0.data.toList = pre∧s.extract 0 pre.length = F0):=Lib.hid ⟨_,by
  rw [Lib.extract_data,hsl,hle,List.drop_zero,Nat.sub_zero,List.take_left],rfl⟩
 have X2 : Hid (∃ Ex : ByteArray,Ex.data.toList = ex∧s.extract (pre.length + 1) s.size = Ex):=Lib.hid ⟨_,by
  rw [Lib.extract_data,hsl,hle]
  have hd : (pre ++ 101 :: ex).drop (pre.length + 1) = ex:=by simp
  rw [hd]
  exact List.take_of_length_le (by rw [Lib.size_eq,hsl,hle,List.length_append,List.length_cons]; omega),rfl⟩
 have SZ:=Lib.hid (show s.size = pre.length + (P.length + 2) from by rw [Lib.size_eq,hsl,hle,hex,List.length_append,List.length_cons,List.length_cons])
 rw [hsl] at ST
 clear hex1 hex2
 clear hA hB hF ha hcw hc1 hc2 hc3 hs hsl
 rcases z with z1 | ⟨z1,z2⟩
 all_goals
  go_enter Tryz.func55,Tryz.ntmps55
  go_wp2_with (fail)
  refine (B1.out _).mono ?_
  rintro e w' ⟨rfl,rfl⟩
  go_wp2_with (fail)
  refine (A1.out _).mono ?_
  rintro e w' ⟨rfl,rfl⟩
  go_wp2_with (fail)
  refine F1.out.mono ?_
  rintro e w1 ⟨rfl,hb1⟩
  have HB1:=Lib.hid hb1
  clear hb1
  go_wp2_with (fail)
  go_loopg [8,9,10] s.size (fun qq q p i wr=>wr = w1∧∃ j : Nat,s.size - j = qq∧j ≤ s.size∧i = .int .i64 (j : Int)∧q = .int .i64 ((atF pre.length j : Nat) : Int)∧p = .bool (dotB (l.take j)))
  case atStart=>exact ⟨rfl,0,rfl,Nat.zero_le _,rfl,by rw [atF,if_pos (Nat.zero_le _)]; rfl,rfl⟩
  case round =>
   obtain ⟨rfl,j,rfl,hj,rfl,rfl,rfl⟩:=hrel
   by_cases hlt : j < s.size
   ·have hst:=ST.out j hlt
    have hby:=HBY.out j hlt
    obtain ⟨y,hy⟩ : ∃ y,byF s j = y:=⟨_,rfl⟩
    rw [hy] at hby hst
    obtain ⟨h1,h2,h3⟩:=hst
    have H1:=Lib.hid h1
    have H2:=Lib.hid h2
    have H3:=Lib.hid h3
    obtain ⟨dv,hdv⟩ : ∃ dv,dotB (l.take j) = dv:=⟨_,rfl⟩
    rw [hdv] at H3
    rw [hdv]
    obtain ⟨av,hav⟩ : ∃ av,atF pre.length j = av:=⟨_,rfl⟩
    rw [hav] at H2
    rw [hav]
    have e0 : decide ((j : Int) < (s.size : Int)) = true:=decide_eq_true (by omega)
    clear hy h1 h2 h3 hdv hav
    by_cases k1 : y = 101
    ·have e1 : ((y : Int) == 101) = true:=by rw [k1]; rfl
     have e2 : ((y : Int) == 46) = false:=by rw [k1]; rfl
     have HA:=Lib.hid (H1.out k1)
     have HD:=Lib.hid (H3.out.trans (by rw [decide_eq_false (by omega),Bool.or_false]))
     clear k1 H1 H2 H3
     cases dv
     all_goals
      go_wp2_with (fail)
      go_roundg (s.size - (j + 1))
      case measure=>omega
      case rel=>exact ⟨rfl,j + 1,rfl,by omega,by go_num,by rw [HA.out],by rw [HD.out]⟩
    ·have e1 : ((y : Int) == 101) = false:=by rw [beq_eq_false_iff_ne]; omega
     have HA:=Lib.hid (H2.out k1)
     by_cases k2 : y = 46
     ·have e2 : ((y : Int) == 46) = true:=by rw [k2]; rfl
      have HD:=Lib.hid (H3.out.trans (by rw [decide_eq_true k2,Bool.or_true]))
      clear k1 k2 H1 H2 H3
      cases dv
      all_goals
       go_wp2_with (fail)
       go_roundg (s.size - (j + 1))
       case measure=>omega
       case rel=>exact ⟨rfl,j + 1,rfl,by omega,by go_num,by rw [HA.out],by rw [HD.out]⟩
     ·have e2 : ((y : Int) == 46) = false:=by rw [beq_eq_false_iff_ne]; omega
      have HD:=Lib.hid (H3.out.trans (by rw [decide_eq_false k2,Bool.or_false]))
      clear k1 k2 H1 H2 H3
      cases dv
      all_goals
       go_wp2_with (fail)
       go_roundg (s.size - (j + 1))
       case measure=>omega
       case rel=>exact ⟨rfl,j + 1,rfl,by omega,by go_num,by rw [HA.out],by rw [HD.out]⟩
   ·have hje : j = s.size:=by omega
    subst hje
    rw [EA.out,ED.out]
    clear HBY ST
    have e0 : decide ((s.size : Int) < (s.size : Int)) = false:=decide_eq_false (by omega)
    obtain ⟨F0,hF0,hx1⟩:=X1.out
    obtain ⟨Ex,hEx,hx2⟩:=X2.out
    have hxs : Ex.size = P.length + 1:=by rw [Lib.size_eq,hEx,hex]; simp
    have hxs1 : 2 ≤ Ex.size:=by omega
    have hf0 : F0.size ≤ 30:=by rw [Lib.size_eq,hF0]; omega
    obtain ⟨Pw,hPw,hx3⟩ : ∃ Pw : ByteArray,Pw.data.toList = P∧Ex.extract 1 Ex.size = Pw:=⟨_,by
     rw [Lib.extract_data,hEx,hex]
     show P.take _ = P
     exact List.take_of_length_le (by omega),rfl⟩
    have hps : Pw.size = P.length:=by rw [Lib.size_eq,hPw]
    have hps1 : 2 ≤ Pw.size:=by omega
    have hps2 : Pw.size ≤ 3:=by omega
    have b0 : ∀ h,(Ex[0]'h).toNat = sg.toNat:=fun h=>by
     have h1:=Lib.data_getElem? Ex 0 h
     rw [hEx,hex] at h1
     exact congrArg UInt8.toNat (Option.some.inj h1).symm
    have hsz1 : pre.length + 1 ≤ s.size:=by have:=SZ.out; omega
    have hsz2 : pre.length ≤ s.size:=by omega
    obtain ⟨n,hn⟩ : ∃ n,pre.length = n:=⟨_,rfl⟩
    rw [hn] at hx1 hx2 hpl hsz1 hsz2 ⊢
    obtain ⟨R2,hR2⟩ : ∃ R,dotB pre = R:=⟨_,rfl⟩
    have PD:=Lib.hid (point_dot pre)
    rw [hR2] at PD ⊢
    obtain ⟨p0,hp0,hp1,hp2⟩ : ∃ p0 : Nat,(∀ h,(Pw[0]'h).toNat = p0)∧48 ≤ p0∧p0 ≤ 57:=by
     have hl : 0 < Pw.size:=by omega
     refine ⟨(Pw[0]'hl).toNat,fun h=>rfl,?_⟩
     refine hPd _ ?_
     have h1:=Lib.data_getElem? Pw 0 hl
     rw [hPw] at h1
     exact List.mem_of_getElem? h1
    have d45 : ((p0 : Int) == 45) = false:=by rw [beq_eq_false_iff_ne]; omega
    have HEND : Hid (((p0 = 48∧Pw.size = 2∧∃ Q : ByteArray,Q.data.toList = T∧Q.size = 1∧Pw.extract 1 Pw.size = Q) ∨ (48 < p0∧Pw.data.toList = T))):=Lib.hid (by
     have hl : 0 < Pw.size:=by omega
     have h1:=Lib.data_getElem? Pw 0 hl
     rw [hPw] at h1
     have h2:=hp0 hl
     rcases hPT with ⟨k,rfl,rfl⟩ | ⟨rfl,k,r,rfl,hk⟩
     ·left
      have h3 : Pw[0]'hl = 48:=(Option.some.inj h1).symm
      refine ⟨by rw [← h2,h3]; rfl,by rw [hps]; rfl,Pw.extract 1 Pw.size,?_,?_,rfl⟩
      ·rw [Lib.extract_data,hPw]
       exact List.take_of_length_le (by rw [hps]; simp)
      ·rw [Lib.size_eq,Lib.extract_data,hPw,hps]; rfl
     ·right
      have h3 : Pw[0]'hl = k:=(Option.some.inj h1).symm
      exact ⟨by rw [← h2,h3]; exact hk,hPw⟩)
    have HF0:=Lib.hid hF0
    have hsgn : (sg.toNat = 43∧Lib.itoa x = T) ∨ (sg.toNat = 45∧Lib.itoa x = 45 :: T):=by
     rcases hsg with ⟨rfl,h⟩ | ⟨rfl,h⟩
     ·exact .inl ⟨rfl,h⟩
     ·exact .inr ⟨rfl,h⟩
    obtain ⟨sv,hsv⟩ : ∃ sv,sg.toNat = sv:=⟨_,rfl⟩
    rw [hsv] at b0 hsgn
    clear EA ED HSL X1 X2 SZ hR2 hn hEx hF0 hle hpre hxs hps hPw hPd hPT hsg hsv hex hP2 hP3
    rcases hsgn with ⟨rfl,hit⟩ | ⟨rfl,hit⟩
    ·have HIT:=Lib.hid hit
     clear hit
     rcases HEND.out with ⟨rfl,hq1,Q,hq2,hq3,hq4⟩ | ⟨hq1,hq2⟩
     ·have HQ:=Lib.hid hq2
      have q1 : decide ((1 : Int) < (Pw.size : Int)) = true:=decide_eq_true (by omega)
      have q2 : decide ((1 : Int) < (Q.size : Int)) = false:=decide_eq_false (by omega)
      have HQ4:=Lib.hid (show Pw.extract 1 2 = Q by rw [← hq1]; exact hq4)
      clear hq2 HEND
      cases R2
      all_goals
       go_wp2_with (fail)
       go_loopg [12] 1 (fun g q wx=>wx = wr∧((g = 1∧q = .string Pw) ∨ (g = 0∧q = .string Q)))
       case atStart=>exact ⟨rfl,.inl ⟨rfl,rfl⟩⟩
       case round =>
        obtain ⟨rfl,⟨rfl,rfl⟩ | ⟨rfl,rfl⟩⟩:=hrel
        ·go_wp2_with (fail)
         go_roundg 0
         case measure=>omega
         case rel=>exact ⟨rfl,.inr ⟨rfl,by first | rfl | rw [HQ4.out]⟩⟩
        ·go_wp2_with (fail)
         go_ret
         refine ⟨?_,HB1.out⟩
         rw [HIT.out,PD.out]
         exact congrArg (fun t=>Ending.returned (Value.string t)) (bytes_eq (by simp only [data_app,HF0.out,HQ.out]; simp))
     ·have q1 : decide ((1 : Int) < (Pw.size : Int)) = true:=decide_eq_true (by omega)
      have q3 : ((p0 : Int) == 48) = false:=by rw [beq_eq_false_iff_ne]; omega
      have HQ:=Lib.hid hq2
      clear hq2 HEND hq1
      cases R2
      all_goals
       go_wp2_with (fail)
       go_loopg [12] 0 (fun g q wx=>wx = wr∧q = .string Pw)
       case atStart=>exact ⟨rfl,rfl⟩
       case round =>
        obtain ⟨rfl,rfl⟩:=hrel
        go_wp2_with (fail)
        go_ret
        refine ⟨?_,HB1.out⟩
        rw [HIT.out,PD.out]
        exact congrArg (fun t=>Ending.returned (Value.string t)) (bytes_eq (by simp only [data_app,HF0.out,HQ.out]; simp))
    ·have HIT:=Lib.hid hit
     clear hit
     rcases HEND.out with ⟨rfl,hq1,Q,hq2,hq3,hq4⟩ | ⟨hq1,hq2⟩
     ·have HQ:=Lib.hid hq2
      have q1 : decide ((1 : Int) < (Pw.size : Int)) = true:=decide_eq_true (by omega)
      have q2 : decide ((1 : Int) < (Q.size : Int)) = false:=decide_eq_false (by omega)
      have HQ4:=Lib.hid (show Pw.extract 1 2 = Q by rw [← hq1]; exact hq4)
      clear hq2 HEND
      cases R2
      all_goals
       go_wp2_with (fail)
       go_loopg [12] 1 (fun g q wx=>wx = wr∧((g = 1∧q = .string Pw) ∨ (g = 0∧q = .string Q)))
       case atStart=>exact ⟨rfl,.inl ⟨rfl,rfl⟩⟩
       case round =>
        obtain ⟨rfl,⟨rfl,rfl⟩ | ⟨rfl,rfl⟩⟩:=hrel
        ·go_wp2_with (fail)
         go_roundg 0
         case measure=>omega
         case rel=>exact ⟨rfl,.inr ⟨rfl,by first | rfl | rw [HQ4.out]⟩⟩
        ·go_wp2_with (fail)
         go_ret
         refine ⟨?_,HB1.out⟩
         rw [HIT.out,PD.out]
         exact congrArg (fun t=>Ending.returned (Value.string t)) (bytes_eq (by simp only [data_app,HF0.out,HQ.out]; simp))
     ·have q1 : decide ((1 : Int) < (Pw.size : Int)) = true:=decide_eq_true (by omega)
      have q3 : ((p0 : Int) == 48) = false:=by rw [beq_eq_false_iff_ne]; omega
      have HQ:=Lib.hid hq2
      clear hq2 HEND hq1
      cases R2
      all_goals
       go_wp2_with (fail)
       go_loopg [12] 0 (fun g q wx=>wx = wr∧q = .string Pw)
       case atStart=>exact ⟨rfl,rfl⟩
       case round =>
        obtain ⟨rfl,rfl⟩:=hrel
        go_wp2_with (fail)
        go_ret
        refine ⟨?_,HB1.out⟩
        rw [HIT.out,PD.out]
        exact congrArg (fun t=>Ending.returned (Value.string t)) (bytes_eq (by simp only [data_app,HF0.out,HQ.out]; simp))
end LM
end Go.Proofs.YtaonablbgicmpaaGreatDoor
