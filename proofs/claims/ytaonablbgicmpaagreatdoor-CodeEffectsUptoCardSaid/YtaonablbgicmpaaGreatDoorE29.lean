import Derived.Test.YtaonablbgicmpaaGreatDoorE16
import Derived.Test.YtaonablbgicmpaaGreatDoorE19
import Derived.Test.YtaonablbgicmpaaGreatDoorE20
import Derived.Test.YtaonablbgicmpaaGreatDoorE28
set_option linter.unusedVariables false
set_option linter.unusedSimpArgs false
set_option maxRecDepth 100000
set_option maxHeartbeats 16000000
namespace Go.Proofs.YtaonablbgicmpaaGreatDoor
open Go.RowKit
namespace LM
theorem first_eq (s : ByteArray) (h0 : 0 < s.size) : s.data.toList = s[0] :: s.data.toList.drop 1:=by
 have h : 0 < s.data.toList.length:=by have:=Lib.size_eq s; omega
 have e:=List.getElem_cons_drop (i:=0) h
 rw [List.drop_zero] at e
 exact e.symm
theorem sign_first (s : ByteArray) (h0 : 0 < s.size) : signOf s.data.toList = if s[0] = 45 then (true,s.data.toList.drop 1) else if s[0] = 43 then (false,s.data.toList.drop 1) else (false,s.data.toList):=by
 have e:=first_eq s h0
 generalize s[0] = c at *
 generalize s.data.toList.drop 1 = r at *
 rw [e]
 unfold signOf
 by_cases h : c = 45
 ·subst h
  simp [Lib.hasPrefix,Lib.trimPrefix]
 ·have h45 : (45 : UInt8) ≠ c:=fun e=>h e.symm
  rw [if_neg h]
  by_cases h2 : c = 43
  ·subst h2
   simp [Lib.hasPrefix,Lib.trimPrefix]
  ·have h43 : (43 : UInt8) ≠ c:=fun e=>h2 e.symm
   rw [if_neg h2]
   simp [Lib.hasPrefix,Lib.trimPrefix,h45,h43]
theorem sign_none (s : ByteArray) (h0 : s.size = 0) : signOf s.data.toList = (false,s.data.toList):=by
 have e : s.data.toList = []:=List.eq_nil_of_length_eq_zero (by have:=Lib.size_eq s; omega)
 rw [e]
 rfl
def RetPR (w : World) (l : List UInt8) (e : Ending) (w' : World) : Prop:=∃ s A n c er z,e = .returned (.tuple #[.agg #[.bool s,.slice A n c],.int .i64 er])∧IntR w' (.agg #[.bool s,.slice A n c]) z∧POut l z er∧Below w.heap.size w w'
theorem cut_one (s : ByteArray) : (s.extract 1 s.size).data.toList = s.data.toList.drop 1:=by
 rw [Lib.extract_data,List.take_of_length_le (by rw [List.length_drop]; have:=Lib.size_eq s; omega)]
theorem rparse2_empty (s : ByteArray) (w : World) (hs : s.size ≤ 9223372036854775807) (h0 : s.size = 0) :
  Calls Tryz.prog 159 #[.string s] w (RetPR w s.data.toList):=by
 have hso : signOf s.data.toList = (false,s.data.toList):=sign_none s h0
 have HSO:=Lib.hid hso
 obtain ⟨hb0,x0⟩:=newc1 w
 have HB0:=Lib.hid hb0
 have X0:=Lib.hid x0
 have hd : decide (0 < (s.size : Int)) = false:=decide_eq_false (by omega)
 have hd2 : decide (0 < s.size) = false:=decide_eq_false (by omega)
 have H1:=Lib.hid (rparse_any s (w.alloc (.cells #[.bool false,.slice none 0 0] 40)) hs)
 clear hb0 x0 hso
 go_enter Tryz.func159,Tryz.ntmps159
 go_wp2_with fail
 refine H1.out.mono ?_
 rintro e w2 ⟨hpe,hb2⟩
 have X2:=Lib.hid (X0.out.below hb2)
 have HB2:=Lib.hid (HB0.out.trans (hb2.mono HB0.out.size))
 obtain ⟨v,er,rfl,hpe⟩:=hpe
 clear hb2
 rcases hpe with ⟨h1,rfl,rfl⟩ | ⟨h1,h2,rfl,rfl⟩ | ⟨h1,h2,rfl,A1,c1,r1,rfl,-,h3,h4,h5⟩
 ·have K1:=Lib.hid h1
  clear h1
  obtain ⟨q0,q1,z0,z1,zl⟩:=X2.out.facts
  go_wp2
  obtain ⟨W4,hW4,Z,hb4,-,-,-,-⟩:=stored_world X2.out HB2.out (by omega) false none 0 0
  rw [hW4]
  obtain ⟨c0,c1',-,-,-⟩:=Z.facts
  clear q0 q1 z0 z1 zl hW4
  refine bodyPost_ret (v:=.tuple #[.agg #[.bool false,.slice none 0 0],.int .i64 13]) (by simp [results,Tryz.results159,go_sem,c0,c1']) rfl ?_
  exact ⟨_,_,_,_,_,_,rfl,intR_nil _,.inl ⟨by rw [HSO.out]; exact K1.out,rfl,rfl⟩,hb4⟩
 ·have K1:=Lib.hid h1
  have K2:=Lib.hid h2
  clear h1 h2
  obtain ⟨q0,q1,z0,z1,zl⟩:=X2.out.facts
  go_wp2
  obtain ⟨W4,hW4,Z,hb4,-,-,-,-⟩:=stored_world X2.out HB2.out (by omega) false none 0 0
  rw [hW4]
  obtain ⟨c0,c1',-,-,-⟩:=Z.facts
  clear q0 q1 z0 z1 zl hW4
  refine bodyPost_ret (v:=.tuple #[.agg #[.bool false,.slice none 0 0],.int .i64 11]) (by simp [results,Tryz.results159,go_sem,c0,c1']) rfl ?_
  exact ⟨_,_,_,_,_,_,rfl,intR_nil _,.inr (.inl ⟨by rw [HSO.out]; exact K1.out,by rw [HSO.out]; exact K2.out,rfl,rfl⟩),hb4⟩
 ·have K1:=Lib.hid h1
  have K2:=Lib.hid h2
  have hl:=len_not_big h4 (by rw [h5]; exact h2)
  have HM:=Lib.hid (rmade_num false A1 c1 r1 w2 (by omega) h3 h4)
  rw [h5] at HM
  clear h1 h2 h3 h4 h5
  go_wp2_with fail
  refine HM.out.mono ?_
  rintro e w3 ⟨s3,A3,n3,c3,rfl,hv3,hb3⟩
  have Z3:=Lib.hid (X2.out.below hb3)
  obtain ⟨q0,q1,z0,z1,zl⟩:=Z3.out.facts
  have HB3:=Lib.hid (HB2.out.trans (hb3.mono HB2.out.size))
  have HV3:=Lib.hid hv3
  clear hv3 hb3
  go_wp2
  obtain ⟨W4,hW4,Z,hb4,-,hv4,-,-⟩:=stored_world Z3.out HB3.out (by omega) s3 A3 n3 c3
  rw [hW4]
  have HV4:=Lib.hid (hv4 _ _ HV3.out)
  obtain ⟨c0,c1',-,-,-⟩:=Z.facts
  clear q0 q1 z0 z1 zl hW4 hv4
  refine bodyPost_ret (v:=.tuple #[.agg #[.bool s3,.slice A3 n3 c3],.int .i64 0]) (by simp [results,Tryz.results159,go_sem,c0,c1']) rfl ?_
  exact ⟨_,_,_,_,_,_,rfl,HV4.out,.inr (.inr ⟨by rw [HSO.out]; exact K1.out,by rw [HSO.out]; exact K2.out,by rw [HSO.out],rfl⟩),hb4⟩
theorem rparse2_other (s : ByteArray) (w : World) (hs : s.size ≤ 9223372036854775807) (h0 : 0 < s.size) (h45 : s[0] ≠ 45) (h43 : s[0] ≠ 43) :
  Calls Tryz.prog 159 #[.string s] w (RetPR w s.data.toList):=by
 have hso : signOf s.data.toList = (false,s.data.toList):=by rw [sign_first s h0,if_neg h45,if_neg h43]
 have HSO:=Lib.hid hso
 obtain ⟨hb0,x0⟩:=newc1 w
 have HB0:=Lib.hid hb0
 have X0:=Lib.hid x0
 have hd : decide (0 < (s.size : Int)) = true:=decide_eq_true (by omega)
 have hd2 : decide (0 < s.size) = true:=decide_eq_true h0
 have e43 : (((s[0].toNat : Nat) : Int) == 43) = false:=by rw [beq_eq_false_iff_ne]; intro h; exact h43 (UInt8.toNat_inj.1 (by simp only [UInt8.reduceToNat]; omega))
 have e45 : (((s[0].toNat : Nat) : Int) == 45) = false:=by rw [beq_eq_false_iff_ne]; intro h; exact h45 (UInt8.toNat_inj.1 (by simp only [UInt8.reduceToNat]; omega))
 have H1:=Lib.hid (rparse_any s (w.alloc (.cells #[.bool false,.slice none 0 0] 40)) hs)
 clear hb0 x0 hso
 go_enter Tryz.func159,Tryz.ntmps159
 go_wp2_with fail
 refine H1.out.mono ?_
 rintro e w2 ⟨hpe,hb2⟩
 have X2:=Lib.hid (X0.out.below hb2)
 have HB2:=Lib.hid (HB0.out.trans (hb2.mono HB0.out.size))
 obtain ⟨v,er,rfl,hpe⟩:=hpe
 clear hb2
 rcases hpe with ⟨h1,rfl,rfl⟩ | ⟨h1,h2,rfl,rfl⟩ | ⟨h1,h2,rfl,A1,c1,r1,rfl,-,h3,h4,h5⟩
 ·have K1:=Lib.hid h1
  clear h1
  obtain ⟨q0,q1,z0,z1,zl⟩:=X2.out.facts
  go_wp2
  obtain ⟨W4,hW4,Z,hb4,-,-,-,-⟩:=stored_world X2.out HB2.out (by omega) false none 0 0
  rw [hW4]
  obtain ⟨c0,c1',-,-,-⟩:=Z.facts
  clear q0 q1 z0 z1 zl hW4
  refine bodyPost_ret (v:=.tuple #[.agg #[.bool false,.slice none 0 0],.int .i64 13]) (by simp [results,Tryz.results159,go_sem,c0,c1']) rfl ?_
  exact ⟨_,_,_,_,_,_,rfl,intR_nil _,.inl ⟨by rw [HSO.out]; exact K1.out,rfl,rfl⟩,hb4⟩
 ·have K1:=Lib.hid h1
  have K2:=Lib.hid h2
  clear h1 h2
  obtain ⟨q0,q1,z0,z1,zl⟩:=X2.out.facts
  go_wp2
  obtain ⟨W4,hW4,Z,hb4,-,-,-,-⟩:=stored_world X2.out HB2.out (by omega) false none 0 0
  rw [hW4]
  obtain ⟨c0,c1',-,-,-⟩:=Z.facts
  clear q0 q1 z0 z1 zl hW4
  refine bodyPost_ret (v:=.tuple #[.agg #[.bool false,.slice none 0 0],.int .i64 11]) (by simp [results,Tryz.results159,go_sem,c0,c1']) rfl ?_
  exact ⟨_,_,_,_,_,_,rfl,intR_nil _,.inr (.inl ⟨by rw [HSO.out]; exact K1.out,by rw [HSO.out]; exact K2.out,rfl,rfl⟩),hb4⟩
 ·have K1:=Lib.hid h1
  have K2:=Lib.hid h2
  have hl:=len_not_big h4 (by rw [h5]; exact h2)
  have HM:=Lib.hid (rmade_num false A1 c1 r1 w2 (by omega) h3 h4)
  rw [h5] at HM
  clear h1 h2 h3 h4 h5
  go_wp2_with fail
  refine HM.out.mono ?_
  rintro e w3 ⟨s3,A3,n3,c3,rfl,hv3,hb3⟩
  have Z3:=Lib.hid (X2.out.below hb3)
  obtain ⟨q0,q1,z0,z1,zl⟩:=Z3.out.facts
  have HB3:=Lib.hid (HB2.out.trans (hb3.mono HB2.out.size))
  have HV3:=Lib.hid hv3
  clear hv3 hb3
  go_wp2
  obtain ⟨W4,hW4,Z,hb4,-,hv4,-,-⟩:=stored_world Z3.out HB3.out (by omega) s3 A3 n3 c3
  rw [hW4]
  have HV4:=Lib.hid (hv4 _ _ HV3.out)
  obtain ⟨c0,c1',-,-,-⟩:=Z.facts
  clear q0 q1 z0 z1 zl hW4 hv4
  refine bodyPost_ret (v:=.tuple #[.agg #[.bool s3,.slice A3 n3 c3],.int .i64 0]) (by simp [results,Tryz.results159,go_sem,c0,c1']) rfl ?_
  exact ⟨_,_,_,_,_,_,rfl,HV4.out,.inr (.inr ⟨by rw [HSO.out]; exact K1.out,by rw [HSO.out]; exact K2.out,by rw [HSO.out],rfl⟩),hb4⟩
theorem rparse2_plus (s : ByteArray) (w : World) (hs : s.size ≤ 9223372036854775807) (h0 : 0 < s.size) (hc : s[0] = 43) :
  Calls Tryz.prog 159 #[.string s] w (RetPR w s.data.toList):=by
 have hso : signOf s.data.toList = (false,s.data.toList.drop 1):=by rw [sign_first s h0,hc,if_neg (by decide),if_pos rfl]
 have HSO:=Lib.hid hso
 obtain ⟨hb0,x0⟩:=newc1 w
 have HB0:=Lib.hid hb0
 have X0:=Lib.hid x0
 have hd : decide (0 < (s.size : Int)) = true:=decide_eq_true (by omega)
 have hd2 : decide (0 < s.size) = true:=decide_eq_true h0
 have e43 : (((s[0].toNat : Nat) : Int) == 43) = true:=by rw [hc]; rfl
 have e45 : (((s[0].toNat : Nat) : Int) == 45) = false:=by rw [hc]; rfl
 have hcut : (s.extract 1 s.size).data.toList = s.data.toList.drop 1:=cut_one s
 have H1:=Lib.hid (rparse_any (s.extract 1 s.size) (w.alloc (.cells #[.bool false,.slice none 0 0] 40)) (by have h1:=Lib.size_eq (s.extract 1 s.size); rw [hcut,List.length_drop] at h1; have h2:=Lib.size_eq s; omega))
 have HLS:=Lib.hid hcut
 clear hcut
 clear hb0 x0 hso
 go_enter Tryz.func159,Tryz.ntmps159
 go_wp2_with fail
 refine H1.out.mono ?_
 rintro e w2 ⟨hpe,hb2⟩
 rw [HLS.out] at hpe
 have X2:=Lib.hid (X0.out.below hb2)
 have HB2:=Lib.hid (HB0.out.trans (hb2.mono HB0.out.size))
 obtain ⟨v,er,rfl,hpe⟩:=hpe
 clear hb2
 rcases hpe with ⟨h1,rfl,rfl⟩ | ⟨h1,h2,rfl,rfl⟩ | ⟨h1,h2,rfl,A1,c1,r1,rfl,-,h3,h4,h5⟩
 ·have K1:=Lib.hid h1
  clear h1
  obtain ⟨q0,q1,z0,z1,zl⟩:=X2.out.facts
  go_wp2
  obtain ⟨W4,hW4,Z,hb4,-,-,-,-⟩:=stored_world X2.out HB2.out (by omega) false none 0 0
  rw [hW4]
  obtain ⟨c0,c1',-,-,-⟩:=Z.facts
  clear q0 q1 z0 z1 zl hW4
  refine bodyPost_ret (v:=.tuple #[.agg #[.bool false,.slice none 0 0],.int .i64 13]) (by simp [results,Tryz.results159,go_sem,c0,c1']) rfl ?_
  exact ⟨_,_,_,_,_,_,rfl,intR_nil _,.inl ⟨by rw [HSO.out]; exact K1.out,rfl,rfl⟩,hb4⟩
 ·have K1:=Lib.hid h1
  have K2:=Lib.hid h2
  clear h1 h2
  obtain ⟨q0,q1,z0,z1,zl⟩:=X2.out.facts
  go_wp2
  obtain ⟨W4,hW4,Z,hb4,-,-,-,-⟩:=stored_world X2.out HB2.out (by omega) false none 0 0
  rw [hW4]
  obtain ⟨c0,c1',-,-,-⟩:=Z.facts
  clear q0 q1 z0 z1 zl hW4
  refine bodyPost_ret (v:=.tuple #[.agg #[.bool false,.slice none 0 0],.int .i64 11]) (by simp [results,Tryz.results159,go_sem,c0,c1']) rfl ?_
  exact ⟨_,_,_,_,_,_,rfl,intR_nil _,.inr (.inl ⟨by rw [HSO.out]; exact K1.out,by rw [HSO.out]; exact K2.out,rfl,rfl⟩),hb4⟩
 ·have K1:=Lib.hid h1
  have K2:=Lib.hid h2
  have hl:=len_not_big h4 (by rw [h5]; exact h2)
  have HM:=Lib.hid (rmade_num false A1 c1 r1 w2 (by omega) h3 h4)
  rw [h5] at HM
  clear h1 h2 h3 h4 h5
  go_wp2_with fail
  refine HM.out.mono ?_
  rintro e w3 ⟨s3,A3,n3,c3,rfl,hv3,hb3⟩
  have Z3:=Lib.hid (X2.out.below hb3)
  obtain ⟨q0,q1,z0,z1,zl⟩:=Z3.out.facts
  have HB3:=Lib.hid (HB2.out.trans (hb3.mono HB2.out.size))
  have HV3:=Lib.hid hv3
  clear hv3 hb3
  go_wp2
  obtain ⟨W4,hW4,Z,hb4,-,hv4,-,-⟩:=stored_world Z3.out HB3.out (by omega) s3 A3 n3 c3
  rw [hW4]
  have HV4:=Lib.hid (hv4 _ _ HV3.out)
  obtain ⟨c0,c1',-,-,-⟩:=Z.facts
  clear q0 q1 z0 z1 zl hW4 hv4
  refine bodyPost_ret (v:=.tuple #[.agg #[.bool s3,.slice A3 n3 c3],.int .i64 0]) (by simp [results,Tryz.results159,go_sem,c0,c1']) rfl ?_
  exact ⟨_,_,_,_,_,_,rfl,HV4.out,.inr (.inr ⟨by rw [HSO.out]; exact K1.out,by rw [HSO.out]; exact K2.out,by rw [HSO.out],rfl⟩),hb4⟩
theorem rparse2_minus (s : ByteArray) (w : World) (hs : s.size ≤ 9223372036854775807) (h0 : 0 < s.size) (hc : s[0] = 45) :
  Calls Tryz.prog 159 #[.string s] w (RetPR w s.data.toList):=by
 have hso : signOf s.data.toList = (true,s.data.toList.drop 1):=by rw [sign_first s h0,hc,if_pos rfl]
 have HSO:=Lib.hid hso
 obtain ⟨hb0,x0⟩:=newc1 w
 have HB0:=Lib.hid hb0
 have X0:=Lib.hid x0
 have hd : decide (0 < (s.size : Int)) = true:=decide_eq_true (by omega)
 have hd2 : decide (0 < s.size) = true:=decide_eq_true h0
 have e43 : (((s[0].toNat : Nat) : Int) == 43) = false:=by rw [hc]; rfl
 have e45 : (((s[0].toNat : Nat) : Int) == 45) = true:=by rw [hc]; rfl
 have hcut : (s.extract 1 s.size).data.toList = s.data.toList.drop 1:=cut_one s
 have H1:=Lib.hid (rparse_any (s.extract 1 s.size) (w.alloc (.cells #[.bool false,.slice none 0 0] 40)) (by have h1:=Lib.size_eq (s.extract 1 s.size); rw [hcut,List.length_drop] at h1; have h2:=Lib.size_eq s; omega))
 have HLS:=Lib.hid hcut
 clear hcut
 clear hb0 x0 hso
 go_enter Tryz.func159,Tryz.ntmps159
 go_wp2_with fail
 refine H1.out.mono ?_
 rintro e w2 ⟨hpe,hb2⟩
 rw [HLS.out] at hpe
 have X2:=Lib.hid (X0.out.below hb2)
 have HB2:=Lib.hid (HB0.out.trans (hb2.mono HB0.out.size))
 obtain ⟨v,er,rfl,hpe⟩:=hpe
 clear hb2
 rcases hpe with ⟨h1,rfl,rfl⟩ | ⟨h1,h2,rfl,rfl⟩ | ⟨h1,h2,rfl,A1,c1,r1,rfl,-,h3,h4,h5⟩
 ·have K1:=Lib.hid h1
  clear h1
  obtain ⟨q0,q1,z0,z1,zl⟩:=X2.out.facts
  go_wp2
  obtain ⟨W4,hW4,Z,hb4,-,-,-,-⟩:=stored_world X2.out HB2.out (by omega) false none 0 0
  rw [hW4]
  obtain ⟨c0,c1',-,-,-⟩:=Z.facts
  clear q0 q1 z0 z1 zl hW4
  refine bodyPost_ret (v:=.tuple #[.agg #[.bool false,.slice none 0 0],.int .i64 13]) (by simp [results,Tryz.results159,go_sem,c0,c1']) rfl ?_
  exact ⟨_,_,_,_,_,_,rfl,intR_nil _,.inl ⟨by rw [HSO.out]; exact K1.out,rfl,rfl⟩,hb4⟩
 ·have K1:=Lib.hid h1
  have K2:=Lib.hid h2
  clear h1 h2
  obtain ⟨q0,q1,z0,z1,zl⟩:=X2.out.facts
  go_wp2
  obtain ⟨W4,hW4,Z,hb4,-,-,-,-⟩:=stored_world X2.out HB2.out (by omega) false none 0 0
  rw [hW4]
  obtain ⟨c0,c1',-,-,-⟩:=Z.facts
  clear q0 q1 z0 z1 zl hW4
  refine bodyPost_ret (v:=.tuple #[.agg #[.bool false,.slice none 0 0],.int .i64 11]) (by simp [results,Tryz.results159,go_sem,c0,c1']) rfl ?_
  exact ⟨_,_,_,_,_,_,rfl,intR_nil _,.inr (.inl ⟨by rw [HSO.out]; exact K1.out,by rw [HSO.out]; exact K2.out,rfl,rfl⟩),hb4⟩
 ·have K1:=Lib.hid h1
  have K2:=Lib.hid h2
  have hl:=len_not_big h4 (by rw [h5]; exact h2)
  have HM:=Lib.hid (rmade_num true A1 c1 r1 w2 (by omega) h3 h4)
  rw [h5] at HM
  clear h1 h2 h3 h4 h5
  go_wp2_with fail
  refine HM.out.mono ?_
  rintro e w3 ⟨s3,A3,n3,c3,rfl,hv3,hb3⟩
  have Z3:=Lib.hid (X2.out.below hb3)
  obtain ⟨q0,q1,z0,z1,zl⟩:=Z3.out.facts
  have HB3:=Lib.hid (HB2.out.trans (hb3.mono HB2.out.size))
  have HV3:=Lib.hid hv3
  clear hv3 hb3
  go_wp2
  obtain ⟨W4,hW4,Z,hb4,-,hv4,-,-⟩:=stored_world Z3.out HB3.out (by omega) s3 A3 n3 c3
  rw [hW4]
  have HV4:=Lib.hid (hv4 _ _ HV3.out)
  obtain ⟨c0,c1',-,-,-⟩:=Z.facts
  clear q0 q1 z0 z1 zl hW4 hv4
  refine bodyPost_ret (v:=.tuple #[.agg #[.bool s3,.slice A3 n3 c3],.int .i64 0]) (by simp [results,Tryz.results159,go_sem,c0,c1']) rfl ?_
  exact ⟨_,_,_,_,_,_,rfl,HV4.out,.inr (.inr ⟨by rw [HSO.out]; exact K1.out,by rw [HSO.out]; exact K2.out,by rw [HSO.out],rfl⟩),hb4⟩
theorem rparse2_any (s : ByteArray) (w : World) (hs : s.size ≤ 9223372036854775807) : Calls Tryz.prog 159 #[.string s] w (RetPR w s.data.toList):=by
 rcases Nat.eq_zero_or_pos s.size with h0 | h0
 ·exact rparse2_empty s w hs h0
 ·by_cases h45 : s[0] = 45
  ·exact rparse2_minus s w hs h0 h45
  ·by_cases h43 : s[0] = 43
   ·exact rparse2_plus s w hs h0 h43
   ·exact rparse2_other s w hs h0 h45 h43
theorem rtext2_pos (A : Option Addr) (ca : Nat) (xs : List Nat) (w : World) (ha : Rd w A xs) (hx : Can xs) (hxl : xs.length ≤ 64) (hna : A = none → xs.length = 0∧ca = 0) :
  Calls Tryz.prog 56 #[.agg #[.bool false,.slice A xs.length ca]] w fun e w'=>e = .returned (.string ⟨(Lib.decDigits (val xs)).toArray⟩)∧Below w.heap.size w w':=by
 have hb0 : Below w.heap.size w (w.alloc (.cells #[.bool false,.slice A xs.length ca] 40)):=(Below.refl _ w).alloc (Nat.le_refl _) _
 have HB0:=Lib.hid hb0
 have H1:=Lib.hid (rtext_any A ca xs _ (ha.below hb0) hx.1 (by omega) hna)
 have NX:=Lib.hid (not_big_len hx hxl)
 clear hb0 ha hx hna
 go_enter Tryz.func56,Tryz.ntmps56
 go_wp2_with fail
 refine H1.out.mono ?_
 rintro e w1 ⟨⟨l,rfl,hl⟩,hb1⟩
 obtain rfl : l = _:=hl.elim (fun h=>absurd h.1 NX.out) fun h=>h.2
 have HB1:=Lib.hid (HB0.out.trans (hb1.mono HB0.out.size))
 clear hl hb1
 go_wp2
 go_ret
 exact ⟨rfl,HB1.out⟩
theorem rtext2_neg (A : Option Addr) (ca : Nat) (xs : List Nat) (w : World) (ha : Rd w A xs) (hx : Can xs) (hxl : xs.length ≤ 64) (hna : A = none → xs.length = 0∧ca = 0) :
  Calls Tryz.prog 56 #[.agg #[.bool true,.slice A xs.length ca]] w fun e w'=>e = .returned (.string ⟨(45 :: Lib.decDigits (val xs)).toArray⟩)∧Below w.heap.size w w':=by
 have hb0 : Below w.heap.size w (w.alloc (.cells #[.bool true,.slice A xs.length ca] 40)):=(Below.refl _ w).alloc (Nat.le_refl _) _
 have HB0:=Lib.hid hb0
 have H1:=Lib.hid (rtext_any A ca xs _ (ha.below hb0) hx.1 (by omega) hna)
 have NX:=Lib.hid (not_big_len hx hxl)
 clear hb0 ha hx hna
 go_enter Tryz.func56,Tryz.ntmps56
 go_wp2_with fail
 refine H1.out.mono ?_
 rintro e w1 ⟨⟨l,rfl,hl⟩,hb1⟩
 obtain rfl : l = _:=hl.elim (fun h=>absurd h.1 NX.out) fun h=>h.2
 have HB1:=Lib.hid (HB0.out.trans (hb1.mono HB0.out.size))
 have hsz : ¬ 9223372036854775807 < 1 + (Lib.decDigits (val xs)).length:=by
  have:=(dec_fits NX.out).2
  omega
 have HSC:=Lib.hid (str_cons 45 (Lib.decDigits (val xs)))
 clear hl hb1
 go_wp2
 go_ret
 exact ⟨congrArg (fun t=>Ending.returned (.string t)) HSC.out,HB1.out⟩
theorem rtext2_right (s : Bool) (A : Option Addr) (ca : Nat) (xs : List Nat) (w : World) (ha : Rd w A xs) (hx : Lm xs) (hr : rightB s xs = true) (hna : A = none → xs.length = 0∧ca = 0) :
  Calls Tryz.prog 56 #[.agg #[.bool s,.slice A xs.length ca]] w fun e w'=>e = .returned (.string ⟨(decI (sg s (val xs))).toArray⟩)∧Below w.heap.size w w':=by
 obtain ⟨h1,h2,h3,h4,h5⟩:=right_parts hr hx
 unfold decI
 rw [← h4]
 by_cases hn : sg s (val xs) < 0
 ·rw [decide_eq_true hn] at h3
  rw [if_pos hn,h3]
  exact rtext2_neg A ca xs w ha h2 h1 hna
 ·rw [decide_eq_false hn] at h3
  rw [if_neg hn,h3]
  exact rtext2_pos A ca xs w ha h2 h1 hna
end LM
end Go.Proofs.YtaonablbgicmpaaGreatDoor
