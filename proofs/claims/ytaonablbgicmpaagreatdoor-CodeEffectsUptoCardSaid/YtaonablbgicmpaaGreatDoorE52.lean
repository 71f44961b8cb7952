import Derived.Test.YtaonablbgicmpaaGreatDoorE51
import Derived.Test.YtaonablbgicmpaaGreatDoorE46
set_option linter.unusedVariables false
set_option linter.unusedSimpArgs false
set_option maxRecDepth 100000
set_option maxHeartbeats 16000000
namespace Go.Proofs.YtaonablbgicmpaaGreatDoor
open Go Go.RowKit
namespace LM
attribute [local go_sem] run_store_flt
theorem reffect_other (op : Int) (hop : op < 0 ∨ 21 < op) (n : Nat) (b : Int) (c : Cod) (w : World) :
  Calls Tryz.prog 8 #[.agg #[.int .i64 op,.int .i64 (n : Int),.int .i64 b],codA c] w fun e w'=>e = .returned (.tuple #[.int .i64 0,.int .i64 0])∧Below w.heap.size w w':=by
 obtain ⟨W3,hW3,hb,ho,ho1,ho2,ho3⟩:=reff_world op n b c w
 have HB:=Lib.hid hb
 have HW3:=Lib.hid hW3
 clear hW3 hb ho ho1 ho2 ho3
 by_cases h0 : op < 0
 ·have d0 : decide (op < 0) = true:=decide_eq_true h0
  go_enter Tryz.func8,Tryz.ntmps8
  go_wp2_with (first
   | with_reducible refine wpList_build_at rfl 56 _ rfl (some 9) rfl tkC (by kernel_rfl) ?_
   | with_reducible refine wpList_build_at rfl 56 _ rfl (some 10) rfl puC (by kernel_rfl) ?_
   | with_reducible refine wpList_store_new rfl 56 (.tmp 6) (.tmp 9) rfl tkC _ _ (w.heap.size + 1 + 1) (by simp) (by kernel_rfl) (by kernel_rfl) (by kernel_rfl) (by kernel_rfl) (by kernel_rfl) ?_
   | with_reducible refine wpList_store_new rfl 56 (.tmp 7) (.tmp 10) rfl puC _ _ (w.heap.size + 1 + 1 + 1) (by simp) (by kernel_rfl) (by kernel_rfl) (by kernel_rfl) (by kernel_rfl) (by kernel_rfl) ?_)
  refine bodyPost_ret (v:=.tuple #[.int .i64 0,.int .i64 0]) (by simp [results,Tryz.results8,go_sem]) rfl ⟨rfl,by first | exact HB.out | (have h:=HB.out; rw [← HW3.out] at h; exact h)⟩
 ·have d0 : decide (op < 0) = false:=decide_eq_false h0
  have d1 : decide (21 < op) = true:=decide_eq_true (by omega)
  go_enter Tryz.func8,Tryz.ntmps8
  go_wp2_with (first
   | with_reducible refine wpList_build_at rfl 56 _ rfl (some 9) rfl tkC (by kernel_rfl) ?_
   | with_reducible refine wpList_build_at rfl 56 _ rfl (some 10) rfl puC (by kernel_rfl) ?_
   | with_reducible refine wpList_store_new rfl 56 (.tmp 6) (.tmp 9) rfl tkC _ _ (w.heap.size + 1 + 1) (by simp) (by kernel_rfl) (by kernel_rfl) (by kernel_rfl) (by kernel_rfl) (by kernel_rfl) ?_
   | with_reducible refine wpList_store_new rfl 56 (.tmp 7) (.tmp 10) rfl puC _ _ (w.heap.size + 1 + 1 + 1) (by simp) (by kernel_rfl) (by kernel_rfl) (by kernel_rfl) (by kernel_rfl) (by kernel_rfl) ?_)
  refine bodyPost_ret (v:=.tuple #[.int .i64 0,.int .i64 0]) (by simp [results,Tryz.results8,go_sem]) rfl ⟨rfl,by first | exact HB.out | (have h:=HB.out; rw [← HW3.out] at h; exact h)⟩
theorem reffect_10 (n : Nat) (hn : n ≤ 16777215) (b : Int) (c : Cod) (w : World) (hv : CodV w c) (hpc : c.ps.length ≤ c.pc∧c.pc ≤ 9223372036854775807) :
  Calls Tryz.prog 8 #[.agg #[.int .i64 10,.int .i64 (n : Int),.int .i64 b],codA c] w fun e w'=>e = .returned (.tuple #[.int .i64 (frV c.ps n),.int .i64 1])∧Below w.heap.size w w':=by
 obtain ⟨W3,hW3,hb,ho,ho1,ho2,ho3⟩:=reff_world 10 n b c w
 obtain ⟨PB,pc,ps,CB,cc,kids,GB,gc,gs⟩:=c
 dsimp only at hW3 ho1 hpc ⊢
 have hps:=(hv.below hb).ps
 dsimp only at hps
 have y0 : ((((w.alloc (.cells #[.int .i64 10,.int .i64 (n : Int),.int .i64 b] 23 (0,0))).alloc (.cells #[.slice PB ps.length pc,.slice CB kids.len cc,.slice GB gs.length gc] 28 (0,0))).alloc tkO).alloc puO).cell? ⟨w.heap.size + 1 + 1,10,none⟩ = some (.int .i64 0):=by rw [show _ = W3 from hW3]; exact ob_cell ho2 10
 have y1 : ((((w.alloc (.cells #[.int .i64 10,.int .i64 (n : Int),.int .i64 b] 23 (0,0))).alloc (.cells #[.slice PB ps.length pc,.slice CB kids.len cc,.slice GB gs.length gc] 28 (0,0))).alloc tkO).alloc puO).cell? ⟨w.heap.size + 1 + 1 + 1,10,none⟩ = some (.int .i64 1):=by rw [show _ = W3 from hW3]; exact ob_cell ho3 10
 have HB:=Lib.hid hb
 have d0 : decide ((n : Int) < 0) = false:=decide_eq_false (by omega)
 have d00 : decide ((0 : Int) ≤ (n : Int)) = true:=decide_eq_true (by omega)
 by_cases hlt : n < ps.length
 ·obtain ⟨bb,off,hB,hF⟩:=hps
  obtain ⟨p,hp⟩ : ∃ p,ps[n]? = some p:=⟨_,List.getElem?_eq_getElem hlt⟩
  have hf : frV ps n = p.fr:=by unfold frV; rw [hp]
  obtain rfl:=hB (by omega)
  have z5 : ((((w.alloc (.cells #[.int .i64 10,.int .i64 (n : Int),.int .i64 b] 23 (0,0))).alloc (.cells #[.slice (some ⟨bb,off,none⟩) ps.length pc,.slice CB kids.len cc,.slice GB gs.length gc] 28 (0,0))).alloc tkO).alloc puO).cell? ⟨bb,off + n * 7 + 5,none⟩ = some (.int .i64 p.fr):=by rw [show _ = W3 from hW3]; exact (hF n p hp).2.c5
  have d1 : decide ((n : Int) < (ps.length : Int)) = true:=decide_eq_true (by omega)
  have d1' : decide (n < ps.length) = true:=decide_eq_true hlt
  have d3 : (n : Int) < (ps.length : Int):=by omega
  have d4 : (ps.length : Int) ≤ (pc : Int):=by omega
  have d5 : (pc : Int) ≤ 9223372036854775807:=by omega
  have HW3:=Lib.hid hW3
  have HF:=Lib.hid hf
  clear hW3 hb ho ho1 ho2 ho3 hB hF hp hf hpc hv
  go_enter Tryz.func8,Tryz.ntmps8
  go_wp2_with (first
   | with_reducible refine wpList_build_at rfl 56 _ rfl (some 9) rfl tkC (by kernel_rfl) ?_
   | with_reducible refine wpList_build_at rfl 56 _ rfl (some 10) rfl puC (by kernel_rfl) ?_
   | with_reducible refine wpList_store_new rfl 56 (.tmp 6) (.tmp 9) rfl tkC _ _ (w.heap.size + 1 + 1) (by simp) (by kernel_rfl) (by kernel_rfl) (by kernel_rfl) (by kernel_rfl) (by kernel_rfl) ?_
   | with_reducible refine wpList_store_new rfl 56 (.tmp 7) (.tmp 10) rfl puC _ _ (w.heap.size + 1 + 1 + 1) (by simp) (by kernel_rfl) (by kernel_rfl) (by kernel_rfl) (by kernel_rfl) (by kernel_rfl) ?_)
  go_region
  go_wp2_with (fail)
  refine bodyPost_ret (v:=.tuple #[.int .i64 (frV ps n),.int .i64 1]) (by rw [HF.out]; simp [results,Tryz.results8,go_sem]) rfl ⟨rfl,by first | exact HB.out | (have h:=HB.out; rw [← HW3.out] at h; exact h.drew)⟩
 ·have hf : frV ps n = 0:=by unfold frV; rw [List.getElem?_eq_none (by omega)]
  have d1 : decide ((n : Int) < (ps.length : Int)) = false:=decide_eq_false (by omega)
  have d1' : decide (n < ps.length) = false:=decide_eq_false hlt
  have HW3:=Lib.hid hW3
  have HF:=Lib.hid hf
  clear hW3 hb ho ho1 ho2 ho3 hf hpc hv hps
  go_enter Tryz.func8,Tryz.ntmps8
  go_wp2_with (first
   | with_reducible refine wpList_build_at rfl 56 _ rfl (some 9) rfl tkC (by kernel_rfl) ?_
   | with_reducible refine wpList_build_at rfl 56 _ rfl (some 10) rfl puC (by kernel_rfl) ?_
   | with_reducible refine wpList_store_new rfl 56 (.tmp 6) (.tmp 9) rfl tkC _ _ (w.heap.size + 1 + 1) (by simp) (by kernel_rfl) (by kernel_rfl) (by kernel_rfl) (by kernel_rfl) (by kernel_rfl) ?_
   | with_reducible refine wpList_store_new rfl 56 (.tmp 7) (.tmp 10) rfl puC _ _ (w.heap.size + 1 + 1 + 1) (by simp) (by kernel_rfl) (by kernel_rfl) (by kernel_rfl) (by kernel_rfl) (by kernel_rfl) ?_)
  go_region
  go_wp2_with (fail)
  refine bodyPost_ret (v:=.tuple #[.int .i64 (frV ps n),.int .i64 1]) (by rw [HF.out]; simp [results,Tryz.results8,go_sem]) rfl ⟨rfl,by first | exact HB.out | (have h:=HB.out; rw [← HW3.out] at h; exact h.drew)⟩
theorem rceffect_any (op : Int) (n : Nat) (hn : n ≤ 16777215) (b : Int) (c : Cod) (w : World) (hv : CodV w c) (hpc : c.ps.length ≤ c.pc∧c.pc ≤ 9223372036854775807) :
  Calls Tryz.prog 8 #[.agg #[.int .i64 op,.int .i64 (n : Int),.int .i64 b],codA c] w fun e w'=>e = .returned (.tuple #[.int .i64 (effK op n (frV c.ps n)),.int .i64 (effM op)])∧Below w.heap.size w w':=by
 by_cases ho : op < 0 ∨ 21 < op
 ·have e1 : effK op n (frV c.ps n) = 0:=by unfold effK; rw [if_neg (by omega),if_neg (by omega),if_neg (by omega),if_neg (by omega),if_neg (by omega)]
  have e2 : effM op = 0:=by unfold effM; rw [if_neg (by omega)]
  rw [e1,e2]
  exact reffect_other op ho n b c w
 ·rcases (by omega : op = 0 ∨ op = 1 ∨ op = 2 ∨ op = 3 ∨ op = 4 ∨ op = 5 ∨ op = 6 ∨ op = 7 ∨ op = 8 ∨ op = 9 ∨ op = 10 ∨ op = 11 ∨ op = 12 ∨ op = 13 ∨ op = 14 ∨ op = 15 ∨ op = 16 ∨ op = 17 ∨ op = 18 ∨ op = 19 ∨ op = 20 ∨ op = 21) with rfl | rfl | rfl | rfl | rfl | rfl | rfl | rfl | rfl | rfl | rfl | rfl | rfl | rfl | rfl | rfl | rfl | rfl | rfl | rfl | rfl | rfl
  ·exact reffect_0 n hn b c w
  ·exact reffect_1 n hn b c w
  ·exact reffect_2 n hn b c w
  ·exact reffect_3 n hn b c w
  ·exact reffect_4 n hn b c w
  ·exact reffect_5 n hn b c w
  ·exact reffect_6 n hn b c w
  ·exact reffect_7 n hn b c w
  ·exact reffect_8 n hn b c w
  ·exact reffect_9 n hn b c w
  ·exact reffect_10 n hn b c w hv hpc
  ·exact reffect_11 n hn b c w
  ·exact reffect_12 n hn b c w
  ·exact reffect_13 n hn b c w
  ·exact reffect_14 n hn b c w
  ·exact reffect_15 n hn b c w
  ·exact reffect_16 n hn b c w
  ·exact reffect_17 n hn b c w
  ·exact reffect_18 n hn b c w
  ·exact reffect_19 n hn b c w
  ·exact reffect_20 n hn b c w
  ·exact reffect_21 n hn b c w
end LM
namespace LM
attribute [local go_sem] run_store_flt
theorem BB.below {B : Nat} {W0 w w' : World} {v : Value} {bs : List UInt8} (h : BB B W0 v bs w) (hb : Below w.heap.size w w') : BB B W0 v bs w':=by
 obtain ⟨⟨h1,h2⟩,h3,h4⟩:=h
 refine ⟨⟨h1,?_⟩,h3.trans (hb.mono h4),Nat.le_trans h4 hb.size⟩
 rcases h2 with h2 | ⟨g,cap,cur,e,e1,e2,e3⟩
 ·exact .inl h2
 ·refine .inr ⟨g,cap,cur,e,e1,(hb.block g ?_).trans e2,e3⟩
  rcases Nat.lt_or_ge g w.heap.size with h | h
  ·exact h
  ·rw [Array.getElem?_eq_none h] at e2; cases e2
theorem constsL_cons (tx : Hd → Fr → ByteArray) (h : Hd) (k r : Fr) : constsL tx (.cons h k r) = text3 (tx h k) ++ constsL tx r:=rfl
theorem insN_mem {l : List Prh} {p : Prh} (h : p ∈ l) : p.code.length ≤ insN l:=by
 induction l with
 | nil=>cases h
 | cons q l ih =>
  rw [insN_cons]
  rcases List.mem_cons.1 h with rfl | h
  ·omega
  ·have:=ih h; omega
theorem cbytes_by (tx : Hd → Fr → ByteArray) (q : Hd → Fr → Bool) (pb po pc : Nat) (ps : List Prh) (cb co cc : Nat) (kids : Fr) (gb go gc : Nat) (gs : List ByteArray) (w : World)
  (hv : CodV w ⟨some ⟨pb,po,none⟩,pc,ps,some ⟨cb,co,none⟩,cc,kids,some ⟨gb,go,none⟩,gc,gs⟩) (hok : Cod.Ok ⟨some ⟨pb,po,none⟩,pc,ps,some ⟨cb,co,none⟩,cc,kids,some ⟨gb,go,none⟩,gc,gs⟩)
  (hpF : PrcAt w pb po ps) (hpI : ∀ p ∈ ps,∃ b off,(0 < p.code.length → p.B = some ⟨b,off,none⟩∧b < w.heap.size)∧InsAt w b off p.code) (hcF : FAt w cb co kids) (hgF : StrAt w gb go gs)
  (hr : (fewB ⟨some ⟨pb,po,none⟩,pc,ps,some ⟨cb,co,none⟩,cc,kids,some ⟨gb,go,none⟩,gc,gs⟩ && (ps.all prB && (gs.all (fun s=>decide (s.size ≤ 100)) && allF q kids))) = true)
  (hq : ∀ hh k j r,kids.drop j = .cons hh k r → ∀ W,Below w.heap.size w W → DatV W hh k → Calls Tryz.prog 40 #[datA hh k.len] W fun e w'=>e = .returned (.bool (q hh k))∧Below W.heap.size W w')
  (hP : ∀ hh k j r,kids.drop j = .cons hh k r → (tx hh k).size ≤ 20000∧∀ W,Below w.heap.size w W → DatV W hh k → Calls Tryz.prog 18 #[datA hh k.len] W fun e w'=>e = .returned (.tuple #[.string (tx hh k),.int .i64 0])∧Below W.heap.size W w')
  (hl : (bytesL tx ⟨some ⟨pb,po,none⟩,pc,ps,some ⟨cb,co,none⟩,cc,kids,some ⟨gb,go,none⟩,gc,gs⟩).length ≤ 1000000000) :
  Calls Tryz.prog 9 #[codA ⟨some ⟨pb,po,none⟩,pc,ps,some ⟨cb,co,none⟩,cc,kids,some ⟨gb,go,none⟩,gc,gs⟩] w fun e w'=>∃ v' W0,e = .returned (.tuple #[v',.int .i64 0])∧Below w.heap.size w W0∧BB W0.heap.size W0 v' (bytesL tx ⟨some ⟨pb,po,none⟩,pc,ps,some ⟨cb,co,none⟩,cc,kids,some ⟨gb,go,none⟩,gc,gs⟩) w':=by
 obtain ⟨W0,hW0,hb0,ho,hs0,hz0⟩:=cod_block w ⟨some ⟨pb,po,none⟩,pc,ps,some ⟨cb,co,none⟩,cc,kids,some ⟨gb,go,none⟩,gc,gs⟩
 have R0:=cright_by q _ W0 (hv.below hb0) hok fun hh k j r hdr W hW hD=>hq hh k j r hdr W (bel_trans (B:=w.heap.size) hb0 hW) hD
 rw [hr] at R0
 have k0:=K3.of_block ho
 rw [Bool.and_eq_true,Bool.and_eq_true,Bool.and_eq_true] at hr
 obtain ⟨r1,r2,r3,r4⟩:=hr
 unfold fewB at r1
 simp only [Bool.and_eq_true,decide_eq_true_eq] at r1
 obtain ⟨f1,f2,f3,f4⟩:=r1
 have hi : ∀ p ∈ ps,p.code.length < 16777216:=fun p hp=>by
  have:=insN_mem hp
  omega
 obtain ⟨tot,htot⟩ : ∃ tot,bytesL tx ⟨some ⟨pb,po,none⟩,pc,ps,some ⟨cb,co,none⟩,cc,kids,some ⟨gb,go,none⟩,gc,gs⟩ = tot:=⟨_,rfl⟩
 have htot2 : num3 kids.len ++ (constsL tx kids ++ (num3 gs.length ++ (globsL gs ++ (num3 ps.length ++ procsL ps)))) = tot:=htot
 rw [htot] at hl ⊢
 have R0:=Lib.hid R0
 have HT:=Lib.hid htot2
 have HI:=Lib.hid hi
 have HW0:=Lib.hid hW0
 have HB0:=Lib.hid hb0
 have HS0:=Lib.hid hs0
 have K0:=Lib.hid k0
 have HP:=Lib.hid hP
 have HPF:=Lib.hid (hpF.below hb0)
 have HPI:=Lib.hid hpI
 have HCF:=Lib.hid (FAt.below hb0 _ _ _ hcF)
 have HGF:=Lib.hid (hgF.below hb0)
 have HL:=Lib.hid hl
 have HOK:=Lib.hid hok
 have HPR:=Lib.hid r2
 have HGR:=Lib.hid r3
 have HFW:=Lib.hid (And.intro f1 (And.intro f2 f3))
 obtain ⟨y0,y1,y2⟩:=k0
 simp only [Nat.zero_add] at y0 y1 y2
 clear hW0 hb0 ho hs0 hz0 hv hok hq hP hl hpF hpI hcF hgF r2 r3 r4 f4 hi htot htot2
 go_enter Tryz.func9,Tryz.ntmps9
 go_wp2_with (fail)
 rw [HW0.out]
 refine R0.out.mono ?_
 rintro e w1 ⟨rfl,hb1⟩
 have bb1:=(BB.nil W0).below hb1
 have C1:=Lib.hid (cnum3_any _ W0 _ _ kids.len (by have:=HFW.out; omega) w1 bb1 (by decide))
 have K1:=Lib.hid (K0.out.keep hb1 HS0.out)
 clear hb1 bb1 y0 y1 y2
 obtain ⟨y0,y1,y2⟩:=K1.out
 simp only [Nat.zero_add] at y0 y1 y2
 go_wp2_with (fail)
 refine C1.out.mono ?_
 rintro e w2 ⟨v2,rfl,hb2,hs2⟩
 clear hs2 y0 y1 y2
 have HB2:=Lib.hid hb2
 have K2:=Lib.hid (K0.out.keep hb2.2.1 HS0.out)
 clear hb2
 obtain ⟨y0,y1,y2⟩:=K2.out
 simp only [Nat.zero_add] at y0 y1 y2
 go_wp2_with (fail)
 clear y0 y1 y2
 go_loopg [4,23] kids.len (fun kk v i wr=>∃ j : Nat,j ≤ kids.len∧kk = kids.len - j∧i = .int .i64 (j : Int)∧∃ done,BB W0.heap.size W0 v done wr∧done ++ constsL tx (kids.drop j) = num3 kids.len ++ constsL tx kids)
 case atStart=>exact ⟨0,Nat.zero_le _,rfl,rfl,_,HB2.out,rfl⟩
 case round =>
  obtain ⟨j,hj,rfl,rfl,done,hbr,hd⟩:=hrel
  have HBR:=Lib.hid hbr
  have HD:=Lib.hid hd
  clear hbr hd
  by_cases hjl : j < kids.len
  ·obtain ⟨hh,k,r,hdr,hdr1⟩:=Fr.cons_of_lt hjl
   have hd2:=HD.out
   rw [hdr,constsL_cons] at hd2
   obtain ⟨hbl,⟨x0,x1,x2,x3,x4,x5,x6,x7⟩,D⟩:=counted_item (FAt.below HBR.out.2.1 _ _ _ HCF.out) hdr
   obtain ⟨htx,hpr⟩:=HP.out hh k j r hdr
   obtain ⟨Wd,hWd,hbd,hod,-⟩:=dat_block wr hh k.len
   have hbbd : BB W0.heap.size W0 u4 done Wd:=HBR.out.below hbd
   have P1:=Lib.hid (hpr Wd (bel_trans (B:=w.heap.size) HB0.out hbbd.2.1) (D.below hbd))
   have hlen : done.length + (3 + (tx hh k).size) ≤ 1000000000:=by
    have h1:=congrArg List.length hd2
    have h2:=congrArg List.length HT.out
    have h3:=HL.out
    simp only [List.length_append,text3_len] at h1 h2
    omega
   have HX:=Lib.hid htx
   have HLN:=Lib.hid hlen
   have HD2:=Lib.hid hd2
   have HDR:=Lib.hid hdr1
   have HWd:=Lib.hid hWd
   have HBD:=Lib.hid hbbd
   obtain ⟨z0,z1,z2,z3,z4,z5,z6,z7⟩:=C8.of_block hod
   clear hd2 hdr hdr1 D htx hpr hlen hWd hbd hod hbbd
   go_wp2_with (fail)
   rw [HWd.out]
   go_wp2_with (fail)
   refine P1.out.mono ?_
   rintro e q1 ⟨rfl,hb1⟩
   have D1:=Lib.hid (ctext3_any _ W0 u4 _ (tx hh k) (by have:=HX.out; omega) q1 (HBD.out.below hb1) HLN.out)
   clear hb1
   go_wp2_with (fail)
   refine D1.out.mono ?_
   rintro e q2 ⟨u2,rfl,hc2,-⟩
   have HC2:=Lib.hid hc2
   clear hc2
   have h40:=HFW.out.2.1
   go_wp2_with (fail)
   go_roundg (kids.len - (j + 1))
   case measure=>omega
   case rel=>exact ⟨j + 1,by omega,rfl,by go_num,_,HC2.out,by rw [HDR.out,List.append_assoc]; exact HD2.out⟩
  ·have hje : j = kids.len:=by omega
   subst hje
   have hnil : kids.drop kids.len = .nil:=by
    have h1:=Fr.len_drop kids.len kids
    cases h2 : kids.drop kids.len with
    | nil=>rfl
    | cons x y z=>rw [h2] at h1; have h3 : z.len + 1 = kids.len - kids.len:=h1; omega
   have hd3 : done = num3 kids.len ++ constsL tx kids:=by
    have:=HD.out
    rw [hnil] at this
    rw [← this]; exact (List.append_nil _).symm
   subst hd3
   have K3:=Lib.hid (K0.out.keep HBR.out.2.1 HS0.out)
   have hlen : (num3 kids.len ++ constsL tx kids).length + 3 ≤ 1000000000:=by
    have h2:=congrArg List.length HT.out
    have h3:=HL.out
    simp only [List.length_append,num3_len] at h2 ⊢
    omega
   have C3:=Lib.hid (cnum3_any _ W0 u4 _ gs.length (by have:=HFW.out; omega) wr HBR.out hlen)
   obtain ⟨y0,y1,y2⟩:=K3.out
   simp only [Nat.zero_add] at y0 y1 y2
   clear hnil hlen
   go_wp2_with (fail)
   refine C3.out.mono ?_
   rintro e w3 ⟨v3,rfl,hb3,-⟩
   have HB3:=Lib.hid hb3
   have K4:=Lib.hid (K0.out.keep hb3.2.1 HS0.out)
   clear hb3 y0 y1 y2
   obtain ⟨y0,y1,y2⟩:=K4.out
   simp only [Nat.zero_add] at y0 y1 y2
   go_wp2_with (fail)
   clear y0 y1 y2
   go_loopg [4,44] gs.length (fun kk v i wr=>∃ j : Nat,j ≤ gs.length∧kk = gs.length - j∧i = .int .i64 (j : Int)∧∃ done,BB W0.heap.size W0 v done wr∧done ++ globsL (gs.drop j) = num3 kids.len ++ constsL tx kids ++ num3 gs.length ++ globsL gs)
   case atStart=>exact ⟨0,Nat.zero_le _,rfl,rfl,_,HB3.out,rfl⟩
   case round =>
    obtain ⟨j,hj,rfl,rfl,done,hbr,hd⟩:=hrel
    have HBR:=Lib.hid hbr
    have HD:=Lib.hid hd
    clear hbr hd
    by_cases hjl : j < gs.length
    ·obtain ⟨s,hs,hdr⟩:=drop_at hjl
     have hd2:=HD.out
     rw [hdr] at hd2
     have hd2 : done ++ (text3 s ++ globsL (gs.drop (j + 1))) = num3 kids.len ++ constsL tx kids ++ num3 gs.length ++ globsL gs:=hd2
     obtain ⟨hbl,x0⟩:=(HGF.out.below HBR.out.2.1) j s hs
     have hsz : s.size ≤ 100:=of_decide_eq_true (List.all_eq_true.1 HGR.out s (List.mem_of_getElem? hs))
     have hlen : done.length + (3 + s.size) ≤ 1000000000:=by
      have h1:=congrArg List.length hd2
      have h2:=congrArg List.length HT.out
      have h3:=HL.out
      simp only [List.length_append,text3_len] at h1 h2
      omega
     have D1:=Lib.hid (ctext3_any _ W0 u4 _ s (by omega) wr HBR.out hlen)
     have HD2:=Lib.hid hd2
     clear hd2 hdr hs hlen hsz
     go_wp2_with (fail)
     refine D1.out.mono ?_
     rintro e q2 ⟨u2,rfl,hc2,-⟩
     have HC2:=Lib.hid hc2
     clear hc2
     have h40:=HFW.out.2.2
     go_wp2_with (fail)
     go_roundg (gs.length - (j + 1))
     case measure=>omega
     case rel=>exact ⟨j + 1,by omega,rfl,by go_num,_,HC2.out,by rw [← HD2.out,List.append_assoc]⟩
    ·have hje : j = gs.length:=by omega
     subst hje
     have hd3 : done = num3 kids.len ++ constsL tx kids ++ num3 gs.length ++ globsL gs:=by
      have:=HD.out
      rw [List.drop_length] at this
      rw [← this]; exact (List.append_nil _).symm
     subst hd3
     have K5:=Lib.hid (K0.out.keep HBR.out.2.1 HS0.out)
     have hlen : (num3 kids.len ++ constsL tx kids ++ num3 gs.length ++ globsL gs).length + 3 ≤ 1000000000:=by
      have h2:=congrArg List.length HT.out
      have h3:=HL.out
      simp only [List.length_append,num3_len] at h2 ⊢
      omega
     have C5:=Lib.hid (cnum3_any _ W0 u4 _ ps.length (by have:=HFW.out; omega) wr HBR.out hlen)
     obtain ⟨y0,y1,y2⟩:=K5.out
     simp only [Nat.zero_add] at y0 y1 y2
     clear hlen
     go_wp2_with (fail)
     refine C5.out.mono ?_
     rintro e w5 ⟨v5,rfl,hb5,-⟩
     have HB5:=Lib.hid hb5
     have K6:=Lib.hid (K0.out.keep hb5.2.1 HS0.out)
     clear hb5 y0 y1 y2
     obtain ⟨y0,y1,y2⟩:=K6.out
     simp only [Nat.zero_add] at y0 y1 y2
     go_wp2_with (fail)
     clear y0 y1 y2
     go_loopg [4,60] ps.length (fun kk v i wr=>∃ j : Nat,j ≤ ps.length∧kk = ps.length - j∧i = .int .i64 (j : Int)∧∃ done,BB W0.heap.size W0 v done wr∧done ++ procsL (ps.drop j) = tot)
     case atStart=>exact ⟨0,Nat.zero_le _,rfl,rfl,_,HB5.out,by rw [← HT.out]; simp only [List.append_assoc]; rfl⟩
     case round =>
      obtain ⟨j,hj,rfl,rfl,done,hbr,hd⟩:=hrel
      have HBR:=Lib.hid hbr
      have HD:=Lib.hid hd
      clear hbr hd
      by_cases hjl : j < ps.length
      ·obtain ⟨p,hp,hdr⟩:=drop_at hjl
       have hmem:=List.mem_of_getElem? hp
       have hd2:=HD.out
       rw [hdr] at hd2
       have hd2 : done ++ (procL p ++ procsL (ps.drop (j + 1))) = tot:=hd2
       obtain ⟨hbl,x0,x1,x2,x3,x4,x5,x6⟩:=(HPF.out.below HBR.out.2.1) j p hp
       obtain ⟨Wd,hWd⟩ : ∃ Wd,wr.alloc (prO p) = Wd:=⟨_,rfl⟩
       have hbd : Below wr.heap.size wr Wd:=by rw [← hWd]; exact (Below.refl _ wr).alloc (Nat.le_refl _) _
       have hod : Wd.heap[wr.heap.size]? = some (prO p):=by rw [← hWd]; unfold World.alloc; simp
       have hlen : done.length + (procL p).length ≤ 1000000000:=by
        have h1:=congrArg List.length hd2
        have h3:=HL.out
        simp only [List.length_append] at h1
        omega
       obtain ⟨ib,io,h1,h2⟩:=HPI.out p hmem
       have D1:=Lib.hid (cproc3_any W0.heap.size W0 (Nat.le_refl _) u4 done p Wd (HBR.out.below hbd) (List.all_eq_true.1 HPR.out p hmem) (HOK.out.pr p hmem) (HI.out p hmem) ⟨ib,io,fun h=>⟨(h1 h).1,Nat.lt_of_lt_of_le (h1 h).2 HB0.out.size⟩,h2.below HB0.out⟩ hlen)
       have HD2:=Lib.hid hd2
       have HWd:=Lib.hid hWd
       obtain ⟨z0,z1,z2,z3,z4,z5,z6⟩:=P7.of_block hod
       clear hd2 hdr hp hlen hmem hWd hbd hod h1 h2
       go_wp2_with (fail)
       rw [HWd.out]
       go_wp2_with (fail)
       refine D1.out.mono ?_
       rintro e q2 ⟨u2,rfl,hc2,-⟩
       have HC2:=Lib.hid hc2
       clear hc2
       have h40:=HFW.out.1
       go_wp2_with (fail)
       go_roundg (ps.length - (j + 1))
       case measure=>omega
       case rel=>exact ⟨j + 1,by omega,rfl,by go_num,_,HC2.out,by rw [← HD2.out,List.append_assoc]⟩
      ·have hje : j = ps.length:=by omega
       subst hje
       have hd3 : done = tot:=by
        have:=HD.out
        rw [List.drop_length] at this
        rw [← this]; exact (List.append_nil _).symm
       subst hd3
       go_wp2_with (fail)
       go_ret2
       exact ⟨_,_,rfl,HB0.out,HBR.out⟩
end LM
namespace LM
attribute [local go_sem] run_store_flt
abbrev cod0 : Cod:=⟨none,0,[],none,0,.nil,none,0,[]⟩
theorem cod0_v (w : World) : CodV w cod0:=⟨⟨0,0,fun h=>(by cases h),fun j p h=>(by simp at h)⟩,fun p h=>(by cases h),⟨0,0,fun h=>(by cases h),trivial⟩,⟨0,0,fun h=>(by cases h),fun j p h=>(by simp at h)⟩⟩
theorem cod0_ok : cod0.Ok:=⟨by decide,⟨Nat.le_refl 0,by decide⟩,by decide,fun p h=>(by cases h)⟩
theorem cright_zero (w : World) : Calls Tryz.prog 16 #[.agg #[.slice none 0 0,.slice none 0 0,.slice none 0 0]] w fun e w'=>e = .returned (.bool true)∧Below w.heap.size w w':=by
 have h:=cright_by (fun _ _=>true) cod0 w (cod0_v w) cod0_ok fun hh k j r hdr=>by cases j <;> cases hdr
 rw [show (fewB cod0 && (cod0.ps.all prB && (cod0.gs.all (fun s=>decide (s.size ≤ 100)) && allF (fun _ _=>true) cod0.kids))) = true by decide] at h
 exact h
theorem cbytes_zero (w : World) : Calls Tryz.prog 9 #[.agg #[.slice none 0 0,.slice none 0 0,.slice none 0 0]] w fun e w'=>∃ v' W0,e = .returned (.tuple #[v',.int .i64 0])∧Below w.heap.size w W0∧BB W0.heap.size W0 v' [0,0,0,0,0,0,0,0,0] w':=by
 obtain ⟨W0,hW0⟩ : ∃ W0,w.alloc (.cells #[.slice none 0 0,.slice none 0 0,.slice none 0 0] 28 (0,0)) = W0:=⟨_,rfl⟩
 have hb0 : Below w.heap.size w W0:=by rw [← hW0]; exact (Below.refl _ w).alloc (Nat.le_refl _) _
 have hs0 : w.heap.size < W0.heap.size:=by rw [← hW0]; simp
 have k0 : K3 W0 w.heap.size 0 cod0:=K3.of_block (by rw [← hW0]; unfold World.alloc; simp; rfl)
 have R0:=Lib.hid (cright_zero W0)
 have HW0:=Lib.hid hW0
 have HB0:=Lib.hid hb0
 have HS0:=Lib.hid hs0
 have K0:=Lib.hid k0
 have y0 : W0.cell? ⟨w.heap.size,0,none⟩ = some (.slice none 0 0):=k0.c0
 have y1 : W0.cell? ⟨w.heap.size,1,none⟩ = some (.slice none 0 0):=k0.c1
 have y2 : W0.cell? ⟨w.heap.size,2,none⟩ = some (.slice none 0 0):=k0.c2
 clear hW0 hb0 hs0 k0
 go_enter Tryz.func9,Tryz.ntmps9
 go_wp2_with (fail)
 rw [HW0.out]
 go_wp2_with (fail)
 refine R0.out.mono ?_
 rintro e w1 ⟨rfl,hb1⟩
 have bb1:=(BB.nil W0).below hb1
 have C1:=Lib.hid (cnum3_any _ W0 _ _ 0 (by decide) w1 bb1 (by decide))
 have k1:=K0.out.keep hb1 HS0.out
 clear hb1 bb1 y0 y1 y2
 have y1 : w1.cell? ⟨w.heap.size,1,none⟩ = some (.slice none 0 0):=k1.c1
 clear k1
 go_wp2_with (fail)
 refine C1.out.mono ?_
 rintro e w2 ⟨v2,rfl,hb2,-⟩
 have HB2:=Lib.hid hb2
 have k2:=K0.out.keep hb2.2.1 HS0.out
 clear hb2 y1
 have y1 : w2.cell? ⟨w.heap.size,1,none⟩ = some (.slice none 0 0):=k2.c1
 have y2 : w2.cell? ⟨w.heap.size,2,none⟩ = some (.slice none 0 0):=k2.c2
 have C2:=Lib.hid (cnum3_any _ W0 v2 _ 0 (by decide) w2 HB2.out (by decide))
 clear k2
 go_wp2_with (fail)
 go_loopg [4,23] 0 (fun kk v i wr=>wr = w2∧i = .int .i64 0∧v = v2)
 case atStart=>exact ⟨rfl,rfl,rfl⟩
 case round =>
  obtain ⟨rfl,rfl,rfl⟩:=hrel
  go_wp2_with (fail)
  refine C2.out.mono ?_
  rintro e w3 ⟨v3,rfl,hb3,-⟩
  have HB3:=Lib.hid hb3
  have k3:=K0.out.keep hb3.2.1 HS0.out
  clear hb3 y1 y2
  have y0 : w3.cell? ⟨w.heap.size,0,none⟩ = some (.slice none 0 0):=k3.c0
  have y2 : w3.cell? ⟨w.heap.size,2,none⟩ = some (.slice none 0 0):=k3.c2
  have C3:=Lib.hid (cnum3_any _ W0 v3 _ 0 (by decide) w3 HB3.out (by decide))
  clear k3
  go_wp2_with (fail)
  go_loopg [4,44] 0 (fun kk v i wr=>wr = w3∧i = .int .i64 0∧v = v3)
  case atStart=>exact ⟨rfl,rfl,rfl⟩
  case round =>
   obtain ⟨rfl,rfl,rfl⟩:=hrel
   go_wp2_with (fail)
   refine C3.out.mono ?_
   rintro e w4 ⟨v4,rfl,hb4,-⟩
   have HB4:=Lib.hid hb4
   have k4:=K0.out.keep hb4.2.1 HS0.out
   clear hb4 y0 y2
   have y0 : w4.cell? ⟨w.heap.size,0,none⟩ = some (.slice none 0 0):=k4.c0
   clear k4
   go_wp2_with (fail)
   go_loopg [4,60] 0 (fun kk v i wr=>wr = w4∧i = .int .i64 0∧v = v4)
   case atStart=>exact ⟨rfl,rfl,rfl⟩
   case round =>
    obtain ⟨rfl,rfl,rfl⟩:=hrel
    go_wp2_with (fail)
    go_ret2
    exact ⟨_,_,rfl,HB0.out,HB4.out⟩
end LM
end Go.Proofs.YtaonablbgicmpaaGreatDoor
