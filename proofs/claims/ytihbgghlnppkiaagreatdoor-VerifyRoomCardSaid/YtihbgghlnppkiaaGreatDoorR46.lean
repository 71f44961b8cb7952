import Derived.Test.YtihbgghlnppkiaaGreatDoorR45
import Derived.Deep.AppendLies
set_option linter.unusedVariables false
set_option linter.unusedSimpArgs false
set_option maxRecDepth 100000
set_option maxHeartbeats 16000000
namespace Go.Proofs.YtihbgghlnppkiaaGreatDoor
open Go Go.RowKit
namespace LM
def setsV : Array Value → Nat → List Value → Array Value
  | cs,_,[]=>cs
  | cs,o,v :: vs=>setsV (cs.setIfInBounds o v) (o + 1) vs
theorem setsV_size : ∀ (vs : List Value) (cs : Array Value) (o : Nat),(setsV cs o vs).size = cs.size
  | [],_,_=>rfl
  | v :: vs,cs,o=>by rw [setsV,setsV_size vs]; simp
theorem setsV_get : ∀ (vs : List Value) (cs : Array Value) (o k : Nat),(setsV cs o vs)[k]? = if o ≤ k∧k < o + vs.length∧k < cs.size then vs[k - o]? else cs[k]?
  | [],cs,o,k=>by rw [setsV,if_neg]; simp; omega
  | v :: vs,cs,o,k=>by
    rw [setsV,setsV_get vs]
    simp only [Array.size_setIfInBounds,List.length_cons]
    by_cases h : k = o
    · subst h
      rw [if_neg (by omega)]
      by_cases h2 : k < cs.size
      · rw [if_pos ⟨by omega,by omega,h2⟩,Array.getElem?_setIfInBounds_self_of_lt h2,Nat.sub_self]
        rfl
      · rw [if_neg (by omega),Array.getElem?_eq_none (by simp; omega),Array.getElem?_eq_none (by omega)]
    · by_cases h3 : o + 1 ≤ k∧k < o + 1 + vs.length∧k < cs.size
      · rw [if_pos h3,if_pos ⟨by omega,by omega,h3.2.2⟩,show k - o = (k - (o + 1)) + 1 by omega]
        rfl
      · rw [if_neg h3,if_neg (by omega),Array.getElem?_setIfInBounds_ne (fun e=>h e.symm)]
structure Sto (WU : World) (c : Cod) (p : Prh) (P N gt capt T B : Nat) (m : Int) (wr : World) : Prop where
  own : WU.ownsRow B 35 7 (.slice (some ⟨gt,0,none⟩) N capt) N (prcC c.ps)
  bel : ∀ q,q < wr.heap.size → q ≠ P → WU.heap[q]? = wr.heap[q]?
  prc : WU.heap[P]? = some (.cells #[.string p.nm,.int .i64 p.pa,.bool p.rs,.int .i64 p.sl,.int .i64 (m - 1),.int .i64 p.fr,.slice p.B p.code.length p.cap] 35 (0,0))
  blk : WU.heap[T]? = some (.cells #[.slice (some ⟨gt,0,none⟩) N capt,.slice c.CB c.kids.len c.cc,.slice c.GB c.gs.length c.gc] 26 (0,0))
theorem sto_of {wr WT WU : World} {c : Cod} {p : Prh} {P N gt capt T : Nat} {m : Int} (h : Tia wr WT c N gt capt T) (oP : WT.heap[P]? = some (prO p)) (hP : P < wr.heap.size) (hW : WT.setCell ⟨P,4,none⟩ (.int .i64 (m - 1)) = WU) : Sto WU c p P N gt capt T wr.heap.size m wr:=by
  have hf : ∀ q,q ≠ P → WU.heap[q]? = WT.heap[q]?:=fun q hq=>by rw [← hW]; exact heap_setCell_other _ (⟨P,4,none⟩ : Addr) _ _ hq
  have hg:=far_own h.own
  refine ⟨?_,fun q hq hn=>(hf q hn).trans (h.bel.block q hq),?_,(hf T (by have:=h.low; omega)).trans h.blk⟩
  · obtain ⟨k1,k2⟩:=h.own
    refine ⟨k1,.inr ?_⟩
    rcases k2 with ⟨k2,-⟩ | ⟨g,cap,cur,k2,k3,k4,k5⟩
    · cases k2
    · have e : g = gt:=by injection k2 with e1; injection e1 with e1; injection e1 with e1; exact e1.symm
      subst e
      exact ⟨g,cap,cur,k2,k3,(hf g (by omega)).trans k4,k5⟩
  · rw [← hW]
    exact Lib.heap_setCell_same (i:=4) oP _
theorem own_free {w : World} {B N g cap j k : Nat} {T : TypeId} {xs : List Value} (h : w.ownsRow B T 7 (.slice (some ⟨g,0,none⟩) N cap) N xs) (hj : j < N) (hk : k < 7) : w.frozen? ⟨g,j * 7 + k,none⟩ = false:=by
  obtain ⟨g',cap',cur,e1,h2,h3,h4,h5,h6,h7⟩:=own_formV h (by omega)
  injection e1 with e1 e2 e3
  injection e1 with e1
  injection e1 with e1
  subst e1 e3
  exact ob_free h3 _ (by rw [h6]; omega)
theorem sto_fin {WU : World} {c : Cod} {p : Prh} {P N gt capt T B j : Nat} {m : Int} {wr : World} (S : Sto WU c p P N gt capt T B m wr) (hN : c.ps.length = N) (hj : c.ps[j]? = some p) (WV : World)
    (hW : (((((((WU.setCell ⟨gt,j * 7,none⟩ (.string p.nm)).setCell ⟨gt,j * 7 + 1,none⟩ (.int .i64 p.pa)).setCell ⟨gt,j * 7 + 2,none⟩ (.bool p.rs)).setCell ⟨gt,j * 7 + 3,none⟩ (.int .i64 p.sl)).setCell ⟨gt,j * 7 + 4,none⟩ (.int .i64 (m - 1))).setCell ⟨gt,j * 7 + 5,none⟩ (.int .i64 p.fr)).setCell ⟨gt,j * 7 + 6,none⟩ (.slice p.B p.code.length p.cap)) = WV) :
    PrcAt WV gt 0 (c.ps.set j (p.at (m - 1)))∧(∀ q,q ≠ gt → WV.heap[q]? = WU.heap[q]?)∧N ≤ capt∧capt ≤ 9223372036854775807:=by
  have hjl : j < c.ps.length:=(List.getElem?_eq_some_iff.1 hj).1
  obtain ⟨g',cap',cur,e1,h2,h3,h4,h5,h6,h7⟩:=own_formV S.own (by omega)
  injection e1 with e1 e2 e3
  injection e1 with e1
  injection e1 with e1
  subst e1 e3
  have hv : WV.heap[gt]? = some (.cells (setsV cur (j * 7) (prV7 (p.at (m - 1)))) 35 (0,0)):=by
    rw [← hW]
    exact Lib.heap_setCell_same (i:=j * 7 + 6) (Lib.heap_setCell_same (i:=j * 7 + 5) (Lib.heap_setCell_same (i:=j * 7 + 4) (Lib.heap_setCell_same (i:=j * 7 + 3) (Lib.heap_setCell_same (i:=j * 7 + 2) (Lib.heap_setCell_same (i:=j * 7 + 1) (Lib.heap_setCell_same (i:=j * 7) h3 _) _) _) _) _) _) _
  refine ⟨?_,fun q hq=>?_,h4,by unfold maxLen at h5; omega⟩
  · have ht : (setsV cur (j * 7) (prV7 (p.at (m - 1)))).toList.take (N * 7) = prcC (c.ps.set j (p.at (m - 1))):=by
      apply List.ext_getElem?
      intro i
      have hs:=setsV_size (prV7 (p.at (m - 1))) cur (j * 7)
      rcases Nat.lt_or_ge i (N * 7) with hi | hi
      · rw [List.getElem?_take_of_lt hi,Array.getElem?_toList,setsV_get]
        have e : i = i / 7 * 7 + i % 7:=by omega
        have hg : (prcC (c.ps.set j (p.at (m - 1))))[i]? = (c.ps.set j (p.at (m - 1)))[i / 7]?.bind fun x=>(prV7 x)[i % 7]?:=by
          conv=>lhs; rw [e]
          exact flat_get prV7 7 (fun _=>rfl) _ _ _ (by omega)
        rw [hg]
        by_cases hc : i / 7 = j
        · rw [if_pos ⟨by omega,by simp; omega,by omega⟩,hc,List.getElem?_set_self hjl]
          show _ = (prV7 (p.at (m - 1)))[i % 7]?
          rw [show i - j * 7 = i % 7 by omega]
        · rw [if_neg (by simp; omega),List.getElem?_set_ne (fun h=>hc h.symm)]
          have h8 : (prcC c.ps)[i]? = c.ps[i / 7]?.bind fun x=>(prV7 x)[i % 7]?:=by
            conv=>lhs; rw [e]
            exact flat_get prV7 7 (fun _=>rfl) _ _ _ (by omega)
          rw [← h8,← h7,List.getElem?_take_of_lt (by rw [prcC_len,hN]; exact hi),Array.getElem?_toList]
      · rw [List.getElem?_eq_none (by rw [List.length_take]; omega),List.getElem?_eq_none (by rw [prcC_len,List.length_set]; omega)]
    exact prc_of_row hv ht
  · rw [← hW]
    rw [heap_setCell_other _ (⟨gt,_,none⟩ : Addr) _ _ hq,heap_setCell_other _ (⟨gt,_,none⟩ : Addr) _ _ hq,heap_setCell_other _ (⟨gt,_,none⟩ : Addr) _ _ hq,heap_setCell_other _ (⟨gt,_,none⟩ : Addr) _ _ hq,heap_setCell_other _ (⟨gt,_,none⟩ : Addr) _ _ hq,heap_setCell_other _ (⟨gt,_,none⟩ : Addr) _ _ hq,heap_setCell_other _ (⟨gt,_,none⟩ : Addr) _ _ hq]
theorem mx3 {mo u de : Int} (h0 : 0 ≤ mo) (h1 : mo ≤ de) (h2 : u ≤ de) : 0 ≤ max mo (max 0 u) ∧ max mo (max 0 u) ≤ de := ⟨Int.le_trans h0 (Int.le_max_left ..), Int.max_le.2 ⟨h1, Int.max_le.2 ⟨Int.le_trans h0 h1, h2⟩⟩⟩
theorem mx4 {mo de : Int} (h0 : 0 ≤ mo) (h1 : mo ≤ de) : 0 ≤ max mo 0 ∧ max mo 0 ≤ de := ⟨Int.le_trans h0 (Int.le_max_left ..), Int.max_le.2 ⟨h1, Int.le_trans h0 h1⟩⟩
theorem lt_next {j N g : Nat} (h : j < N) (hg : g = N - j) : N - (j + 1) < g := hg ▸ Nat.sub_lt_sub_left h (Nat.lt_succ_self j)
theorem vroom_by (c : Cod) (more : Int) (k : Nat) (bq : Bool) (w : World) (hv : CodV w c) (hps : c.ps.length ≤ c.pc∧c.pc ≤ 9223372036854775807) (hok : greatV c = false → c.Ok)
    (hal : ∀ W,Below w.heap.size w W → Calls Tryz.prog 4 #[] W fun e w'=>e = .returned (.bool true)∧Below W.heap.size W w')
    (hM : ∀ (n : Nat) W,n ≤ 40000 → Calls Tryz.prog 45 #[.int .u64 1,.int .u64 (n : Int)] W fun e w'=>e = .returned (.tuple #[.int .u64 0,.int .u64 (n : Int)])∧W = w')
    (hck : ∀ (d : Cod) W,Below w.heap.size w W → CodV W d → d.Ok → d.kids = c.kids → d.ps.length ≤ 140737488355328 → CheckW (CheckP (tkC d.ps) puC d k (rightP d bq)) d W) :
    Calls Tryz.prog 3 #[codA c,.int .i64 more] w fun e w'=>e = .returned (.bool true)∧Below w.heap.size w w':=by
  obtain ⟨W1,hW1⟩ : ∃ W1,w.alloc (codO c) = W1:=⟨_,rfl⟩
  have hb1 : Below w.heap.size w W1:=by rw [← hW1]; exact (Below.refl _ w).alloc (Nat.le_refl _) _
  have hs1 : w.heap.size < W1.heap.size:=by rw [← hW1]; simp
  have o1 : W1.heap[w.heap.size]? = some (codO c):=by rw [← hW1]; exact Array.getElem?_push_size
  have FA : Hid (∀ W,Below W1.heap.size W1 W → (W.cell? ⟨w.heap.size,0,none⟩ = some (.slice c.PB c.ps.length c.pc)∧W.cell? ⟨w.heap.size,1,none⟩ = some (.slice c.CB c.kids.len c.cc)∧W.cell? ⟨w.heap.size,2,none⟩ = some (.slice c.GB c.gs.length c.gc))∧Below w.heap.size w W):=Lib.hid fun W hW=>by
    have e3 : W.heap[w.heap.size]? = some (codO c):=(hW.block _ hs1).trans o1
    exact ⟨⟨ob_cell e3 0,ob_cell e3 1,ob_cell e3 2⟩,bel_trans (B:=w.heap.size) hb1 hW⟩
  have AL:=Lib.hid (hal W1 hb1)
  obtain ⟨i0,hinf,hz0,hz1,hz2⟩:=info_partsV ins_infoV
  obtain ⟨i1,hing,hy0,hy1,hy2⟩:=info_partsV prc_infoV
  have hfd : ∀ (z m i : Int) (W : World),(Instr.field 31 (.agg #[.int .i64 z,.int .i64 m,.int .i64 i]) 0).run Tryz.prog W = .ok (.int .i64 z) W:=fun _ _ _ _=>by kernel_rfl
  have HW1:=Lib.hid hW1
  have HB1:=Lib.hid hb1
  have HS1:=Lib.hid hs1
  have HV:=Lib.hid hv
  have HPS:=Lib.hid hps
  have HOK:=Lib.hid hok
  have HM:=Lib.hid hM
  have HCK:=Lib.hid hck
  clear hW1 hb1 hs1 o1 hal hv hps hok hM hck
  go_enter Tryz.func3,Tryz.ntmps3
  go_upto_region 1 with (fail)
  rw [HW1.out]
  go_wp2_with (fail)
  refine AL.out.mono ?_
  rintro e w2 ⟨rfl,hb2⟩
  obtain ⟨⟨y0,y1,y2⟩,hw2⟩:=FA.out w2 hb2
  have GR:=Lib.hid (vgreat_any c w2 (HV.out.below hw2) HPS.out)
  have HB2:=Lib.hid hb2
  clear hb2 hw2
  obtain ⟨gr,hgr⟩ : ∃ gr,greatV c = gr:=⟨_,rfl⟩
  rw [hgr] at GR
  go_wp2_with (fail)
  refine GR.out.mono ?_
  rintro e w3 ⟨rfl,hb3⟩
  obtain ⟨⟨x0,x1,x2⟩,hw3⟩:=FA.out w3 (bel_trans (B:=W1.heap.size) HB2.out hb3)
  have HB3:=Lib.hid (bel_trans (B:=W1.heap.size) HB2.out hb3)
  have HB03:=Lib.hid hw3
  clear hb3 hw3 y0 y1 y2
  cases gr
  case true =>
    go_wp2_with (fail)
    go_ret
    exact ⟨rfl,HB03.out⟩
  have OK:=Lib.hid (HOK.out hgr)
  obtain ⟨g1,g2,g3,g4⟩:=greatV_no hgr
  have HG:=Lib.hid (And.intro g1 (And.intro g2 (And.intro g3 g4)))
  have CK:=Lib.hid (HCK.out c w3 HB03.out (HV.out.below HB03.out) OK.out rfl (by omega))
  clear hgr g1 g2 g3 g4
  go_wp2_with (fail)
  refine CK.out.mono ?_
  rintro e w4 ⟨z,m,i,hz,rfl,hb4⟩
  obtain ⟨⟨y0,y1,y2⟩,hw4⟩:=FA.out w4 (bel_trans (B:=W1.heap.size) HB3.out hb4)
  have HB4:=Lib.hid (bel_trans (B:=W1.heap.size) HB3.out hb4)
  have HB04:=Lib.hid hw4
  clear hb4 hw4 x0 x1 x2
  by_cases hz0 : z = 0
  case neg =>
    have zb : (z == 0) = false:=beq_eq_false_iff_ne.2 hz0
    have zb' : (z != 0) = true:=by simpa using hz0
    clear hz hz0
    go_wp2_with (fail)
    go_ret
    exact ⟨rfl,HB04.out⟩
  subst hz0
  obtain ⟨hr,hno⟩:=check_none hz
  have HNO:=Lib.hid hno
  have HR:=Lib.hid hr
  have HRC:=Lib.hid (rightC_of HV.out OK.out hr)
  have CS : Hid (∀ W,Below w.heap.size w W → CheckW (fun z m i=>z = 0∧m = 0∧i = 0) c W):=Lib.hid fun W hW=>by
    refine (HCK.out c W hW (HV.out.below hW) OK.out rfl (by have:=HG.out.1; omega)).mono ?_
    rintro e w' ⟨z,m,i,hz,rfl,hb⟩
    exact ⟨z,m,i,check_same HRC.out.pr HR.out HNO.out hz,rfl,hb⟩
  clear hz hr hno
  by_cases hm0 : more < 0
  · have d2 : decide (more < 0) = true:=decide_eq_true hm0
    clear hm0
    go_wp2_with (fail)
    go_ret
    exact ⟨rfl,HB04.out⟩
  have d2 : decide (more < 0) = false:=decide_eq_false hm0
  by_cases hm1 : 20 < more
  · have d3 : decide (20 < more) = true:=decide_eq_true hm1
    clear hm0 hm1
    go_wp2_with (fail)
    go_ret
    exact ⟨rfl,HB04.out⟩
  have d3 : decide (20 < more) = false:=decide_eq_false hm1
  have HMO : Hid (0 ≤ more∧more ≤ 20):=Lib.hid ⟨by omega,by omega⟩
  obtain ⟨W5,hW5⟩ : ∃ W5,w4.alloc (.cells #[.slice none 0 0,.slice c.CB c.kids.len c.cc,.slice c.GB c.gs.length c.gc] 26 (0,0)) = W5:=⟨_,rfl⟩
  have hb5 : Below w4.heap.size w4 W5:=by rw [← hW5]; exact (Below.refl _ w4).alloc (Nat.le_refl _) _
  have ho5 : W5.heap[w4.heap.size]? = some (.cells #[.slice none 0 0,.slice c.CB c.kids.len c.cc,.slice c.GB c.gs.length c.gc] 26 (0,0)):=by rw [← hW5]; exact Array.getElem?_push_size
  have hD : W1.heap.size ≤ w4.heap.size:=HB4.out.size
  have BU : Hid (Built w4.heap.size more c W5 (.slice none 0 0) []):=Lib.hid ⟨⟨rfl,.inl ⟨rfl,rfl⟩⟩,fun i p h=>(by simp at h),fun p h=>(by simp at h),ho5⟩
  have HW5:=Lib.hid hW5
  have HB5:=Lib.hid hb5
  have HD:=Lib.hid hD
  obtain ⟨N,hN⟩ : ∃ N,c.ps.length = N:=⟨_,rfl⟩
  have HN:=Lib.hid hN
  obtain ⟨⟨u0,u1,u2⟩,-⟩:=FA.out W5 (bel_trans (B:=W1.heap.size) HB4.out hb5)
  rw [hN] at u0
  clear hm0 hm1 hW5 hb5 ho5 hD hN y0
  go_upto_region 6 with (fail)
  rw [HW5.out]
  go_wp2_with (fail)
  go_loopg [45] N (fun kk jv wr=>∃ (j : Nat) (dv : Value) (ps' : List Prh),jv = .int .i64 (j : Int)∧kk = N - j∧j ≤ N∧Hid (ps'.length = j∧Built w4.heap.size more c wr dv ps'∧(∀ p ∈ c.ps.take j,p.sl + p.de ≤ 100)∧Below w4.heap.size w4 wr))
  case atStart=>exact ⟨0,_,_,rfl,rfl,Nat.zero_le _,Lib.hid ⟨rfl,BU.out,fun p h=>(by simp at h),HB5.out⟩⟩
  case round =>
    obtain ⟨wo,hwo⟩ : ∃ wo,wo = wr:=⟨_,rfl⟩
    subst hwo
    obtain ⟨j,dv,ps',rfl,hk,hj,HI⟩:=hrel
    by_cases hlt : j < N
    case neg =>
      have b1 : decide (j < N) = false:=decide_eq_false hlt
      have hjN : ps'.length = c.ps.length:=by rw [HI.out.1,HN.out]; omega
      have hpos : 0 < ps'.length:=by rw [hjN]; exact begin_ne HNO.out.bg
      obtain ⟨gd,capd,cur,rfl,-⟩:=own_formV HI.out.2.1.own hpos
      obtain ⟨hpa,hc1,hc2⟩:=prc_of_own HI.out.2.1.own hpos
      have hbw : Below w.heap.size w wo:=bel_trans (B:=w.heap.size) HB04.out HI.out.2.2.2
      have hvw:=HV.out.below hbw
      obtain ⟨d,hd⟩ : ∃ d : Cod,d = ⟨some ⟨gd,0,none⟩,capd,ps',c.CB,c.cc,c.kids,c.GB,c.gc,c.gs⟩:=⟨_,rfl⟩
      have hvd : CodV wo d:=by
        rw [hd]
        exact ⟨⟨gd,0,fun _=>rfl,hpa⟩,fun q hq=>by
          obtain ⟨b,k1,k2,-⟩:=HI.out.2.1.pv q hq
          exact ⟨b,0,fun _=>k1,k2⟩,hvw.kids,hvw.gs⟩
      have hmod : ∀ q ∈ ps',∃ p,p ∈ c.ps∧Mod more p q∧q.Ok:=fun q hq=>by
        obtain ⟨i,hi⟩:=List.getElem?_of_mem hq
        obtain ⟨p,k1,k2,k3⟩:=HI.out.2.1.mod i q hi
        exact ⟨p,List.mem_of_getElem? k1,k2,k3⟩
      have hokd : d.Ok:=by
        rw [hd]
        exact ⟨⟨hc1,hc2⟩,OK.out.kids,OK.out.gs,fun q hq=>by
          obtain ⟨p,-,-,k3⟩:=hmod q hq
          exact k3⟩
      have h100 : ∀ p ∈ c.ps,p.sl + p.de ≤ 100:=take_all (by rw [HN.out]; omega) HI.out.2.2.1
      have hrd : rightP d bq = true:=by
        rw [hd]
        exact rightP_of (d:=⟨some ⟨gd,0,none⟩,capd,ps',c.CB,c.cc,c.kids,c.GB,c.gc,c.gs⟩) HR.out rfl rfl hjN HG.out.1 fun q hq=>by
          obtain ⟨p,k1,k2,-⟩:=hmod q hq
          exact prB_mod HMO.out k2 ((right_tell HR.out).1 p k1) (h100 p k1) (HG.out.2.2.2 p k1)
      have hCd:=HCK.out d wo hbw hvd hokd (by rw [hd]) (by rw [hd]; show ps'.length ≤ _; rw [hjN]; have:=HG.out.1; omega)
      have hz : ∀ z m i,CheckP (tkC d.ps) puC d k (rightP d bq) z m i → z = 0:=fun z m i h=>by
        refine check_room HMO.out (by rw [hd]) (by rw [hd]) ?_ h100 (fun p hp=>⟨(HRC.out.pr p hp).1,fun x hx=>((HRC.out.pr p hp).2.2 x hx).2.2⟩) HNO.out hrd h
        rw [hd]
        exact ⟨hjN,fun i q hq=>by
          obtain ⟨p,k1,k2,-⟩:=HI.out.2.1.mod i q hq
          exact ⟨p,k1,k2⟩⟩
      have hcod : codA d = .agg #[.slice (some ⟨gd,0,none⟩) ps'.length capd,.slice c.CB c.kids.len c.cc,.slice c.GB c.gs.length c.gc]:=by rw [hd]
      have CKD : Hid (Calls Tryz.prog 6 #[.agg #[.slice (some ⟨gd,0,none⟩) ps'.length capd,.slice c.CB c.kids.len c.cc,.slice c.GB c.gs.length c.gc]] wo fun e w'=>∃ (z m : Int) (i : Nat),CheckP (tkC d.ps) puC d k (rightP d bq) z m i∧e = .returned (.agg #[.int .i64 z,.int .i64 m,.int .i64 (i : Int)])∧Below wo.heap.size wo w'):=Lib.hid (by rw [← hcod]; exact hCd)
      have HZ:=Lib.hid hz
      have e0 : wo.cell? ⟨w4.heap.size,0,none⟩ = some (.slice (some ⟨gd,0,none⟩) ps'.length capd):=ob_cell HI.out.2.1.blk 0
      have e1 : wo.cell? ⟨w4.heap.size,1,none⟩ = some (.slice c.CB c.kids.len c.cc):=ob_cell HI.out.2.1.blk 1
      have e2 : wo.cell? ⟨w4.heap.size,2,none⟩ = some (.slice c.GB c.gs.length c.gc):=ob_cell HI.out.2.1.blk 2
      have HBW:=Lib.hid (bel_trans (B:=W1.heap.size) HB4.out HI.out.2.2.2)
      clear hjN hpos hpa hc1 hc2 hbw hvw hd hvd hmod hokd h100 hrd hCd hz hcod hk hj hlt
      go_wp2_with (fail)
      refine CKD.out.mono ?_
      rintro e w6 ⟨z,m',i',hz,rfl,hb6⟩
      obtain rfl : z = 0:=HZ.out _ _ _ hz
      have HB6:=Lib.hid (bel_trans (B:=W1.heap.size) HBW.out hb6)
      obtain ⟨⟨v0,v1,v2⟩,hw6⟩:=FA.out w6 HB6.out
      rw [HN.out] at v0
      have HBW6:=Lib.hid hw6
      clear hz hb6 hw6 e0 e1 e2 y1 y2 u0 u1 u2 HI
      go_upto_region 30 with (fail)
      go_loopg [125] N (fun kk jv wr=>∃ (j : Nat),jv = .int .i64 (j : Int)∧kk = N - j∧j ≤ N∧Hid (Below w6.heap.size w6 wr))
      case atStart=>exact ⟨0,rfl,rfl,Nat.zero_le _,Lib.hid (Below.refl _ _)⟩
      case round =>
        obtain ⟨j,rfl,hk,hj,HI⟩:=hrel
        obtain ⟨wo,hwo⟩ : ∃ wo,wo = wr:=⟨_,rfl⟩
        subst hwo
        by_cases hlt : j < N
        case neg =>
          have b1 : decide (j < N) = false:=decide_eq_false hlt
          have hbr:=bel_trans (B:=w.heap.size) HBW6.out HI.out
          clear hlt hk hj
          go_wp2_with (fail)
          go_ret
          exact ⟨rfl,hbr⟩
        have b1 : decide (j < N) = true:=decide_eq_true hlt
        obtain ⟨p,hp⟩ : ∃ p,c.ps[j]? = some p:=⟨_,List.getElem?_eq_getElem (by rw [HN.out]; exact hlt)⟩
        have hpm:=List.mem_of_getElem? hp
        obtain ⟨pb,po,hPB,hPF⟩:=HV.out.ps
        have hPBs:=hPB (by rw [HN.out]; omega)
        obtain ⟨ib,io,hib,hia⟩:=HV.out.pv p hpm
        have hpo:=OK.out.pr p hpm
        have hpk : PK w w.heap.size pb (po + j * 7) ib io p:=⟨(hPF j p hp).2,(hPF j p hp).1,hib,hia,fun hl=>(hia 0 _ (List.getElem?_eq_getElem hl)).1,hpo.cap⟩
        have hbr:=bel_trans (B:=w.heap.size) HBW6.out HI.out
        have hbr1:=bel_trans (B:=W1.heap.size) HB6.out HI.out
        obtain ⟨z0,z1,z2,z3,z4,z5,z6⟩:=(hpk.keep hbr (Nat.le_refl _)).p7
        have a1 : (0 : Int) ≤ (j : Int):=Int.natCast_nonneg j
        have a2 : (j : Int) < (N : Int):=Int.ofNat_lt.2 hlt
        have a3 : (N : Int) ≤ (c.pc : Int):=by have:=HPS.out; have:=HN.out; omega
        have a4 : (c.pc : Int) ≤ 9223372036854775807:=by have:=HPS.out; omega
        obtain ⟨Wp,hWp⟩ : ∃ Wp,wo.alloc (.cells #[.string p.nm,.int .i64 p.pa,.bool p.rs,.int .i64 p.sl,.int .i64 p.de,.int .i64 p.fr,.slice p.B p.code.length p.cap] 35 (0,0)) = Wp:=⟨_,rfl⟩
        have hb7 : Below wo.heap.size wo Wp:=by rw [← hWp]; exact (Below.refl _ wo).alloc (Nat.le_refl _) _
        have ho7 : Wp.heap[wo.heap.size]? = some (prO p):=by rw [← hWp]; exact Array.getElem?_push_size
        have hpr:=HRC.out.pr p hpm
        have hfl:=HNO.out.pr p hpm
        have hB7:=bel_trans (B:=w.heap.size) hbr hb7
        have hB71:=bel_trans (B:=W1.heap.size) hbr1 hb7
        have VD:=Lib.hid (vdepthsR_any (tkC c.ps) puC c p k j p.code.length pb po ib io Wp hPBs (by rw [HN.out]; exact hlt) HPS.out (hpk.up hB7 (Nat.le_refl _) hB7.size) rfl (by have:=HG.out.2.2.2 p hpm; omega) hpr.1
          (fun x hx W hW=>HRC.out.ef p hpm x hx W (bel_trans (B:=w.heap.size) hB7 hW)) hpr.2.2 (fun W=>HM.out _ W (by have:=HG.out.2.2.2 p hpm; omega)) hfl (fun W hW=>CS.out W (bel_trans (B:=w.heap.size) hB7 hW)))
        obtain ⟨n1,n2,-⟩:=flaw_zero_parts hfl
        obtain ⟨m1,m2,m3,hpos,hde⟩:=numE_ok hpr.1 n1
        obtain ⟨⟨v0',v1',v2'⟩,-⟩:=FA.out Wp hB71
        rw [hPBs]
        have HPBS:=Lib.hid hPBs
        have HP:=Lib.hid (And.intro hp hpm)
        have HPR:=Lib.hid hpr
        have HBR:=Lib.hid hbr
        have HWp:=Lib.hid hWp
        have HB7:=Lib.hid hb7
        have O7:=Lib.hid ho7
        have HB71:=Lib.hid hB71
        have HNE:=Lib.hid (And.intro hpos hde)
        have HLT:=Lib.hid (And.intro hlt (And.intro hk hj))
        clear hp hpm hPB hPF hPBs hib hia hpk hbr hbr1 hpr hfl hB7 hB71 hWp hb7 ho7 n1 n2 m1 m2 m3 hpos hde hlt hk hj hpo v0 v1 v2
        go_upto_region 32 with (fail)
        rw [HWp.out]
        clear z0 z1 z2 z3 z4 z5 z6
        go_wp2_with (fail)
        refine VD.out.mono ?_
        rintro e w8 ⟨ds,g,q1,q2,rfl,q3,q4,hb8⟩
        obtain ⟨cn,hcn⟩ : ∃ cn,p.code.length = cn:=⟨_,rfl⟩
        have hq2:=q2.trans hcn
        rw [hq2]
        have HQ:=Lib.hid (And.intro q1 (And.intro hq2 q4))
        have HB8:=Lib.hid hb8
        have O8:=Lib.hid ((hb8.block _ (hlt_of O7.out)).trans O7.out)
        have HB81:=Lib.hid (bel_trans (B:=W1.heap.size) HB71.out hb8)
        have hcn3 : cn ≤ 300:=by rw [← hcn]; exact HG.out.2.2.2 p HP.out.2
        have HCN3:=Lib.hid hcn3
        have ROOM:=Lib.hid (run_room (fun x hx=>(HPR.out.2.2 x hx).1.1) (fun x hx=>(HPR.out.2.2 x hx).2.2) HNE.out.2.1 HNE.out.1 q1)
        have a7 : (cn : Int) ≤ 9223372036854775807:=by omega
        have HCN:=Lib.hid hcn
        clear q1 q2 q3 q4 hb8 hcn hq2 hcn3 v0' v1' v2'
        go_wp2_with (fail)
        go_loopg [15,134] cn (fun kk mv jv wr=>∃ (i : Nat) (mo : Int),mv = .int .i64 mo∧jv = .int .i64 (i : Int)∧kk = cn - i∧i ≤ cn∧Hid (mo = (ds.take i).foldl max 0∧wr = w8))
        case atStart=>exact ⟨0,0,rfl,rfl,rfl,Nat.zero_le _,Lib.hid ⟨rfl,rfl⟩⟩
        case round =>
          obtain ⟨i,mo,rfl,rfl,hk2,hi,HJ⟩:=hrel
          obtain ⟨hmo,hwr⟩:=HJ.out
          subst hwr
          by_cases hil : i < cn
          case pos =>
            have b2 : decide (i < cn) = true:=decide_eq_true hil
            obtain ⟨v,hvi⟩ : ∃ v,ds[i]? = some v:=⟨_,List.getElem?_eq_getElem (by rw [HQ.out.2.1]; exact hil)⟩
            have cd : wr.cell? ⟨g,i,none⟩ = some (.int .i64 v):=by rw [ob_cell HQ.out.2.2]; simp [ivs,hvi]
            have b3 : (0 : Int) ≤ (i : Int):=Int.natCast_nonneg i
            have b4 : (i : Int) < (cn : Int):=Int.ofNat_lt.2 hil
            have wd : RowKit.wrap64 ((i : Int) + 1) = ((i + 1 : Nat) : Int):=by have:=HCN3.out; unfold RowKit.wrap64; omega
            have HMX : Hid (max mo v = (ds.take (i + 1)).foldl max 0):=Lib.hid (by rw [List.take_add_one,hvi,List.foldl_append,← hmo]; rfl)
            have HLI:=Lib.hid (And.intro hil (And.intro hk2 hi))
            clear hmo hvi hil hk2 hi
            go_wp2_with (fail)
            go_roundg (cn - (i + 1))
            case measure=>have:=HLI.out; omega
            case rel=>exact ⟨i + 1,_,rfl,(by first | rfl | rw [wd]),rfl,by have:=HLI.out; omega,Lib.hid ⟨HMX.out,rfl⟩⟩
          have b2 : decide (i < cn) = false:=decide_eq_false hil
          have hall : ds.take i = ds:=List.take_of_length_le (by rw [HQ.out.2.1]; omega)
          rw [hall] at hmo
          have hB:=bel_trans (B:=w6.heap.size) (bel_trans (B:=w6.heap.size) HI.out HB7.out) HB8.out
          have HBI:=Lib.hid hB
          have wc : RowKit.wrap64 ((j : Int) + 1) = ((j + 1 : Nat) : Int):=by have:=HG.out.1; have:=HN.out; have:=HLT.out.1; unfold RowKit.wrap64; omega
          by_cases hm0 : mo = 0
          · subst hm0
            clear hil hall hmo hB hk2 hi
            go_wp2_with (fail)
            rw [← HPBS.out]
            go_roundg (N - (j + 1))
            case measure=>have:=HLT.out; omega
            case rel=>exact ⟨j + 1,(by first | rfl | rw [wc]),rfl,by have:=HLT.out; omega,HBI⟩
          have hmb : (mo == 0) = false:=beq_eq_false_iff_ne.2 hm0
          have hmi : ∃ n : Nat,ds[n]? = some mo:=by
            rcases mx_in (l:=ds) (m:=0) with h | h
            · exact absurd (hmo.trans h) hm0
            · rw [← hmo] at h
              exact List.getElem?_of_mem h
          have hm1 : 1 ≤ mo:=by have:=mx_ge (l:=ds) (m:=0); omega
          have hmd : mo ≤ p.de:=by
            obtain ⟨n,hn⟩:=hmi
            have hnl : n < p.code.length:=by rw [← ROOM.out.1]; exact (List.getElem?_eq_some_iff.1 hn).1
            exact (ROOM.out.2 n mo _ hn (List.getElem?_eq_getElem hnl)).2.1
          have HMI:=Lib.hid (And.intro hmi (And.intro hm1 hmd))
          have hbw:=bel_trans (B:=w.heap.size) HBW6.out hB
          have HBWR:=Lib.hid hbw
          have hN0 : 0 < N:=Nat.lt_of_le_of_lt (Nat.zero_le _) HLT.out.1
          have HN0:=Lib.hid hN0
          obtain ⟨⟨v0,v1,v2⟩,-⟩:=FA.out wr (bel_trans (B:=W1.heap.size) HB6.out hB)
          rw [HPBS.out] at v0
          have PRC : Hid (∀ W,Below w.heap.size w W → PrcAt W pb po c.ps):=Lib.hid fun W hW=>by
            obtain ⟨pb',po',k1,k2⟩:=HV.out.ps
            have e:=(k1 (by rw [HN.out]; exact hN0)).symm.trans HPBS.out
            injection e with e
            injection e with e1 e2
            subst e1 e2
            exact k2.below hW
          clear hil hall hmo hB hk2 hi hm0 hmi hm1 hmd hbw hN0
          have HSZ : Hid (w.heap.size ≤ wr.heap.size):=Lib.hid HBWR.out.size
          have HB1R:=Lib.hid (bel_trans (B:=W1.heap.size) HB6.out HBI.out)
          have HX1 : Hid (Below wr.heap.size wr (wr.alloc (.cells #[] 35)).drew):=Lib.hid ((Below.refl _ wr).alloc (Nat.le_refl _) _).drew
          have HX2 : Hid (Below wr.heap.size wr ((wr.alloc (.cells #[] 35)).alloc (.cells #[.slice none 0 0,.slice none 0 0,.slice none 0 0] 26)).drew):=Lib.hid (((Below.refl _ wr).alloc (Nat.le_refl _) _).alloc (by simp) _).drew
          have HX4 : Hid (Below wr.heap.size wr (wr.alloc (.cells #[.slice none 0 0,.slice none 0 0,.slice none 0 0] 26)).drew):=Lib.hid ((Below.refl _ wr).alloc (Nat.le_refl _) _).drew
          have HX3 : Hid (Below wr.heap.size wr ((wr.alloc (.cells #[.slice none 0 0,.slice none 0 0,.slice none 0 0] 26)).alloc (.cells #[] 35)).drew):=Lib.hid (((Below.refl _ wr).alloc (Nat.le_refl _) _).alloc (by simp) _).drew
          have HE1 : Hid ((wr.alloc (.cells #[] 35)).drew.ownsRow wr.heap.size 35 7 (.slice (some ⟨wr.heap.size,0,none⟩) 0 0) 0 []):=Lib.hid (own_empty wr _ 7)
          have HE2 : Hid (((wr.alloc (.cells #[] 35)).alloc (.cells #[.slice none 0 0,.slice none 0 0,.slice none 0 0] 26)).drew.ownsRow wr.heap.size 35 7 (.slice (some ⟨wr.heap.size,0,none⟩) 0 0) 0 []):=Lib.hid ((own_empty wr _ 7).alloc (.cells #[.slice none 0 0,.slice none 0 0,.slice none 0 0] 26))
          have HE3 : Hid (((wr.alloc (.cells #[.slice none 0 0,.slice none 0 0,.slice none 0 0] 26)).alloc (.cells #[] 35)).drew.ownsRow wr.heap.size 35 7 (.slice (some ⟨wr.heap.size + 1,0,none⟩) 0 0) 0 []):=Lib.hid (by
            have h:=own_empty (wr.alloc (.cells #[.slice none 0 0,.slice none 0 0,.slice none 0 0] 26)) 35 7
            rw [show (wr.alloc (.cells #[.slice none 0 0,.slice none 0 0,.slice none 0 0] 26)).heap.size = wr.heap.size + 1 by simp] at h
            obtain ⟨k1,k2⟩:=h
            exact ⟨k1,k2.imp id fun ⟨g,cap,cur,k3,k4,k5⟩=>⟨g,cap,cur,k3,by omega,k5⟩⟩)
          have SP : Hid (∀ W,Below wr.heap.size wr W → (W.cell? ⟨w.heap.size,0,none⟩ = some (.slice (some ⟨pb,po,none⟩) N c.pc)∧W.cell? ⟨w.heap.size,1,none⟩ = some (.slice c.CB c.kids.len c.cc)∧W.cell? ⟨w.heap.size,2,none⟩ = some (.slice c.GB c.gs.length c.gc))):=Lib.hid fun W hW=>by
            obtain ⟨⟨h0,h1,h2⟩,-⟩:=FA.out W (bel_trans (B:=W1.heap.size) HB1R.out hW)
            rw [HPBS.out,HN.out] at h0
            exact ⟨h0,h1,h2⟩
          clear v0 v1 v2
          go_wp2_with (fail)
          refine wp_region_held_drew (S:=fun W=>W.cell? ⟨w.heap.size,0,none⟩ = some (.slice (some ⟨pb,po,none⟩) N c.pc)∧W.cell? ⟨w.heap.size,1,none⟩ = some (.slice c.CB c.kids.len c.cc)∧W.cell? ⟨w.heap.size,2,none⟩ = some (.slice c.GB c.gs.length c.gc)) (by kernel_rfl) (SP.out _ (Below.refl _ wr).drew) (fun hHeld=>?_)
          refine wpAnyH_take (i:=0) (v:=?v0a) rfl (by kernel_rfl) (by kernel_rfl) (by kernel_rfl) (fun _ _ _ h=>h) (Or.inl ⟨by rfl,?y0a⟩) hHeld ?r0a
          case y0a =>
            intro W hSw
            obtain ⟨u0,u1,u2⟩:=hSw
            go_simp
            all_goals (with_reducible rfl)
          change wpAnyH _ _ _ _ _ _ _ (Act.put _ (some 144) _) _
          simp only [Act.put,List.setIfInBounds_toArray,List.set_cons_zero,List.set_cons_succ]
          refine wpAnyH_take (i:=1) (v:=?v1a) rfl (by kernel_rfl) (by kernel_rfl) (by kernel_rfl) (fun _ _ _ h=>h) (Or.inl ⟨by rfl,?y1a⟩) hHeld ?r1a
          case y1a =>
            intro W hSw
            obtain ⟨u0,u1,u2⟩:=hSw
            go_simp
            all_goals (with_reducible rfl)
          change wpAnyH _ _ _ _ _ _ _ (Act.put _ (some 145) _) _
          simp only [Act.put,List.setIfInBounds_toArray,List.set_cons_zero,List.set_cons_succ]
          refine wpAnyH_take (i:=2) (v:=?v2a) rfl (by kernel_rfl) (by kernel_rfl) (by kernel_rfl) (fun _ _ _ h=>h) (Or.inl ⟨by rfl,?y2a⟩) hHeld ?r2a
          case y2a =>
            intro W hSw
            obtain ⟨u0,u1,u2⟩:=hSw
            go_simp
            all_goals (with_reducible rfl)
          change wpAnyH _ _ _ _ _ _ _ (Act.put _ (some 146) _) _
          simp only [Act.put,List.setIfInBounds_toArray,List.set_cons_zero,List.set_cons_succ]
          refine wpAnyH_take (i:=3) (v:=?v3a) rfl (by kernel_rfl) (by kernel_rfl) (by kernel_rfl) (fun _ _ _ h=>h) (Or.inl ⟨by rfl,?y3a⟩) hHeld ?r3a
          case y3a =>
            intro W hSw
            obtain ⟨u0,u1,u2⟩:=hSw
            go_simp
            all_goals (with_reducible rfl)
          change wpAnyH _ _ _ _ _ _ _ (Act.put _ (some 147) _) _
          simp only [Act.put,List.setIfInBounds_toArray,List.set_cons_zero,List.set_cons_succ]
          refine wpAnyH_take (i:=5) (v:=?v5a) rfl (by kernel_rfl) (by kernel_rfl) (by kernel_rfl) (fun _ _ _ h=>h) (Or.inl ⟨by rfl,?y5a⟩) hHeld ?r5a
          case y5a =>
            intro W hSw
            obtain ⟨u0,u1,u2⟩:=hSw
            go_simp
            all_goals (with_reducible rfl)
          change wpAnyH _ _ _ _ _ _ _ (Act.put _ (some 149) _) _
          simp only [Act.put,List.setIfInBounds_toArray,List.set_cons_zero,List.set_cons_succ]
          refine wpAnyH_take (i:=6) (v:=?v6a) rfl (by kernel_rfl) (by kernel_rfl) (by kernel_rfl) (fun _ _ _ h=>h) (Or.inl ⟨by rfl,?y6a⟩) hHeld ?r6a
          case y6a =>
            intro W hSw
            obtain ⟨u0,u1,u2⟩:=hSw
            go_simp
            all_goals (with_reducible rfl)
          change wpAnyH _ _ _ _ _ _ _ (Act.put _ (some 150) _) _
          simp only [Act.put,List.setIfInBounds_toArray,List.set_cons_zero,List.set_cons_succ]
          refine wpAnyH_ready (rs:=[4,9]) (by kernel_rfl) (by simp) ?_
          refine AllReadyH.cons rfl (fun K hK=>?_) (AllReadyH.cons rfl (fun K hK=>?_) AllReadyH.nil)
          · go_simp
            refine hK.out _ _ (SP.out _ HX1.out) (fun hHeld=>?_)
            clear hK K
            refine wpAnyH_ready (rs:=[7,9]) (by kernel_rfl) (by simp) ?_
            refine AllReadyH.cons rfl (fun K hK=>?_) (AllReadyH.cons rfl (fun K hK=>?_) AllReadyH.nil)
            · skip
              refine step_append_lies _ rfl (.tmp 148) (.tmp 150) 22 rfl wr.heap.size 35 i1 _ 7 80 Tryz.underlying22 hing hy0 hy1 hy2 rfl (by decide) (.slice (some ⟨wr.heap.size,0,none⟩) 0 0) 0 [] (by first | rfl | simp [Act.eval,Act.put]) HE1.out ⟨pb,po,none⟩ N c.pc (prcC c.ps) (by first | rfl | simp [Act.eval,Act.put]) (by rw [prcC_len,HN.out]) (fun j u hj=>by rw [Lib.add_plain]; exact prc_news (PRC.out _ (bel_trans (B:=w.heap.size) HBWR.out HX1.out)) j u hj) (prcC_one _) HN0.out (by unfold maxLen; have:=HG.out.1; have:=HN.out; omega) (by have:=HG.out.1; have:=HN.out; omega) HX1.out.size _ rfl ?_
              intro gt capt wt ownt growt whert ltt
              have KT:=Lib.hid (tit_of HX1.out (Nat.le_refl _) ownt growt)
              rw [Nat.zero_add]
              clear ownt growt whert ltt
              refine hK.out _ _ (SP.out wt KT.out.bel) (fun hHeld=>?_)
              clear hK K
              refine wpAnyH_take (i:=8) (v:=?v8b) rfl (by kernel_rfl) (by kernel_rfl) (by kernel_rfl) (fun _ _ _ h=>h) (Or.inl ⟨by rfl,?y8b⟩) hHeld ?r8b
              case y8b =>
                intro W hSw
                obtain ⟨u0,u1,u2⟩:=hSw
                go_simp
                all_goals (with_reducible rfl)
              change wpAnyH _ _ _ _ _ _ _ (Act.put _ (some 152) _) _
              simp only [Act.put,List.setIfInBounds_toArray,List.set_cons_zero,List.set_cons_succ]
              refine wpAnyH_ready (rs:=[9]) (by kernel_rfl) (by simp) ?_
              refine AllReadyH.cons rfl (fun K hK=>?_) AllReadyH.nil
              go_simp
              refine hK.out _ _ (SP.out _ (KT.out.bel.alloc KT.out.bel.size _)) (fun hHeld=>?_)
              clear hK K
              refine wpAnyH_ready (rs:=[10]) (by kernel_rfl) (by simp) ?_
              refine AllReadyH.cons rfl (fun K hK=>?_) AllReadyH.nil
              go_simp
              obtain ⟨WT,hWT⟩ : ∃ WT,wt.alloc (.cells #[.slice (some ⟨gt,0,none⟩) N capt,.slice c.CB c.kids.len c.cc,.slice c.GB c.gs.length c.gc] 26) = WT:=⟨_,rfl⟩
              have TI:=Lib.hid (tia_new KT.out hWT)
              obtain ⟨T,hT⟩ : ∃ T,wt.heap.size = T:=⟨_,rfl⟩
              rw [hT] at TI
              rw [hWT,hT]
              clear hT hWT
              refine hK.out _ _ (SP.out _ TI.out.bel) (fun hHeld=>?_)
              clear hK K hHeld
              refine wpAnyH_done (by kernel_rfl) ?_ _
              have oP:=(TI.out.bel.block _ (hlt_of O8.out)).trans O8.out
              have sP4 : WT.cell? ⟨wo.heap.size,4,none⟩ = some (.int .i64 p.de):=ob_cell oP 4
              have tP4:=ob_free oP 4 (by simp)
              have w4' : RowKit.wrap64 (mo - 1) = mo - 1:=by have:=HMI.out.2; have h1:=HPR.out.1; unfold PrN at h1; unfold RowKit.wrap64; omega
              obtain ⟨WU,hWU⟩ : ∃ WU,WT.setCell ⟨wo.heap.size,4,none⟩ (.int .i64 (mo - 1)) = WU:=⟨_,rfl⟩
              have HWU:=Lib.hid hWU
              have hPlt:=hlt_of O8.out
              have ST:=Lib.hid (sto_of TI.out oP hPlt hWU)
              clear oP hWU hPlt
              go_upto_region 41 with (fail)
              rw [HWU.out]
              clear sP4 tP4
              obtain ⟨owu,blu,oP,bT⟩:=ST.out
              have q0 : WU.cell? ⟨T,0,none⟩ = some (.slice (some ⟨gt,0,none⟩) N capt):=ob_cell bT 0
              have r0 : WU.cell? ⟨wo.heap.size,0,none⟩ = some (.string p.nm):=ob_cell oP 0
              have r1 : WU.cell? ⟨wo.heap.size,1,none⟩ = some (.int .i64 p.pa):=ob_cell oP 1
              have r2 : WU.cell? ⟨wo.heap.size,2,none⟩ = some (.bool p.rs):=ob_cell oP 2
              have r3 : WU.cell? ⟨wo.heap.size,3,none⟩ = some (.int .i64 p.sl):=ob_cell oP 3
              have r4 : WU.cell? ⟨wo.heap.size,4,none⟩ = some (.int .i64 (mo - 1)):=ob_cell oP 4
              have r5 : WU.cell? ⟨wo.heap.size,5,none⟩ = some (.int .i64 p.fr):=ob_cell oP 5
              have r6 : WU.cell? ⟨wo.heap.size,6,none⟩ = some (.slice p.B p.code.length p.cap):=ob_cell oP 6
              obtain ⟨x0,x1,x2,x3,x4,x5,x6⟩:=prc_of_own owu HN0.out |>.1 j p HP.out.1 |>.2
              simp only [Nat.zero_add] at x0 x1 x2 x3 x4 x5 x6
              have hfr:=fun k (hk : k < 7)=>own_free owu (j:=j) (k:=k) HLT.out.1 hk
              have f0:=hfr 0 (by decide)
              have f1:=hfr 1 (by decide)
              have f2:=hfr 2 (by decide)
              have f3:=hfr 3 (by decide)
              have f4:=hfr 4 (by decide)
              have f5:=hfr 5 (by decide)
              have f6:=hfr 6 (by decide)
              rw [Nat.add_zero] at f0
              have hcap:=(prc_of_own owu HN0.out).2
              have s1 : (j : Int) < (N : Int):=Int.ofNat_lt.2 HLT.out.1
              have s2 : (N : Int) ≤ (capt : Int):=by omega
              have s3 : (capt : Int) ≤ 9223372036854775807:=by omega
              clear hfr owu blu oP bT hcap
              have STF:=Lib.hid (sto_fin ST.out HN.out HP.out.1)
              go_upto_region 42 with (fail)
              clear x0 x1 x2 x3 x4 x5 x6 f0 f1 f2 f3 f4 f5 f6 q0 r0 r1 r2 r3 r4 r5 r6 s1 s2 s3
              obtain ⟨WV,hWV⟩ : ∃ WV,(((((((WU.setCell ⟨gt,j * 7,none⟩ (.string p.nm)).setCell ⟨gt,j * 7 + 1,none⟩ (.int .i64 p.pa)).setCell ⟨gt,j * 7 + 2,none⟩ (.bool p.rs)).setCell ⟨gt,j * 7 + 3,none⟩ (.int .i64 p.sl)).setCell ⟨gt,j * 7 + 4,none⟩ (.int .i64 (mo - 1))).setCell ⟨gt,j * 7 + 5,none⟩ (.int .i64 p.fr)).setCell ⟨gt,j * 7 + 6,none⟩ (.slice p.B p.code.length p.cap)) = WV:=⟨_,rfl⟩
              obtain ⟨hpa,hk1,hc1,hc2⟩:=STF.out WV hWV
              have hgt0 : w6.heap.size ≤ gt:=by have:=far_own TI.out.own; have:=HBI.out.size; omega
              have hP0 : w6.heap.size ≤ wo.heap.size:=HI.out.size
              have hB6 : Below w6.heap.size w6 WV:=by
                have h1 : Below w6.heap.size w6 WU:=by
                  rw [← HWU.out]
                  exact (bel_trans (B:=w6.heap.size) HBI.out TI.out.bel).setCell (p:=⟨wo.heap.size,4,none⟩) hP0 _
                rw [← hWV]
                exact ((((((h1.setCell (p:=⟨gt,j * 7,none⟩) hgt0 _).setCell (p:=⟨gt,j * 7 + 1,none⟩) hgt0 _).setCell (p:=⟨gt,j * 7 + 2,none⟩) hgt0 _).setCell (p:=⟨gt,j * 7 + 3,none⟩) hgt0 _).setCell (p:=⟨gt,j * 7 + 4,none⟩) hgt0 _).setCell (p:=⟨gt,j * 7 + 5,none⟩) hgt0 _).setCell (p:=⟨gt,j * 7 + 6,none⟩) hgt0 _
              have hbw:=bel_trans (B:=w.heap.size) HBW6.out hB6
              have hvw:=HV.out.below hbw
              have hln : (c.ps.set j (p.at (mo - 1))).length = N:=by rw [List.length_set]; exact HN.out
              obtain ⟨d,hd⟩ : ∃ d : Cod,d = ⟨some ⟨gt,0,none⟩,capt,c.ps.set j (p.at (mo - 1)),c.CB,c.cc,c.kids,c.GB,c.gc,c.gs⟩:=⟨_,rfl⟩
              have hmem : ∀ q ∈ c.ps.set j (p.at (mo - 1)),(∃ q0 ∈ c.ps,q.code = q0.code∧q.B = q0.B∧q.cap = q0.cap∧prB q = true):=fun q hq=>by
                rcases List.mem_or_eq_of_mem_set hq with h | h
                · exact ⟨q,h,rfl,rfl,rfl,(right_tell HR.out).1 q h⟩
                · subst h
                  exact ⟨p,HP.out.2,rfl,rfl,rfl,prB_at ((right_tell HR.out).1 p HP.out.2) ⟨HMI.out.2.1,HMI.out.2.2⟩⟩
              have hvd : CodV WV d:=by
                rw [hd]
                exact ⟨⟨gt,0,fun _=>rfl,hpa⟩,fun q hq=>by
                  obtain ⟨q0,k1,k2,k3,-⟩:=hmem q hq
                  obtain ⟨b,off,k4,k5⟩:=hvw.pv q0 k1
                  exact ⟨b,off,by rw [k2,k3]; exact k4,by rw [k2]; exact k5⟩,hvw.kids,hvw.gs⟩
              have hokd : d.Ok:=by
                rw [hd]
                exact ⟨⟨by show (c.ps.set j (p.at (mo - 1))).length ≤ capt; rw [hln]; exact hc1,hc2⟩,OK.out.kids,OK.out.gs,fun q hq=>by
                  obtain ⟨q0,k1,k2,k3,k4,-⟩:=hmem q hq
                  have h:=OK.out.pr q0 k1
                  exact ⟨by rw [k2,k4]; exact h.cap,by rw [k2]; exact h.l⟩⟩
              have hrd : rightP d bq = true:=by
                rw [hd]
                exact rightP_of (d:=⟨some ⟨gt,0,none⟩,capt,c.ps.set j (p.at (mo - 1)),c.CB,c.cc,c.kids,c.GB,c.gc,c.gs⟩) HR.out rfl rfl (by show (c.ps.set j (p.at (mo - 1))).length = _; rw [hln,HN.out]) HG.out.1 fun q hq=>by
                  obtain ⟨q0,k1,k2,-,-,k5⟩:=hmem q hq
                  exact ⟨k5,by rw [k2]; have:=HG.out.2.2.2 q0 k1; omega⟩
              have hCd:=HCK.out d WV hbw hvd hokd (by rw [hd]) (by rw [hd]; show (c.ps.set j (p.at (mo - 1))).length ≤ _; rw [hln]; have:=HG.out.1; have:=HN.out; omega)
              have hz : ∀ z m i,CheckP (tkC d.ps) puC d k (rightP d bq) z m i → z = 113:=fun z m i h=>by
                obtain ⟨n,hn⟩:=HMI.out.1
                exact check_tight (by rw [hd]) HP.out.1 (by rw [hd]) (by rw [hd]) (fun p hp=>⟨(HRC.out.pr p hp).1,fun x hx=>((HRC.out.pr p hp).2.2 x hx).2.2⟩) HNO.out HQ.out.1 hn HMI.out.2.1 HMI.out.2.2 hrd h
              have hcod : codA d = .agg #[.slice (some ⟨gt,0,none⟩) N capt,.slice c.CB c.kids.len c.cc,.slice c.GB c.gs.length c.gc]:=by rw [hd]; show Value.agg #[.slice (some ⟨gt,0,none⟩) (c.ps.set j (p.at (mo - 1))).length capt,_,_] = _; rw [hln]
              have CKD : Hid (Calls Tryz.prog 6 #[.agg #[.slice (some ⟨gt,0,none⟩) N capt,.slice c.CB c.kids.len c.cc,.slice c.GB c.gs.length c.gc]] WV fun e w'=>∃ (z m : Int) (i : Nat),CheckP (tkC d.ps) puC d k (rightP d bq) z m i∧e = .returned (.agg #[.int .i64 z,.int .i64 m,.int .i64 (i : Int)])∧Below WV.heap.size WV w'):=Lib.hid (by rw [← hcod]; exact hCd)
              have HZ:=Lib.hid hz
              have bT:=(hk1 T (by have:=TI.out.ne; exact this)).trans ST.out.blk
              have e0 : WV.cell? ⟨T,0,none⟩ = some (.slice (some ⟨gt,0,none⟩) N capt):=ob_cell bT 0
              have e1 : WV.cell? ⟨T,1,none⟩ = some (.slice c.CB c.kids.len c.cc):=ob_cell bT 1
              have e2 : WV.cell? ⟨T,2,none⟩ = some (.slice c.GB c.gs.length c.gc):=ob_cell bT 2
              have HB6V:=Lib.hid hB6
              rw [hWV]
              clear hWV hpa hk1 hc1 hc2 hgt0 hP0 hB6 hbw hvw hln hd hmem hvd hokd hrd hCd hz hcod bT
              go_wp2_with (fail)
              refine CKD.out.mono ?_
              rintro e w9 ⟨z,m',i',hz,rfl,hb9⟩
              obtain rfl : z = 113:=HZ.out _ _ _ hz
              have HB9:=Lib.hid (bel_trans (B:=w6.heap.size) HB6V.out hb9)
              clear hz hb9 e0 e1 e2
              go_wp2_with (fail)
              rw [← HPBS.out]
              go_roundg (N - (j + 1))
              case measure=>have:=HLT.out; omega
              case rel=>exact ⟨j + 1,(by first | rfl | rw [wc]),rfl,by have:=HLT.out; omega,HB9⟩
            · go_simp
              refine hK.out _ _ (SP.out _ HX2.out) (fun hHeld=>?_)
              clear hK K
              refine wpAnyH_ready (rs:=[7]) (by kernel_rfl) (by simp) ?_
              refine AllReadyH.cons rfl (fun K hK=>?_) AllReadyH.nil
              refine step_append_lies _ rfl (.tmp 148) (.tmp 150) 22 rfl wr.heap.size 35 i1 _ 7 80 Tryz.underlying22 hing hy0 hy1 hy2 rfl (by decide) (.slice (some ⟨wr.heap.size,0,none⟩) 0 0) 0 [] (by first | rfl | simp [Act.eval,Act.put]) HE2.out ⟨pb,po,none⟩ N c.pc (prcC c.ps) (by first | rfl | simp [Act.eval,Act.put]) (by rw [prcC_len,HN.out]) (fun j u hj=>by rw [Lib.add_plain]; exact prc_news (PRC.out _ (bel_trans (B:=w.heap.size) HBWR.out HX2.out)) j u hj) (prcC_one _) HN0.out (by unfold maxLen; have:=HG.out.1; have:=HN.out; omega) (by have:=HG.out.1; have:=HN.out; omega) HX2.out.size _ rfl ?_
              intro gt capt wt ownt growt whert ltt
              have KT:=Lib.hid (tit_of HX2.out (Nat.le_refl _) ownt growt)
              rw [Nat.zero_add]
              have oz : wt.heap[wr.heap.size + 1]? = some (.cells #[.slice none 0 0,.slice none 0 0,.slice none 0 0] 26):=(growt.block (wr.heap.size + 1) (show wr.heap.size + 1 < ((wr.alloc _).alloc _).heap.size by simp) (fun e=>by have : wr.heap.size + 1 = wr.heap.size:=Option.some.inj e; omega)).trans (alloc_at2 _ _ _)
              have oz0:=ob_cell oz 0
              have oz1:=ob_cell oz 1
              have oz2:=ob_cell oz 2
              have of0:=ob_free oz 0 (by simp)
              have of1:=ob_free oz 1 (by simp)
              have of2:=ob_free oz 2 (by simp)
              have KZ:=Lib.hid (And.intro oz (whn2 whert))
              clear oz ownt growt whert ltt
              refine hK.out _ _ (SP.out wt KT.out.bel) (fun hHeld=>?_)
              clear hK K
              refine wpAnyH_take (i:=8) (v:=?v8c) rfl (by kernel_rfl) (by kernel_rfl) (by kernel_rfl) (fun _ _ _ h=>h) (Or.inl ⟨by rfl,?y8c⟩) hHeld ?r8c
              case y8c =>
                intro W hSw
                obtain ⟨u0,u1,u2⟩:=hSw
                go_simp
                all_goals (with_reducible rfl)
              change wpAnyH _ _ _ _ _ _ _ (Act.put _ (some 152) _) _
              simp only [Act.put,List.setIfInBounds_toArray,List.set_cons_zero,List.set_cons_succ]
              refine wpAnyH_ready (rs:=[10]) (by kernel_rfl) (by simp) ?_
              refine AllReadyH.cons rfl (fun K hK=>?_) AllReadyH.nil
              go_simp
              obtain ⟨WT,hWT⟩ : ∃ WT,((wt.setCell ⟨wr.heap.size + 1,0,none⟩ (.slice (some ⟨gt,0,none⟩) N capt)).setCell ⟨wr.heap.size + 1,1,none⟩ (.slice c.CB c.kids.len c.cc)).setCell ⟨wr.heap.size + 1,2,none⟩ (.slice c.GB c.gs.length c.gc) = WT:=⟨_,rfl⟩
              have TI:=Lib.hid (tia_set KT.out (by omega) KZ.out.2 KZ.out.1 hWT)
              obtain ⟨T,hT⟩ : ∃ T,wr.heap.size + 1 = T:=⟨_,rfl⟩
              rw [hT] at TI
              rw [hWT,hT]
              clear hT hWT oz0 oz1 oz2 of0 of1 of2
              refine hK.out _ _ (SP.out _ TI.out.bel) (fun hHeld=>?_)
              clear hK K hHeld
              refine wpAnyH_done (by kernel_rfl) ?_ _
              have oP:=(TI.out.bel.block _ (hlt_of O8.out)).trans O8.out
              have sP4 : WT.cell? ⟨wo.heap.size,4,none⟩ = some (.int .i64 p.de):=ob_cell oP 4
              have tP4:=ob_free oP 4 (by simp)
              have w4' : RowKit.wrap64 (mo - 1) = mo - 1:=by have:=HMI.out.2; have h1:=HPR.out.1; unfold PrN at h1; unfold RowKit.wrap64; omega
              obtain ⟨WU,hWU⟩ : ∃ WU,WT.setCell ⟨wo.heap.size,4,none⟩ (.int .i64 (mo - 1)) = WU:=⟨_,rfl⟩
              have HWU:=Lib.hid hWU
              have hPlt:=hlt_of O8.out
              have ST:=Lib.hid (sto_of TI.out oP hPlt hWU)
              clear oP hWU hPlt
              go_upto_region 41 with (fail)
              rw [HWU.out]
              clear sP4 tP4
              obtain ⟨owu,blu,oP,bT⟩:=ST.out
              have q0 : WU.cell? ⟨T,0,none⟩ = some (.slice (some ⟨gt,0,none⟩) N capt):=ob_cell bT 0
              have r0 : WU.cell? ⟨wo.heap.size,0,none⟩ = some (.string p.nm):=ob_cell oP 0
              have r1 : WU.cell? ⟨wo.heap.size,1,none⟩ = some (.int .i64 p.pa):=ob_cell oP 1
              have r2 : WU.cell? ⟨wo.heap.size,2,none⟩ = some (.bool p.rs):=ob_cell oP 2
              have r3 : WU.cell? ⟨wo.heap.size,3,none⟩ = some (.int .i64 p.sl):=ob_cell oP 3
              have r4 : WU.cell? ⟨wo.heap.size,4,none⟩ = some (.int .i64 (mo - 1)):=ob_cell oP 4
              have r5 : WU.cell? ⟨wo.heap.size,5,none⟩ = some (.int .i64 p.fr):=ob_cell oP 5
              have r6 : WU.cell? ⟨wo.heap.size,6,none⟩ = some (.slice p.B p.code.length p.cap):=ob_cell oP 6
              obtain ⟨x0,x1,x2,x3,x4,x5,x6⟩:=prc_of_own owu HN0.out |>.1 j p HP.out.1 |>.2
              simp only [Nat.zero_add] at x0 x1 x2 x3 x4 x5 x6
              have hfr:=fun k (hk : k < 7)=>own_free owu (j:=j) (k:=k) HLT.out.1 hk
              have f0:=hfr 0 (by decide)
              have f1:=hfr 1 (by decide)
              have f2:=hfr 2 (by decide)
              have f3:=hfr 3 (by decide)
              have f4:=hfr 4 (by decide)
              have f5:=hfr 5 (by decide)
              have f6:=hfr 6 (by decide)
              rw [Nat.add_zero] at f0
              have hcap:=(prc_of_own owu HN0.out).2
              have s1 : (j : Int) < (N : Int):=Int.ofNat_lt.2 HLT.out.1
              have s2 : (N : Int) ≤ (capt : Int):=by omega
              have s3 : (capt : Int) ≤ 9223372036854775807:=by omega
              clear hfr owu blu oP bT hcap
              have STF:=Lib.hid (sto_fin ST.out HN.out HP.out.1)
              go_upto_region 42 with (fail)
              clear x0 x1 x2 x3 x4 x5 x6 f0 f1 f2 f3 f4 f5 f6 q0 r0 r1 r2 r3 r4 r5 r6 s1 s2 s3
              obtain ⟨WV,hWV⟩ : ∃ WV,(((((((WU.setCell ⟨gt,j * 7,none⟩ (.string p.nm)).setCell ⟨gt,j * 7 + 1,none⟩ (.int .i64 p.pa)).setCell ⟨gt,j * 7 + 2,none⟩ (.bool p.rs)).setCell ⟨gt,j * 7 + 3,none⟩ (.int .i64 p.sl)).setCell ⟨gt,j * 7 + 4,none⟩ (.int .i64 (mo - 1))).setCell ⟨gt,j * 7 + 5,none⟩ (.int .i64 p.fr)).setCell ⟨gt,j * 7 + 6,none⟩ (.slice p.B p.code.length p.cap)) = WV:=⟨_,rfl⟩
              obtain ⟨hpa,hk1,hc1,hc2⟩:=STF.out WV hWV
              have hgt0 : w6.heap.size ≤ gt:=by have:=far_own TI.out.own; have:=HBI.out.size; omega
              have hP0 : w6.heap.size ≤ wo.heap.size:=HI.out.size
              have hB6 : Below w6.heap.size w6 WV:=by
                have h1 : Below w6.heap.size w6 WU:=by
                  rw [← HWU.out]
                  exact (bel_trans (B:=w6.heap.size) HBI.out TI.out.bel).setCell (p:=⟨wo.heap.size,4,none⟩) hP0 _
                rw [← hWV]
                exact ((((((h1.setCell (p:=⟨gt,j * 7,none⟩) hgt0 _).setCell (p:=⟨gt,j * 7 + 1,none⟩) hgt0 _).setCell (p:=⟨gt,j * 7 + 2,none⟩) hgt0 _).setCell (p:=⟨gt,j * 7 + 3,none⟩) hgt0 _).setCell (p:=⟨gt,j * 7 + 4,none⟩) hgt0 _).setCell (p:=⟨gt,j * 7 + 5,none⟩) hgt0 _).setCell (p:=⟨gt,j * 7 + 6,none⟩) hgt0 _
              have hbw:=bel_trans (B:=w.heap.size) HBW6.out hB6
              have hvw:=HV.out.below hbw
              have hln : (c.ps.set j (p.at (mo - 1))).length = N:=by rw [List.length_set]; exact HN.out
              obtain ⟨d,hd⟩ : ∃ d : Cod,d = ⟨some ⟨gt,0,none⟩,capt,c.ps.set j (p.at (mo - 1)),c.CB,c.cc,c.kids,c.GB,c.gc,c.gs⟩:=⟨_,rfl⟩
              have hmem : ∀ q ∈ c.ps.set j (p.at (mo - 1)),(∃ q0 ∈ c.ps,q.code = q0.code∧q.B = q0.B∧q.cap = q0.cap∧prB q = true):=fun q hq=>by
                rcases List.mem_or_eq_of_mem_set hq with h | h
                · exact ⟨q,h,rfl,rfl,rfl,(right_tell HR.out).1 q h⟩
                · subst h
                  exact ⟨p,HP.out.2,rfl,rfl,rfl,prB_at ((right_tell HR.out).1 p HP.out.2) ⟨HMI.out.2.1,HMI.out.2.2⟩⟩
              have hvd : CodV WV d:=by
                rw [hd]
                exact ⟨⟨gt,0,fun _=>rfl,hpa⟩,fun q hq=>by
                  obtain ⟨q0,k1,k2,k3,-⟩:=hmem q hq
                  obtain ⟨b,off,k4,k5⟩:=hvw.pv q0 k1
                  exact ⟨b,off,by rw [k2,k3]; exact k4,by rw [k2]; exact k5⟩,hvw.kids,hvw.gs⟩
              have hokd : d.Ok:=by
                rw [hd]
                exact ⟨⟨by show (c.ps.set j (p.at (mo - 1))).length ≤ capt; rw [hln]; exact hc1,hc2⟩,OK.out.kids,OK.out.gs,fun q hq=>by
                  obtain ⟨q0,k1,k2,k3,k4,-⟩:=hmem q hq
                  have h:=OK.out.pr q0 k1
                  exact ⟨by rw [k2,k4]; exact h.cap,by rw [k2]; exact h.l⟩⟩
              have hrd : rightP d bq = true:=by
                rw [hd]
                exact rightP_of (d:=⟨some ⟨gt,0,none⟩,capt,c.ps.set j (p.at (mo - 1)),c.CB,c.cc,c.kids,c.GB,c.gc,c.gs⟩) HR.out rfl rfl (by show (c.ps.set j (p.at (mo - 1))).length = _; rw [hln,HN.out]) HG.out.1 fun q hq=>by
                  obtain ⟨q0,k1,k2,-,-,k5⟩:=hmem q hq
                  exact ⟨k5,by rw [k2]; have:=HG.out.2.2.2 q0 k1; omega⟩
              have hCd:=HCK.out d WV hbw hvd hokd (by rw [hd]) (by rw [hd]; show (c.ps.set j (p.at (mo - 1))).length ≤ _; rw [hln]; have:=HG.out.1; have:=HN.out; omega)
              have hz : ∀ z m i,CheckP (tkC d.ps) puC d k (rightP d bq) z m i → z = 113:=fun z m i h=>by
                obtain ⟨n,hn⟩:=HMI.out.1
                exact check_tight (by rw [hd]) HP.out.1 (by rw [hd]) (by rw [hd]) (fun p hp=>⟨(HRC.out.pr p hp).1,fun x hx=>((HRC.out.pr p hp).2.2 x hx).2.2⟩) HNO.out HQ.out.1 hn HMI.out.2.1 HMI.out.2.2 hrd h
              have hcod : codA d = .agg #[.slice (some ⟨gt,0,none⟩) N capt,.slice c.CB c.kids.len c.cc,.slice c.GB c.gs.length c.gc]:=by rw [hd]; show Value.agg #[.slice (some ⟨gt,0,none⟩) (c.ps.set j (p.at (mo - 1))).length capt,_,_] = _; rw [hln]
              have CKD : Hid (Calls Tryz.prog 6 #[.agg #[.slice (some ⟨gt,0,none⟩) N capt,.slice c.CB c.kids.len c.cc,.slice c.GB c.gs.length c.gc]] WV fun e w'=>∃ (z m : Int) (i : Nat),CheckP (tkC d.ps) puC d k (rightP d bq) z m i∧e = .returned (.agg #[.int .i64 z,.int .i64 m,.int .i64 (i : Int)])∧Below WV.heap.size WV w'):=Lib.hid (by rw [← hcod]; exact hCd)
              have HZ:=Lib.hid hz
              have bT:=(hk1 T (by have:=TI.out.ne; exact this)).trans ST.out.blk
              have e0 : WV.cell? ⟨T,0,none⟩ = some (.slice (some ⟨gt,0,none⟩) N capt):=ob_cell bT 0
              have e1 : WV.cell? ⟨T,1,none⟩ = some (.slice c.CB c.kids.len c.cc):=ob_cell bT 1
              have e2 : WV.cell? ⟨T,2,none⟩ = some (.slice c.GB c.gs.length c.gc):=ob_cell bT 2
              have HB6V:=Lib.hid hB6
              rw [hWV]
              clear hWV hpa hk1 hc1 hc2 hgt0 hP0 hB6 hbw hvw hln hd hmem hvd hokd hrd hCd hz hcod bT
              go_wp2_with (fail)
              refine CKD.out.mono ?_
              rintro e w9 ⟨z,m',i',hz,rfl,hb9⟩
              obtain rfl : z = 113:=HZ.out _ _ _ hz
              have HB9:=Lib.hid (bel_trans (B:=w6.heap.size) HB6V.out hb9)
              clear hz hb9 e0 e1 e2
              go_wp2_with (fail)
              rw [← HPBS.out]
              go_roundg (N - (j + 1))
              case measure=>have:=HLT.out; omega
              case rel=>exact ⟨j + 1,(by first | rfl | rw [wc]),rfl,by have:=HLT.out; omega,HB9⟩
          · go_simp
            refine hK.out _ _ (SP.out _ HX4.out) (fun hHeld=>?_)
            clear hK K
            refine wpAnyH_ready (rs:=[4]) (by kernel_rfl) (by simp) ?_
            refine AllReadyH.cons rfl (fun K hK=>?_) AllReadyH.nil
            go_simp
            refine hK.out _ _ (SP.out _ HX3.out) (fun hHeld=>?_)
            clear hK K
            refine wpAnyH_ready (rs:=[7]) (by kernel_rfl) (by simp) ?_
            refine AllReadyH.cons rfl (fun K hK=>?_) AllReadyH.nil
            refine step_append_lies _ rfl (.tmp 148) (.tmp 150) 22 rfl wr.heap.size 35 i1 _ 7 80 Tryz.underlying22 hing hy0 hy1 hy2 rfl (by decide) (.slice (some ⟨wr.heap.size + 1,0,none⟩) 0 0) 0 [] (by first | rfl | simp [Act.eval,Act.put]) HE3.out ⟨pb,po,none⟩ N c.pc (prcC c.ps) (by first | rfl | simp [Act.eval,Act.put]) (by rw [prcC_len,HN.out]) (fun j u hj=>by rw [Lib.add_plain]; exact prc_news (PRC.out _ (bel_trans (B:=w.heap.size) HBWR.out HX3.out)) j u hj) (prcC_one _) HN0.out (by unfold maxLen; have:=HG.out.1; have:=HN.out; omega) (by have:=HG.out.1; have:=HN.out; omega) HX3.out.size _ rfl ?_
            intro gt capt wt ownt growt whert ltt
            have KT:=Lib.hid (tit_of HX3.out (by omega) ownt growt)
            rw [Nat.zero_add]
            have oz : wt.heap[wr.heap.size]? = some (.cells #[.slice none 0 0,.slice none 0 0,.slice none 0 0] 26):=(growt.block wr.heap.size (show wr.heap.size < ((wr.alloc _).alloc _).heap.size by simp; omega) (fun e=>by have : wr.heap.size = wr.heap.size + 1:=Option.some.inj e; omega)).trans (alloc_at3 _ _ _)
            have oz0:=ob_cell oz 0
            have oz1:=ob_cell oz 1
            have oz2:=ob_cell oz 2
            have of0:=ob_free oz 0 (by simp)
            have of1:=ob_free oz 1 (by simp)
            have of2:=ob_free oz 2 (by simp)
            have KZ:=Lib.hid (And.intro oz (whn3 whert))
            clear oz ownt growt whert ltt
            refine hK.out _ _ (SP.out wt KT.out.bel) (fun hHeld=>?_)
            clear hK K
            refine wpAnyH_take (i:=8) (v:=?v8d) rfl (by kernel_rfl) (by kernel_rfl) (by kernel_rfl) (fun _ _ _ h=>h) (Or.inl ⟨by rfl,?y8d⟩) hHeld ?r8d
            case y8d =>
              intro W hSw
              obtain ⟨u0,u1,u2⟩:=hSw
              go_simp
              all_goals (with_reducible rfl)
            change wpAnyH _ _ _ _ _ _ _ (Act.put _ (some 152) _) _
            simp only [Act.put,List.setIfInBounds_toArray,List.set_cons_zero,List.set_cons_succ]
            refine wpAnyH_ready (rs:=[10]) (by kernel_rfl) (by simp) ?_
            refine AllReadyH.cons rfl (fun K hK=>?_) AllReadyH.nil
            go_simp
            obtain ⟨WT,hWT⟩ : ∃ WT,((wt.setCell ⟨wr.heap.size,0,none⟩ (.slice (some ⟨gt,0,none⟩) N capt)).setCell ⟨wr.heap.size,1,none⟩ (.slice c.CB c.kids.len c.cc)).setCell ⟨wr.heap.size,2,none⟩ (.slice c.GB c.gs.length c.gc) = WT:=⟨_,rfl⟩
            have TI:=Lib.hid (tia_set KT.out (by omega) KZ.out.2 KZ.out.1 hWT)
            obtain ⟨T,hT⟩ : ∃ T,wr.heap.size = T:=⟨_,rfl⟩
            rw [hWT]
            rw [hT] at TI
            clear hWT oz0 oz1 oz2 of0 of1 of2
            refine hK.out _ _ (SP.out _ TI.out.bel) (fun hHeld=>?_)
            clear hK K hHeld
            refine wpAnyH_done (by kernel_rfl) ?_ _
            have oP:=(TI.out.bel.block _ (hlt_of O8.out)).trans O8.out
            have sP4 : WT.cell? ⟨wo.heap.size,4,none⟩ = some (.int .i64 p.de):=ob_cell oP 4
            have tP4:=ob_free oP 4 (by simp)
            have w4' : RowKit.wrap64 (mo - 1) = mo - 1:=by have:=HMI.out.2; have h1:=HPR.out.1; unfold PrN at h1; unfold RowKit.wrap64; omega
            obtain ⟨WU,hWU⟩ : ∃ WU,WT.setCell ⟨wo.heap.size,4,none⟩ (.int .i64 (mo - 1)) = WU:=⟨_,rfl⟩
            have HWU:=Lib.hid hWU
            have hPlt:=hlt_of O8.out
            have ST:=Lib.hid (sto_of TI.out oP hPlt hWU)
            clear oP hWU hPlt
            go_upto_region 41 with (fail)
            rw [HWU.out]
            clear sP4 tP4
            obtain ⟨owu,blu,oP,bT⟩:=ST.out
            have q0 : WU.cell? ⟨T,0,none⟩ = some (.slice (some ⟨gt,0,none⟩) N capt):=ob_cell bT 0
            have r0 : WU.cell? ⟨wo.heap.size,0,none⟩ = some (.string p.nm):=ob_cell oP 0
            have r1 : WU.cell? ⟨wo.heap.size,1,none⟩ = some (.int .i64 p.pa):=ob_cell oP 1
            have r2 : WU.cell? ⟨wo.heap.size,2,none⟩ = some (.bool p.rs):=ob_cell oP 2
            have r3 : WU.cell? ⟨wo.heap.size,3,none⟩ = some (.int .i64 p.sl):=ob_cell oP 3
            have r4 : WU.cell? ⟨wo.heap.size,4,none⟩ = some (.int .i64 (mo - 1)):=ob_cell oP 4
            have r5 : WU.cell? ⟨wo.heap.size,5,none⟩ = some (.int .i64 p.fr):=ob_cell oP 5
            have r6 : WU.cell? ⟨wo.heap.size,6,none⟩ = some (.slice p.B p.code.length p.cap):=ob_cell oP 6
            obtain ⟨x0,x1,x2,x3,x4,x5,x6⟩:=prc_of_own owu HN0.out |>.1 j p HP.out.1 |>.2
            simp only [Nat.zero_add] at x0 x1 x2 x3 x4 x5 x6
            have hfr:=fun k (hk : k < 7)=>own_free owu (j:=j) (k:=k) HLT.out.1 hk
            have f0:=hfr 0 (by decide)
            have f1:=hfr 1 (by decide)
            have f2:=hfr 2 (by decide)
            have f3:=hfr 3 (by decide)
            have f4:=hfr 4 (by decide)
            have f5:=hfr 5 (by decide)
            have f6:=hfr 6 (by decide)
            rw [Nat.add_zero] at f0
            have hcap:=(prc_of_own owu HN0.out).2
            have s1 : (j : Int) < (N : Int):=Int.ofNat_lt.2 HLT.out.1
            have s2 : (N : Int) ≤ (capt : Int):=by omega
            have s3 : (capt : Int) ≤ 9223372036854775807:=by omega
            clear hfr owu blu oP bT hcap
            have STF:=Lib.hid (sto_fin ST.out HN.out HP.out.1)
            go_upto_region 42 with (fail)
            clear x0 x1 x2 x3 x4 x5 x6 f0 f1 f2 f3 f4 f5 f6 q0 r0 r1 r2 r3 r4 r5 r6 s1 s2 s3
            obtain ⟨WV,hWV⟩ : ∃ WV,(((((((WU.setCell ⟨gt,j * 7,none⟩ (.string p.nm)).setCell ⟨gt,j * 7 + 1,none⟩ (.int .i64 p.pa)).setCell ⟨gt,j * 7 + 2,none⟩ (.bool p.rs)).setCell ⟨gt,j * 7 + 3,none⟩ (.int .i64 p.sl)).setCell ⟨gt,j * 7 + 4,none⟩ (.int .i64 (mo - 1))).setCell ⟨gt,j * 7 + 5,none⟩ (.int .i64 p.fr)).setCell ⟨gt,j * 7 + 6,none⟩ (.slice p.B p.code.length p.cap)) = WV:=⟨_,rfl⟩
            obtain ⟨hpa,hk1,hc1,hc2⟩:=STF.out WV hWV
            have hgt0 : w6.heap.size ≤ gt:=by have:=far_own TI.out.own; have:=HBI.out.size; omega
            have hP0 : w6.heap.size ≤ wo.heap.size:=HI.out.size
            have hB6 : Below w6.heap.size w6 WV:=by
              have h1 : Below w6.heap.size w6 WU:=by
                rw [← HWU.out]
                exact (bel_trans (B:=w6.heap.size) HBI.out TI.out.bel).setCell (p:=⟨wo.heap.size,4,none⟩) hP0 _
              rw [← hWV]
              exact ((((((h1.setCell (p:=⟨gt,j * 7,none⟩) hgt0 _).setCell (p:=⟨gt,j * 7 + 1,none⟩) hgt0 _).setCell (p:=⟨gt,j * 7 + 2,none⟩) hgt0 _).setCell (p:=⟨gt,j * 7 + 3,none⟩) hgt0 _).setCell (p:=⟨gt,j * 7 + 4,none⟩) hgt0 _).setCell (p:=⟨gt,j * 7 + 5,none⟩) hgt0 _).setCell (p:=⟨gt,j * 7 + 6,none⟩) hgt0 _
            have hbw:=bel_trans (B:=w.heap.size) HBW6.out hB6
            have hvw:=HV.out.below hbw
            have hln : (c.ps.set j (p.at (mo - 1))).length = N:=by rw [List.length_set]; exact HN.out
            obtain ⟨d,hd⟩ : ∃ d : Cod,d = ⟨some ⟨gt,0,none⟩,capt,c.ps.set j (p.at (mo - 1)),c.CB,c.cc,c.kids,c.GB,c.gc,c.gs⟩:=⟨_,rfl⟩
            have hmem : ∀ q ∈ c.ps.set j (p.at (mo - 1)),(∃ q0 ∈ c.ps,q.code = q0.code∧q.B = q0.B∧q.cap = q0.cap∧prB q = true):=fun q hq=>by
              rcases List.mem_or_eq_of_mem_set hq with h | h
              · exact ⟨q,h,rfl,rfl,rfl,(right_tell HR.out).1 q h⟩
              · subst h
                exact ⟨p,HP.out.2,rfl,rfl,rfl,prB_at ((right_tell HR.out).1 p HP.out.2) ⟨HMI.out.2.1,HMI.out.2.2⟩⟩
            have hvd : CodV WV d:=by
              rw [hd]
              exact ⟨⟨gt,0,fun _=>rfl,hpa⟩,fun q hq=>by
                obtain ⟨q0,k1,k2,k3,-⟩:=hmem q hq
                obtain ⟨b,off,k4,k5⟩:=hvw.pv q0 k1
                exact ⟨b,off,by rw [k2,k3]; exact k4,by rw [k2]; exact k5⟩,hvw.kids,hvw.gs⟩
            have hokd : d.Ok:=by
              rw [hd]
              exact ⟨⟨by show (c.ps.set j (p.at (mo - 1))).length ≤ capt; rw [hln]; exact hc1,hc2⟩,OK.out.kids,OK.out.gs,fun q hq=>by
                obtain ⟨q0,k1,k2,k3,k4,-⟩:=hmem q hq
                have h:=OK.out.pr q0 k1
                exact ⟨by rw [k2,k4]; exact h.cap,by rw [k2]; exact h.l⟩⟩
            have hrd : rightP d bq = true:=by
              rw [hd]
              exact rightP_of (d:=⟨some ⟨gt,0,none⟩,capt,c.ps.set j (p.at (mo - 1)),c.CB,c.cc,c.kids,c.GB,c.gc,c.gs⟩) HR.out rfl rfl (by show (c.ps.set j (p.at (mo - 1))).length = _; rw [hln,HN.out]) HG.out.1 fun q hq=>by
                obtain ⟨q0,k1,k2,-,-,k5⟩:=hmem q hq
                exact ⟨k5,by rw [k2]; have:=HG.out.2.2.2 q0 k1; omega⟩
            have hCd:=HCK.out d WV hbw hvd hokd (by rw [hd]) (by rw [hd]; show (c.ps.set j (p.at (mo - 1))).length ≤ _; rw [hln]; have:=HG.out.1; have:=HN.out; omega)
            have hz : ∀ z m i,CheckP (tkC d.ps) puC d k (rightP d bq) z m i → z = 113:=fun z m i h=>by
              obtain ⟨n,hn⟩:=HMI.out.1
              exact check_tight (by rw [hd]) HP.out.1 (by rw [hd]) (by rw [hd]) (fun p hp=>⟨(HRC.out.pr p hp).1,fun x hx=>((HRC.out.pr p hp).2.2 x hx).2.2⟩) HNO.out HQ.out.1 hn HMI.out.2.1 HMI.out.2.2 hrd h
            have hcod : codA d = .agg #[.slice (some ⟨gt,0,none⟩) N capt,.slice c.CB c.kids.len c.cc,.slice c.GB c.gs.length c.gc]:=by rw [hd]; show Value.agg #[.slice (some ⟨gt,0,none⟩) (c.ps.set j (p.at (mo - 1))).length capt,_,_] = _; rw [hln]
            have CKD : Hid (Calls Tryz.prog 6 #[.agg #[.slice (some ⟨gt,0,none⟩) N capt,.slice c.CB c.kids.len c.cc,.slice c.GB c.gs.length c.gc]] WV fun e w'=>∃ (z m : Int) (i : Nat),CheckP (tkC d.ps) puC d k (rightP d bq) z m i∧e = .returned (.agg #[.int .i64 z,.int .i64 m,.int .i64 (i : Int)])∧Below WV.heap.size WV w'):=Lib.hid (by rw [← hcod]; exact hCd)
            have HZ:=Lib.hid hz
            have bT:=(hk1 T (by have:=TI.out.ne; exact this)).trans ST.out.blk
            have e0 : WV.cell? ⟨T,0,none⟩ = some (.slice (some ⟨gt,0,none⟩) N capt):=ob_cell bT 0
            have e1 : WV.cell? ⟨T,1,none⟩ = some (.slice c.CB c.kids.len c.cc):=ob_cell bT 1
            have e2 : WV.cell? ⟨T,2,none⟩ = some (.slice c.GB c.gs.length c.gc):=ob_cell bT 2
            have HB6V:=Lib.hid hB6
            rw [hWV]
            clear hWV hpa hk1 hc1 hc2 hgt0 hP0 hB6 hbw hvw hln hd hmem hvd hokd hrd hCd hz hcod bT
            go_wp2_with (fail)
            refine CKD.out.mono ?_
            rintro e w9 ⟨z,m',i',hz,rfl,hb9⟩
            obtain rfl : z = 113:=HZ.out _ _ _ hz
            have HB9:=Lib.hid (bel_trans (B:=w6.heap.size) HB6V.out hb9)
            clear hz hb9 e0 e1 e2
            go_wp2_with (fail)
            rw [← HPBS.out]
            go_roundg (N - (j + 1))
            case measure=>have:=HLT.out; omega
            case rel=>exact ⟨j + 1,(by first | rfl | rw [wc]),rfl,by have:=HLT.out; omega,HB9⟩
    have b1 : decide (j < N) = true:=decide_eq_true hlt
    obtain ⟨p,hp⟩ : ∃ p,c.ps[j]? = some p:=⟨_,List.getElem?_eq_getElem (by rw [HN.out]; exact hlt)⟩
    have hpm:=List.mem_of_getElem? hp
    obtain ⟨pb,po,hPB,hPF⟩:=HV.out.ps
    have hPBs:=hPB (by rw [HN.out]; omega)
    obtain ⟨ib,io,hib,hia⟩:=HV.out.pv p hpm
    have hpo:=OK.out.pr p hpm
    have hpk : PK w w.heap.size pb (po + j * 7) ib io p:=⟨(hPF j p hp).2,(hPF j p hp).1,hib,hia,fun hl=>(hia 0 _ (List.getElem?_eq_getElem hl)).1,hpo.cap⟩
    have hbr:=bel_trans (B:=w.heap.size) HB04.out HI.out.2.2.2
    have hbr1:=bel_trans (B:=W1.heap.size) HB4.out HI.out.2.2.2
    obtain ⟨z0,z1,z2,z3,z4,z5,z6⟩:=(hpk.keep hbr (Nat.le_refl _)).p7
    have a1 : (0 : Int) ≤ (j : Int):=Int.natCast_nonneg j
    have a2 : (j : Int) < (N : Int):=Int.ofNat_lt.2 hlt
    have a3 : (N : Int) ≤ (c.pc : Int):=by have:=HPS.out; have:=HN.out; omega
    have a4 : (c.pc : Int) ≤ 9223372036854775807:=by have:=HPS.out; omega
    obtain ⟨W6,hW6⟩ : ∃ W6,wo.alloc (.cells #[.string p.nm,.int .i64 p.pa,.bool p.rs,.int .i64 p.sl,.int .i64 p.de,.int .i64 p.fr,.slice p.B p.code.length p.cap] 35 (0,0)) = W6:=⟨_,rfl⟩
    have hb6 : Below wo.heap.size wo W6:=by rw [← hW6]; exact (Below.refl _ wo).alloc (Nat.le_refl _) _
    have ho6 : W6.heap[wo.heap.size]? = some (prO p):=by rw [← hW6]; exact Array.getElem?_push_size
    have hpr:=HRC.out.pr p hpm
    have hfl:=HNO.out.pr p hpm
    have hB6:=bel_trans (B:=w.heap.size) hbr hb6
    have hB61:=bel_trans (B:=W1.heap.size) hbr1 hb6
    have VD:=Lib.hid (vdepthsR_any (tkC c.ps) puC c p k j p.code.length pb po ib io W6 hPBs (by rw [HN.out]; exact hlt) HPS.out (hpk.up hB6 (Nat.le_refl _) hB6.size) rfl (by have:=HG.out.2.2.2 p hpm; omega) hpr.1
      (fun x hx W hW=>HRC.out.ef p hpm x hx W (bel_trans (B:=w.heap.size) hB6 hW)) hpr.2.2 (fun W=>HM.out _ W (by have:=HG.out.2.2.2 p hpm; omega)) hfl (fun W hW=>CS.out W (bel_trans (B:=w.heap.size) hB6 hW)))
    obtain ⟨n1,n2,-⟩:=flaw_zero_parts hfl
    obtain ⟨m1,m2,m3,hpos,hde⟩:=numE_ok hpr.1 n1
    have hpB:=hib hpos
    obtain ⟨⟨v0,v1,v2⟩,-⟩:=FA.out W6 hB61
    rw [hPBs]
    have HPBS:=Lib.hid hPBs
    have HP:=Lib.hid (And.intro hp hpm)
    have HPK:=Lib.hid hpk
    have HPR:=Lib.hid hpr
    have HBR:=Lib.hid hbr
    have HBR1:=Lib.hid hbr1
    have HW6:=Lib.hid hW6
    have HB6:=Lib.hid hb6
    have O6:=Lib.hid ho6
    have HB61:=Lib.hid hB61
    have HNE:=Lib.hid (And.intro n1 (And.intro m1 (And.intro m2 (And.intro hpos hde))))
    have HPBB:=Lib.hid hpB
    have HPO:=Lib.hid hpo
    have HLT:=Lib.hid (And.intro hlt (And.intro hk hj))
    clear hp hpm hPB hPF hPBs hib hia hpk hbr hbr1 hpr hfl hB6 hB61 hW6 hb6 ho6 n1 n2 m1 m2 m3 hpos hde hpB hlt hk hj hpo
    have w1 : RowKit.wrap64 (p.sl + p.de) = p.sl + p.de:=by have:=HNE.out.2.2.1; have:=HPR.out.1; unfold PrN at this; unfold RowKit.wrap64; omega
    have e3 : W6.cell? ⟨wo.heap.size,3,none⟩ = some (.int .i64 p.sl):=ob_cell O6.out 3
    have e4 : W6.cell? ⟨wo.heap.size,4,none⟩ = some (.int .i64 p.de):=ob_cell O6.out 4
    by_cases h100 : 100 < p.sl + p.de
    · have d4 : decide (100 < p.sl + p.de) = true:=decide_eq_true h100
      clear h100
      go_upto_region 9 with (fail)
      rw [HW6.out]
      go_wp2_with (fail)
      go_ret
      exact ⟨rfl,bel_trans (B:=w.heap.size) HBR.out HB6.out⟩
    have d4 : decide (100 < p.sl + p.de) = false:=decide_eq_false h100
    have H100:=Lib.hid h100
    clear h100
    go_upto_region 9 with (fail)
    rw [HW6.out]
    clear z0 z1 z2 z3 z4 z5 z6
    go_wp2_with (fail)
    refine VD.out.mono ?_
    rintro e w7 ⟨ds,g,q1,q2,rfl,q3,q4,hb7⟩
    obtain ⟨cn,hcn⟩ : ∃ cn,p.code.length = cn:=⟨_,rfl⟩
    have HCN:=Lib.hid hcn
    have hq2:=q2.trans hcn
    rw [hq2]
    have HQ:=Lib.hid (And.intro q1 (And.intro hq2 q4))
    have HB7:=Lib.hid hb7
    have O7:=Lib.hid ((hb7.block _ (hlt_of O6.out)).trans O6.out)
    have HB71:=Lib.hid (bel_trans (B:=W1.heap.size) HB61.out hb7)
    have hcn3 : cn ≤ 300:=by rw [← hcn]; exact HG.out.2.2.2 p HP.out.2
    have HCN3:=Lib.hid hcn3
    have ROOM:=Lib.hid (run_room (fun x hx=>(HPR.out.2.2 x hx).1.1) (fun x hx=>(HPR.out.2.2 x hx).2.2) HNE.out.2.2.2.2.1 HNE.out.2.2.2.1 q1)
    have FB : Hid (∀ W,Below w7.heap.size w7 W → W.cell? ⟨wo.heap.size,6,none⟩ = some (.slice (some ⟨ib,io,none⟩) cn p.cap)∧W.heap[g]? = some (.cells (ivs ds).toArray 3 (0,0))∧InsAt W ib io p.code∧Below W1.heap.size W1 W):=Lib.hid fun W hW=>by
      have e1:=(hW.block _ (hlt_of O7.out)).trans O7.out
      have hB:=bel_trans (B:=W1.heap.size) HB71.out hW
      have e6 : W.cell? ⟨wo.heap.size,6,none⟩ = some (.slice p.B p.code.length p.cap):=ob_cell e1 6
      rw [HPBB.out,HCN.out] at e6
      exact ⟨e6,(hW.block _ (hlt_of HQ.out.2.2)).trans HQ.out.2.2,HPK.out.ins.below (FA.out W hB).2,hB⟩
    have a5 : (cn : Int) ≤ (p.cap : Int):=by rw [← hcn]; have:=HPO.out.cap.1; omega
    have a6 : (p.cap : Int) ≤ 9223372036854775807:=by have:=HPO.out.cap.2; omega
    have a7 : (cn : Int) ≤ 9223372036854775807:=by omega
    clear q1 q2 q3 q4 hb7 hcn hq2 hcn3 v0 v1 v2 y1 y2 u0 u1 u2
    go_wp2_with (fail)
    go_loopg [8,60] cn (fun kk mv jv wr=>∃ (i : Nat) (mo : Int),mv = .int .i64 mo∧jv = .int .i64 (i : Int)∧kk = cn - i∧i ≤ cn∧Hid (0 ≤ mo∧mo ≤ p.de∧Below w7.heap.size w7 wr))
    case atStart=>exact ⟨0,0,rfl,rfl,rfl,Nat.zero_le _,Lib.hid ⟨Int.le_refl _,HNE.out.2.2.2.2.1,Below.refl _ _⟩⟩
    case round =>
      obtain ⟨i,mo,rfl,rfl,hk2,hi,HJ⟩:=hrel
      obtain ⟨f6,fds,fin_,fb1⟩:=FB.out wr HJ.out.2.2
      obtain ⟨⟨v0,v1,v2⟩,hw8⟩:=FA.out wr fb1
      by_cases hil : i < cn
      case neg =>
        have b2 : decide (i < cn) = false:=decide_eq_false hil
        have o9:=(HJ.out.2.2.block _ (hlt_of O7.out)).trans O7.out
        have s3 : wr.cell? ⟨wo.heap.size,3,none⟩ = some (.int .i64 p.sl):=ob_cell o9 3
        have s4 : wr.cell? ⟨wo.heap.size,4,none⟩ = some (.int .i64 p.de):=ob_cell o9 4
        have t3:=ob_free o9 3 (by simp)
        have t4:=ob_free o9 4 (by simp)
        have t6:=ob_free o9 6 (by simp)
        have d5 : decide (p.de < mo) = false:=decide_eq_false (by have:=HJ.out.2.1; omega)
        have w2 : RowKit.wrap64 (p.sl + more) = p.sl + more:=by have:=HNE.out.2.1; have:=HNE.out.2.2.1; have h1:=HPR.out.1; unfold PrN at h1; have:=HMO.out; unfold RowKit.wrap64; omega
        have w3 : RowKit.wrap64 (p.de + more) = p.de + more:=by have:=HNE.out.2.1; have:=HNE.out.2.2.1; have h1:=HPR.out.1; unfold PrN at h1; have:=HMO.out; unfold RowKit.wrap64; omega
        obtain ⟨Wa,hWa⟩ : ∃ Wa,wr.setCell ⟨wo.heap.size,3,none⟩ (.int .i64 (p.sl + more)) = Wa:=⟨_,rfl⟩
        have oa : Wa.heap[wo.heap.size]? = some (.cells #[.string p.nm,.int .i64 p.pa,.bool p.rs,.int .i64 (p.sl + more),.int .i64 p.de,.int .i64 p.fr,.slice p.B p.code.length p.cap] 35 (0,0)):=by rw [← hWa]; exact Lib.heap_setCell_same (i:=3) o9 _
        have sa4 : Wa.cell? ⟨wo.heap.size,4,none⟩ = some (.int .i64 p.de):=ob_cell oa 4
        have ta4:=ob_free oa 4 (by simp)
        obtain ⟨Wb,hWb⟩ : ∃ Wb,Wa.setCell ⟨wo.heap.size,4,none⟩ (.int .i64 (p.de + more)) = Wb:=⟨_,rfl⟩
        have ob : Wb.heap[wo.heap.size]? = some (.cells #[.string p.nm,.int .i64 p.pa,.bool p.rs,.int .i64 (p.sl + more),.int .i64 (p.de + more),.int .i64 p.fr,.slice p.B p.code.length p.cap] 35 (0,0)):=by rw [← hWb]; exact Lib.heap_setCell_same (i:=4) oa _
        have sb6 : Wb.cell? ⟨wo.heap.size,6,none⟩ = some (.slice (some ⟨ib,io,none⟩) cn p.cap):=by rw [← HPBB.out,← HCN.out]; exact ob_cell ob 6
        have tb6:=ob_free ob 6 (by simp)
        have HWa:=Lib.hid hWa
        have HWb:=Lib.hid hWb
        have OB:=Lib.hid ob
        clear o9 oa ob hWa hWb fds fin_ fb1 hw8 f6 hk2 hi hil v0 v1 v2
        go_upto_region 24 with (fail)
        rw [HWa.out,HWb.out]
        have sc6 : (Wb.alloc (.cells #[] 41)).cell? ⟨wo.heap.size,6,none⟩ = some (.slice (some ⟨ib,io,none⟩) cn p.cap):=(((Below.refl Wb.heap.size Wb).alloc (Nat.le_refl _) _).cell (p:=⟨wo.heap.size,6,none⟩) (hlt_of OB.out)).trans sb6
        have hP0 : w4.heap.size ≤ wo.heap.size:=HI.out.2.2.2.size
        have hBb : Below w4.heap.size w4 Wb:=by
          have h1:=bel_trans (B:=w4.heap.size) (bel_trans (B:=w4.heap.size) (bel_trans (B:=w4.heap.size) HI.out.2.2.2 HB6.out) HB7.out) HJ.out.2.2
          rw [← HWb.out,← HWa.out]
          exact (h1.setCell (p:=⟨wo.heap.size,3,none⟩) hP0 _).setCell (p:=⟨wo.heap.size,4,none⟩) hP0 _
        have HBb:=Lib.hid hBb
        have hins : InsAt (Wb.alloc (.cells #[] 41)) ib io p.code:=HPK.out.ins.below ((bel_trans (B:=w.heap.size) HB04.out hBb).alloc (by have:=(bel_trans (B:=w.heap.size) HB04.out hBb).size; omega) _)
        have HINS:=Lib.hid hins
        have hP1:=hlt_of OB.out
        have HP1:=Lib.hid hP1
        clear s3 s4 t3 t4 t6 sa4 ta4 sb6 tb6 hBb hins hP0 hP1
        go_upto_region 25 with (first
          | (at_builtin; refine wpList_append_lies _ rfl _ _ 33 rfl Wb.heap.size 41 i0 _ 3 24 Tryz.underlying33 hinf hz0 hz1 hz2 rfl (by decide) (.slice (some ⟨Wb.heap.size,0,none⟩) 0 0) 0 [] rfl (own_empty Wb 41 3) ⟨ib,io,none⟩ cn p.cap (insC p.code) rfl (by rw [insC_len,HCN.out]) (fun j u hj=>by rw [Lib.add_plain]; exact ins_news HINS.out j u hj) (insC_one _) (by have:=HNE.out.2.2.2.1; rw [HCN.out] at this; exact this) (by unfold maxLen; have:=HCN3.out; omega) (by have:=HCN3.out; omega) (by simp) (Wb.heap.size + 1) (by simp) ?_; intro ga capa wa owna growa whera lta; rw [Nat.zero_add,List.nil_append] at owna; rw [Nat.zero_add])
          | (at_builtin; refine wpList_append_lies _ rfl _ _ 33 rfl Wb.heap.size 41 i0 _ 3 24 Tryz.underlying33 hinf hz0 hz1 hz2 rfl (by decide) (.slice (some ⟨ga,0,none⟩) cn capa) cn (insC p.code) rfl (owna.alloc _) ⟨wa.heap.size,0,none⟩ 2 2 (insC vrI) rfl rfl (World.news_of_block (cs:=(insC vrI).toArray) Array.getElem?_push_size) (insC_one _) (by decide) (by unfold maxLen; have:=HCN3.out; omega) (by have:=HCN3.out; omega) (by have:=growa.size; simp at this ⊢; omega) (wa.heap.size + 1) (by simp) ?_; intro gb capb wb ownb growb wherb ltb; have hBo:=room_wb HP1.out owna growa whera ownb growb; have ob2:=(hBo.block _ HP1.out).trans OB.out; have u6:=ob_cell ob2 6; have uf6:=ob_free ob2 6 (by simp); have KB:=Lib.hid (And.intro hBo (And.intro ob2 ownb)); clear hBo ob2 owna growa whera lta growb wherb ltb))
        clear u6 uf6
        obtain ⟨hBo,ob2,ownb⟩:=KB.out
        obtain ⟨Wd,hWd⟩ : ∃ Wd,wb.setCell ⟨wo.heap.size,6,none⟩ (.slice (some ⟨gb,0,none⟩) (cn + 2) capb) = Wd:=⟨_,rfl⟩
        have od : Wd.heap[wo.heap.size]? = some (.cells #[.string p.nm,.int .i64 p.pa,.bool p.rs,.int .i64 (p.sl + more),.int .i64 (p.de + more),.int .i64 p.fr,.slice (some ⟨gb,0,none⟩) (cn + 2) capb] 35 (0,0)):=by rw [← hWd]; exact Lib.heap_setCell_same (i:=6) ob2 _
        have hBd : Below wo.heap.size wo Wd:=by
          have h1 : Below wo.heap.size wo wr:=bel_trans (B:=wo.heap.size) (bel_trans (B:=wo.heap.size) HB6.out HB7.out) HJ.out.2.2
          have h2 : Below wo.heap.size wo Wb:=by
            rw [← HWb.out,← HWa.out]
            exact (h1.setCell (p:=⟨wo.heap.size,3,none⟩) (Nat.le_refl _) _).setCell (p:=⟨wo.heap.size,4,none⟩) (Nat.le_refl _) _
          rw [← hWd]
          exact (h2.trans ⟨hBo.os,hBo.tape,hBo.output,hBo.size,fun q hq=>hBo.block q (by have:=HP1.out; omega)⟩).setCell (p:=⟨wo.heap.size,6,none⟩) (Nat.le_refl _) _
        have BUd:=Lib.hid (HI.out.2.1.below hBd)
        obtain ⟨hia,hc1,hc2⟩:=ins_of_own (l:=p.code ++ vrI) (by rw [insC_app]; exact ownb) (by omega)
        have hgb0:=far_own ownb
        have hgbl:=(ownb.lt gb rfl).2
        have hsd : Wd.heap.size = wb.heap.size:=by rw [← hWd,World.size_setCell]
        have hiad : InsAt Wd gb 0 (p.code ++ vrI):=hia.move (by rw [← hWd]; exact heap_setCell_other _ (⟨wo.heap.size,6,none⟩ : Addr) _ _ (by have:=HP1.out; show gb ≠ wo.heap.size; omega)) (by omega)
        have hD0:=hlt_of HI.out.2.1.blk
        have hne : some gb ≠ dv.ownBlock:=fun e=>by have:=(HI.out.2.1.own.lt gb e.symm).2; have:=HP1.out; omega
        have HGB:=Lib.hid (And.intro hiad (And.intro hc1 (And.intro hc2 (And.intro (And.intro (show w4.heap.size < gb by have:=HP1.out; omega) (show gb < Wd.heap.size by omega)) hne))))
        have HWd:=Lib.hid hWd
        have OD:=Lib.hid od
        have e0 : Wd.cell? ⟨w4.heap.size,0,none⟩ = some dv:=ob_cell BUd.out.blk 0
        have p0 : Wd.cell? ⟨wo.heap.size,0,none⟩ = some (.string p.nm):=ob_cell od 0
        have p1 : Wd.cell? ⟨wo.heap.size,1,none⟩ = some (.int .i64 p.pa):=ob_cell od 1
        have p2 : Wd.cell? ⟨wo.heap.size,2,none⟩ = some (.bool p.rs):=ob_cell od 2
        have p3 : Wd.cell? ⟨wo.heap.size,3,none⟩ = some (.int .i64 (p.sl + more)):=ob_cell od 3
        have p4 : Wd.cell? ⟨wo.heap.size,4,none⟩ = some (.int .i64 (p.de + more)):=ob_cell od 4
        have p5 : Wd.cell? ⟨wo.heap.size,5,none⟩ = some (.int .i64 p.fr):=ob_cell od 5
        have p6 : Wd.cell? ⟨wo.heap.size,6,none⟩ = some (.slice (some ⟨gb,0,none⟩) (cn + 2) capb):=ob_cell od 6
        obtain ⟨p',hp'⟩ : ∃ p' : Prh,p' = ⟨p.nm,p.pa,p.rs,p.sl + more,p.de + more,p.fr,some ⟨gb,0,none⟩,capb,p.code ++ vrI⟩:=⟨_,rfl⟩
        have hpv : prV7 p' = [.string p.nm,.int .i64 p.pa,.bool p.rs,.int .i64 (p.sl + more),.int .i64 (p.de + more),.int .i64 p.fr,.slice (some ⟨gb,0,none⟩) (cn + 2) capb]:=by
          rw [hp']
          have : (p.code ++ vrI).length = cn + 2:=by rw [List.length_append,HCN.out]; rfl
          simp only [prV7,this]
        have HP':=Lib.hid (And.intro hp' hpv)
        have hjl : ps'.length ≤ 50:=by have:=HI.out.1; have:=HLT.out.1; have:=HN.out; have:=HG.out.1; omega
        have HJL:=Lib.hid hjl
        clear hBo ob2 ownb hWd od hBd hia hc1 hc2 hgb0 hgbl hsd hiad hD0 hne hp' hpv hjl
        rw [HWd.out]
        go_upto_region 26 with (at_builtin; refine wpList_append_lies _ rfl _ _ 22 rfl (w4.heap.size + 1) 35 i1 _ 7 80 Tryz.underlying22 hing hy0 hy1 hy2 rfl (by decide) dv ps'.length (prcC ps') rfl (BUd.out.own.alloc _) ⟨Wd.heap.size,0,none⟩ 1 1 (prV7 p') rfl rfl (by rw [HP'.out.2]; exact World.news_of_block Array.getElem?_push_size) (by intro u hu; exact prcC_one [p'] u (by simpa [prcC] using hu)) (by decide) (by unfold maxLen; have:=HJL.out; omega) (by have:=HJL.out; omega) (by have:=hlt_of BUd.out.blk; simp; omega) (Wd.heap.size + 1) (by simp) ?_; intro gd capd wd ownd growd wherd ltd; have od2:=(growd.block _ (by have:=hlt_of BUd.out.blk; simp; omega) (fun e=>by have:=(BUd.out.own.lt _ e.symm).1; omega)).trans ((Below.heap_alloc Wd _ _ (hlt_of BUd.out.blk)).trans BUd.out.blk); have u0:=ob_cell od2 0; have uf0:=ob_free od2 0 (by simp); have KD:=Lib.hid (And.intro ownd (And.intro growd wherd)); clear od2 ownd growd wherd ltd)
        obtain ⟨ownd,growd,wherd⟩:=KD.out
        obtain ⟨We,hWe⟩ : ∃ We,wd.setCell ⟨w4.heap.size,0,none⟩ (.slice (some ⟨gd,0,none⟩) (ps'.length + 1) capd) = We:=⟨_,rfl⟩
        have hcl : p'.code.length = cn + 2:=by rw [HP'.out.1]; show (p.code ++ vrI).length = cn + 2; rw [List.length_append,HCN.out]; rfl
        have hpc : p'.code = p.code ++ vrI:=by rw [HP'.out.1]
        have hpcap : p'.cap = capb:=by rw [HP'.out.1]
        have BN:=built_next BUd.out ownd growd wherd (p:=p) (p':=p') (gb:=gb) (by rw [HI.out.1]; exact HP.out.1) (by rw [HP'.out.1]; exact ⟨rfl,rfl,rfl,rfl,rfl,rfl,rfl⟩)
          ⟨⟨by rw [hcl,hpcap]; exact HGB.out.2.1,by rw [hpcap]; exact HGB.out.2.2.1⟩,by rw [hcl]; have:=HCN3.out; omega⟩ (by rw [HP'.out.1]) (by rw [hpc]; exact HGB.out.1) HGB.out.2.2.2.1 HGB.out.2.2.2.2 hWe
        have BNN:=Lib.hid BN
        have hbd : Below w4.heap.size w4 Wd:=by
          have h1:=bel_trans (B:=w4.heap.size) (bel_trans (B:=w4.heap.size) (bel_trans (B:=w4.heap.size) HI.out.2.2.2 HB6.out) HB7.out) HJ.out.2.2
          have hP0 : w4.heap.size ≤ wo.heap.size:=HI.out.2.2.2.size
          have hbb:=HBb.out
          have k:=KB.out.1
          rw [← HWd.out]
          exact (hbb.trans ⟨k.os,k.tape,k.output,k.size,fun q hq=>k.block q (by have:=HP1.out; omega)⟩).setCell (p:=⟨wo.heap.size,6,none⟩) hP0 _
        have HBE:=Lib.hid (hbd.trans BN.2)
        have wc : RowKit.wrap64 ((j : Int) + 1) = ((j + 1 : Nat) : Int):=by have:=HG.out.1; have:=HN.out; have:=HLT.out.1; unfold RowKit.wrap64; omega
        have HTK:=Lib.hid (take_snoc HP.out.1 HI.out.2.2.1 (P:=fun p=>p.sl + p.de ≤ 100) (by have:=H100.out; omega))
        clear BN ownd growd wherd hcl hpc hpcap hbd u0 uf0 e0 p0 p1 p2 p3 p4 p5 p6
        rw [hWe]
        clear hWe
        go_wp2_with (fail)
        rw [← HPBS.out]
        go_roundg (N - (j + 1))
        case measure=>exact lt_next HLT.out.1 HLT.out.2.1
        case rel=>exact ⟨j + 1,_,ps' ++ [p'],(by first | rfl | rw [wc]),rfl,HLT.out.1,Lib.hid ⟨by rw [List.length_append,HI.out.1]; rfl,BNN.out.1,HTK.out,HBE.out⟩⟩
      have b2 : decide (i < cn) = true:=decide_eq_true hil
      obtain ⟨v,hvi⟩ : ∃ v,ds[i]? = some v:=⟨_,List.getElem?_eq_getElem (by rw [HQ.out.2.1]; exact hil)⟩
      obtain ⟨x,hx⟩ : ∃ x,p.code[i]? = some x:=⟨_,List.getElem?_eq_getElem (by rw [HCN.out]; exact hil)⟩
      have hxm:=List.mem_of_getElem? hx
      have cd : wr.cell? ⟨g,i,none⟩ = some (.int .i64 v):=by rw [ob_cell fds]; simp [ivs,hvi]
      obtain ⟨-,i0,i1,i2⟩:=fin_ i x hx
      obtain ⟨r1,r2,r3⟩:=ROOM.out.2 i v x hvi hx
      have b3 : (0 : Int) ≤ (i : Int):=Int.natCast_nonneg i
      have b4 : (i : Int) < (cn : Int):=Int.ofNat_lt.2 hil
      have wd : RowKit.wrap64 ((i : Int) + 1) = ((i + 1 : Nat) : Int):=by have:=HCN3.out; unfold RowKit.wrap64; omega
      have HWD:=Lib.hid wd
      have EF:=Lib.hid (HRC.out.ef p HP.out.2 x hxm)
      have HW8:=Lib.hid hw8
      have HJW:=Lib.hid HJ.out.2.2
      obtain ⟨t,ht⟩ : ∃ t,tkC c.ps x = t:=⟨_,rfl⟩
      obtain ⟨u,hu⟩ : ∃ u,puC x = u:=⟨_,rfl⟩
      rw [ht,hu] at EF
      rw [hu] at r3
      have hu1:=(HPR.out.2.2 x hxm).2.1
      rw [hu] at hu1
      have HRX:=Lib.hid (And.intro r1 (And.intro r2 (And.intro r3 hu1)))
      have HLI:=Lib.hid (And.intro hil (And.intro hk2 hi))
      clear fds fin_ fb1 hw8 hvi hx hxm r1 r2 r3 ht hu hu1 hil hk2 hi
      obtain ⟨op,xa,xb⟩:=x
      dsimp only at i0 i1 i2
      go_wp2_with (fail)
      go_region_with (go_at_call 8; refine (EF.out _ (by first | exact HW8.out | exact HW8.out.drew)).mono ?_; rintro e w9 ⟨rfl,hb9⟩)
      all_goals
        obtain ⟨f6',-,-,fb9⟩:=FB.out w9 (bel_trans (B:=w7.heap.size) HJW.out.drew hb9)
        have HB9:=Lib.hid (bel_trans (B:=w7.heap.size) HJW.out.drew hb9)
        clear hb9 fb9
        try clear wd
        try clear w1
        try clear e3
        try clear e4
        try clear d4
        try clear d3
        try clear d2
        try clear a7
        try clear a6
        try clear a5
        try clear a4
        try clear a3
        try clear a2
        try clear a1
        try clear b4
        try clear b3
        try clear b2
        try clear b1
        try clear cd
        try clear f6
        try clear f6'
        try clear i0
        try clear i1
        try clear i2
        try clear v0
        try clear v1
        try clear v2
        go_wp2_with (fail)
      all_goals
        go_roundg (cn - (i + 1))
        case measure=>have:=HLI.out; omega
        case rel=>exact ⟨i + 1,_,rfl,(by first | rfl | rw [HWD.out]),rfl,by have:=HLI.out; omega,Lib.hid (by
          have h3:=mx2 HJ.out.1 HJ.out.2.1 HRX.out.2.1
          have h4:=HB9.out
          first
            | with_reducible exact ⟨h3.1,h3.2,h4⟩
            | with_reducible exact ⟨(mx2 h3.1 h3.2 (HRX.out.2.2.1 rfl)).1, (mx2 h3.1 h3.2 (HRX.out.2.2.1 rfl)).2, h4⟩
            | with_reducible exact ⟨(mx4 HJ.out.1 HJ.out.2.1).1, (mx4 HJ.out.1 HJ.out.2.1).2, h4⟩
            | (have hz : v = 0 := by first | assumption | omega
               have h5 := HRX.out.2.2.1 hz
               with_reducible exact ⟨(mx3 HJ.out.1 HJ.out.2.1 h5).1, (mx3 HJ.out.1 HJ.out.2.1 h5).2, h4⟩))⟩
end LM
end Go.Proofs.YtihbgghlnppkiaaGreatDoor
