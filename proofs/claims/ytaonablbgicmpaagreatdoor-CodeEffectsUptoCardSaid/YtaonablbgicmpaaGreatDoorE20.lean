import Derived.Test.YtaonablbgicmpaaGreatDoorE17
import Derived.Test.YtaonablbgicmpaaGreatDoorE14
import Derived.Test.YtaonablbgicmpaaGreatDoorE10
import Derived.Laws.IdiomStrings
set_option linter.unusedVariables false
set_option linter.unusedSimpArgs false
set_option maxRecDepth 100000
set_option maxHeartbeats 16000000
namespace Go.Proofs.YtaonablbgicmpaaGreatDoor
open Go.RowKit
namespace LM
end LM
end Go.Proofs.YtaonablbgicmpaaGreatDoor
namespace Go.Proofs.YtaonablbgicmpaaGreatDoor
open Go Go.RowKit
namespace LM
end LM
namespace LM
def dg (n : Nat) : List UInt8:=if n = 0 then [] else Lib.decDigits n
theorem dg_step {m : Nat} (h : 0 < m) : dg m = dg (m / 10) ++ [UInt8.ofNat (48 + m % 10)]:=by
 unfold dg
 rw [if_neg (by omega)]
 by_cases h1 : m < 10
 ·rw [Lib.decDigits_one h1,if_pos (by omega),Nat.mod_eq_of_lt h1]; rfl
 ·rw [dec_big h1,if_neg (by omega)]
theorem dg_pos {m : Nat} (h : 0 < m) : 1 ≤ (dg m).length:=by rw [dg_step h]; simp
theorem wp_pre {ops : Array Oper} {rest : List Oper} {o : Oper} {a : Act} {Q : Exit → Act → World → Prop} (hgd : o.guard = none) (s x : Operand)
  (ho : o.op = .call { callee:=.builtin .append,args:=#[s,x],argTypes:=#[38,38] }) (w : World) (q : Nat) (A : Option Addr) (c : Nat) (xs : List Nat) (hr : Rd w A xs) (hl : xs.length ≤ 1000000) (hnil : A ≠ none)
  (hs : a.eval s = .slice (some ⟨w.heap.size,0,none⟩) 1 1) (hx : a.eval x = .slice A xs.length c)
  (h : ∀ g cap w1,Rd w1 (some ⟨g,0,none⟩) (q :: xs) → Below w.heap.size w w1 → wpList Tryz.prog ops Q rest (a.put o.dst (.slice (some ⟨g,0,none⟩) (xs.length + 1) cap)) w1) :
  wpList Tryz.prog ops Q (o :: rest) a (w.alloc (.cells #[.int .u32 (q : Int)] 159)):=by
 obtain ⟨i0,hi0,hz0,hz1,hz2⟩:=info_parts u32_info
 have hrow : (w.alloc (.cells #[.int .u32 (q : Int)] 159)).ownsRow w.heap.size 159 1 (.slice (some ⟨w.heap.size,0,none⟩) 1 1) 1 [.int .u32 (q : Int)] :=
  ⟨rfl,.inr ⟨w.heap.size,1,#[.int .u32 (q : Int)],rfl,Nat.le_refl _,heap_alloc_new w _,Nat.le_refl _,by decide,rfl,rfl⟩⟩
 have hba : Below w.heap.size w (w.alloc (.cells #[.int .u32 (q : Int)] 159)):=(Below.refl _ w).alloc (Nat.le_refl _) _
 rcases A with _ | ad
 ·exact absurd rfl hnil
 ·have hsrc : ∀ j u,(U xs)[j]? = some u → (w.alloc (.cells #[.int .u32 (q : Int)] 159)).cell? (ad.add j) = some u:=by
   intro j u hu
   have hj : j < xs.length:=by
    rcases Nat.lt_or_ge j xs.length with h | h
    ·exact h
    ·rw [List.getElem?_eq_none (by rw [U_len]; exact h)] at hu; cases hu
   obtain ⟨b,off,e,hb,hc⟩:=hr.at_ hj
   injection e with e
   subst e
   rw [U_get _ _ hj] at hu
   rw [← hu,← hc,addr_add]
   exact World.cell?_of_block (a:=⟨b,off + j,none⟩) (Below.heap_alloc w _ b hb)
  refine wpList_append_own _ hgd s x 38 ho w.heap.size 159 i0 (.int .u32 0) 1 4 Tryz.underlying38 hi0 hz0 hz1 hz2 rfl (by decide) _ _ _ hs hrow ad xs.length c (U xs) hx (by simp [U_len]) hsrc (u_one xs) (by unfold maxLen; omega) (by omega) (by simp) ?_
  intro v1 w1 hown1 hg1 hiff
  have hb1 : Below w.heap.size w w1:=hba.grown hg1 (by simp) (fun k e=>by have e2 : (Value.slice (some ⟨w.heap.size,0,none⟩) 1 1).ownBlock = some k:=e; have e3 : some w.heap.size = some k:=e2; injection e3 with e3; omega)
  have e0 : 1 + xs.length = (q :: xs).length:=by simp; omega
  have e1 : [Value.int .u32 (q : Int)] ++ U xs = U (q :: xs):=rfl
  rw [e0,e1] at hown1
  rcases own_cases hown1 with ⟨_,h2⟩ | ⟨g,cap,rest',rfl,hgb,hB1,hcap,hcm,hlen⟩
  ·cases h2
  ·exact h g cap w1 (fun hl0=>⟨g,0,rfl,hB1.lt,fun k hk=>by
    rw [Nat.zero_add,hB1.cell,List.getElem?_append_left (by rw [U_len]; exact hk),U_get _ _ hk]⟩) hb1
theorem one_byte (R : Nat) (hR : R < 10) (W : World) :
  (convert 45 9 (.slice (some ⟨W.heap.size,0,none⟩) 1 1)).run Tryz.prog (W.alloc (.cells #[.int .u8 (48 + (R : Int))] 5)) = .ok (.string ⟨#[UInt8.ofNat (48 + R)]⟩) (W.alloc (.cells #[.int .u8 (48 + (R : Int))] 5)):=by
 refine run_convert_bytes_back (P:=Tryz.prog) _ 45 9 5 ⟨W.heap.size,0,none⟩ 1 [UInt8.ofNat (48 + R)] Tryz.underlying45 Tryz.underlying5 Tryz.underlying9 (fun j hj=>?_)
 obtain rfl : j = 0:=by simpa using hj
 have e : (UInt8.ofNat (48 + R)).toNat = 48 + R:=by simp; omega
 rw [addr_add,Nat.zero_add,List.getElem_cons_zero,e]
 rw [cell_of_row _ W.heap.size 0 _ _ (0,0) (heap_alloc_new W _)]
 simp
def RtOuter (n len : Nat) (w : World) (v0 v3 : Value) (wr : World) : Prop :=
 ∃ (A : Option Addr) (c : Nat) (cs : List Nat) (t : ByteArray),v0 = .slice A len c∧cs.length = len∧Rd wr A cs∧Lm cs∧v3 = .string t∧dg n = dg (val cs) ++ t.data.toList∧(A = none → cs.length = 0∧c = 0)∧Below w.heap.size w wr
def RtInner (cs : List Nat) (w1 : World) (v4 v5 v6 : Value) (wr : World) : Prop :=
 ∃ (j g c R : Nat) (ns : List Nat),j ≤ cs.length∧v6 = .int .i64 ((j : Int) - 1)∧v4 = .slice (some ⟨g,0,none⟩) (cs.length - j) c∧ns.length = cs.length - j∧Rd wr (some ⟨g,0,none⟩) ns∧Lm ns∧v5 = .int .u64 (R : Int)∧R < 10∧val (cs.drop j) = 10 * val ns + R∧Below w1.heap.size w1 wr
theorem rt_step {cs ns : List Nat} {m R x : Nat} (hm : m < cs.length) (hR : R < 10) (hx : x < 4294967296) (he : cs[m]?.getD 0 = x) (hv : val (cs.drop (m + 1)) = 10 * val ns + R) :
  (R * 4294967296 + x) / 10 < 4294967296∧val (cs.drop m) = 10 * val ((R * 4294967296 + x) / 10 :: ns) + (R * 4294967296 + x) % 10:=by
 refine ⟨by omega,?_⟩
 rw [drop_cons_get cs m hm,val,val,he,hv]
 generalize val ns = V
 omega
theorem rtext_any (A : Option Addr) (c : Nat) (xs : List Nat) (w : World) (ha : Rd w A xs) (hx : Lm xs) (hl : xs.length ≤ 1000) (hna : A = none → xs.length = 0∧c = 0) :
  Calls Tryz.prog 91 #[.slice A xs.length c] w fun e w'=>TextE (val xs) e∧Below w.heap.size w w':=by
 have HNA:=Lib.hid hna
 clear hna
 go_enter Tryz.func91,Tryz.ntmps91
 go_wp2_with fail
 refine (rbig_any A c xs w ha hx (by omega) HNA.out).mono ?_
 rintro e w1 ⟨⟨bo,rfl,hbo⟩,b1⟩
 by_cases hb : BIG (val xs)
 ·obtain rfl:=hbo.2 hb
  have HB:=Lib.hid hb
  clear hb hbo
  go_wp2
  go_ret
  exact ⟨⟨[],rfl,.inl ⟨HB.out,rfl⟩⟩,b1⟩
 obtain rfl : bo = false:=by cases bo; rfl; exact absurd (hbo.1 rfl) hb
 have HB:=Lib.hid hb
 have ha1:=ha.below b1
 clear hb hbo ha
 go_wp2_with fail
 refine (rtrim_any A c xs w1 ha1 hx (by omega) HNA.out).mono ?_
 rintro e w2 ⟨⟨v5,rfl,A5,k5,fs,rfl,f1,f2,f3,f4⟩,b2⟩
 have B2:=b1.trans (b2.mono b1.size)
 have ha2:=ha1.below b2
 rcases Nat.eq_zero_or_pos (val xs) with h0 | h0
 ·obtain rfl : fs = []:=by
   have:=(can_len f3 0).1
   rcases Nat.eq_zero_or_pos fs.length with h | h
   ·exact List.eq_nil_of_length_eq_zero h
   ·have:=this h; rw [f4,h0] at this; exact absurd this (by decide)
  have H0:=Lib.hid h0
  clear h0 f4 f3
  go_wp2
  go_ret
  refine ⟨⟨[48],rfl,.inr ⟨HB.out,?_⟩⟩,B2⟩
  rw [H0.out,Lib.decDigits_one (by decide)]
  rfl
 have hfl : 0 < fs.length:=by
  rcases Nat.eq_zero_or_pos fs.length with h | h
  ·rw [List.eq_nil_of_length_eq_zero h] at f4; rw [← f4] at h0; exact absurd h0 (by decide)
  ·exact h
 have hfz : ((fs.length : Int) == 0) = false:=by rw [beq_eq_false_iff_ne]; omega
 have H0:=Lib.hid h0
 clear h0 f4 f3 ha1 b1 b2
 obtain ⟨N,hN⟩ : ∃ N,(dg (val xs)).length = N:=⟨_,rfl⟩
 have HNN:=Lib.hid hN
 clear hN
 go_wp2_with fail
 go_loopw [0,3] (fun v0 v3 wr=>RtOuter (val xs) xs.length w v0 v3 wr) (fun _ v3 _=>match v3 with | .string t=>N - t.size | _=>0)
 case atStart=>exact ⟨A,c,xs,⟨#[]⟩,rfl,rfl,ha2,hx,rfl,by simp,HNA.out,B2⟩
 case round =>
  obtain ⟨A',c',cs,t,rfl,hcl,hrc,hcL,rfl,hdg,hna',hbw⟩:=hrel
  have HDG:=Lib.hid hdg
  have HNA':=Lib.hid hna'
  clear hdg hna' ha2
  rw [← hcl]
  have hlc : cs.length ≤ 1000:=by omega
  have HCL:=Lib.hid hcl
  clear hcl
  go_wp2_with fail
  refine (rtrim_any A' c' cs wr hrc hcL (by omega) HNA'.out).mono ?_
  rintro e w3 ⟨⟨v6,rfl,A6,k6,gs,rfl,g1,g2,g3,g4⟩,b3⟩
  have hrc3:=hrc.below b3
  have B3:=hbw.trans (b3.mono hbw.size)
  clear hrc
  rcases Nat.eq_zero_or_pos (val cs) with h0 | h0
  ·obtain rfl : gs = []:=by
    have:=(can_len g3 0).1
    rcases Nat.eq_zero_or_pos gs.length with h | h
    ·exact List.eq_nil_of_length_eq_zero h
    ·have:=this h; rw [g4,h0] at this; exact absurd this (by decide)
   have HC0:=Lib.hid h0
   clear h0 g4 g3
   go_wp2
   go_ret
   refine ⟨⟨t.data.toList,rfl,.inr ⟨HB.out,?_⟩⟩,B3⟩
   have h:=HDG.out
   rw [HC0.out] at h
   unfold dg at h
   rw [if_neg (by have:=H0.out; omega),if_pos rfl,List.nil_append] at h
   exact h.symm
  have hgl : 0 < gs.length:=by
   rcases Nat.eq_zero_or_pos gs.length with h | h
   ·rw [List.eq_nil_of_length_eq_zero h] at g4; rw [← g4] at h0; exact absurd h0 (by decide)
   ·exact h
  have hgd : decide (0 < (gs.length : Int)) = true:=decide_eq_true (by omega)
  have hgd2 : decide (0 < gs.length) = true:=decide_eq_true hgl
  have HC0:=Lib.hid h0
  clear h0 g4 g3
  go_wp2_with fail
  go_loopw [4,5,6] (fun v4 v5 v6 wi=>RtInner cs w3 v4 v5 v6 wi) (fun _ _ v6 _=>(intOf v6 + 1).toNat)
  case atStart =>
   exact ⟨cs.length,w3.heap.size,0,0,[],Nat.le_refl _,rfl,by rw [Nat.sub_self],by simp,Rd.nil,Lm.nil,rfl,by decide,by rw [List.drop_length]; rfl,(Below.refl _ _).alloc (Nat.le_refl _) _⟩
  case round =>
   obtain ⟨j,g,c2,R,ns,hj,rfl,rfl,hnl,hrn,hnL,rfl,hR,hv,hbi⟩:=hrel
   rw [← hnl]
   have HV:=Lib.hid hv
   clear hv
   rcases j with _ | m
   ·have HNL:=Lib.hid hnl
    clear hnl
    have hcv:=one_byte R hR
    have hvl : val cs / 10 = val ns∧val cs % 10 = R:=by
     have h:=HV.out
     rw [List.drop_zero] at h
     omega
    have HVL:=Lib.hid hvl
    have hsz : t.size < N:=by
     have h:=HNN.out
     rw [HDG.out,List.length_append,← Lib.size_eq] at h
     have:=dg_pos HC0.out
     omega
    have ht6 : t.size ≤ 617:=by
     have h:=HNN.out
     unfold dg at h
     rw [if_neg (by have:=H0.out; omega)] at h
     have:=(dec_fits HB.out).2
     omega
    have HSZ:=Lib.hid hsz
    have hdt : dg (val xs) = dg (val ns) ++ (({ data:=#[48 + UInt8.ofNat R] } : ByteArray) ++ t).data.toList:=by
     rw [HDG.out,dg_step HC0.out,hvl.1,hvl.2]
     simp [ByteArray.data_append]
    have HDT:=Lib.hid hdt
    have hsz2 : (({ data:=#[48 + UInt8.ofNat R] } : ByteArray) ++ t).size = t.size + 1:=by
     rw [Lib.size_eq,Lib.size_eq]
     simp [ByteArray.data_append]
    have HSZ2:=Lib.hid hsz2
    clear hvl hdt hsz hsz2
    rw [show ((0 : Nat) : Int) - 1 = -1 from rfl]
    have hdn : decide ((0 : Int) ≤ -1) = false:=by decide
    go_wp2_with fail
    refine ⟨⟨some ⟨g,0,none⟩,c2,ns,_,by rw [HNL.out]; rfl,by rw [HNL.out]; rfl,hrn.alloc _,hnL,rfl,HDT.out,(fun h=>by cases h),((B3.trans (hbi.mono B3.size))).alloc (Nat.le_trans B3.size hbi.size) _⟩,?_⟩
    show N - _ < N - t.size
    rw [HSZ2.out]
    have:=HSZ.out
    omega
   ·have hst:=rt_step (cs:=cs) (ns:=ns) (m:=m) (R:=R) (by omega) hR (hcL.get m) rfl HV.out
    have hri:=hrc3.below hbi
    obtain ⟨b,off,rfl,_,hc⟩:=hri.at_ (k:=m) (by omega)
    rw [show ((m + 1 : Nat) : Int) - 1 = (m : Int) from by omega]
    have hxm:=hcL.get m
    generalize cs[m]?.getD 0 = x at *
    obtain ⟨T,hT⟩ : ∃ T,R * 4294967296 + x = T:=⟨_,rfl⟩
    rw [hT] at hst
    have hTi : (R : Int) * 4294967296 + (x : Int) = (T : Int):=by omega
    have hTl : T < 42949672960:=by omega
    obtain ⟨q,hq⟩ : ∃ q,T / 10 = q:=⟨_,rfl⟩
    obtain ⟨r,hr⟩ : ∃ r,T % 10 = r:=⟨_,rfl⟩
    have hqi : (T : Int) / 10 = (q : Int):=by omega
    have hri2 : (T : Int) % 10 = (r : Int):=by omega
    have hr10 : r < 10:=by omega
    rw [hq,hr] at hst
    have hq32 : q < 4294967296:=hst.1
    have HST:=Lib.hid hst
    clear hst hT hq hr
    go_wp2_with (at_builtin; refine wp_pre rfl _ _ rfl wr q (some ⟨g,0,none⟩) c2 ns hrn (by omega) (by simp) rfl rfl ?_; intro g1 cap1 w4 p1 p2)
    go_roundw
    case rel=>exact ⟨m,g1,cap1,r,q :: ns,by omega,rfl,by congr 1; omega,by simp; omega,p1,Lm.cons hq32 hnL,by rw [hri2],hr10,HST.out.2,hbi.trans (p2.mono hbi.size)⟩
    case measure=>simp [intOf]
end LM
end Go.Proofs.YtaonablbgicmpaaGreatDoor
