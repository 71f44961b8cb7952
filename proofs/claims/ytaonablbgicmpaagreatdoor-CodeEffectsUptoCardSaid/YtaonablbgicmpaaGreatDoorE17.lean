import Derived.Laws.AppendOwnNone
import Derived.Test.YtaonablbgicmpaaGreatDoorE07
import Derived.Test.YtaonablbgicmpaaGreatDoorE04
import Derived.Test.YtaonablbgicmpaaGreatDoorE01
set_option linter.unusedVariables false
set_option linter.unusedSimpArgs false
set_option maxRecDepth 100000
set_option maxHeartbeats 16000000
namespace Go.Proofs.YtaonablbgicmpaaGreatDoor
open Go.RowKit
namespace LM
def NumR (w : World) (v : Value) (n : Nat) : Prop:=∃ A c r,v = .slice A (List.length r) c∧(A = none → List.length r = 0∧c = 0)∧Rd w A r∧Can r∧val r = n
theorem rat_any (A : Option Addr) (c : Nat) (xs : List Nat) (k y : Nat) (w : World) (hr : Rd w A xs) (_hk : k ≤ 1000000) (_hl : xs.length ≤ 1000000) (hy : xs[k]?.getD 0 = y) (hy2 : y < 4294967296) :
  Calls Tryz.prog 309 #[.slice A xs.length c,.int .i64 (k : Int)] w fun e w'=>e = .returned (.int .u64 (y : Int))∧w = w':=by
 by_cases h1 : k < xs.length
 ·obtain ⟨b,off,rfl,hb,hc⟩:=hr.at_ h1
  rw [hy] at hc
  clear hy
  go_enter Tryz.func309,Tryz.ntmps309
  go_wp2
  go_ret
  exact ⟨rfl,rfl⟩
 ·rw [List.getElem?_eq_none (by omega)] at hy
  obtain rfl : 0 = y:=hy
  go_enter Tryz.func309,Tryz.ntmps309
  go_wp2
  go_ret
  exact ⟨rfl,rfl⟩
def RtRel (xs : List Nat) (w1 : World) (g cap : Nat) (v : Value) (wr : World) : Prop:=∃ k,k ≤ xs.length∧v = .slice (some ⟨g,0,none⟩) k cap∧trim (xs.take k) = trim xs∧w1 = wr
theorem rtrim_any (A : Option Addr) (c : Nat) (xs : List Nat) (w : World) (hr : Rd w A xs) (hx : Lm xs) (hl : xs.length ≤ 1000000) (hnil : A = none → xs.length = 0∧c = 0) :
  Calls Tryz.prog 119 #[.slice A xs.length c] w fun e w'=>(∃ v,e = .returned v∧NumR w' v (val xs))∧Below w.heap.size w w':=by
 obtain ⟨i0,hi0,hz0,hz1,hz2⟩:=info_parts u32_info
 rcases A with _ | ad
 ·obtain ⟨hx0,rfl⟩:=hnil rfl
  obtain rfl : xs = []:=List.eq_nil_of_length_eq_zero hx0
  have hrow : (w.alloc (.cells #[] 159)).ownsRow w.heap.size 159 1 (.slice (some ⟨w.heap.size,0,none⟩) 0 0) 0 [] :=
   ⟨rfl,.inr ⟨w.heap.size,0,#[],rfl,Nat.le_refl _,heap_alloc_new w _,Nat.le_refl _,by decide,rfl,rfl⟩⟩
  go_enter Tryz.func119,Tryz.ntmps119
  go_wp2_with (at_builtin; refine wpList_append_own_none _ rfl _ _ 38 rfl w.heap.size 159 i0 1 Tryz.underlying38 hi0 _ _ _ rfl hrow rfl ?_)
  go_loopw [3] (fun v wr=>v = .slice (some ⟨w.heap.size,0,none⟩) 0 0∧w.alloc (.cells #[] 159) = wr) (fun _ _=>0)
  case atStart=>exact ⟨rfl,rfl⟩
  case round =>
   obtain ⟨rfl,rfl⟩:=hrel
   go_wp2
   go_ret
   exact ⟨⟨_,rfl,_,_,[],rfl,(fun h=>by cases h),Rd.nil,can_nil,rfl⟩,(Below.refl _ _).alloc (Nat.le_refl _) _⟩
 ·have hrow : (w.alloc (.cells #[] 159)).ownsRow w.heap.size 159 1 (.slice (some ⟨w.heap.size,0,none⟩) 0 0) 0 [] :=
   ⟨rfl,.inr ⟨w.heap.size,0,#[],rfl,Nat.le_refl _,heap_alloc_new w _,Nat.le_refl _,by decide,rfl,rfl⟩⟩
  have hsrc : ∀ j u,(U xs)[j]? = some u → (w.alloc (.cells #[] 159)).cell? (ad.add j) = some u:=by
   intro j u hu
   have hj : j < xs.length:=by
    rcases Nat.lt_or_ge j xs.length with h | h
    ·exact h
    ·rw [List.getElem?_eq_none (by rw [U_len]; exact h)] at hu; cases hu
   obtain ⟨b,off,e,hb,hc⟩:=hr.at_ hj
   injection e with e
   subst e
   rw [U_get _ _ hj] at hu
   rw [← hu,← hc,addr_add]
   exact World.cell?_of_block (a:=⟨b,off + j,none⟩) (Below.heap_alloc w _ b hb)
  go_enter Tryz.func119,Tryz.ntmps119
  go_wp2_with (at_builtin; refine wpList_append_own _ rfl _ _ 38 rfl w.heap.size 159 i0 (.int .u32 0) 1 4 Tryz.underlying38 hi0 hz0 hz1 hz2 rfl (by decide) _ _ _ rfl hrow ad xs.length c (U xs) rfl (by simp [U_len]) hsrc (u_one xs) (by unfold maxLen; omega) (by omega) (by simp) ?_; intro v1 w1 hown1 hg1 hiff)
  have hb1 : Below w.heap.size w w1:=((Below.refl _ w).alloc (Nat.le_refl _) _).grown hg1 (by simp) (fun k e=>by have e2 : (Value.slice (some ⟨w.heap.size,0,none⟩) 0 0).ownBlock = some k:=e; have e3 : some w.heap.size = some k:=e2; injection e3 with e3; omega)
  simp only [Nat.zero_add,List.nil_append] at hown1
  have hfin : ∀ v2,(∃ k cap g,v2 = .slice (some ⟨g,0,none⟩) k cap∧k = (trim xs).length∧Rd w1 (some ⟨g,0,none⟩) xs) → NumR w1 v2 (val xs):=by
   rintro v2 ⟨k,cap,g,rfl,rfl,hrd⟩
   exact ⟨_,_,trim xs,rfl,(fun h=>by cases h),hrd.trim,can_trim hx,val_trim xs⟩
  have HFIN:=Lib.hid hfin
  clear hfin
  rcases own_cases hown1 with ⟨rfl,rfl⟩ | ⟨g,cap,rest,rfl,hgb,hB1,hcap,hcm,hlen⟩
  ·have h:=(hiff.1 rfl).1
   have h2 : Value.slice (some ⟨w.heap.size,0,none⟩) 0 0 = .slice none 0 0:=h
   cases h2
  ·clear hiff
   have hrd : Rd w1 (some ⟨g,0,none⟩) xs:=fun hl0=>⟨g,0,rfl,hB1.lt,fun k hk=>by
    rw [Nat.zero_add,hB1.cell,List.getElem?_append_left (by rw [U_len]; exact hk),U_get _ _ hk]⟩
   have hlen2:=Lib.hid hlen
   have HOWN:=Lib.hid hown1
   clear hlen hown1 hg1
   unfold maxLen at hcm
   go_wp2_with fail
   go_loopw [3] (fun v wr=>RtRel xs w1 g cap v wr) (fun v _=>lenS v)
   case atStart=>exact ⟨xs.length,Nat.le_refl _,rfl,by rw [List.take_length],rfl⟩
   case round =>
    obtain ⟨k,hk,rfl,ht,rfl⟩:=hrel
    have HT:=Lib.hid ht
    clear ht
    rcases k with _ | j
    ·go_wp2
     go_ret
     refine ⟨⟨_,rfl,HFIN.out _ ⟨0,cap,g,rfl,?_,hrd⟩⟩,hb1⟩
     exact congrArg List.length HT.out
    ·obtain ⟨b,off,e,hb,hcell⟩:=hrd.at_ (by omega : j < xs.length)
     cases e
     rw [Nat.zero_add] at hcell
     by_cases hz : xs[j]?.getD 0 = 0
     ·have h1:=trim_take_zero xs j (by omega) hz
      rw [hz] at hcell
      clear hz
      have H1:=Lib.hid h1
      clear h1
      go_wp2
      go_roundw
      case rel=>exact ⟨j,by omega,by go_num,by rw [← H1.out,HT.out],rfl⟩
      case measure=>simp [lenS]
     ·have hzz : (((xs[j]?.getD 0 : Nat) : Int) == 0) = false:=by rw [beq_eq_false_iff_ne]; omega
      have h1:=trim_take_pos xs j (by omega) hz
      clear hz
      have H1:=Lib.hid h1
      clear h1
      go_wp2
      go_ret
      refine ⟨⟨_,rfl,HFIN.out _ ⟨j + 1,cap,g,rfl,?_,hrd⟩⟩,hb1⟩
      have h:=congrArg List.length (H1.out.symm.trans HT.out)
      rw [List.length_take,Nat.min_eq_left hk] at h
      exact h
end LM
namespace LM
end LM
namespace LM
def PlRel (w : World) (xs ys : List Nat) (v c i : Value) (wr : World) : Prop :=
 ∃ (k : Nat) (zs : List Nat) (cy : Nat),k ≤ max xs.length ys.length + 1∧i = .int .i64 (k : Int)∧c = .int .u64 (cy : Int)∧cy ≤ 1∧(max xs.length ys.length < k → cy = 0)∧zs.length = k∧Lm zs ∧
  val zs + 4294967296 ^ k * cy = val (xs.take k) + val (ys.take k)∧wr.ownsRow w.heap.size 159 1 v zs.length (U zs)∧Below w.heap.size w wr
theorem own_rd {w : World} {base : Nat} {v : Value} {zs : List Nat} (h : w.ownsRow base 159 1 v zs.length (U zs)) : ∃ A c,v = .slice A zs.length c∧Rd w A zs∧(A = none → zs.length = 0∧c = 0):=by
 rcases own_cases h with ⟨rfl,rfl⟩ | ⟨g,cap,rest,rfl,_,hB,_,_,_⟩
 ·exact ⟨none,0,rfl,Rd.nil,fun _=>⟨rfl,rfl⟩⟩
 ·exact ⟨_,cap,rfl,fun _=>⟨g,0,rfl,hB.lt,fun k hk=>by
   rw [Nat.zero_add,hB.cell,List.getElem?_append_left (by rw [U_len]; exact hk),U_get _ _ hk]⟩,fun h=>by cases h⟩
theorem plus_block {w : World} {base n b : Nat} {v : Value} {xs : List Value} (h : w.ownsRow base 159 1 v n xs) (e : v.ownBlock = some b) : base ≤ b:=by
 rcases h.2 with ⟨rfl,_⟩ | ⟨g,cap,cur,rfl,hb,_⟩
 ·cases e
 ·have e2 : some g = some b:=e
  injection e2 with e2
  omega
theorem rplus_any (A B : Option Addr) (ca cb : Nat) (xs ys : List Nat) (w : World) (ha : Rd w A xs) (hb : Rd w B ys) (hx : Lm xs) (hy : Lm ys) (hlx : xs.length ≤ 10000) (hly : ys.length ≤ 10000) :
  Calls Tryz.prog 257 #[.slice A xs.length ca,.slice B ys.length cb] w fun e w'=>(∃ v,e = .returned v∧NumR w' v (val xs + val ys))∧Below w.heap.size w w':=by
 obtain ⟨i0,hi0,hz0,hz1,hz2⟩:=info_parts u32_info
 have K1:=Lib.hid (fun k y W h hk (hy : xs[k]?.getD 0 = y)=>rat_any A ca xs k y W h hk (by omega) hy (by rw [← hy]; exact hx.get k))
 have K2:=Lib.hid (fun k y W h hk (hv : ys[k]?.getD 0 = y)=>rat_any B cb ys k y W h hk (by omega) hv (by rw [← hv]; exact hy.get k))
 have hrow : (w.alloc (.cells #[] 159)).ownsRow w.heap.size 159 1 (.slice (some ⟨w.heap.size,0,none⟩) 0 0) 0 [] :=
  ⟨rfl,.inr ⟨w.heap.size,0,#[],rfl,Nat.le_refl _,heap_alloc_new w _,Nat.le_refl _,by decide,rfl,rfl⟩⟩
 go_enter Tryz.func257,Tryz.ntmps257
 go_wp2
 go_loopw [5,6,7] (fun v c i wr=>PlRel w xs ys v c i wr) (fun _ _ i _=>max xs.length ys.length + 1 - (intOf i).toNat)
 case atStart=>exact ⟨0,[],0,Nat.zero_le _,rfl,rfl,by decide,fun _=>rfl,rfl,Lm.nil,by simp [val],hrow,(Below.refl _ _).alloc (Nat.le_refl _) _⟩
 case round =>
  clear hrow
  obtain ⟨k,zs,cy,hk,rfl,rfl,hcy,h0,hzl,hzL,hv,hown,hbe⟩:=hrel
  have HV:=Lib.hid hv
  have HZ:=Lib.hid hzl
  have H0:=Lib.hid h0
  clear hv h0
  have hra:=ha.below hbe
  have hrb:=hb.below hbe
  have hxk:=hx.get k
  have hyk:=hy.get k
  have hst:=addTo_step (xs:=xs) (ys:=ys) hzl HV.out
  have hy0 : max xs.length ys.length < k + 1 → xs[k]?.getD 0 = 0∧ys[k]?.getD 0 = 0:=fun h=>⟨by rw [List.getElem?_eq_none (by omega)]; rfl,by rw [List.getElem?_eq_none (by omega)]; rfl⟩
  have c1:=K1.out k
  have c2:=K2.out k
  generalize hxe : xs[k]?.getD 0 = x at *
  generalize hye : ys[k]?.getD 0 = y at *
  have HST:=Lib.hid hst
  have HY0:=Lib.hid hy0
  have C1:=Lib.hid c1
  have C2:=Lib.hid c2
  clear hst hy0 c1 c2 hxe hye hzl
  rw [HZ.out] at hown
  have hbs:=hbe.size
  by_cases t1 : k < xs.length
  ·have hm : k ≤ max xs.length ys.length:=by omega
   go_wp2_with fail
   refine (C1.out _ _ hra (by omega) rfl).mono ?_; rintro e w1 ⟨rfl,rfl⟩
   go_wp2_with fail
   refine (C2.out _ _ hrb (by omega) rfl).mono ?_; rintro e w1 ⟨rfl,rfl⟩
   go_wp2_with (at_builtin; refine wpList_append_own _ rfl _ _ 38 rfl w.heap.size 159 i0 (.int .u32 0) 1 4 Tryz.underlying38 hi0 hz0 hz1 hz2 rfl (by decide) _ _ _ rfl (hown.alloc _) ⟨wr.heap.size,0,none⟩ 1 1 [.int .u32 (((x : Int) + (y : Int) + (cy : Int)) % 4294967296)] rfl rfl (cell_one_new _ _ _) (by simp [Value.oneCell']) (by unfold maxLen; omega) (by omega) (by simp; omega) ?_; intro v1 w1 hown1 hg1 _)
   go_roundw
   case rel =>
    refine ⟨k + 1,zs ++ [(x + y + cy) % 4294967296],(x + y + cy) / 4294967296,by omega,by go_num,by congr 1,by omega,fun h=>?_,by simp [HZ.out],hzL.snoc (Nat.mod_lt _ (by decide)),HST.out,?_,?_⟩
    ·obtain ⟨rfl,rfl⟩:=HY0.out h
     omega
    ·have e : (zs ++ [(x + y + cy) % 4294967296]).length = k + 1:=by simp [HZ.out]
     rw [e,U_append]
     exact hown1
    ·exact (hbe.alloc hbs _).grown hg1 (by simp; omega) (fun b e=>plus_block hown e)
   case measure=>simp [intOf]; omega
  ·by_cases t2 : k < ys.length
   ·have hm : k ≤ max xs.length ys.length:=by omega
    go_wp2_with fail
    refine (C1.out _ _ hra (by omega) rfl).mono ?_; rintro e w1 ⟨rfl,rfl⟩
    go_wp2_with fail
    refine (C2.out _ _ hrb (by omega) rfl).mono ?_; rintro e w1 ⟨rfl,rfl⟩
    go_wp2_with (at_builtin; refine wpList_append_own _ rfl _ _ 38 rfl w.heap.size 159 i0 (.int .u32 0) 1 4 Tryz.underlying38 hi0 hz0 hz1 hz2 rfl (by decide) _ _ _ rfl (hown.alloc _) ⟨wr.heap.size,0,none⟩ 1 1 [.int .u32 (((x : Int) + (y : Int) + (cy : Int)) % 4294967296)] rfl rfl (cell_one_new _ _ _) (by simp [Value.oneCell']) (by unfold maxLen; omega) (by omega) (by simp; omega) ?_; intro v1 w1 hown1 hg1 _)
    go_roundw
    case rel =>
     refine ⟨k + 1,zs ++ [(x + y + cy) % 4294967296],(x + y + cy) / 4294967296,by omega,by go_num,by congr 1,by omega,fun h=>?_,by simp [HZ.out],hzL.snoc (Nat.mod_lt _ (by decide)),HST.out,?_,?_⟩
     ·obtain ⟨rfl,rfl⟩:=HY0.out h
      omega
     ·have e : (zs ++ [(x + y + cy) % 4294967296]).length = k + 1:=by simp [HZ.out]
      rw [e,U_append]
      exact hown1
     ·exact (hbe.alloc hbs _).grown hg1 (by simp; omega) (fun b e=>plus_block hown e)
    case measure=>simp [intOf]; omega
   ·rcases Nat.eq_zero_or_pos cy with rfl | t3
    ·have hv:=HV.out
     rw [List.take_of_length_le (by omega : xs.length ≤ k),List.take_of_length_le (by omega : ys.length ≤ k),Nat.mul_zero,Nat.add_zero] at hv
     rw [← HZ.out] at hown
     obtain ⟨A1,c1,rfl,hrz,hnz⟩:=own_rd hown
     have HVV:=Lib.hid hv
     have HOW:=Lib.hid hown
     have hzn : zs.length ≤ 20002:=by rw [HZ.out]; omega
     clear hv hown
     go_wp2_with fail
     refine (rtrim_any A1 c1 zs wr hrz hzL (by omega) hnz).mono ?_
     rintro e w1 ⟨⟨v,rfl,hn⟩,hb1⟩
     rw [HVV.out] at hn
     have HN:=Lib.hid hn
     have HB:=Lib.hid hb1
     clear hn hb1
     go_wp2
     go_ret
     exact ⟨⟨v,rfl,HN.out⟩,hbe.trans (HB.out.mono hbs)⟩
    ·have hm : k ≤ max xs.length ys.length:=by
      rcases Nat.lt_or_ge (max xs.length ys.length) k with h | h
      ·have:=H0.out h; omega
      ·exact h
     go_wp2_with fail
     refine (C1.out _ _ hra (by omega) rfl).mono ?_; rintro e w1 ⟨rfl,rfl⟩
     go_wp2_with fail
     refine (C2.out _ _ hrb (by omega) rfl).mono ?_; rintro e w1 ⟨rfl,rfl⟩
     go_wp2_with (at_builtin; refine wpList_append_own _ rfl _ _ 38 rfl w.heap.size 159 i0 (.int .u32 0) 1 4 Tryz.underlying38 hi0 hz0 hz1 hz2 rfl (by decide) _ _ _ rfl (hown.alloc _) ⟨wr.heap.size,0,none⟩ 1 1 [.int .u32 (((x : Int) + (y : Int) + (cy : Int)) % 4294967296)] rfl rfl (cell_one_new _ _ _) (by simp [Value.oneCell']) (by unfold maxLen; omega) (by omega) (by simp; omega) ?_; intro v1 w1 hown1 hg1 _)
     go_roundw
     case rel =>
      refine ⟨k + 1,zs ++ [(x + y + cy) % 4294967296],(x + y + cy) / 4294967296,by omega,by go_num,by congr 1,by omega,fun h=>?_,by simp [HZ.out],hzL.snoc (Nat.mod_lt _ (by decide)),HST.out,?_,?_⟩
      ·obtain ⟨rfl,rfl⟩:=HY0.out h
       omega
      ·have e : (zs ++ [(x + y + cy) % 4294967296]).length = k + 1:=by simp [HZ.out]
       rw [e,U_append]
       exact hown1
      ·exact (hbe.alloc hbs _).grown hg1 (by simp; omega) (fun b e=>plus_block hown e)
     case measure=>simp [intOf]; omega
end LM
namespace LM
end LM
namespace LM
theorem num_len {r : List Nat} {n k : Nat} (hc : Can r) (hv : val r = n) (hn : n < 4294967296 ^ k) : r.length ≤ k:=by
 rcases Nat.lt_or_ge k r.length with h | h
 ·have:=(can_len hc k).1 h
  omega
 ·exact h
theorem plus_len {r2 r s : List Nat} (h2 : Can r2) (hr : Lm r) (hs : Lm s) (hv : val r2 = val r + val s) : r2.length ≤ max r.length s.length + 1:=by
 refine num_len h2 rfl ?_
 have e1:=val_len_lt hr (Nat.le_max_left r.length s.length)
 have e2:=val_len_lt hs (Nat.le_max_right r.length s.length)
 rw [hv,Nat.pow_succ]
 generalize 4294967296 ^ max r.length s.length = P at *
 omega
theorem times_bound {xs ys : List Nat} (hx : Lm xs) (hy : Lm ys) (n : Nat) : val xs * (val ys / 2 ^ n) < 4294967296 ^ (xs.length + ys.length):=by
 have h1:=val_lt hx
 have h2:=val_lt hy
 have h3:=Nat.div_le_self (val ys) (2 ^ n)
 rw [Nat.pow_add]
 exact Nat.mul_lt_mul'' h1 (Nat.lt_of_le_of_lt h3 h2)
theorem times_len {xs ys r : List Nat} {n : Nat} (hx : Lm xs) (hy : Lm ys) (hr : Can r) (hv : val r = val xs * (val ys / 2 ^ n)) : r.length ≤ xs.length + ys.length:=num_len hr hv (times_bound hx hy n)
theorem bit_and {ys : List Nat} (hy : Lm ys) (m : Nat) : bits .and .u32 (((ys[m / 32]?.getD 0 : Nat) : Int) / 2 ^ (m % 32)) 1 = ((bitAt ys m : Nat) : Int):=by
 have h:=hy.get (m / 32)
 have h1:=b32_and (ys[m / 32]?.getD 0 / 2 ^ (m % 32)) 1 (Nat.lt_of_le_of_lt (Nat.div_le_self _ _) h) (by decide)
 rw [Nat.and_one_is_mod,← cast_div] at h1
 exact h1
theorem bit0 (a b : Nat) : a * b + a * b = a * (2 * b + 0):=by grind
theorem bit1 (a b : Nat) : a * b + a * b + a = a * (2 * b + 1):=by grind
def TiRel (w : World) (xs ys : List Nat) (v i : Value) (wr : World) : Prop :=
 ∃ n : Nat,n ≤ 32 * ys.length∧i = .int .i64 ((n : Int) - 1)∧NumR wr v (val xs * (val ys / 2 ^ n))∧Below w.heap.size w wr
theorem rtimes_any (A B : Option Addr) (ca cb : Nat) (xs ys : List Nat) (w : World) (ha : Rd w A xs) (hb : Rd w B ys) (hx : Lm xs) (hy : Lm ys) (hlx : xs.length ≤ 1000) (hly : ys.length ≤ 1000) :
  Calls Tryz.prog 258 #[.slice A xs.length ca,.slice B ys.length cb] w fun e w'=>(∃ v,e = .returned v∧NumR w' v (val xs * val ys))∧Below w.heap.size w w':=by
 have hrow : NumR (w.alloc (.cells #[] 159)) (.slice (some ⟨w.heap.size,0,none⟩) 0 0) (val xs * (val ys / 2 ^ (32 * ys.length))) :=
  ⟨_,0,[],rfl,(fun h=>by cases h),Rd.nil,can_nil,by rw [bit_top hy]; rfl⟩
 have HR:=Lib.hid hrow
 clear hrow
 go_enter Tryz.func258,Tryz.ntmps258
 go_wp2
 go_loopw [5,6] (fun v i wr=>TiRel w xs ys v i wr) (fun _ i _=>(intOf i + 1).toNat)
 case atStart=>exact ⟨32 * ys.length,Nat.le_refl _,by congr 1,HR.out,(Below.refl _ _).alloc (Nat.le_refl _) _⟩
 case round =>
  clear HR
  obtain ⟨n,hn,rfl,hnum,hbe⟩:=hrel
  have hra:=ha.below hbe
  have hrb:=hb.below hbe
  have hbs:=hbe.size
  rcases n with _ | m
  ·obtain ⟨A1,c1,r,rfl,hnz,hr1,hcr,hvr⟩:=hnum
   have hrl:=times_len hx hy hcr hvr
   rw [Nat.pow_zero,Nat.div_one] at hvr
   have HV:=Lib.hid hvr
   clear hvr
   go_wp2_with fail
   refine (rtrim_any A1 c1 r wr hr1 hcr.1 (by omega) hnz).mono ?_
   rintro e w1 ⟨⟨v,rfl,hn1⟩,hb1⟩
   rw [HV.out] at hn1
   have HN:=Lib.hid hn1
   have HB1:=Lib.hid hb1
   clear hn1 hb1
   go_wp2
   go_ret
   exact ⟨⟨v,rfl,HN.out⟩,hbe.trans (HB1.out.mono hbs)⟩
  ·rw [show ((m + 1 : Nat) : Int) - 1 = (m : Int) from by omega]
   have hbv:=bit_val hy (n:=m) (by omega)
   obtain ⟨A1,c1,r,rfl,hnz,hr1,hcr,hvr⟩:=hnum
   have hrl:=times_len hx hy hcr hvr
   obtain ⟨b2,o2,rfl,_,hcell⟩:=hrb.at_ (k:=m / 32) (by omega)
   have HV:=Lib.hid hvr
   have HBV:=Lib.hid hbv
   clear hvr hbv
   go_wp2_with fail
   refine (rplus_any A1 A1 c1 c1 r r wr hr1 hr1 hcr.1 hcr.1 (by omega) (by omega)).mono ?_
   rintro e w1 ⟨⟨v1,rfl,hn1⟩,hb1⟩
   have hcell1 : w1.cell? ⟨b2,o2 + m / 32,none⟩ = some (.int .u32 ((ys[m / 32]?.getD 0 : Nat) : Int)):=by
    obtain ⟨b3,o3,e3,_,h3⟩:=(hrb.below hb1).at_ (k:=m / 32) (by omega)
    cases e3; exact h3
   have hbit:=bit_and hy m
   have hb1le:=bit_le ys m
   obtain ⟨A2,c2,r2,rfl,hnz2,hr2,hcr2,hvr2⟩:=hn1
   have hr2l:=plus_len hcr2 hcr.1 hcr.1 hvr2
   rw [Nat.max_self] at hr2l
   have HV2:=Lib.hid hvr2
   generalize bitAt ys m = bt at *
   clear hvr2
   have hbe1 : Below w.heap.size w w1:=hbe.trans (hb1.mono hbs)
   have hra1:=hra.below hb1
   have hbs1:=hbe1.size
   have h3 : bt = 0 ∨ bt = 1:=by omega
   rcases h3 with rfl | rfl
   ·have hfin : val r2 = val xs * (val ys / 2 ^ m):=by
     rw [HV2.out,HV.out,HBV.out]; exact bit0 _ _
    have HF:=Lib.hid hfin
    clear hfin
    go_wp2
    go_roundw
    case rel=>exact ⟨m,by omega,rfl,⟨A2,c2,r2,rfl,hnz2,hr2,hcr2,HF.out⟩,hbe1⟩
    case measure=>simp [intOf]
   ·have hfin : val r2 + val xs = val xs * (val ys / 2 ^ m):=by
     rw [HV2.out,HV.out,HBV.out]; exact bit1 _ _
    have HF:=Lib.hid hfin
    clear hfin
    go_wp2_with fail
    refine (rplus_any A2 A c2 ca r2 xs w1 hr2 hra1 hcr2.1 hx (by omega) (by omega)).mono ?_
    rintro e w2 ⟨⟨v2,rfl,hn2⟩,hb2⟩
    rw [HF.out] at hn2
    have HN2:=Lib.hid hn2
    have HB2:=Lib.hid hb2
    clear hn2 hb2
    go_wp2
    go_roundw
    case rel=>exact ⟨m,by omega,rfl,HN2.out,hbe1.trans (HB2.out.mono hbs1)⟩
    case measure=>simp [intOf]
end LM
namespace LM
theorem rbig_any (A : Option Addr) (c : Nat) (xs : List Nat) (w : World) (hr : Rd w A xs) (hx : Lm xs) (hl : xs.length ≤ 1000000) (hnil : A = none → xs.length = 0∧c = 0) :
  Calls Tryz.prog 126 #[.slice A xs.length c] w fun e w'=>(∃ b : Bool,e = .returned (.bool b)∧(b = true ↔ BIG (val xs)))∧Below w.heap.size w w':=by
 go_enter Tryz.func126,Tryz.ntmps126
 go_wp2_with fail
 refine (rtrim_any A c xs w hr hx hl hnil).mono ?_
 rintro e w1 ⟨⟨v,rfl,A1,c1,r,rfl,_,hr1,hcr,hvr⟩,hb⟩
 have hbi:=big_iff hcr
 rw [hvr] at hbi
 have HBI:=Lib.hid hbi
 clear hbi hvr
 go_wp2
 go_ret
 refine ⟨⟨decide (64 < r.length),?_,by rw [decide_eq_true_iff]; exact HBI.out⟩,hb⟩
 congr 2
 simp
 omega
end LM
end Go.Proofs.YtaonablbgicmpaaGreatDoor
