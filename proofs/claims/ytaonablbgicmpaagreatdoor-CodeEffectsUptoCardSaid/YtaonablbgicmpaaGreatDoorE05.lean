import Derived.RangeFuncNested
import Derived.RangeFuncBound
import Derived.RangeFuncCalls
import Derived.RangeFuncLeaves
import Derived.RangeFuncBox
import Derived.Shelf.Abstract
import Derived.Shelf.RegionOpen
import Derived.OwnWalkIn
import Derived.TacticsInMore
import Derived.LoopNIn
import Derived.LoopIn
import Derived.Test.YtaonablbgicmpaaGreatDoorE04
import Derived.Deep.RegionWith
set_option linter.unusedVariables false
set_option linter.unusedSimpArgs false
set_option maxRecDepth 100000
set_option maxHeartbeats 16000000
namespace Go.Proofs.YtaonablbgicmpaaGreatDoor
open Go.RowKit Go.Shelf
attribute [local go_sem] Oper.semAt_some
namespace LM
def BwOk (Bs : Nat) (A : Option Addr) (n c : Nat) (ok : Nat → Nat → Prop) (W : World) : Prop :=
 W.cell? ⟨Bs,0,none⟩ = some (.slice A n c)∧(0 < n → ∃ b off,A = some ⟨b,off,none⟩∧∀ k,k < n → ∃ v : Nat,ok k v∧W.cell? ⟨b,off + k,none⟩ = some (.int .u32 (v : Int)))
abbrev Plc (n : Nat) (ok : Nat → Nat → Prop):={ x : Nat × Nat // x.1 < n∧ok x.1 x.2 }
def plc {n : Nat} {ok : Nat → Nat → Prop} (x : Plc n ok) : Nat:=x.1.1
def downs (n k : Nat) : List Nat:=(List.range k).map fun j=>n - 1 - j
theorem downs_succ (n k : Nat) : downs n (k + 1) = downs n k ++ [n - 1 - k]:=by simp [downs,List.range_succ]
theorem downs_len (n k : Nat) : (downs n k).length = k:=by simp [downs]
theorem BwOk.kept {Bs : Nat} {A : Option Addr} {n c : Nat} {ok : Nat → Nat → Prop} {W W' : World} {row : Option Nat} (h : BwOk Bs A n c ok W) (hg : W.grownBy W' row)
  (hr : ∀ r,row = some r → ∃ o : Obj,W.heap[r]? = some o∧o.isCells = false) : BwOk Bs A n c ok W' :=
 ⟨cell_kept h.1 hg hr,fun hn=>by
  obtain ⟨b,off,e,hc⟩:=h.2 hn
  exact ⟨b,off,e,fun k hk=>by
   obtain ⟨v,hv,hcv⟩:=hc k hk
   exact ⟨v,hv,cell_kept hcv hg hr⟩⟩⟩
theorem BwOk.below {Bs : Nat} {A : Option Addr} {n c B : Nat} {ok : Nat → Nat → Prop} {W W' : World} (h : BwOk Bs A n c ok W) (hg : Below B W W') (hB : Bs < B) (hA : 0 < n → ∀ ad,A = some ad → ad.block < B) : BwOk Bs A n c ok W' :=
 ⟨(hg.cell (p:=⟨Bs,0,none⟩) hB).trans h.1,fun hn=>by
  obtain ⟨b,off,e,hc⟩:=h.2 hn
  exact ⟨b,off,e,fun k hk=>by
   obtain ⟨v,hv,hcv⟩:=hc k hk
   exact ⟨v,hv,(hg.cell (p:=⟨b,off + k,none⟩) (hA hn ⟨b,off,none⟩ e)).trans hcv⟩⟩⟩
theorem backward_in (n : Nat) (A : Option Addr) (len cap : Nat) (w : World) :
  CallsIn Fence.wide n Tryz.prog 238 #[.slice A len cap] w fun e w'=>e = .returned (.func (.func 298) #[] #[.pointer (some ⟨w.heap.size,0,none⟩)])∧w.alloc (.cells #[.slice A len cap] 38) = w':=by
 refine callsIn_of_wp Tryz.func238 rfl trivial ?_ rfl
 simp only [Tryz.ntmps238,List.size_toArray,List.length_cons,List.length_nil,Nat.reduceAdd,Nat.reduceSub,Array.replicate_succ,Array.replicate_zero,List.push_toArray,List.append_toArray,List.nil_append,List.cons_append]
 gi_wp2
 go_ret
 exact ⟨rfl,rfl⟩
theorem backward_stops (n : Nat) (hn : 1 ≤ n) (Bs : Nat) (A : Option Addr) (len cap : Nat) (hlen : len ≤ 1000000) (ok : Nat → Nat → Prop) (Kp : World → World → Prop) (hKp : ∀ W W',Kp W W' → BwOk Bs A len cap ok W → BwOk Bs A len cap ok W')
  (w : World) (hBs : Bs < w.heap.size) (hA : 0 < len → ∀ ad,A = some ad → ad.block < w.heap.size) (h0 : BwOk Bs A len cap ok w) :
  SeqStopsK Fence.wide n Tryz.prog 298 #[.pointer (some ⟨Bs,0,none⟩)] (fun x : Plc len ok=>#[Value.int .i64 (x.1.1 : Int),Value.int .u32 (x.1.2 : Int)]) Kp
   (fun ys=>ys.map plc = downs len len) (fun pre=>∃ k,k ≤ len∧pre.map plc = downs len k) len w:=fun l J Jx W hW hJ _ hY hJ0=>by
 have hok:=h0.below hW hBs hA
 refine callsIn_of_wp Tryz.func298 rfl trivial ?_ rfl
 simp only [Tryz.ntmps298,List.size_toArray,List.length_cons,List.length_nil,Nat.reduceAdd,Nat.reduceSub,Array.replicate_succ,Array.replicate_zero,List.push_toArray,List.append_toArray,List.nil_append,List.cons_append]
 have hbox:=hok.1
 gi_wp2
 gi_loopw [3] (fun i wr=>∃ (j : Nat) (pre : List (Plc len ok)),j ≤ len∧i = .int .i64 ((j : Int) - 1)∧pre.map plc = downs len (len - j)∧J pre wr∧BwOk Bs A len cap ok wr)
  (fun i _=>(intOf i + 1).toNat)
 case atStart=>exact ⟨len,[],Nat.le_refl _,rfl,by simp [downs],hJ0,hok⟩
 case round =>
  clear hbox hok
  obtain ⟨j,pre,hj,rfl,hpre,hJs,hokr⟩:=hrel
  have HPRE:=Lib.hid hpre
  rcases j with _ | m
  ·clear hpre
   gi_wp2
   go_end0
   exact ⟨⟨_,rfl⟩,.inl ⟨pre,HPRE.out,hJs⟩⟩
  ·have hlp : pre.length < len:=by
    have h:=congrArg List.length hpre
    rw [List.length_map,downs_len] at h
    omega
   clear hpre
   obtain ⟨b,off,rfl,hc⟩:=hokr.2 (by omega)
   obtain ⟨v,hv,hcv⟩:=hc m (by omega)
   have hbox:=hokr.1
   have HOK:=Lib.hid hokr
   clear hc hokr
   have hml : m < len:=by omega
   obtain ⟨pm,hpm⟩ : ∃ pm : Plc len ok,pm = ⟨(m,v),⟨hml,hv⟩⟩:=⟨⟨(m,v),⟨hml,hv⟩⟩,rfl⟩
   obtain ⟨fn,tmps,assign,body,hy,hR⟩:=hY pre pm wr hJs hlp
   rw [hpm] at hy
   dsimp only at hy
   rw [show ((m + 1 : Nat) : Int) - 1 = (m : Int) from by omega]
   have hdn : (pre ++ [pm]).map plc = downs len (len - m):=by
    rw [List.map_append,HPRE.out,show len - m = (len - (m + 1)) + 1 from by omega,downs_succ]
    congr 1
    rw [hpm]
    simp [plc]; omega
   have HPM:=Lib.hid hpm
   have HDN:=Lib.hid hdn
   clear hdn hpm
   gi_wp2
   refine hR.mono ?_
   rintro e W3 (⟨rfl,hJ3,hk3⟩ | ⟨rfl,hJx3⟩)
   ·have HOK3:=Lib.hid (hKp _ _ hk3 HOK.out)
    gi_wp2
    go_roundw
    case rel=>exact ⟨m,pre ++ [pm],by omega,rfl,HDN.out,hJ3,HOK3.out⟩
    case measure=>simp [intOf]
   ·gi_wp2
    refine bodyPost_ret (results_none rfl _ _ _) rfl ?_
    exact ⟨⟨_,rfl⟩,.inr ⟨_,⟨len - m,by omega,HDN.out⟩,hJx3⟩⟩
end LM
attribute [local go_sem] Oper.semAt_some
namespace LM
def cmpN (x y : Nat) : Int:=if x < y then -1 else if y < x then 1 else 0
theorem cmpN_lt {x y : Nat} (h : x < y) : cmpN x y = -1:=by unfold cmpN; rw [if_pos h]
theorem cmpN_gt {x y : Nat} (h : y < x) : cmpN x y = 1:=by unfold cmpN; rw [if_neg (by omega),if_pos h]
theorem cmpN_eq {x y : Nat} (h : x = y) : cmpN x y = 0:=by unfold cmpN; rw [if_neg (by omega),if_neg (by omega)]
theorem nan_int (x : Nat) (w : World) : Calls Tryz.prog 307 #[.int .i64 (x : Int)] w fun e w'=>e = .returned (.bool false)∧w = w':=by
 have h : ((x : Int) != (x : Int)) = false:=by simp
 go_enter Tryz.func307,Tryz.ntmps307
 go_wp2
 go_ret
 exact ⟨rfl,rfl⟩
theorem nan_u32 (x : Nat) (w : World) : Calls Tryz.prog 308 #[.int .u32 (x : Int)] w fun e w'=>e = .returned (.bool false)∧w = w':=by
 have h : ((x : Int) != (x : Int)) = false:=by simp
 go_enter Tryz.func308,Tryz.ntmps308
 go_wp2
 go_ret
 exact ⟨rfl,rfl⟩
theorem compare_int (x y : Nat) (w : World) : Calls Tryz.prog 255 #[.int .i64 (x : Int),.int .i64 (y : Int)] w fun e w'=>e = .returned (.int .i64 (cmpN x y))∧w = w':=by
 rcases Nat.lt_trichotomy x y with h | h | h
 ·rw [cmpN_lt h]
  go_enter Tryz.func255,Tryz.ntmps255
  go_wp2_with (go_at_call 307; refine (nan_int _ _).mono ?_; rintro e w' ⟨rfl,rfl⟩)
  go_ret
  exact ⟨rfl,rfl⟩
 ·rw [cmpN_eq h]
  subst h
  go_enter Tryz.func255,Tryz.ntmps255
  go_wp2_with (go_at_call 307; refine (nan_int _ _).mono ?_; rintro e w' ⟨rfl,rfl⟩)
  go_ret
  exact ⟨rfl,rfl⟩
 ·rw [cmpN_gt h]
  go_enter Tryz.func255,Tryz.ntmps255
  go_wp2_with (go_at_call 307; refine (nan_int _ _).mono ?_; rintro e w' ⟨rfl,rfl⟩)
  go_ret
  exact ⟨rfl,rfl⟩
theorem compare_u32 (x y : Nat) (w : World) : Calls Tryz.prog 256 #[.int .u32 (x : Int),.int .u32 (y : Int)] w fun e w'=>e = .returned (.int .i64 (cmpN x y))∧w = w':=by
 rcases Nat.lt_trichotomy x y with h | h | h
 ·rw [cmpN_lt h]
  go_enter Tryz.func256,Tryz.ntmps256
  go_wp2_with (go_at_call 308; refine (nan_u32 _ _).mono ?_; rintro e w' ⟨rfl,rfl⟩)
  go_ret
  exact ⟨rfl,rfl⟩
 ·rw [cmpN_eq h]
  subst h
  go_enter Tryz.func256,Tryz.ntmps256
  go_wp2_with (go_at_call 308; refine (nan_u32 _ _).mono ?_; rintro e w' ⟨rfl,rfl⟩)
  go_ret
  exact ⟨rfl,rfl⟩
 ·rw [cmpN_gt h]
  go_enter Tryz.func256,Tryz.ntmps256
  go_wp2_with (go_at_call 308; refine (nan_u32 _ _).mono ?_; rintro e w' ⟨rfl,rfl⟩)
  go_ret
  exact ⟨rfl,rfl⟩
end LM
end Go.Proofs.YtaonablbgicmpaaGreatDoor
namespace Go.Proofs.YtaonablbgicmpaaGreatDoor
open Go Go.RowKit
namespace LM
def bytesObj : Obj → Bool
 | .cells _ t _=>t == 5
 | _=>false
structure Keeps8 (B : Nat) (W W' : World) : Prop where
 size : W.heap.size ≤ W'.heap.size
 same : ∀ (k : Nat) (o : Obj),B ≤ k → W.heap[k]? = some o → bytesObj o = false → W'.heap[k]? = some o
theorem Keeps8.trans {B : Nat} {X Y Z : World} (h : Keeps8 B X Y) (k : Keeps8 B Y Z) : Keeps8 B X Z:=⟨Nat.le_trans h.size k.size,fun i o hB hi ho=>k.same i o hB (h.same i o hB hi ho) ho⟩
end LM
end Go.Proofs.YtaonablbgicmpaaGreatDoor
namespace Go.Proofs.YtaonablbgicmpaaGreatDoor
open Go.RowKit Go.Shelf
attribute [local go_sem] Oper.semAt_some
namespace LM
end LM
end Go.Proofs.YtaonablbgicmpaaGreatDoor
