import Derived.Test.YtihbgghlnppkiaaGreatDoorR11
import Derived.Test.YtihbgghlnppkiaaGreatDoorR07
import Derived.Test.YtihbgghlnppkiaaGreatDoorR05
import Derived.Maps.AppendAt
import Derived.Test.YtihbgghlnppkiaaGreatDoorR04
set_option linter.unusedVariables false
set_option linter.unusedSimpArgs false
set_option maxRecDepth 100000
set_option maxHeartbeats 16000000
namespace Go.Proofs.YtihbgghlnppkiaaGreatDoor
open Go Go.RowKit
namespace LM
theorem round_any {n m : Nat} {P : Program} {l l2 : Nat} {f : FuncId} {tmps : Array Value} {assign body : Code} {w : World} {R : Ending → World → Prop} (h : RoundIn Fence.wide n P l f tmps assign body w R) :
    RoundIn (Fence.wide.inRound l2) m P l f tmps assign body w R:=⟨h.1,fun c cs _=>h.2 c cs (fun _ h=>by cases h)⟩
theorem top_lt : 4294967296 ^ 64 ≤ 1000000000 ^ 69:=by decide +kernel
theorem parts_few {n : Nat} (hn : ¬ BIG n) : (lowP n).length ≤ 69:=lowP_len 69 n (Nat.lt_of_lt_of_le (Nat.lt_of_not_le hn) top_lt)
def PmRel (W0 : World) (n g cap B0 yb : Nat) (yv : Value) (lv rv : Value) (wr : World) : Prop :=
  ∃ (xs post low : List Nat),rv = .slice (some ⟨g,0,none⟩) xs.length cap∧Blk wr g (U (xs ++ post))∧Can xs∧xs.length ≤ cap ∧
    wr.ownsRow B0 92 1 lv low.length (U low)∧low ++ lowP (val xs) = lowP n ∧
    wr.heap[yb]? = some (.cells #[yv] 213 (0,0))∧Below W0.heap.size W0 wr
def lenOf : Value → Nat
  | .slice _ n _=>n
  | _=>0
theorem downs_take {m : Nat} {low : List Nat} (hm : low.length = m) (ys : List (Plc m fun j v=>low[j]? = some v)) (h : Downs ys) : ys.map (fun x=>x.1.2) = low.reverse.take ys.length:=by
  obtain ⟨h1,h2⟩:=h
  have e : ys.map (fun x=>x.1.2) = (ys.map plc).map fun j=>low[j]?.getD 0:=by
    rw [List.map_map]
    refine List.map_congr_left fun x _=>?_
    have:=x.2.2
    simp only [Function.comp,plc]
    rw [this]; rfl
  rw [e,h1]
  generalize ys.length = k at *
  clear e h1
  refine List.ext_getElem? fun i=>?_
  rw [List.getElem?_take]
  by_cases hi : i < k
  · rw [if_pos hi]
    simp only [downs,List.map_map,List.getElem?_map,List.getElem?_range hi,Option.map_some,Function.comp]
    rw [List.getElem?_reverse (by omega),hm,List.getElem?_eq_getElem (by omega)]
    rfl
  · rw [if_neg hi]
    rw [List.getElem?_eq_none (by simp [downs]; omega)]
theorem downs_all {m : Nat} {low : List Nat} (hm : low.length = m) (ys : List (Plc m fun j v=>low[j]? = some v)) (h : ys.map plc = downs m m) : ys.map (fun x=>x.1.2) = low.reverse:=by
  have hl : ys.length = m:=by
    have h1:=congrArg List.length h
    rwa [List.length_map,downs_len] at h1
  have:=downs_take hm ys ⟨by rw [hl]; exact h,by omega⟩
  rw [this,List.take_of_length_le (by simp; omega)]
end LM
end Go.Proofs.YtihbgghlnppkiaaGreatDoor
namespace Go.Proofs.YtihbgghlnppkiaaGreatDoor
open Go.RowKit Go.Shelf
attribute [local go_sem] Oper.semAt_some
namespace LM
attribute [local go_sem] round_fn wide_fn
theorem parts_call (A : Option Addr) (n c : Nat) (w : World) :
    Calls Tryz.prog 125 #[.slice A n c] w fun e w'=>e = .returned (.func (.func 147) #[] #[.pointer (some ⟨w.heap.size,0,none⟩)])∧w.alloc (.cells #[.slice A n c] 59) = w':=by
  go_enter Tryz.func125,Tryz.ntmps125
  go_wp2
  go_ret
  exact ⟨rfl,rfl⟩
theorem heap_kept {W W' : World} {row : Option Nat} {k : Nat} {cs : Array Value} {t : TypeId} {fz : Nat × Nat} (h : W.heap[k]? = some (.cells cs t fz)) (hg : W.grownBy W' row) (hr : ∀ r,row = some r → ∃ o : Obj,W.heap[r]? = some o∧o.isCells = false) : W'.heap[k]? = some (.cells cs t fz) :=
  (hg.block k (Array.getElem?_eq_some_iff.1 h).1 (fun e=>by
    obtain ⟨o,ho,hc⟩:=hr k e.symm
    rw [h] at ho; injection ho with ho; subst ho; cases hc)).trans h
theorem own_len {w : World} {base : Nat} {v : Value} {n : Nat} {xs : List Value} (h : w.ownsRow base 92 1 v n xs) : lenOf v = n:=by
  obtain ⟨_,h | ⟨g,cap,cur,rfl,_⟩⟩:=h
  · rw [h.1,h.2]; rfl
  · rfl
def PtI (J : List Nat → World → Prop) (low : List Nat) (rest : List Value) (yb : Nat) (yv : Value) (h cap bs : Nat) (pre : List (Plc low.length fun j v=>low[j]? = some v)) (wr : World) : Prop :=
  J (pre.map fun x=>x.1.2) wr∧wr.heap[yb]? = some (.cells #[yv] 213 (0,0))∧SBox wr bs (.slice (some ⟨h,0,none⟩) low.length cap)∧Blk wr h (U low ++ rest)
theorem PtI.own {J : List Nat → World → Prop} {low : List Nat} {rest : List Value} {yb : Nat} {yv : Value} {h cap bs B B0 : Nat} (hJ : OwnFrom B0 J) (hB : B0 ≤ B) : OwnFrom B (PtI J low rest yb yv h cap bs):=fun s A C row hs hg hr=>by
  obtain ⟨a1,a2,a3,a4⟩:=hs
  have hr2:=fun r e=>(hr r e).2
  exact ⟨hJ _ _ _ _ a1 hg (fun r e=>⟨Nat.le_trans hB (hr r e).1,(hr r e).2⟩),heap_kept a2 hg hr2,a3.kept hg hr2,a4.kept hg hr2⟩
theorem PtI.bw {J : List Nat → World → Prop} {low : List Nat} {rest : List Value} {yb : Nat} {yv : Value} {h cap bs : Nat} {pre : List (Plc low.length fun j v=>low[j]? = some v)} {wr : World} (hs : PtI J low rest yb yv h cap bs pre wr) :
    BwOk bs (some ⟨h,0,none⟩) low.length cap (fun j v=>low[j]? = some v) wr:=by
  obtain ⟨a1,a2,a3,a4⟩:=hs
  exact ⟨a3.cell,fun _=>⟨h,0,rfl,fun k hk=>⟨low[k],List.getElem?_eq_getElem hk,by
    rw [Nat.zero_add,a4.cell,List.getElem?_append_left (by rw [U_len]; exact hk),U_get _ _ hk,List.getElem?_eq_getElem hk]; rfl⟩⟩⟩
theorem parts_all (n : Nat) (hn : 3 ≤ n) (bx : Nat) (A : Option Addr) (cap : Nat) (xs : List Nat) (w : World) (hbx : SBox w bx (.slice A xs.length cap)) (hr : Rd w A xs) (hA : ∀ ad,A = some ad → ad.block < w.heap.size) (hc : Can xs) (hx0 : 0 < val xs) (hnb : ¬ BIG (val xs)) (hcap : xs.length ≤ cap) (hcm : cap ≤ 9223372036854775807) (hxl : xs.length ≤ 1000) :
    SeqAll Fence.wide n Tryz.prog 147 #[.pointer (some ⟨bx,0,none⟩)] (fun x : Nat=>#[Value.int .u32 (x : Int)]) (fun _=>True) (fun ys=>ys = (partsOf (val xs)).take ys.length∧ys.length ≤ (partsOf (val xs)).length) (fun ys=>ys = partsOf (val xs)) w:=fun l J W hW hJ hY hJ0=>by
  obtain ⟨i0,hi0,hz0,hz1,hz2⟩:=info_parts u32_info
  have hbx1:=hbx.below hW hbx.lt
  have hr1:=hr.belowB hW hA
  have hJ1 : J [] (W.alloc (.cells #[.func (.yield l) #[] #[]] 213)):=hJ.alloc _ hJ0
  have hcell:=(hbx1.alloc (.cells #[.func (.yield l) #[] #[]] 213)).cell
  have hr2:=hr1.alloc (.cells #[.func (.yield l) #[] #[]] 213)
  have HFEW:=Lib.hid (parts_few hnb)
  have hn1 : 1 ≤ n:=by omega
  have hn3 : 1 ≤ n - 1 - 1:=by omega
  have HX0:=Lib.hid hx0
  refine callsIn_of_wp_marks Tryz.func147 rfl trivial ?_ rfl
  simp only [Tryz.ntmps147,List.size_toArray,List.length_cons,List.length_nil,Nat.reduceAdd,Nat.reduceSub,Array.replicate_succ,Array.replicate_zero,List.push_toArray,List.append_toArray,List.nil_append,List.cons_append]
  gi_wp2_with fail
  refine (callsIn_wide.2 (trimUp_any A cap xs _ hr2 hc.1 hcap hcm hxl)).mono ?_
  rintro e w1 ⟨r,rfl,hB,hcr,hvr,hrl,hb2⟩
  have HVR:=Lib.hid hvr
  have hyb : w1.heap[W.heap.size]? = some (.cells #[.func (.yield l) #[] #[]] 213 (0,0)):=(hb2.block W.heap.size (by simp)).trans (heap_alloc_new W _)
  have hbl : Below W.heap.size W w1:=((Below.refl _ W).alloc (Nat.le_refl _) (.cells #[.func (.yield l) #[] #[]] 213)).trans (hb2.mono (by simp))
  have hJ2 : J [] w1:=hJ _ _ _ none hJ1 ⟨hb2.os,hb2.tape,hb2.output,hb2.size,fun k hk _=>hb2.block k hk⟩ (fun r e=>by cases e)
  have hB' : Blk w1 (W.heap.size + 1) (U (r ++ [])):=by simpa using hB
  have hszw : W.heap.size + 1 < w1.heap.size:=by have:=hB'.lt; exact this
  have HYB:=Lib.hid hyb
  have hrl2 : r.length ≤ 1000:=by omega
  clear hvr hcell hyb hB
  gi_wp2_with fail
  gi_loopw [3,4] (fun lv rv wr=>PmRel W (val xs) (W.heap.size + 1) r.length w1.heap.size W.heap.size (.func (.yield l) #[] #[]) lv rv wr∧w1.heap.size ≤ wr.heap.size) (fun lv _ _=>100 - lenOf lv)
  case atStart =>
    refine ⟨⟨r,[],[],rfl,hB',hcr,Nat.le_refl _,⟨by simp [U],.inl ⟨rfl,rfl⟩⟩,by rw [HVR.out]; rfl,HYB.out,hbl⟩,Nat.le_refl _⟩
  case round =>
    clear hB' hcr HYB hbl
    obtain ⟨⟨ys,post,low,rfl,hB,hcy,hyl,hown,hlow,hyb,hbl⟩,hsz⟩:=hrel
    have HYB:=Lib.hid hyb
    have HLOW:=Lib.hid hlow
    clear hyb hlow
    rcases Nat.eq_zero_or_pos ys.length with h0 | h0
    · have hd : decide (0 < ys.length) = false:=decide_eq_false (by omega)
      have hall : low = lowP (val xs):=by
        have h1:=HLOW.out
        rw [List.eq_nil_of_length_eq_zero h0,val,lowP_zero,List.append_nil] at h1
        exact h1
      have hll : low.length ≤ 69:=by rw [hall]; exact HFEW.out
      have hne : low ≠ []:=by rw [hall,lowP_pos HX0.out]; simp
      have HALL:=Lib.hid hall
      clear hall h0 HLOW
      rcases own_cases hown with ⟨_,hnil⟩ | ⟨h,cap2,rest,rfl,hh0,hBh,hlc,hcm2,hrest⟩
      · exact absurd hnil hne
      have hhl:=hBh.lt
      clear hown hB hcy hrest hne
      gi_wp2_with fail
      refine (backward_in _ _ _ _ _).mono ?_
      rintro e w2 ⟨rfl,rfl⟩
      gi_wp2_with fail
      have hJr : J [] wr:=hJ _ _ _ none hJ0 ⟨hbl.os,hbl.tape,hbl.output,hbl.size,fun k hk _=>hbl.block k hk⟩ (fun r e=>by cases e)
      generalize hWL : World.alloc _ _ = WL
      have f0 : WL.heap.size = wr.heap.size + 1:=by rw [← hWL]; simp
      have fI : PtI J low rest W.heap.size (.func (.yield l) #[] #[]) h cap2 wr.heap.size [] WL:=by
        rw [← hWL]
        exact ⟨hJ.alloc _ hJr,(Below.heap_alloc _ _ _ (by omega)).trans HYB.out,SBox.new wr _,hBh.alloc _⟩
      have hWs : W.heap.size ≤ WL.heap.size:=by have:=hbl.size; omega
      clear hWL hJr HYB hBh
      refine range_all rfl (by omega) (gf:=190) (lb:=#[.pointer (some ⟨wr.heap.size,0,none⟩)]) rfl trivial (enters_of Tryz.func190 (by kernel_rfl) rfl)
        (backward_all (n - 1) (by omega) wr.heap.size (some ⟨h,0,none⟩) low.length cap2 (by omega) (fun j v=>low[j]? = some v) WL (by omega) (fun _ ad e=>by injection e with e; subst e; show h < _; omega) fI.bw)
        (Below.refl _ _) (fun _=>rfl) (PtI J low rest W.heap.size (.func (.yield l) #[] #[]) h cap2 wr.heap.size) (PtI.own hJ hWs) (fun _ _ hs=>hs.bw) fI
        (fun x=>{ tmps:=#[.func (.yield l) #[] #[],.pointer (some ⟨bx,0,none⟩),.pointer (some ⟨W.heap.size,0,none⟩),.slice (some ⟨h,0,none⟩) low.length cap2,.slice (some ⟨W.heap.size + 1,0,none⟩) ys.length r.length,undef,.int .u32 (x.1.2 : Int),.slice A xs.length cap,.slice (some ⟨W.heap.size + 1,0,none⟩) r.length r.length,.slice (some ⟨W.heap.size + 1,0,none⟩) ys.length r.length,.int .i64 (ys.length : Int),.bool false,u12,u13,u14,u15,u16,u17,u18,.slice (some ⟨h,0,none⟩) low.length cap2,.func (.func 190) #[] #[.pointer (some ⟨wr.heap.size,0,none⟩)],.int .i64 (x.1.1 : Int),.int .u32 (x.1.2 : Int),undef,undef,undef,undef],defers:=[] }) ?assign ?body ?done
      case assign =>
        intro l2 x W2 K hK
        gi_wp2
        exact hK
      case body =>
        rintro l2 pre x Wb ⟨j1,j2,j3,j4⟩ hPr
        have hpr : pre.map (fun x=>x.1.2) ++ [x.1.2] = (partsOf (val xs)).take (pre.map (fun x=>x.1.2) ++ [x.1.2]).length∧(pre.map (fun x=>x.1.2) ++ [x.1.2]).length ≤ (partsOf (val xs)).length:=by
          have h1:=downs_take rfl (pre ++ [x]) hPr
          have h2:=hPr.2
          rw [List.map_append,List.map_singleton] at h1
          have h3 : (pre.map (fun x=>x.1.2) ++ [x.1.2]).length = (pre ++ [x]).length:=by simp
          rw [h3]
          unfold partsOf
          rw [← HALL.out]
          exact ⟨h1,by rw [List.length_reverse]; exact h2⟩
        obtain ⟨fn,tmps,assign,body,hy,hR⟩:=hY _ x.1.2 Wb j1 hpr
        clear hpr hPr
        have hyc : Wb.cell? ⟨W.heap.size,0,none⟩ = some (.func (.yield l) #[] #[]):=by rw [cell_of_row Wb W.heap.size 0 #[.func (.yield l) #[] #[]] _ (0,0) j2]; rfl
        gi_wp2
        refine (round_any hR).mono ?_
        rintro e W3 ⟨rfl,hJ3,hk3,_⟩
        gi_wp2
        refine ⟨hk3.mono hWs,?_,hk3.same _ _ (Nat.le_refl _) j2 rfl,hk3.same _ _ (by omega) j3 rfl,hk3.same _ _ (by omega) j4 rfl⟩
        rw [List.map_append,List.map_singleton]; exact hJ3
      case done =>
        rintro D zs Wd hD hS ⟨j1,j2,j3,j4⟩ hK
        have HS:=Lib.hid hS
        clear hS
        gi_wp2
        refine ⟨by simp,.inl ⟨_,_,rfl,run_takeDeferred hK,?_⟩⟩
        have e : zs.map (fun x=>x.1.2) = partsOf (val xs):=by
          rw [downs_all rfl zs HS.out]
          unfold partsOf
          rw [← HALL.out]
        rw [e] at j1
        exact ⟨_,results_none rfl _ _ _,⟨_,rfl⟩,hJ.putObj _ j1 (by omega) hK rfl⟩
    · have hd : decide (0 < ys.length) = true:=decide_eq_true h0
      have hlow:=HLOW.out
      have hpy : 0 < val ys:=by
        have h1:=(can_len hcy 0).1 h0
        rw [Nat.pow_zero] at h1; exact h1
      have hll : low.length + 1 ≤ 69:=by
        have h1:=congrArg List.length hlow
        have h2:=HFEW.out
        rw [List.length_append,lowP_pos hpy,List.length_cons] at h1
        omega
      have HPY:=Lib.hid hpy
      have HLEN:=Lib.hid (own_len hown)
      clear hlow hpy
      gi_wp2_with fail
      refine (callsIn_wide.2 (divideBy_any _ _ ys post 1000000000 _ hB hcy.1 (by decide) (by decide) (by omega))).mono ?_
      rintro e w2 ⟨zs,rm,rfl,hrm,hzl,hzL,hzv,hB2,hG⟩
      have hob : u3.ownBlock ≠ some (W.heap.size + 1):=fun e=>by have:=(hown.lt _ e).1; omega
      have hown2:=hown.kept hG (.inr hob)
      have hbl2 : Below W.heap.size W w2:=hbl.grown hG hbl.size (fun k e=>by injection e with e; omega)
      have hsz2 : w1.heap.size ≤ w2.heap.size:=Nat.le_trans hsz hG.size
      have hyb2 : w2.heap[W.heap.size]? = some (.cells #[.func (.yield l) #[] #[]] 213 (0,0)):=(hG.block _ (by omega) (by simp)).trans HYB.out
      have HYB2:=Lib.hid hyb2
      have HZV:=Lib.hid hzv
      have HZL:=Lib.hid hzl
      clear hzv hzl hB hG hbl hsz hown HYB hyb2
      gi_wp2_with (gi_at_builtin; refine wpListIn_append_own _ rfl _ _ 59 rfl w1.heap.size 92 i0 (.int .u32 0) 1 4 Tryz.underlying59 hi0 hz0 hz1 hz2 rfl (by decide) _ _ _ rfl (hown2.alloc _) ⟨w2.heap.size,0,none⟩ 1 1 [.int .u32 (rm : Int)] rfl rfl (cell_one_new _ _ _) (by simp [Value.oneCell']) (by unfold maxLen; omega) (by omega) (by simp; omega) ?_; intro v1 w3 hown3 hg3 _)
      have hob2 : u3.ownBlock ≠ some (W.heap.size + 1):=hob
      have hB3 : Blk w3 (W.heap.size + 1) (U (zs ++ post)):=(hB2.alloc _).grown hg3 (Ne.symm hob2)
      have hr3 : Rd w3 (some ⟨W.heap.size + 1,0,none⟩) zs:=Rd.of_blk (pre:=[]) (post:=post) (by simpa using hB3)
      have hbl3 : Below W.heap.size W w3:=(hbl2.alloc hbl2.size _).grown hg3 (by have:=hbl2.size; simp; omega) (fun k e=>by have:=(hown2.lt _ e).1; omega)
      have hsz3 : w1.heap.size ≤ w3.heap.size:=by have:=hg3.size; simp at this; omega
      have hyb3 : w3.heap[W.heap.size]? = some (.cells #[.func (.yield l) #[] #[]] 213 (0,0)):=by
        refine (hg3.block _ (by simp; omega) (fun e=>by have:=(hown2.lt _ e.symm).1; omega)).trans ?_
        exact (Below.heap_alloc _ _ _ (by omega)).trans HYB2.out
      have HYB3:=Lib.hid hyb3
      have HOWN3:=Lib.hid hown3
      have htm:=fun W1 h=>trimmed_any (some ⟨W.heap.size + 1,0,none⟩) r.length zs W1 h (by rw [HZL.out]; exact hyl) (by unfold maxLen; omega)
      rw [HZL.out] at htm
      have HTM:=Lib.hid htm
      clear htm hyb3 hown3 hown2 HYB2 hB2 hob hob2 hg3
      gi_wp2_with fail
      refine (callsIn_wide.2 (HTM.out _ hr3)).mono ?_
      rintro e w4 ⟨rfl,rfl⟩
      gi_wp2_with fail
      go_roundw
      case rel =>
        refine ⟨⟨trim zs,zs.drop (trim zs).length ++ post,low ++ [rm],rfl,?_,can_trim hzL,Nat.le_trans (trim_length_le zs) (by rw [HZL.out]; exact hyl),?_,?_,HYB3.out,hbl3⟩,hsz3⟩
        · have e : trim zs ++ (zs.drop (trim zs).length ++ post) = zs ++ post:=by
            rw [← List.append_assoc]
            congr 1
            conv=>lhs; lhs; rw [trim_take]
            exact List.take_append_drop _ _
          rw [e]; exact hB3
        · have:=HOWN3.out
          rw [U_append,List.length_append,List.length_singleton]
          exact this
        · have h1:=HLOW.out
          have h2:=HZV.out
          rw [lowP_pos HPY.out,h2,show (val zs * 1000000000 + rm) % 1000000000 = rm from by omega,show (val zs * 1000000000 + rm) / 1000000000 = val zs from by omega] at h1
          rw [val_trim,List.append_assoc]
          exact h1
      case measure =>
        have h1:=own_len HOWN3.out
        have h2:=HLEN.out
        simp only [lenOf] at h1 h2 ⊢
        simp
        omega
end LM
end Go.Proofs.YtihbgghlnppkiaaGreatDoor
