import Derived.Sort.AtCallIn
import Derived.Sort.QuietIn
import Derived.Test.YtaonablbgicmpaaGreatDoorE05
import Derived.Test.YtaonablbgicmpaaGreatDoorE06
import Derived.Test.YtaonablbgicmpaaGreatDoorE04
import Derived.Laws.Rows
import Derived.Test.YtaonablbgicmpaaGreatDoorE01
set_option linter.unusedVariables false
set_option linter.unusedSimpArgs false
set_option maxRecDepth 100000
set_option maxHeartbeats 16000000
namespace Go.Proofs.YtaonablbgicmpaaGreatDoor
open Go.RowKit Go.Shelf
attribute [local go_sem] Oper.semAt_some
namespace LM
attribute [local go_sem] round_fn wide_fn
theorem addr_lt {w : World} {A : Option Addr} {xs : List Nat} (h : Rd w A xs) (hx : 0 < xs.length) : ∀ ad,A = some ad → ad.block < w.heap.size:=fun ad e=>by
 obtain ⟨b,off,e',hb,_⟩:=h hx
 rw [e'] at e; injection e with e; subst e; exact hb
theorem Rd.trim {w : World} {A : Option Addr} {xs : List Nat} (h : Rd w A xs) : Rd w A (trim xs):=by
 rw [trim_take]; exact h.take _
def EqAt (xt yt : List Nat) (ps : List Nat) : Prop:=∀ j ∈ ps,xt[j]?.getD 0 = yt[j]?.getD 0
theorem mem_downs {n k j : Nat} : j ∈ downs n k ↔ ∃ i,i < k∧n - 1 - i = j:=by simp [downs]
theorem eq_all {xt yt : List Nat} (hl : xt.length = yt.length) (h : EqAt xt yt (downs xt.length xt.length)) : xt = yt:=by
 apply List.ext_getElem hl
 intro i h1 h2
 have:=h i (mem_downs.2 ⟨xt.length - 1 - i,by omega,by omega⟩)
 rw [List.getElem?_eq_getElem h1,List.getElem?_eq_getElem h2] at this
 exact this
theorem val_lt_at {xt yt : List Nat} (hx : Lm xt) (hl : xt.length = yt.length) {k : Nat} (hk : k < xt.length) (he : ∀ j,k < j → xt[j]?.getD 0 = yt[j]?.getD 0) (h : xt[k]?.getD 0 < yt[k]?.getD 0) : val xt < val yt:=by
 have hd : xt.drop (k + 1) = yt.drop (k + 1):=by
  apply List.ext_getElem (by simp [hl])
  intro i h1 h2
  have:=he (k + 1 + i) (by omega)
  rw [List.length_drop] at h1 h2
  rw [List.getElem?_eq_getElem (by omega),List.getElem?_eq_getElem (by omega)] at this
  simpa using this
 have e1:=val_split xt (k + 1)
 have e2:=val_split yt (k + 1)
 rw [hd,Nat.min_eq_left (by omega)] at e1
 rw [Nat.min_eq_left (by omega)] at e2
 rw [val_take_succ] at e1 e2
 have e3:=val_len_lt (hx.take k) (n:=k) (by simp; omega)
 generalize xt[k]?.getD 0 = x at *
 generalize yt[k]?.getD 0 = y at *
 generalize 4294967296 ^ (k + 1) * val (yt.drop (k + 1)) = D at *
 have e4 : 4294967296 ^ k * (x + 1) ≤ 4294967296 ^ k * y:=Nat.mul_le_mul_left _ h
 rw [Nat.mul_add,Nat.mul_one] at e4
 omega
theorem cmp_at {xt yt : List Nat} (hx : Lm xt) (hy : Lm yt) (hl : xt.length = yt.length) {k : Nat} (hk : k < xt.length) (he : ∀ j,k < j → xt[j]?.getD 0 = yt[j]?.getD 0) (h : xt[k]?.getD 0 ≠ yt[k]?.getD 0) :
  cmpN (xt[k]?.getD 0) (yt[k]?.getD 0) = cmpN (val xt) (val yt):=by
 rcases Nat.lt_or_gt_of_ne h with h1 | h1
 ·rw [cmpN_lt h1,cmpN_lt (val_lt_at hx hl hk he h1)]
 ·rw [cmpN_gt h1,cmpN_gt (val_lt_at hy hl.symm (by omega) (fun j hj=>(he j hj).symm) h1)]
theorem cmp_stop {xt yt : List Nat} (hx : Lm xt) (hy : Lm yt) (hl : xt.length = yt.length) {ini : List (Plc xt.length fun _ _=>True)} {last : Plc xt.length fun _ _=>True} {k : Nat} (hk : k ≤ xt.length) (hp : (ini ++ [last]).map plc = downs xt.length k)
  (he : EqAt xt yt (ini.map plc)) (h : xt[plc last]?.getD 0 ≠ yt[plc last]?.getD 0) : cmpN (xt[plc last]?.getD 0) (yt[plc last]?.getD 0) = cmpN (val xt) (val yt):=by
 obtain ⟨m,rfl⟩ : ∃ m,k = m + 1:=by
  cases k with
  | zero=>simp [downs] at hp
  | succ m=>exact ⟨m,rfl⟩
 rw [downs_succ,List.map_append] at hp
 obtain ⟨e1,e2⟩:=List.append_inj' hp rfl
 have e3 : plc last = xt.length - 1 - m:=by simpa using e2
 refine cmp_at hx hy hl (by omega) (fun j hj=>?_) h
 rcases Nat.lt_or_ge j xt.length with h1 | h1
 ·exact he j (by rw [e1]; exact mem_downs.2 ⟨xt.length - 1 - j,by omega,by omega⟩)
 ·rw [List.getElem?_eq_none h1,List.getElem?_eq_none (by omega)]
def CmI (w : World) (A B : Option Addr) (ca cb : Nat) (xt yt : List Nat) (pre : List (Plc xt.length fun _ _=>True)) (W : World) : Prop :=
 EqAt xt yt (pre.map plc)∧W.cell? ⟨w.heap.size,0,none⟩ = some (.slice A xt.length ca)∧W.cell? ⟨w.heap.size + 1,0,none⟩ = some (.slice B yt.length cb) ∧
  W.cell? ⟨w.heap.size + 1 + 1,0,none⟩ = some (.int .i64 0)∧W.frozen? ⟨w.heap.size + 1 + 1,0,none⟩ = false
def CmX (w : World) (xt yt : List Nat) (c : Code) (pre : List (Plc xt.length fun _ _=>True)) (W : World) : Prop :=
 c = .ret∧∃ ini last,pre = ini ++ [last]∧EqAt xt yt (ini.map plc)∧xt[plc last]?.getD 0 ≠ yt[plc last]?.getD 0∧W.cell? ⟨w.heap.size + 1 + 1,0,none⟩ = some (.int .i64 (cmpN (xt[plc last]?.getD 0) (yt[plc last]?.getD 0)))
theorem CmI.own (w : World) (A B : Option Addr) (ca cb : Nat) (xt yt : List Nat) : Own (CmI w A B ca cb xt yt):=fun _ _ _ _ hs hg hr =>
 ⟨hs.1,cell_kept hs.2.1 hg hr,cell_kept hs.2.2.1 hg hr,cell_kept hs.2.2.2.1 hg hr,(frozen_kept hs.2.2.2.1 hg hr).trans hs.2.2.2.2⟩
theorem CmX.own (w : World) (xt yt : List Nat) (c : Code) : Own (CmX w xt yt c):=fun _ _ _ _ hs hg hr=>by
 obtain ⟨e,ini,last,e1,e2,e3,e4⟩:=hs
 exact ⟨e,ini,last,e1,e2,e3,cell_kept e4 hg hr⟩
theorem cmp_any (A B : Option Addr) (ca cb : Nat) (xs ys : List Nat) (w : World) (ha : Rd w A xs) (hb : Rd w B ys) (hx : Lm xs) (hy : Lm ys) (hca : xs.length ≤ ca) (hcb : ys.length ≤ cb) (hcam : ca ≤ 9223372036854775807) (hcbm : cb ≤ 9223372036854775807) (hxl : xs.length ≤ 1000000) :
  Calls Tryz.prog 201 #[.slice A xs.length ca,.slice B ys.length cb] w fun e w'=>e = .returned (.int .i64 (cmpN (val xs) (val ys)))∧Below w.heap.size w w':=by
 have hta:=ha.trim
 have htb:=hb.trim
 have hcx:=can_trim hx
 have hcy:=can_trim hy
 have hvx:=val_trim xs
 have hvy:=val_trim ys
 have hlx:=trim_length_le xs
 have hly:=trim_length_le ys
 have hd1 : ∀ W,Rd W A xs → Calls Tryz.prog 176 #[.slice A xs.length ca] W fun e w'=>e = .returned (.slice A (trim xs).length ca)∧W = w':=fun W h=>trimmed_any _ _ _ _ h hca (by unfold maxLen; omega)
 have hd2 : ∀ W,Rd W B ys → Calls Tryz.prog 176 #[.slice B ys.length cb] W fun e w'=>e = .returned (.slice B (trim ys).length cb)∧W = w':=fun W h=>trimmed_any _ _ _ _ h hcb (by unfold maxLen; omega)
 have ha3:=(((ha.alloc (.cells #[.slice A xs.length ca] 38)).alloc (.cells #[.slice B ys.length cb] 38)).alloc (.cells #[.int .i64 0] 3)).drew
 have hb3:=(((hb.alloc (.cells #[.slice A xs.length ca] 38)).alloc (.cells #[.slice B ys.length cb] 38)).alloc (.cells #[.int .i64 0] 3)).drew
 rw [← hvx,← hvy]
 generalize trim xs = xt at *
 generalize trim ys = yt at *
 have H1:=Lib.hid hd1
 have H2:=Lib.hid hd2
 clear hd1 hd2 hvx hvy ha hb
 by_cases hne : xt.length = yt.length
 ·have HNE:=Lib.hid hne
  have hbn : ((xt.length : Int) != (yt.length : Int)) = false:=by simp [hne]
  clear hne
  refine (callsIn_wide (n:=3)).1 ?_
  refine callsIn_of_wp_marks Tryz.func201 rfl trivial ?_ rfl
  simp only [Tryz.ntmps201,List.size_toArray,List.length_cons,List.length_nil,Nat.reduceAdd,Nat.reduceSub,Array.replicate_succ,Array.replicate_zero,List.push_toArray,List.append_toArray,List.nil_append,List.cons_append]
  gi_wp2_with fail
  refine Code.wpIn_mono (Q:=fun e a' w'=>e = .normal∧a' = { tmps:=#[.slice A xs.length ca,.slice B ys.length cb,.pointer (some ⟨w.heap.size,0,none⟩),.pointer (some ⟨w.heap.size + 1,0,none⟩),.pointer (some ⟨w.heap.size + 1 + 1,0,none⟩),undef,.slice A xs.length ca,.slice A xt.length ca,.slice B ys.length cb,.slice B yt.length cb,undef,undef,undef,undef,undef,undef,undef,undef,undef,undef,undef,undef,undef,undef,undef,undef,undef,undef,undef,undef,undef,undef,undef,undef,undef,undef,undef,undef,undef,undef,undef,undef],defers:=[] } ∧
   w' = (((w.alloc (.cells #[.slice A xt.length ca] 38)).alloc (.cells #[.slice B yt.length cb] 38)).alloc (.cells #[.int .i64 0] 3)).drew) ?cont ?reg
  case reg =>
   gi_region_with (first | (gi_at_call_has 176 (Value.slice A xs.length ca); refine (callsIn_wide.2 (H1.out _ ha3)).mono ?_; rintro e w1 ⟨rfl,rfl⟩) | (gi_at_call_has 176 (Value.slice B ys.length cb); refine (callsIn_wide.2 (H2.out _ hb3)).mono ?_; rintro e w1 ⟨rfl,rfl⟩))
   all_goals exact ⟨rfl,rfl,rfl⟩
  case cont =>
   rintro _ _ _ ⟨rfl,rfl,rfl⟩
   gi_wp2_with (gi_at_call 238; refine (backward_in _ _ _ _ _).mono ?_; rintro e w' ⟨rfl,rfl⟩)
   generalize hWL : World.drew _ = WL
   have q0:=(((Boxed.new w 38 (.slice A xt.length ca)).alloc (.cells #[.slice B yt.length cb] 38)).alloc (.cells #[.int .i64 0] 3)).alloc (.cells #[.slice A xt.length ca] 38)
   have q1:=((Boxed.new (w.alloc (.cells #[.slice A xt.length ca] 38)) 38 (.slice B yt.length cb)).alloc (.cells #[.int .i64 0] 3)).alloc (.cells #[.slice A xt.length ca] 38)
   have q2:=(Boxed.new ((w.alloc (.cells #[.slice A xt.length ca] 38)).alloc (.cells #[.slice B yt.length cb] 38)) 3 (.int .i64 0)).alloc (.cells #[.slice A xt.length ca] 38)
   have q3:=Boxed.new (((w.alloc (.cells #[.slice A xt.length ca] 38)).alloc (.cells #[.slice B yt.length cb] 38)).alloc (.cells #[.int .i64 0] 3)) 38 (.slice A xt.length ca)
   simp only [World.size_alloc] at q1 q2 q3
   have f0 : WL.heap.size = w.heap.size + 4:=by rw [← hWL]; simp
   have f1 : Below w.heap.size w WL:=by
    rw [← hWL]; exact (((((Below.refl _ w).alloc (Nat.le_refl _) _).alloc (by simp) _).alloc (by simp; omega) _).alloc (by simp; omega) _).drew
   have f2 : CmI w A B ca cb xt yt [] WL:=by
    rw [← hWL]; exact ⟨(fun j h=>by cases h),q0.cell,q1.cell,q2.cell,q2.frozen⟩
   have f3 : WL.cell? ⟨w.heap.size + 1 + 1 + 1,0,none⟩ = some (.slice A xt.length ca):=by rw [← hWL]; exact q3.cell
   clear q0 q1 q2 q3 hWL
   have f4 : BwOk (w.heap.size + 1 + 1 + 1) A xt.length ca (fun _ _=>True) WL:=⟨f3,fun h=>by
    obtain ⟨b,off,e,_,hc⟩:=(hta.below f1) h
    exact ⟨b,off,e,fun k hk=>⟨_,trivial,hc k hk⟩⟩⟩
   refine wpIn_rangeFunc_ownG rfl (by decide) (gf:=298) (lb:=#[.pointer (some ⟨w.heap.size + 1 + 1 + 1,0,none⟩)]) rfl trivial (enters_of Tryz.func298 (by kernel_rfl) rfl)
    (backward_stops _ (by decide) (w.heap.size + 1 + 1 + 1) A xt.length ca (by omega) (fun _ _=>True) (fun W W'=>BwOk (w.heap.size + 1 + 1 + 1) A xt.length ca (fun _ _=>True) W → BwOk (w.heap.size + 1 + 1 + 1) A xt.length ca (fun _ _=>True) W') (fun _ _ h=>h) WL (by omega) (fun h ad e=>Nat.lt_of_lt_of_le (addr_lt hta h ad e) (by omega)) f4)
    (fun h k x=>k (h x)) (fun W l o o' _ h hc _ hk=>hk.kept (grownBy_putObj' W l o') (fun r e=>by cases e; exact ⟨o,h,hc⟩)) (Below.refl _ _) (fun _=>rfl)
    (fun pre W=>CmI w A B ca cb xt yt pre W∧Below w.heap.size w W)
    (fun c pre W=>CmX w xt yt c pre W∧Below w.heap.size w W)
    (OwnFrom.and ((CmI.own w A B ca cb xt yt).from _) (ownFrom_below (Nat.le_refl _) (by omega)))
    (fun c=>OwnFrom.and ((CmX.own w xt yt c).from _) (ownFrom_below (Nat.le_refl _) (by omega)))
    ⟨f2,f1⟩
    (fun x=>{ tmps:=#[.slice A xs.length ca,.slice B ys.length cb,.pointer (some ⟨w.heap.size,0,none⟩),.pointer (some ⟨w.heap.size + 1,0,none⟩),.pointer (some ⟨w.heap.size + 1 + 1,0,none⟩),.int .i64 (x.1.1 : Int),.slice A xs.length ca,.slice A xt.length ca,.slice B ys.length cb,.slice B yt.length cb,.slice A xt.length ca,.int .i64 (xt.length : Int),.slice B yt.length cb,.int .i64 (yt.length : Int),.bool false,undef,undef,undef,undef,undef,.slice A xt.length ca,.func (.func 298) #[] #[.pointer (some ⟨w.heap.size + 1 + 1 + 1,0,none⟩)],.int .i64 (x.1.1 : Int),.int .u32 (x.1.2 : Int),undef,undef,undef,undef,undef,undef,undef,undef,undef,undef,undef,undef,undef,undef,undef,undef,undef,undef],defers:=[] }) ?assign ?body ?done ?stop
   case assign =>
    intro l x W K hK
    gi_wp2
    exact hK
   case body =>
    rintro l pre x W ⟨⟨he,c0,c1,c2,c3⟩,hB⟩ _
    have hr1:=hta.below hB
    have hr2:=htb.below hB
    have hx1 : x.1.1 < xt.length:=x.2.1
    have hx2 : x.1.1 < yt.length:=by have:=HNE.out; omega
    obtain ⟨b1,o1,rfl,_,d1⟩:=hr1.at_ hx1
    obtain ⟨b2,o2,rfl,_,d2⟩:=hr2.at_ hx2
    have hpl : plc x = x.1.1:=rfl
    have hexit : xt[plc x]?.getD 0 ≠ yt[plc x]?.getD 0 → ∀ W',W'.cell? ⟨w.heap.size + 1 + 1,0,none⟩ = some (.int .i64 (cmpN (xt[x.1.1]?.getD 0) (yt[x.1.1]?.getD 0))) → CmX w xt yt .ret (pre ++ [x]) W':=fun h W' hc=>⟨rfl,pre,x,rfl,he,h,hc⟩
    have hgo : xt[plc x]?.getD 0 = yt[plc x]?.getD 0 → EqAt xt yt ((pre ++ [x]).map plc):=fun h j hj=>by
     rw [List.map_append,List.mem_append] at hj
     rcases hj with hj | hj
     ·exact he j hj
     ·rw [List.map_singleton,List.mem_singleton] at hj; rw [hj]; exact h
    rw [hpl] at hexit hgo
    clear hpl
    generalize x.1.1 = ix at *
    generalize hxe : xt[ix]?.getD 0 = xv at *
    generalize hye : yt[ix]?.getD 0 = yv at *
    clear hxe hye
    have HX:=Lib.hid hexit
    have HG:=Lib.hid hgo
    have HE:=Lib.hid he
    clear hexit hgo he
    by_cases hxy : xv = yv
    ·have hnb : ((xv : Int) != (yv : Int)) = false:=by simp [hxy]
     have hg:=HG.out hxy
     have HGG:=Lib.hid hg
     clear hg hxy
     gi_wp2_with fail
     refine wpIn_region_reads (by kernel_rfl) (by kernel_rfl) (by kernel_rfl) ?_
     repeat (gi_big_quiet_step (fail))
     refine wpQuietIn_nil ?_
     intro _ hw'
     obtain ⟨nq,hw''⟩:=hw'
     subst hw''
     gi_wp2
     exact ⟨⟨Nat.le_refl _,fun k o _ hk _=>hk⟩,fun h=>h,⟨HGG.out,c0,c1,c2,c3⟩,below_drewN hB _⟩
    ·have hnb : ((xv : Int) != (yv : Int)) = true:=by simp; omega
     have hg:=HX.out hxy
     have HGG:=Lib.hid hg
     clear hg hxy
     gi_wp2_with fail
     refine wpIn_region_reads (by kernel_rfl) (by kernel_rfl) (by kernel_rfl) ?_
     repeat (gi_big_quiet_step (fail))
     refine wpQuietIn_nil ?_
     intro _ hw'
     obtain ⟨nq,hw''⟩:=hw'
     subst hw''
     gi_wp2_with fail
     generalize hW2 : W.drewN nq = W2
     have c0' : W2.cell? ⟨w.heap.size,0,none⟩ = some (.slice (some ⟨b1,o1,none⟩) xt.length ca):=by rw [← hW2]; exact c0
     have c1' : W2.cell? ⟨w.heap.size + 1,0,none⟩ = some (.slice (some ⟨b2,o2,none⟩) yt.length cb):=by rw [← hW2]; exact c1
     have c2' : W2.cell? ⟨w.heap.size + 1 + 1,0,none⟩ = some (.int .i64 0):=by rw [← hW2]; exact c2
     have c3' : W2.frozen? ⟨w.heap.size + 1 + 1,0,none⟩ = false:=by rw [← hW2]; exact c3
     have d1' : W2.cell? ⟨b1,o1 + ix,none⟩ = some (.int .u32 (xv : Int)):=by rw [← hW2]; exact d1
     have d2' : W2.cell? ⟨b2,o2 + ix,none⟩ = some (.int .u32 (yv : Int)):=by rw [← hW2]; exact d2
     have HW2:=Lib.hid hW2
     clear hW2 c0 c1 c2 c3 d1 d2
     refine wpIn_region_reads_tail 9 (by kernel_rfl) (by kernel_rfl) (by kernel_rfl) ?_
     simp only [List.take_succ_cons,List.take_zero,List.drop_succ_cons,List.drop_zero]
     repeat (gi_big_quiet_step ((refine quiet_round l (compare_u32 xv yv _))))
     refine wpQuietIn_nil ?_
     intro _ hw'
     obtain ⟨nq2,hw''⟩:=hw'
     subst hw''
     gi_wp2
     have hk1 : KeepsFrom WL.heap.size W W2:=by rw [← HW2.out]; exact ⟨Nat.le_refl _,fun k o _ hk _=>hk⟩
     have hb1 : Below w.heap.size w W2:=by rw [← HW2.out]; exact below_drewN hB _
     have hs1 : (W2.setCell ⟨w.heap.size + 1 + 1,0,none⟩ (.int .i64 (cmpN xv yv))).cell? ⟨w.heap.size + 1 + 1,0,none⟩ = some (.int .i64 (cmpN xv yv)):=World.cell?_setCell_same' _ _ _ (by rw [c2']; rfl)
     have hk2:=hk1.trans ((KeepsOthers.setCell W2 ⟨w.heap.size + 1 + 1,0,none⟩ (.int .i64 (cmpN xv yv))).from _)
     exact ⟨⟨hk2.size,hk2.same⟩,HGG.out _ hs1,below_drewN (hb1.setCell (p:=⟨w.heap.size + 1 + 1,0,none⟩) (by simp; omega) _) _⟩
   case done =>
    rintro D ys W hD hds ⟨⟨he,c0,c1,c2,c3⟩,hB⟩ hK
    have HDS:=Lib.hid hds
    have HE:=Lib.hid he
    clear hds he
    gi_wp2
    have hK':=(KeepsOthers.setCell W ⟨w.heap.size + 1 + 1,0,none⟩ (.int .i64 0)).same D _ hK rfl
    refine ⟨by simp,.inl ⟨_,_,rfl,run_takeDeferred hK',?_⟩⟩
    have hc5:=cell_kept (World.cell?_setCell_same' W ⟨w.heap.size + 1 + 1,0,none⟩ (.int .i64 0) (by rw [c2]; rfl)) (grownBy_putObj' _ D (.deferred none)) (fun r e=>by cases e; exact ⟨_,hK',rfl⟩)
    have hfin : xt = yt:=eq_all HNE.out (by have h:=HE.out; rw [HDS.out] at h; exact h)
    refine ⟨.int .i64 0,by simp [results,Tryz.f201,go_sem,hc5],by rw [cmpN_eq (by rw [hfin])],(hB.setCell (p:=⟨w.heap.size + 1 + 1,0,none⟩) (by simp; omega) _).trans (belowK_b (w:=w) (Nat.le_refl _) _ D _ _ (by omega) hK' rfl rfl)⟩
   case stop =>
    rintro D c pre W hD ⟨k,hk,hp⟩ ⟨⟨rfl,ini,last,e1,e2,e3,hc⟩,hB⟩ hK
    have HP:=Lib.hid hp
    have HE1:=Lib.hid e1
    clear hp e1
    gi_wp2
    refine ⟨by simp,.inl ⟨_,_,rfl,run_takeDeferred hK,?_⟩⟩
    have hc5:=cell_kept hc (grownBy_putObj' _ D (.deferred none)) (fun r e=>by cases e; exact ⟨_,hK,rfl⟩)
    have hp:=HP.out
    rw [HE1.out] at hp
    have hfin:=cmp_stop hcx.1 hcy.1 HNE.out hk hp e2 e3
    rw [hfin] at hc5
    refine ⟨.int .i64 (cmpN (val xt) (val yt)),by simp [results,Tryz.f201,go_sem,hc5],rfl,hB.trans (belowK_b (w:=w) (Nat.le_refl _) W D _ _ (by omega) hK rfl rfl)⟩
 ·have hbn : ((xt.length : Int) != (yt.length : Int)) = true:=by simp; omega
  have hfin : cmpN xt.length yt.length = cmpN (val xt) (val yt):=by
   rcases Nat.lt_or_gt_of_ne hne with h | h
   ·rw [cmpN_lt h,cmpN_lt (can_len_lt hcx hcy h)]
   ·rw [cmpN_gt h,cmpN_gt (can_len_lt hcy hcx h)]
  rw [← hfin]
  clear hne hfin
  refine (callsIn_wide (n:=3)).1 ?_
  refine callsIn_of_wp_marks Tryz.func201 rfl trivial ?_ rfl
  simp only [Tryz.ntmps201,List.size_toArray,List.length_cons,List.length_nil,Nat.reduceAdd,Nat.reduceSub,Array.replicate_succ,Array.replicate_zero,List.push_toArray,List.append_toArray,List.nil_append,List.cons_append]
  gi_wp2_with fail
  refine Code.wpIn_mono (Q:=fun e a' w'=>e = .normal∧a' = { tmps:=#[.slice A xs.length ca,.slice B ys.length cb,.pointer (some ⟨w.heap.size,0,none⟩),.pointer (some ⟨w.heap.size + 1,0,none⟩),.pointer (some ⟨w.heap.size + 1 + 1,0,none⟩),undef,.slice A xs.length ca,.slice A xt.length ca,.slice B ys.length cb,.slice B yt.length cb,undef,undef,undef,undef,undef,undef,undef,undef,undef,undef,undef,undef,undef,undef,undef,undef,undef,undef,undef,undef,undef,undef,undef,undef,undef,undef,undef,undef,undef,undef,undef,undef],defers:=[] } ∧
   w' = (((w.alloc (.cells #[.slice A xt.length ca] 38)).alloc (.cells #[.slice B yt.length cb] 38)).alloc (.cells #[.int .i64 0] 3)).drew) ?cont ?reg
  case reg =>
   gi_region_with (first | (gi_at_call_has 176 (Value.slice A xs.length ca); refine (callsIn_wide.2 (H1.out _ ha3)).mono ?_; rintro e w1 ⟨rfl,rfl⟩) | (gi_at_call_has 176 (Value.slice B ys.length cb); refine (callsIn_wide.2 (H2.out _ hb3)).mono ?_; rintro e w1 ⟨rfl,rfl⟩))
   all_goals exact ⟨rfl,rfl,rfl⟩
  case cont =>
   rintro _ _ _ ⟨rfl,rfl,rfl⟩
   gi_wp2_with (gi_at_call 255; refine (callsIn_wide.2 (compare_int xt.length yt.length _)).mono ?_; rintro e w' ⟨rfl,rfl⟩)
   have q2:=Boxed.new ((w.alloc (.cells #[.slice A xt.length ca] 38)).alloc (.cells #[.slice B yt.length cb] 38)) 3 (.int .i64 (cmpN xt.length yt.length))
   simp only [World.size_alloc] at q2
   have hc5:=q2.cell
   refine ⟨.int .i64 (cmpN xt.length yt.length),?_,rfl,((((Below.refl _ w).alloc (Nat.le_refl _) _).alloc (by simp) _).alloc (by simp; omega) _).drew⟩
   simp [results,Tryz.f201,go_sem,hc5]
end LM
end Go.Proofs.YtaonablbgicmpaaGreatDoor
namespace Go.Proofs.YtaonablbgicmpaaGreatDoor
open Go.RowKit
namespace LM
def BIG (n : Nat) : Prop:=4294967296 ^ 64 ≤ n
theorem big_iff {xs : List Nat} (h : Can xs) : 64 < xs.length ↔ BIG (val xs):=can_len h 64
end LM
namespace LM
end LM
namespace LM
end LM
namespace LM
end LM
namespace LM
def sg (neg : Bool) (n : Nat) : Int:=if neg = true then -(n : Int) else (n : Int)
theorem sg_abs (neg : Bool) (n : Nat) : (sg neg n).natAbs = n:=by cases neg <;> simp [sg]
theorem sg_neg (neg : Bool) (n : Nat) : decide (sg neg n < 0) = (neg && decide (0 < n)):=by
 cases neg <;> simp [sg]
theorem sg_of (z : Int) : sg (decide (z < 0)) z.natAbs = z:=by
 by_cases h : z < 0 <;> simp [sg,h] <;> omega
theorem sg_zero (neg : Bool) : sg neg 0 = 0:=by cases neg <;> rfl
def IntV (w : World) (v : Value) (z : Int) : Prop:=∃ A c r,v = .agg #[.bool (decide (z < 0)),.slice A (List.length r) c]∧r.length ≤ c∧c ≤ 9223372036854775807∧Rd w A r∧Can r∧val r = z.natAbs
def IntR (w : World) (v : Value) (z : Int) : Prop:=∃ A c r,v = .agg #[.bool (decide (z < 0)),.slice A (List.length r) c]∧Rd w A r∧Can r∧val r = z.natAbs
theorem IntV.toR {w : World} {v : Value} {z : Int} (h : IntV w v z) : IntR w v z:=by
 obtain ⟨A,c,r,e,_,_,h3,h4,h5⟩:=h
 exact ⟨A,c,r,e,h3,h4,h5⟩
theorem IntV.keep {w w' : World} {v : Value} {z : Int} (h : IntV w v z) (hb : Below w.heap.size w w') : IntV w' v z:=by
 obtain ⟨A,c,r,e,h1,h2,h3,h4,h5⟩:=h
 exact ⟨A,c,r,e,h1,h2,h3.below hb,h4,h5⟩
theorem IntR.keep {w w' : World} {v : Value} {z : Int} (h : IntR w v z) (hb : Below w.heap.size w w') : IntR w' v z:=by
 obtain ⟨A,c,r,e,h3,h4,h5⟩:=h
 exact ⟨A,c,r,e,h3.below hb,h4,h5⟩
theorem IntV.open {w : World} {v : Value} {z : Int} (h : IntV w v z) : ∃ A n c,v = .agg #[.bool (decide (z < 0)),.slice A n c]∧n ≤ c∧c ≤ 9223372036854775807:=by
 obtain ⟨A,c,r,e,h1,h2,_⟩:=h
 exact ⟨A,_,c,e,h1,h2⟩
theorem can_pos {r : List Nat} (h : Can r) : 0 < r.length ↔ 0 < val r:=by
 rw [can_len h 0,Nat.pow_zero]
 exact Iff.rfl
theorem can_zero {r : List Nat} (h : Can r) : r.length = 0 ↔ val r = 0:=by
 have:=can_pos h
 omega
theorem not_big_len {r : List Nat} (h : Can r) (hl : r.length ≤ 64) : ¬ BIG (val r):=fun hb=>by
 have:=(big_iff h).2 hb
 omega
theorem len_not_big {r : List Nat} (h : Can r) (hb : ¬ BIG (val r)) : r.length ≤ 64:=by
 rcases Nat.lt_or_ge 64 r.length with h1 | h1
 ·exact absurd ((big_iff h).1 h1) hb
 ·exact h1
def BigI (z : Int) : Prop:=BIG z.natAbs
theorem bigI_sg (neg : Bool) (n : Nat) : BigI (sg neg n) ↔ BIG n:=by unfold BigI; rw [sg_abs]
/-! ### Sums,products,quotients,by sign and size -/
def cmpI (x y : Int) : Int:=if x < y then -1 else if y < x then 1 else 0
theorem cmpI_sg (s t : Bool) (m n : Nat) (hs : s = true → 0 < m) (ht : t = true → 0 < n) : cmpI (sg s m) (sg t n) = if s then (if t then cmpN n m else -1) else (if t then 1 else cmpN m n):=by
 cases s <;> cases t <;> simp [sg,cmpI,cmpN] at *
 ·have h1 : ¬ (m : Int) < -(n : Int):=by omega
  have h2 : -(n : Int) < (m : Int):=by omega
  rw [if_neg h1,if_pos h2]
 ·omega
instance : DecidablePred BigI:=fun z=>inferInstanceAs (Decidable (4294967296 ^ 64 ≤ z.natAbs))
/-! ### A struct's block -/
def Bx (w : World) (g : Nat) (b : Bool) (A : Option Addr) (n c : Nat) : Prop:=w.heap[g]? = some (.cells #[.bool b,.slice A n c] 40 (0,0))
theorem Bx.lt {w : World} {g : Nat} {b : Bool} {A : Option Addr} {n c : Nat} (h : Bx w g b A n c) : g < w.heap.size:=by
 rcases Nat.lt_or_ge g w.heap.size with hlt | hge
 ·exact hlt
 ·unfold Bx at h; rw [Array.getElem?_eq_none hge] at h; cases h
theorem Bx.facts {w : World} {g : Nat} {b : Bool} {A : Option Addr} {n c : Nat} (h : Bx w g b A n c) :
  w.cell? ⟨g,0,none⟩ = some (.bool b)∧w.cell? ⟨g,1,none⟩ = some (.slice A n c)∧w.frozen? ⟨g,0,none⟩ = false∧w.frozen? ⟨g,1,none⟩ = false∧g < w.heap.size:=by
 have hl:=h.lt
 unfold Bx at h
 exact ⟨by simp [World.cell?,h],by simp [World.cell?,h],by simp [World.frozen?,h],by simp [World.frozen?,h],hl⟩
theorem Bx.keep {w w' : World} {g B : Nat} {b : Bool} {A : Option Addr} {n c : Nat} (h : Bx w g b A n c) (hb : Below B w w') (hg : g < B) : Bx w' g b A n c:=(hb.block _ hg).trans h
theorem Bx.below {w w' : World} {g : Nat} {b : Bool} {A : Option Addr} {n c : Nat} (h : Bx w g b A n c) (hb : Below w.heap.size w w') : Bx w' g b A n c:=h.keep hb h.lt
theorem Bx.new (w : World) (b : Bool) (A : Option Addr) (n c : Nat) : Bx (w.alloc (.cells #[.bool b,.slice A n c] 40)) w.heap.size b A n c:=by
 unfold Bx World.alloc
 simp
theorem Bx.alloc {w : World} {g : Nat} {b : Bool} {A : Option Addr} {n c : Nat} (h : Bx w g b A n c) (o : Obj) : Bx (w.alloc o) g b A n c:=(Below.heap_alloc w o _ h.lt).trans h
theorem Bx.drew {w : World} {g : Nat} {b : Bool} {A : Option Addr} {n c : Nat} (h : Bx w g b A n c) : Bx w.drew g b A n c:=h
theorem Bx.set {w : World} {g : Nat} {b : Bool} {A : Option Addr} {n c : Nat} (h : Bx w g b A n c) {p : Addr} (v : Value) (hp : g ≠ p.block) : Bx (w.setCell p v) g b A n c:=(heap_setCell_other w p g v hp).trans h
theorem Bx.stored {w : World} {g : Nat} {b b' : Bool} {A A' : Option Addr} {n c n' c' : Nat} (h : Bx w g b A n c) : Bx ((w.setCell ⟨g,0,none⟩ (.bool b')).setCell ⟨g,1,none⟩ (.slice A' n' c')) g b' A' n' c':=by
 have h1:=heap_setCell_same w g 0 _ _ (.bool b') h
 have h2:=heap_setCell_same _ g 1 _ _ (.slice A' n' c') h1
 exact h2.trans rfl
theorem Rd.offBx {w : World} {g : Nat} {b : Bool} {A A' : Option Addr} {n c : Nat} {xs : List Nat} (h : Rd w A' xs) (hb : Bx w g b A n c) (hx : 0 < xs.length) : Off A' g:=by
 intro ad e e2
 obtain ⟨k,off,e3,hlt,hc⟩:=h hx
 rw [e3] at e
 injection e with e
 subst e
 obtain rfl : k = g:=e2
 have h0:=hc 0 hx
 unfold Bx at hb
 simp only [World.cell?,hb] at h0
 have : off = 0 ∨ off = 1 ∨ 2 ≤ off:=by omega
 rcases this with rfl | rfl | h2
 ·simp at h0
 ·simp at h0
 ·rw [Array.getElem?_eq_none (by simp; omega)] at h0
  simp at h0
theorem Rd.stored {w : World} {g : Nat} {b : Bool} {A A' : Option Addr} {n c : Nat} {xs : List Nat} (h : Rd w A' xs) (hb : Bx w g b A n c) (u v : Value) : Rd ((w.setCell ⟨g,0,none⟩ u).setCell ⟨g,1,none⟩ v) A' xs:=fun hx =>
 ((h.setCell (p:=⟨g,0,none⟩) (h.offBx hb hx) u).setCell (p:=⟨g,1,none⟩) (h.offBx hb hx) v) hx
theorem IntV.stored {w : World} {v : Value} {z : Int} (h : IntV w v z) {g : Nat} {b : Bool} {A : Option Addr} {n c : Nat} (hb : Bx w g b A n c) (u u' : Value) : IntV ((w.setCell ⟨g,0,none⟩ u).setCell ⟨g,1,none⟩ u') v z:=by
 obtain ⟨A,c,r,e,h1,h2,h3,h4,h5⟩:=h
 exact ⟨A,c,r,e,h1,h2,h3.stored hb u u',h4,h5⟩
theorem IntR.stored {w : World} {v : Value} {z : Int} (h : IntR w v z) {g : Nat} {b : Bool} {A : Option Addr} {n c : Nat} (hb : Bx w g b A n c) (u u' : Value) : IntR ((w.setCell ⟨g,0,none⟩ u).setCell ⟨g,1,none⟩ u') v z:=by
 obtain ⟨A,c,r,e,h3,h4,h5⟩:=h
 exact ⟨A,c,r,e,h3.stored hb u u',h4,h5⟩
theorem below_stored {w w2 : World} {B : Nat} (h : Below B w w2) {g : Nat} (hg : B ≤ g) (u u' : Value) : Below B w ((w2.setCell ⟨g,0,none⟩ u).setCell ⟨g,1,none⟩ u'):=(h.setCell (p:=⟨g,0,none⟩) hg u).setCell (p:=⟨g,1,none⟩) hg u'
theorem stored_world {w w2 : World} {g B : Nat} {b : Bool} {A : Option Addr} {n c : Nat} (Y : Bx w2 g b A n c) (hb : Below B w w2) (hg : B ≤ g) (s : Bool) (A' : Option Addr) (n' c' : Nat) :
  ∃ W,(w2.setCell ⟨g,0,none⟩ (.bool s)).setCell ⟨g,1,none⟩ (.slice A' n' c') = W∧Bx W g s A' n' c'∧Below B w W∧(∀ v z,IntV w2 v z → IntV W v z)∧(∀ v z,IntR w2 v z → IntR W v z) ∧
   (∀ k b1 A1 n1 c1,k ≠ g → Bx w2 k b1 A1 n1 c1 → Bx W k b1 A1 n1 c1)∧(∀ A1 xs,Rd w2 A1 xs → Rd W A1 xs) :=
 ⟨_,rfl,Y.stored,below_stored hb hg _ _,fun _ _ h=>h.stored Y _ _,fun _ _ h=>h.stored Y _ _,fun _ _ _ _ _ hk h=>(h.set (p:=⟨g,0,none⟩) _ hk).set (p:=⟨g,1,none⟩) _ hk,fun _ _ h=>h.stored Y _ _⟩
theorem Bx.c0 {w : World} {g : Nat} {b : Bool} {A : Option Addr} {n c : Nat} (h : Bx w g b A n c) : w.cell? ⟨g,0,none⟩ = some (.bool b):=h.facts.1
theorem Bx.c1 {w : World} {g : Nat} {b : Bool} {A : Option Addr} {n c : Nat} (h : Bx w g b A n c) : w.cell? ⟨g,1,none⟩ = some (.slice A n c):=h.facts.2.1
end LM
end Go.Proofs.YtaonablbgicmpaaGreatDoor
namespace Go.Proofs.YtaonablbgicmpaaGreatDoor
open Go.RowKit Go.Shelf
attribute [local go_sem] Oper.semAt_some
namespace LM
attribute [local go_sem] round_fn wide_fn
end LM
end Go.Proofs.YtaonablbgicmpaaGreatDoor
namespace Go.Proofs.YtaonablbgicmpaaGreatDoor
open Go Go.RowKit
namespace LM
section
variable {F : Fence} {n : Nat} {P : Program} {ops : Array Oper} {C : World → Prop} {md : Region.Mode} {Q : Exit → Act → World → Prop} {E : Nat → Bool}
end
section
variable {w w' : World} {p g : Nat} {v u : Value} {cs : List Value}
end
section
variable {w0 W W' : World} {xs ys : List Nat} {s k : Nat} {b7 b8 : Bool} {v8 v9 v44 v47 v48 : Value}
end
end LM
namespace LM
end LM
end Go.Proofs.YtaonablbgicmpaaGreatDoor
namespace Go.Proofs.YtaonablbgicmpaaGreatDoor
open Go.RowKit
namespace LM
def sameB (xs ys : List Nat) : Bool:=decide (xs = ys)
theorem take_succ_eq {xs ys : List Nat} {k : Nat} (h : xs.take k = ys.take k) (hx : k < xs.length) (hy : k < ys.length) (he : xs[k]?.getD 0 = ys[k]?.getD 0) : xs.take (k + 1) = ys.take (k + 1):=by
 rw [List.getElem?_eq_getElem hx,List.getElem?_eq_getElem hy] at he
 have e : xs[k] = ys[k]:=he
 rw [List.take_succ_eq_append_getElem hx,List.take_succ_eq_append_getElem hy,h,e]
theorem same_any (A B : Option Addr) (ca cb : Nat) (xs ys : List Nat) (w : World) (ha : Rd w A xs) (hb : Rd w B ys) (hl : xs.length ≤ 1000000) :
  Calls Tryz.prog 118 #[.slice A xs.length ca,.slice B ys.length cb] w fun e w'=>e = .returned (.bool (sameB xs ys))∧Below w.heap.size w w':=by
 by_cases hne : xs.length = ys.length
 ·have HNE:=Lib.hid hne
  have hbn : ((xs.length : Int) != (ys.length : Int)) = false:=by simp [hne]
  clear hne
  go_enter Tryz.func118,Tryz.ntmps118
  go_wp2
  go_loopw [13] (fun i wr=>∃ k q : Nat,k ≤ xs.length∧i = .int .i64 (k : Int)∧Hid (xs.take k = ys.take k)∧wr = w.drewN q) (fun i _=>xs.length - (intOf i).toNat)
  case atStart=>exact ⟨0,0,Nat.zero_le _,rfl,Lib.hid rfl,rfl⟩
  case round =>
   obtain ⟨k,q,hk,rfl,HT,hwr⟩:=hrel
   have hra : Rd wr A xs:=by rw [hwr]; exact ha.drewN q
   have hrb : Rd wr B ys:=by rw [hwr]; exact hb.drewN q
   have HWR:=Lib.hid hwr
   clear hwr
   by_cases hlt : k < xs.length
   ·have hly : k < ys.length:=by have:=HNE.out; omega
    obtain ⟨b1,o1,rfl,_,c1⟩:=hra.at_ hlt
    obtain ⟨b2,o2,rfl,_,c2⟩:=hrb.at_ hly
    have hst:=fun he=>take_succ_eq HT.out hlt hly he
    have hfx : sameB xs ys = true → xs[k]?.getD 0 = ys[k]?.getD 0:=fun h=>by rw [of_decide_eq_true h]
    generalize hxe : xs[k]?.getD 0 = x at *
    generalize hye : ys[k]?.getD 0 = y at *
    have HST:=Lib.hid hst
    have HFX:=Lib.hid hfx
    clear hst hfx hxe hye
    by_cases hxy : x = y
    ·have hnb : ((x : Int) != (y : Int)) = false:=by simp [hxy]
     have HT2:=Lib.hid (HST.out hxy)
     clear hxy
     go_wp2_with fail
     go_quiet (fail)
     go_wp2
     go_roundw
     case rel=>exact ⟨k + 1,q + nq,by omega,by go_num,HT2,by rw [HWR.out,World.drewN_drewN]⟩
     case measure=>simp [intOf]; omega
    ·have hnb : ((x : Int) != (y : Int)) = true:=by simp; omega
     have hf : sameB xs ys = false:=by
      cases h : sameB xs ys with
      | false=>rfl
      | true=>exact absurd (HFX.out h) hxy
     have HF:=Lib.hid hf
     clear hxy hf
     go_wp2_with fail
     go_quiet (fail)
     go_wp2
     go_ret
     exact ⟨by rw [HF.out]; rfl,by rw [HWR.out]; exact below_drewN (below_drewN (Below.refl _ _) _) _⟩
   ·obtain rfl : k = xs.length:=by omega
    have hf : sameB xs ys = true:=by
     have h:=HT.out
     rw [List.take_length,List.take_of_length_le (by have:=HNE.out; omega)] at h
     exact decide_eq_true h
    have HF:=Lib.hid hf
    clear hf
    go_wp2
    go_ret
    exact ⟨by rw [HF.out]; rfl,by rw [HWR.out]; exact below_drewN (Below.refl _ _) _⟩
 ·have hbn : ((xs.length : Int) != (ys.length : Int)) = true:=by simp; omega
  have hf : sameB xs ys = false:=decide_eq_false (fun h=>hne (by rw [h]))
  rw [hf]
  clear hf hne
  go_enter Tryz.func118,Tryz.ntmps118
  go_wp2
  go_ret
  exact ⟨rfl,Below.refl _ _⟩
end LM
namespace LM
end LM
end Go.Proofs.YtaonablbgicmpaaGreatDoor
