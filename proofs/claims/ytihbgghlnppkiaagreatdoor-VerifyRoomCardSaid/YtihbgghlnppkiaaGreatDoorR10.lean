import Derived.Sort.AtCallIn
import Derived.Lib.BitFns
import Derived.Test.YtihbgghlnppkiaaGreatDoorR07
import Derived.Test.YtihbgghlnppkiaaGreatDoorR01
import Derived.Test.YtihbgghlnppkiaaGreatDoorR09
import Derived.Test.YtihbgghlnppkiaaGreatDoorR04
import Derived.Test.YtihbgghlnppkiaaGreatDoorR06
import Derived.Test.YtihbgghlnppkiaaGreatDoorR05
import Derived.Test.YtihbgghlnppkiaaGreatDoorR12
import Derived.Test.YtihbgghlnppkiaaGreatDoorR13
import Derived.Test.YtihbgghlnppkiaaGreatDoorR16
import Derived.Lib.AtoiErrMem
set_option linter.unusedVariables false
set_option linter.unusedSimpArgs false
set_option maxRecDepth 100000
set_option maxHeartbeats 16000000
namespace Go.Proofs.YtihbgghlnppkiaaGreatDoor
open Go.RowKit Go.Shelf
attribute [local go_sem] Oper.semAt_some
namespace LM
attribute [local go_sem] round_fn wide_fn
theorem lead (y : Nat) (h0 : 0 < y) (h : y < 4294967296) : ∃ s : Nat,s < 32∧32 - (Lib.bitLen y : Int) = (s : Int)∧y * 2 ^ s < 4294967296:=by
  have h1:=Nat.log2_self_le (n:=y) (by omega)
  have h2:=Nat.lt_log2_self (n:=y)
  have hk : y.log2 < 32:=by
    rcases Nat.lt_or_ge y.log2 32 with h3 | h3
    · exact h3
    · have:=Nat.pow_le_pow_right (n:=2) (by decide) h3; omega
  have e : y / 2 ^ y.log2 = 1:=by
    apply Nat.div_eq_of_lt_le
    · omega
    · rw [Nat.pow_succ] at h2; omega
  have hb:=Lib.bitLen_shift y.log2 y h1 (by omega)
  rw [e] at hb
  have h5 : Lib.bitLen 1 = 1:=by decide
  rw [h5] at hb
  refine ⟨31 - y.log2,by omega,by rw [hb]; omega,?_⟩
  have h6:=Nat.mul_lt_mul_of_pos_right h2 (show 0 < 2 ^ (31 - y.log2) from Nat.pow_pos (by decide))
  rw [← Nat.pow_add,show y.log2 + 1 + (31 - y.log2) = 32 from by omega] at h6
  exact h6
end LM
attribute [local go_sem] Oper.semAt_some
namespace LM
attribute [local go_sem] round_fn wide_fn
theorem tab_below {P : Program} {w w' : World} {name : String} {k : IntKind} {zs : List Int} (h : Lib.TabIs P w name k zs) (hb : Below w.heap.size w w') : Lib.TabIs P w' name k zs:=by
  unfold Lib.TabIs World.var? at *
  cases hg : P.globalNamed name with
  | none=>simp [hg] at h
  | some g =>
    simp only [hg,Option.bind_some] at h ⊢
    rcases Nat.lt_or_ge g w.heap.size with hl | hl
    · rw [hb.block g hl]; exact h
    · rw [Array.getElem?_eq_none hl] at h; simp at h
theorem builderAt_kept {T e : TypeId} {B b : Nat} {p : Value} {bs : List Value} {W W' : World} {row : Option Nat} (h : Lib.BuilderAtF T e B b p bs W) (hg : W.grownBy W' row) (hr : ∀ r,row = some r → ∃ o : Obj,W.heap[r]? = some o∧o.isCells = false) : Lib.BuilderAtF T e B b p bs W':=by
  obtain ⟨hB,v,hv,hown,hne⟩:=h
  refine ⟨hB,v,heap_kept hv hg hr,hown.kept hg ?_,hne⟩
  rcases hown.2 with ⟨rfl,_⟩ | ⟨g,cap,cur,fz,rfl,_,hgc,_⟩
  · exact .inl rfl
  · refine .inr fun e2=>?_
    obtain ⟨o,ho,hc⟩:=hr g e2.symm
    rw [hgc] at ho; injection ho with ho; subst ho; cases hc
theorem builder_kept {T e : TypeId} {B b : Nat} {bs : List Value} {W W' : World} {row : Option Nat} (h : Lib.IsBuilderF T e B b bs W) (hg : W.grownBy W' row) (hr : ∀ r,row = some r → ∃ o : Obj,W.heap[r]? = some o∧o.isCells = false) : Lib.IsBuilderF T e B b bs W' :=
  h.elim (fun x=>.inl (builderAt_kept x hg hr)) (fun x=>.inr (builderAt_kept x hg hr))
theorem builder_below {T e : TypeId} {B b : Nat} {bs : List Value} {W W' : World} (h : Lib.IsBuilderF T e B b bs W) (hb : Below W.heap.size W W') : Lib.IsBuilderF T e B b bs W' :=
  builder_kept (row:=none) h ⟨hb.os,hb.tape,hb.output,hb.size,fun k hk _=>hb.block k hk⟩ (fun r e=>by cases e)
theorem keeps8_below {B : Nat} {W W' : World} (h : Below W.heap.size W W') : Keeps8 B W W':=⟨h.size,fun k _ _ hk _=>(h.block k (Array.getElem?_eq_some_iff.1 hk).1).trans hk⟩
theorem keeps8_others {B b : Nat} {W W' : World} (h : Lib.OthersKept 5 (some b) W W') (hs : W.heap.size ≤ W'.heap.size) (hb : b < B) : Keeps8 B W W' :=
  ⟨hs,fun k o hB hk ho=>h k o hk (fun e=>by injection e with e; omega) (fun c fz e=>by subst e; cases ho)⟩
def TxI (w : World) (pre : List Nat) (W : World) : Prop :=
  Lib.IsBuilderF 115 5 w.heap.size w.heap.size (Lib.byteCells (tx pre)) W∧Below w.heap.size w W
theorem TxI.own {w : World} {B : Nat} (hB : w.heap.size ≤ B) : OwnFrom B (TxI w):=fun _ _ _ _ hs hg hr =>
  ⟨builder_kept hs.1 hg (fun r e=>(hr r e).2),hs.2.grown hg hs.2.size (fun r e=>Nat.le_trans hB (hr r e).1)⟩
theorem text_main (A : Option Addr) (cap : Nat) (xs : List Nat) (w : World) (ha : Rd w A xs) (hA : ∀ ad,A = some ad → ad.block < w.heap.size) (hx : Lm xs) (hca : xs.length ≤ cap) (hcam : cap ≤ 9223372036854775807) (hnb : ¬ BIG (val xs)) (h0 : 0 < val xs)
    (htab : Lib.TabIs Tryz.prog w "internal/strconv.uint64pow10" .u64 Lib.pow10Tab) :
    Calls Tryz.prog 108 #[.slice A xs.length cap] w fun e w'=>e = .returned (.string ⟨(Lib.decDigits (val xs)).toArray⟩)∧Below w.heap.size w w':=by
  have H1:=Lib.hid (trimmed_any A cap xs w ha hca (by unfold maxLen; omega))
  have hta:=ha.trim
  have hcx:=can_trim hx
  have hlx:=trim_length_le xs
  rw [← val_trim xs] at hnb h0 ⊢
  generalize trim xs = xt at *
  have b1 : ¬ 64 < xt.length:=fun h=>hnb ((big_iff hcx).1 h)
  have hd : decide (64 < xt.length) = false:=decide_eq_false b1
  have hpl : 0 < xt.length:=by
    rcases Nat.eq_zero_or_pos xt.length with h | h
    · rw [List.eq_nil_of_length_eq_zero h] at h0; cases h0
    · exact h
  have hpz : ((xt.length : Int) == 0) = false:=by rw [beq_eq_false_iff_ne]; omega
  have I1 : ∀ W,Calls Tryz.prog 124 #[.slice A xt.length cap] W fun e w'=>e = .returned (.bool (decide (64 < xt.length)))∧W = w':=fun W=>isBig_any A xt.length cap W (by unfold maxLen; omega)
  have HI:=Lib.hid I1
  have HTAB:=Lib.hid htab
  have H0:=Lib.hid h0
  have HNB:=Lib.hid hnb
  clear I1 ha htab h0 hnb
  refine (callsIn_wide (n:=10)).1 ?_
  refine callsIn_of_wp_marks Tryz.func108 rfl trivial ?_ rfl
  simp only [Tryz.ntmps108,List.size_toArray,List.length_cons,List.length_nil,Nat.reduceAdd,Nat.reduceSub,Array.replicate_succ,Array.replicate_zero,List.push_toArray,List.append_toArray,List.nil_append,List.cons_append]
  gi_wp2_with fail
  refine (callsIn_wide.2 H1.out).mono ?_; rintro e w1 ⟨rfl,rfl⟩
  gi_wp2_with fail
  refine (callsIn_wide.2 (HI.out _)).mono ?_; rintro e w1 ⟨rfl,rfl⟩
  gi_wp2_with fail
  refine (callsIn_wide.2 (parts_call A xt.length cap _)).mono ?_; rintro e w1 ⟨rfl,rfl⟩
  gi_wp2_with fail
  generalize hWL : World.alloc _ _ = WL
  have f0 : WL.heap.size = w.heap.size + 2:=by rw [← hWL]; simp
  have fI : TxI w [] WL:=by
    rw [← hWL]
    exact ⟨(Lib.IsBuilderF.of (Lib.fresh_isBuilder _ _ w)).alloc _,((Below.refl _ w).alloc (Nat.le_refl _) _).alloc (by simp) _⟩
  have fB : SBox WL (w.heap.size + 1) (.slice A xt.length cap):=by rw [← hWL]; have h:=SBox.new (w.alloc (.cells #[.pointer none,.slice none 0 0] 115)) (.slice A xt.length cap); rwa [World.size_alloc] at h
  have hWb:=fI.2
  have hlt : ∀ ad,A = some ad → ad.block < WL.heap.size:=fun ad e=>by have:=hA ad e; omega
  clear hWL
  refine range_all rfl (by decide) (gf:=147) (lb:=#[.pointer (some ⟨w.heap.size + 1,0,none⟩)]) rfl trivial (enters_of Tryz.func147 (by kernel_rfl) rfl)
    (parts_all 9 (by decide) (w.heap.size + 1) A cap xt WL fB (hta.below hWb) hlt hcx H0.out HNB.out (by omega) hcam (by omega))
    (Below.refl _ _) (fun _=>rfl) (TxI w) (TxI.own (by omega)) (fun _ _ _=>trivial) fI
    (fun x=>{ tmps:=#[.slice A xt.length cap,undef,.string ⟨#[]⟩,.pointer (some ⟨w.heap.size,0,none⟩),.int .u32 (x : Int),undef,.slice A xs.length cap,.slice A xt.length cap,.slice A xt.length cap,.bool false,.slice A xt.length cap,.int .i64 (xt.length : Int),.bool false,.slice A xt.length cap,.func (.func 147) #[] #[.pointer (some ⟨w.heap.size + 1,0,none⟩)],.int .u32 (x : Int),undef,undef,undef,undef,undef,undef,undef,undef,undef,undef,undef,undef,undef],defers:=[] }) ?assign ?body ?done
  case assign =>
    intro l2 x W2 K hK
    gi_wp2
    exact hK
  case body =>
    rintro l2 pre x Wb ⟨j1,j2⟩ ⟨hPr,hPl⟩
    have hx9 : x < 1000000000:=by
      refine parts_lt (val xt) x ?_
      have h1 : x ∈ pre ++ [x]:=by simp
      rw [hPr] at h1
      exact List.mem_of_mem_take h1
    have hpre : pre = (partsOf (val xt)).take pre.length:=by
      have h1:=congrArg (List.take pre.length) hPr
      rw [List.take_left,List.take_take,Nat.min_eq_left (by simp)] at h1
      exact h1
    have hpos : pre ≠ [] → 0 < vp pre:=fun hn=>by
      rw [hpre] at hn ⊢
      exact parts_take_pos hn
    have hlen : pre.length ≤ 69:=by
      have h1:=parts_few HNB.out
      unfold partsOf at hPl
      rw [List.length_append,List.length_reverse] at hPl
      omega
    have htl : (tx pre).length ≤ 9 * pre.length:=tx_len fun y hy=>by rw [hpre] at hy; exact parts_lt _ y (List.mem_of_mem_take hy)
    obtain ⟨ds,hds⟩ : ∃ ds : ByteArray,ds = ⟨(Lib.decDigits x).toArray⟩:=⟨_,rfl⟩
    have hfm:=fmt_any x (by omega) Wb (tab_below HTAB.out j2)
    rw [← hds] at hfm
    have hdsz : ds.size = Lib.nDigits x:=by rw [hds,← Lib.decDigits_length]; simp [ByteArray.size]
    have hd9 : ds.size ≤ 9:=by rw [hdsz]; exact nDigits_le (k:=8) (by simpa using hx9)
    have hdc : Lib.strCells ds = Lib.byteCells (Lib.decDigits x):=by rw [hds]; rfl
    obtain ⟨rs,hrs⟩ : ∃ rs : ByteArray,rs = ⟨(Lib.repeatL [48] (9 - ds.size)).toArray⟩:=⟨_,rfl⟩
    have hrp : ∀ W,Calls Tryz.prog 128 #[.string ⟨#[48]⟩,.int .i64 ((9 - ds.size : Nat) : Int)] W fun e w'=>e = .returned (.string rs)∧Below W.heap.size W w':=fun W=>by
      rw [hrs]
      exact Tryz.strings_Repeat ⟨#[48]⟩ (9 - ds.size) W (by omega) (by show 1 * (9 - ds.size) ≤ _; omega)
    have hrsz : rs.size ≤ 9:=by
      have e : rs.size = (Lib.repeatL [48] (9 - ds.size)).length:=by rw [hrs]; rfl
      rw [Lib.repeatL_length,List.length_singleton] at e
      omega
    have hrc : Lib.strCells rs = Lib.byteCells (Lib.repeatL [48] (9 - ds.size)):=by rw [hrs]; rfl
    have hsub : (9 : Int) - (ds.size : Int) = ((9 - ds.size : Nat) : Int):=by omega
    have HFM:=Lib.hid hfm
    have HRP:=Lib.hid hrp
    have HPOS:=Lib.hid hpos
    have HDC:=Lib.hid hdc
    have HRC:=Lib.hid hrc
    have HDSZ:=Lib.hid hdsz
    obtain ⟨L,hL⟩ : ∃ L,(tx pre).length = L:=⟨_,rfl⟩
    rw [hL] at htl
    have HL:=Lib.hid hL
    clear hpre hpos hPr hPl hfm hrp hdc hrc hds hrs hdsz hL
    gi_wp2_with fail
    refine (CallsIn.inRound l2 (callsIn_wide.2 HFM.out)).mono ?_
    rintro e W1 ⟨rfl,hb1⟩
    have k1:=builder_below j1 hb1
    have hln:=Tryz.Builder_Len_f _ _ _ _ k1
    rw [Lib.byteCells_length,HL.out] at hln
    have hbw1 : w.heap.size ≤ W1.heap.size:=Nat.le_trans j2.size hb1.size
    gi_wp2_with fail
    refine (CallsIn.inRound l2 (callsIn_wide.2 hln)).mono ?_
    rintro e W2 ⟨rfl,rfl⟩
    clear hln
    by_cases hp : pre = []
    · have hL0 : L = 0:=by rw [← HL.out,hp]; rfl
      have hd : decide (0 < L) = false:=decide_eq_false (by omega)
      have HP:=Lib.hid hp
      clear hL0 hp
      gi_wp2_with fail
      refine (CallsIn.inRound l2 (callsIn_wide.2 (wstr_any _ _ _ ds _ k1 (by rw [Lib.byteCells_length,HL.out]; omega) hbw1))).mono ?_
      rintro e W3 ⟨rfl,h3,b3,k3⟩
      gi_wp2
      refine ⟨(keeps8_below hb1).trans (keeps8_others k3 b3.size (by omega)),?_,(j2.trans (hb1.mono j2.size)).trans b3⟩
      rw [HDC.out,HP.out,tx_nil,← Lib.byteCells_append,List.nil_append] at h3
      rw [HP.out,tx_first]
      exact .inr h3
    · have hL0 : 0 < L:=by rw [← HL.out]; exact tx_len_pos hp
      have hd : decide (0 < L) = true:=decide_eq_true hL0
      have HP:=Lib.hid hp
      clear hp
      gi_wp2_with fail
      refine (CallsIn.inRound l2 (callsIn_wide.2 (HRP.out _))).mono ?_
      rintro e W3 ⟨rfl,hb3⟩
      have k4:=builder_below k1 hb3
      have hbw3 : w.heap.size ≤ W3.heap.size:=Nat.le_trans hbw1 hb3.size
      gi_wp2_with fail
      refine (CallsIn.inRound l2 (callsIn_wide.2 (wstr_any _ _ _ rs _ k4 (by rw [Lib.byteCells_length,HL.out]; omega) hbw3))).mono ?_
      rintro e W4 ⟨rfl,h4,b4,k5⟩
      have hbw4 : w.heap.size ≤ W4.heap.size:=Nat.le_trans hbw3 b4.size
      gi_wp2_with fail
      refine (CallsIn.inRound l2 (callsIn_wide.2 (wstr_any _ _ _ ds _ (.inr h4) (by rw [List.length_append,Lib.byteCells_length,Lib.strCells_length,HL.out]; omega) hbw4))).mono ?_
      rintro e W5 ⟨rfl,h5,b5,k6⟩
      gi_wp2
      refine ⟨(((keeps8_below hb1).trans (keeps8_below hb3)).trans (keeps8_others k5 b4.size (by omega))).trans (keeps8_others k6 b5.size (by omega)),?_,(((j2.trans (hb1.mono j2.size)).trans (hb3.mono hbw1)).trans b4).trans b5⟩
      rw [HDC.out,HRC.out,← Lib.byteCells_append,← Lib.byteCells_append,HDSZ.out,List.append_assoc,← tx_next HP.out (HPOS.out HP.out) hx9] at h5
      exact .inr h5
  case done =>
    rintro D zs Wd hD hS ⟨j1,j2⟩ hK
    have HS:=Lib.hid hS
    clear hS
    gi_wp2_with fail
    refine (callsIn_wide.2 (Tryz.Builder_String_any_k _ _ _ _ j1 j2.size)).mono ?_
    rintro e W3 ⟨rfl,_,b3,k3⟩
    have hK3:=k3 D _ hK (fun e=>by injection e with e; omega) (fun _ _ e=>by cases e)
    gi_wp2
    refine ⟨by simp,.inl ⟨_,_,rfl,run_takeDeferred hK3,?_⟩⟩
    refine ⟨_,results_tmp rfl _ _ _,?_,?_⟩
    · rw [HS.out,tx_parts H0.out]
      rfl
    · exact (j2.trans b3).grown (grownBy_putObj' W3 D _) (by have:=j2.size; have:=b3.size; omega) (fun r e=>by cases e; omega)
def TextE (n : Nat) (e : Ending) : Prop:=∃ l : List UInt8,e = .returned (.string ⟨l.toArray⟩)∧((BIG n∧l = []) ∨ (¬ BIG n∧l = Lib.decDigits n))
theorem text_any (A : Option Addr) (cap : Nat) (xs : List Nat) (w : World) (ha : Rd w A xs) (hA : ∀ ad,A = some ad → ad.block < w.heap.size) (hx : Lm xs) (hca : xs.length ≤ cap) (hcam : cap ≤ 9223372036854775807)
    (htab : Lib.TabIs Tryz.prog w "internal/strconv.uint64pow10" .u64 Lib.pow10Tab) :
    Calls Tryz.prog 108 #[.slice A xs.length cap] w fun e w'=>TextE (val xs) e∧Below w.heap.size w w':=by
  rcases Nat.eq_zero_or_pos (val xs) with h0 | h0
  · have H1:=Lib.hid (trimmed_any A cap xs w ha hca (by unfold maxLen; omega))
    rw [h0]
    have ht:=trim_nil_iff.2 h0
    rw [ht] at H1
    have I1 : ∀ W,Calls Tryz.prog 124 #[.slice A ([] : List Nat).length cap] W fun e w'=>e = .returned (.bool (decide (64 < ([] : List Nat).length)))∧W = w':=fun W=>isBig_any A _ cap W (by unfold maxLen; simp)
    have HI:=Lib.hid I1
    clear I1 ht h0
    go_enter Tryz.func108,Tryz.ntmps108
    go_wp2_with fail
    refine H1.out.mono ?_; rintro e w1 ⟨rfl,rfl⟩
    go_wp2_with fail
    refine (HI.out _).mono ?_; rintro e w1 ⟨rfl,rfl⟩
    go_wp2
    go_ret
    refine ⟨⟨[48],rfl,.inr ⟨fun h=>?_,by rw [Lib.decDigits_one (by decide)]; rfl⟩⟩,Below.refl _ _⟩
    have:=Nat.lt_of_lt_of_le (Nat.pow_pos (show 0 < 4294967296 from by decide)) h
    cases this
  · by_cases hb : BIG (val xs)
    · have H1:=Lib.hid (trimmed_any A cap xs w ha hca (by unfold maxLen; omega))
      have hlx:=trim_length_le xs
      have b1 : 64 < (trim xs).length:=(big_trim hx).2 hb
      generalize (trim xs).length = m at *
      have hd : decide (64 < m) = true:=decide_eq_true b1
      have I1 : ∀ W,Calls Tryz.prog 124 #[.slice A m cap] W fun e w'=>e = .returned (.bool (decide (64 < m)))∧W = w':=fun W=>isBig_any A m cap W (by unfold maxLen; omega)
      have HI:=Lib.hid I1
      have HB:=Lib.hid hb
      clear I1 hb h0
      go_enter Tryz.func108,Tryz.ntmps108
      go_wp2_with fail
      refine H1.out.mono ?_; rintro e w1 ⟨rfl,rfl⟩
      go_wp2_with fail
      refine (HI.out _).mono ?_; rintro e w1 ⟨rfl,rfl⟩
      go_wp2
      go_ret
      exact ⟨⟨[],rfl,.inl ⟨HB.out,rfl⟩⟩,Below.refl _ _⟩
    · exact (text_main A cap xs w ha hA hx hca hcam hb h0 htab).mono fun e w' ⟨he,hw⟩=>⟨⟨_,he,.inr ⟨hb,rfl⟩⟩,hw⟩
end LM
end Go.Proofs.YtihbgghlnppkiaaGreatDoor
namespace Go.Proofs.YtihbgghlnppkiaaGreatDoor
open Go.RowKit
namespace LM
theorem text_row (A : Option Addr) (cap : Nat) (xs : List Nat) (w : World) (ha : Rd w A xs) (hx : Lm xs) (hca : xs.length ≤ cap) (hcam : cap ≤ 9223372036854775807)
    (htab : Lib.TabIs Tryz.prog w "internal/strconv.uint64pow10" .u64 Lib.pow10Tab) :
    Calls Tryz.prog 108 #[.slice A xs.length cap] w fun e w'=>TextE (val xs) e∧Below w.heap.size w w':=by
  rcases Nat.eq_zero_or_pos xs.length with h0 | h0
  · obtain rfl:=List.eq_nil_of_length_eq_zero h0
    have H1:=Lib.hid (trimmed_any A cap [] w ha hca (by unfold maxLen; omega))
    rw [show trim [] = [] from rfl] at H1
    have I1 : ∀ W,Calls Tryz.prog 124 #[.slice A ([] : List Nat).length cap] W fun e w'=>e = .returned (.bool (decide (64 < ([] : List Nat).length)))∧W = w':=fun W=>isBig_any A _ cap W (by unfold maxLen; simp)
    have HI:=Lib.hid I1
    clear I1 h0 htab
    go_enter Tryz.func108,Tryz.ntmps108
    go_wp2_with fail
    refine H1.out.mono ?_; rintro e w1 ⟨rfl,rfl⟩
    go_wp2_with fail
    refine (HI.out _).mono ?_; rintro e w1 ⟨rfl,rfl⟩
    go_wp2
    go_ret
    refine ⟨⟨[48],rfl,.inr ⟨fun h=>?_,by rw [show val [] = 0 from rfl,Lib.decDigits_one (by decide)]; rfl⟩⟩,Below.refl _ _⟩
    have:=Nat.lt_of_lt_of_le (Nat.pow_pos (show 0 < 4294967296 from by decide)) h
    cases this
  · refine text_any A cap xs w ha (fun ad e=>?_) hx hca hcam htab
    obtain ⟨b,off,e1,hb,_⟩:=ha h0
    rw [e1] at e
    injection e with e
    subst e
    exact hb
theorem dec_first (u : Nat) (hu : 0 < u) : ∃ c r,Lib.decDigits u = c :: r∧c ≠ 48:=by
  induction u using Nat.strongRecOn with
  | ind u ih =>
    by_cases h : u < 10
    · rw [Lib.decDigits_one h]
      refine ⟨_,[],rfl,fun e=>?_⟩
      have e1 : (UInt8.ofNat (48 + u)).toNat = 48 + u:=by simp; omega
      rw [e] at e1
      have e2 : (48 : UInt8).toNat = 48:=rfl
      omega
    · rw [dec_big h]
      obtain ⟨c,r,e,hc⟩:=ih (u / 10) (by omega) (by omega)
      rw [e]
      exact ⟨c,r ++ [_],rfl,hc⟩
theorem pow_fits : (4294967296 : Nat) ^ 64 ≤ 10 ^ (616 + 1):=of_decide_eq_true (by kernel_rfl)
theorem dec_fits {u : Nat} (h : ¬ BIG u) : 1 ≤ (Lib.decDigits u).length∧(Lib.decDigits u).length ≤ 617:=by
  have h2 : Lib.nDigits u ≤ 616 + 1:=nDigits_le (k:=616) (Nat.lt_of_lt_of_le (Nat.lt_of_not_le h) pow_fits)
  rw [Lib.decDigits_length]
  refine ⟨?_,by omega⟩
  rw [← Lib.decDigits_length]
  rcases Nat.eq_zero_or_pos u with rfl | hp
  · rw [Lib.decDigits_one (by decide)]; simp
  · obtain ⟨c,r,e,_⟩:=dec_first u hp
    rw [e]; simp
end LM
end Go.Proofs.YtihbgghlnppkiaaGreatDoor
namespace Go.Proofs.YtihbgghlnppkiaaGreatDoor
open Go Go.RowKit
namespace LM
def NumW (w : World) (v : Value) (n : Nat) : Prop:=∃ A c r,v = .slice A (List.length r) c∧r.length ≤ c∧c ≤ 9223372036854775807∧Rd w A r∧Can r∧val r = n
def OkText (l : List UInt8) : Prop:=1 ≤ l.length∧l.length ≤ 700∧Digs l
def ParseE (l : List UInt8) (e : Ending) (w' : World) : Prop:=∃ v er,e = .returned (.tuple #[v,.int .i64 er]) ∧
  ((¬ OkText l∧v = .slice none 0 0∧er = 13) ∨ (OkText l∧BIG (dval 0 l)∧v = .slice none 0 0∧er = 11) ∨ (OkText l∧¬ BIG (dval 0 l)∧er = 0∧NumW w' v (dval 0 l)))
theorem pu_ok (t : ByteArray) (h1 : 1 ≤ t.size) (h2 : t.size ≤ 9) (hd : Digs t.data.toList) (w : World) :
    Calls Tryz.prog 161 #[.string t,.int .i64 10,.int .i64 32] w fun e w'=>e = .returned (.tuple #[.int .u64 (dval 0 t.data.toList : Nat),.nilIface])∧Below w.heap.size w w' :=
  (Tryz.strconv_ParseUint_10_at32_ok t (by omega) _ (parseB_ok hd (by rw [← Lib.size_eq]; exact h1) (by rw [← Lib.size_eq]; exact h2)) w).mono fun e w' ⟨he,hw⟩=>⟨he,by
    rcases hw with rfl | rfl
    · exact Below.refl _ _
    · exact Lib.bytesWorld_below _ _ _⟩
theorem pu_bad (t : ByteArray) (h2 : t.size ≤ 9) (hd : ¬ Digs t.data.toList) (ev : Value) (w : World) (hv : w.cell? ⟨7,0,none⟩ = some ev) (hev : ev = .nilIface ∨ ∃ te pe,ev = .iface te pe) :
    Calls Tryz.prog 161 #[.string t,.int .i64 10,.int .i64 32] w fun e w'=>(∃ T N,e = .returned (.tuple #[.int .u64 0,.iface T (.pointer (some ⟨N,0,none⟩))]))∧Below w.heap.size w w':=by
  obtain ⟨b1,b2⟩:=parseB_bad hd (by rw [← Lib.size_eq]; exact h2)
  cases hp : Lib.parseUintB 32 t.data.toList
  case ok u=>exact absurd hp (b1 u)
  case range=>exact absurd hp b2
  all_goals
    exact (Any.strconv_ParseUint_10_at32_syntax Tryz.laysPu14 t (by omega) hp ev w hv hev).mono fun e w' ⟨N,he,_,_,hb⟩=>⟨⟨_,N,he⟩,hb⟩
theorem own_below {B : Nat} {e : TypeId} {k : Nat} {v : Value} {n : Nat} {xs : List Value} {w w' : World} (h : w.ownsRow B e k v n xs) (hb : Below w.heap.size w w') : w'.ownsRow B e k v n xs :=
  h.kept (row:=none) ⟨hb.os,hb.tape,hb.output,hb.size,fun j hj _=>hb.block j hj⟩ (by cases hv : v.ownBlock <;> simp)
abbrev SynCell (w : World) : Prop:=∃ ev,w.cell? ⟨7,0,none⟩ = some ev∧7 < w.heap.size∧(ev = .nilIface ∨ ∃ te pe,ev = .iface te pe)
theorem SynCell.below {w w' : World} (h : SynCell w) (hb : Below w.heap.size w w') : SynCell w':=by
  obtain ⟨ev,hc,hp,hev⟩:=h
  exact ⟨ev,by rw [← hc]; exact World.cell?_of_block (a:=⟨7,0,none⟩) (hb.block _ hp),Nat.lt_of_lt_of_le hp hb.size,hev⟩
def PaRel (w : World) (l : List UInt8) (sv nv : Value) (wr : World) : Prop :=
  ∃ (pos : Nat) (t : ByteArray) (xs : List Nat),sv = .string t∧t.data.toList = l.drop pos∧pos ≤ l.length∧(pos = 0 ∨ (l.length - pos) % 9 = 0)∧Digs (l.take pos) ∧
    wr.ownsRow w.heap.size 92 1 nv xs.length (U xs)∧Lm xs∧val xs = dval 0 (l.take pos)∧xs.length ≤ pos∧Below w.heap.size w wr
theorem parse_any (s : ByteArray) (w : World) (hs : s.size ≤ 9223372036854775807) (hv : ¬ Digs s.data.toList → SynCell w) :
    Calls Tryz.prog 133 #[.string s] w fun e w'=>ParseE s.data.toList e w'∧Below w.heap.size w w':=by
  have hsl : s.size = s.data.toList.length:=Lib.size_eq s
  rcases Nat.eq_zero_or_pos s.size with h0 | h0
  · have hz : ((s.size : Int) == 0) = true:=by rw [h0]; rfl
    have HZ:=Lib.hid h0
    have HSL:=Lib.hid hsl
    clear h0 hsl
    go_enter Tryz.func133,Tryz.ntmps133
    go_wp2
    go_ret2
    refine ⟨⟨_,_,rfl,.inl ⟨fun h=>?_,rfl,rfl⟩⟩,Below.refl _ _⟩
    have:=h.1
    rw [← HSL.out,HZ.out] at this
    omega
  have hz : ((s.size : Int) == 0) = false:=by rw [beq_eq_false_iff_ne]; omega
  by_cases h7 : 700 < s.size
  · have hd : decide (700 < (s.size : Int)) = true:=decide_eq_true (by omega)
    have HZ:=Lib.hid h7
    have HSL:=Lib.hid hsl
    clear h0 hsl h7
    go_enter Tryz.func133,Tryz.ntmps133
    go_wp2
    go_ret2
    refine ⟨⟨_,_,rfl,.inl ⟨fun h=>?_,rfl,rfl⟩⟩,Below.refl _ _⟩
    have:=h.2.1
    rw [← HSL.out] at this
    have:=HZ.out
    omega
  have hd : decide (700 < (s.size : Int)) = false:=decide_eq_false (by omega)
  generalize hl : s.data.toList = l at *
  have HL:=Lib.hid hl
  have HV:=Lib.hid hv
  have HSL:=Lib.hid hsl
  clear hl hv hsl
  go_enter Tryz.func133,Tryz.ntmps133
  go_wp2
  go_loopw [0,4] (fun sv nv wr=>PaRel w l sv nv wr) (fun sv _ _=>match sv with | .string t=>t.size | _=>0)
  case atStart=>exact ⟨0,s,[],rfl,HL.out,Nat.zero_le _,.inl rfl,(fun c hc=>by cases hc),⟨rfl,.inl ⟨rfl,rfl⟩⟩,Lm.nil,rfl,Nat.le_refl _,Below.refl _ _⟩
  case round =>
    obtain ⟨pos,t,xs,rfl,ht,hpl,h9,hdp,hown,hxL,hxv,hxl,hbe⟩:=hrel
    have htl : t.size = l.length - pos:=by rw [Lib.size_eq,ht,List.length_drop]
    have hl7 : l.length ≤ 700:=by have:=HSL.out; omega
    have HT:=Lib.hid ht
    have HXV:=Lib.hid hxv
    have HTL:=Lib.hid htl
    have HOWN:=Lib.hid hown
    rcases Nat.eq_zero_or_pos t.size with ht0 | ht0
    · have hd0 : decide (0 < (t.size : Int)) = false:=decide_eq_false (by omega)
      have hpe : pos = l.length:=by omega
      have hpl7 : pos ≤ 700:=by omega
      have HPE:=Lib.hid hpe
      have HTZ:=Lib.hid ht0
      have hdl : Digs l:=by rw [hpe,List.take_length] at hdp; exact hdp
      have hbg : 64 < (trim xs).length ↔ BIG (dval 0 l):=by rw [big_trim hxL,hxv,hpe,List.take_length]
      have hxv2 : val (trim xs) = dval 0 l:=by rw [val_trim,hxv,hpe,List.take_length]
      have HBG:=Lib.hid hbg
      have HX2:=Lib.hid hxv2
      have hrd : Rd wr none ([] : List Nat):=fun h=>by cases h
      have hle:=trim_length_le xs
      clear ht hxv htl ht0 hpe hbg hxv2
      have hd1 : decide (0 < t.size) = false:=by rw [← hd0]; simp
      rcases own_cases hown with ⟨rfl,rfl⟩ | ⟨g,cap,rest,rfl,hgb,hB,hcap,hcm,hlen⟩
      · have h64 : (trim ([] : List Nat)).length ≤ 64:=Nat.le_trans hle (Nat.zero_le _)
        go_wp2_with fail
        refine (bounded_ok none 0 [] wr hrd (Nat.le_refl _) (Nat.zero_le _) h64).mono ?_; rintro e w1 ⟨rfl,rfl⟩
        go_wp2
        go_ret2
        refine ⟨⟨_,_,rfl,.inr (.inr ⟨⟨by have:=HSL.out; omega,hl7,hdl⟩,fun h=>?_,rfl,_,_,_,rfl,hle,Nat.zero_le _,hrd.trim,can_trim hxL,HX2.out⟩)⟩,hbe⟩
        have:=HBG.out.2 h
        omega
      · have hrx : Rd wr (some ⟨g,0,none⟩) xs:=by
          exact fun hl=>⟨g,0,rfl,hB.lt,fun k hk=>by rw [Nat.zero_add,hB.cell,List.getElem?_append_left (by rw [U_len]; exact hk),U_get _ _ hk]⟩
        have hcm2 : cap ≤ 9223372036854775807:=by unfold maxLen at hcm; exact hcm
        have HHB:=Lib.hid hB
        clear hB hlen
        by_cases hl : 64 < (trim xs).length
        · go_wp2_with fail
          refine (bounded_big (some ⟨g,0,none⟩) cap xs wr hrx hcap hcm hl).mono ?_; rintro e w1 ⟨rfl,rfl⟩
          go_wp2
          go_ret2
          exact ⟨⟨_,_,rfl,.inr (.inl ⟨⟨by have:=HSL.out; omega,hl7,hdl⟩,HBG.out.1 hl,rfl,rfl⟩)⟩,hbe⟩
        · go_wp2_with fail
          refine (bounded_ok (some ⟨g,0,none⟩) cap xs wr hrx hcap hcm (by omega)).mono ?_; rintro e w1 ⟨rfl,rfl⟩
          go_wp2
          go_ret2
          exact ⟨⟨_,_,rfl,.inr (.inr ⟨⟨by have:=HSL.out; omega,hl7,hdl⟩,fun h=>hl (HBG.out.2 h),rfl,_,_,_,rfl,by omega,hcm2,hrx.trim,can_trim hxL,HX2.out⟩)⟩,hbe⟩
    · have hts : t.size ≤ 700:=by omega
      have ht1 : (1 : Int) ≤ (t.size : Int):=by omega
      have ht7 : (t.size : Int) ≤ 700:=by omega
      have hd0 : decide (0 < (t.size : Int)) = true:=decide_eq_true (by omega)
      obtain ⟨n,hn⟩ : ∃ n,n = (t.size - 1) % 9 + 1:=⟨_,rfl⟩
      have hn9 : 1 ≤ n∧n ≤ 9∧n ≤ t.size:=by omega
      have hni : ((t.size : Int) - 1) % 9 + 1 = (n : Int):=by omega
      have hst : n = 9 ∨ pos = 0:=by omega
      have hq9 : (l.length - (pos + n)) % 9 = 0:=by omega
      have hq0 : pos + n ≤ l.length:=by omega
      obtain ⟨q,hq⟩ : ∃ q,(l.drop pos).take n = q:=⟨_,rfl⟩
      have hql : q.length = n:=by rw [← hq,List.length_take,List.length_drop]; omega
      have hqe : (t.extract 0 n).data.toList = q:=by rw [Lib.extract_data,ht,List.drop_zero,Nat.sub_zero,hq]
      have hqs : (t.extract 0 n).size = n:=by rw [Lib.size_eq,hqe,hql]
      have htk : l.take (pos + n) = l.take pos ++ q:=by rw [← hq,List.take_add]
      have hrest : (t.extract n t.size).data.toList = l.drop (pos + n):=by
        rw [Lib.extract_data,ht,List.drop_drop]
        exact List.take_of_length_le (by rw [List.length_drop]; omega)
      have hrs : (t.extract n t.size).size = t.size - n:=by rw [Lib.size_eq,hrest,List.length_drop]; omega
      have HN:=Lib.hid hn
      have HQ:=Lib.hid hq
      have HQS:=Lib.hid hqs
      have HQL:=Lib.hid hql
      have HTK:=Lib.hid htk
      have HREST:=Lib.hid hrest
      have HRS:=Lib.hid hrs
      have HST:=Lib.hid hst
      have HQ9:=Lib.hid hq9
      have HQE:=Lib.hid hqe
      clear ht hxv htl hn hq hqs hql htk hrest hrs hst hq9 hqe
      by_cases hdg : Digs q
      · have hpk:=fun W=>pu_ok (t.extract 0 n) (by rw [HQS.out]; omega) (by rw [HQS.out]; omega) (by rw [HQE.out]; exact hdg) W
        rw [HQE.out] at hpk
        have hp9 : dval 0 q < 1000000000:=Nat.lt_of_lt_of_le (dval_lt hdg) (by rw [HQL.out]; exact Nat.pow_le_pow_right (n:=10) (by decide) hn9.2.1)
        obtain ⟨p,hp⟩ : ∃ p,dval 0 q = p:=⟨_,rfl⟩
        rw [hp] at hpk hp9
        have HP:=Lib.hid hp
        have HPK:=Lib.hid hpk
        have HDG:=Lib.hid hdg
        clear hp hpk hdg
        go_wp2_with fail
        refine (HPK.out wr).mono ?_; rintro e w1 ⟨rfl,hb1⟩
        have hown1:=own_below hown hb1
        go_wp2_with fail
        refine (timesPlus_any w.heap.size u4 xs 1000000000 p w1 hown1 hxL (by decide) (by omega) (by omega) (Nat.le_trans hbe.size hb1.size)).mono ?_
        rintro e w2 ⟨v,zs,rfl,hown2,hzL,hzv,hzl,hb2⟩
        have HZV:=Lib.hid hzv
        have HO2:=Lib.hid hown2
        clear hown hown1 hown2 hzv
        go_wp2
        go_roundw
        case rel =>
          refine ⟨pos + n,_,zs,rfl,HREST.out,hq0,.inr HQ9.out,?_,HO2.out,hzL,?_,by omega,?_⟩
          · rw [HTK.out]; exact hdp.append HDG.out
          · rw [HZV.out,HXV.out,HTK.out,dval_append,dval_shift q (dval 0 (l.take pos)),HP.out,HQL.out]
            rcases HST.out with h | h
            · rw [h]
            · rw [h]; simp [dval_nil]
          · exact (hbe.trans (hb1.mono hbe.size)).trans hb2
        case measure =>
          show (t.extract n t.size).size < t.size
          rw [HRS.out]; omega
      · have hnd : ¬ Digs l:=fun h=>hdg (by rw [← HQ.out]; exact (h.drop pos).take n)
        obtain ⟨ev,hc,hp,hev⟩:=HV.out hnd
        have hc1 : wr.cell? ⟨7,0,none⟩ = some ev:=by rw [← hc]; exact World.cell?_of_block (a:=⟨7,0,none⟩) (hbe.block _ hp)
        have hpk:=pu_bad (t.extract 0 n) (by rw [HQS.out]; omega) (by rw [HQE.out]; exact hdg) ev wr hc1 hev
        have HPK:=Lib.hid hpk
        have HND:=Lib.hid hnd
        clear hpk hnd hc hc1 hev hp hdg
        go_wp2_with fail
        refine HPK.out.mono ?_; rintro e w1 ⟨⟨T,N,rfl⟩,hb1⟩
        go_wp2
        go_ret2
        exact ⟨⟨_,_,rfl,.inl ⟨fun h=>HND.out h.2.2,rfl,rfl⟩⟩,hbe.trans (hb1.mono hbe.size)⟩
end LM
end Go.Proofs.YtihbgghlnppkiaaGreatDoor
