import Derived.Test.YtihbgghlnppkiaaGreatDoorR48
import Derived.Lib.LaidU8T
import Derived.Shelf.Unicode.DecodeSlow
import Derived.Test.YtihbgghlnppkiaaGreatDoorR42
import Derived.Test.YtihbgghlnppkiaaGreatDoorR14
import Derived.Test.YtihbgghlnppkiaaGreatDoorR40
import Derived.Test.YtihbgghlnppkiaaGreatDoorR39
import Derived.Test.YtihbgghlnppkiaaGreatDoorR41
import Derived.Test.YtihbgghlnppkiaaGreatDoorR43
import Derived.Laws.AppendOwnNone
set_option linter.unusedVariables false
set_option linter.unusedSimpArgs false
set_option maxRecDepth 100000
set_option maxHeartbeats 16000000
namespace Go.Proofs.YtihbgghlnppkiaaGreatDoor
open Go Go.RowKit
namespace LM
theorem u8types : U8Types Tryz.prog Tryz.lays196_ren:=U8Types.of196 Tryz.lays196
theorem u8extra : U8Extra Tryz.prog Tryz.lays196_ren:={ n3:=by kernel_rfl,n4:=by kernel_rfl,y3:=by kernel_rfl,y4:=by kernel_rfl,c5:=by kernel_rfl,c119:=by kernel_rfl,c138:=by kernel_rfl }
theorem ut_of {l : List (String × DataW Unit)} {W : World} (h : laidMetH Tryz.prog l W)
    (e1 : ((l.filter fun x => x.2.handleName?.isNone).filter fun x => x.1 == "unicode/utf8.first") = [("unicode/utf8.first", Lib.firstData)])
    (e2 : ((l.filter fun x => x.2.handleName?.isNone).filter fun x => x.1 == "unicode/utf8.acceptRanges") = [("unicode/utf8.acceptRanges", Lib.acceptData)]) : UT W := fun W' hb => by
  have t:=utf8Tabs_of_readsT u8types u8extra (Go.Lib.laidMet.reads (listed_of h e1) (List.mem_singleton.2 rfl)) (Go.Lib.laidMet.reads (listed_of h e2) (List.mem_singleton.2 rfl))
  exact Utf8Tabs_below t hb
end LM
namespace LM
end LM
namespace LM
end LM
namespace LM
attribute [local go_sem] run_store_flt
abbrev listHd (B : Option Addr) (c : Nat) : Hd:=⟨5,0,false,0,false,none,[],0,⟨#[]⟩,B,c⟩
end LM
namespace LM
attribute [local go_sem] run_store_flt
end LM
namespace LM
attribute [local go_sem] run_store_flt
structure Onl (w : World) (g N : Nat) (W0 W : World) : Prop where
  bel : Below w.heap.size w W
  blk : ∃ cur,W.heap[g]? = some (.cells cur 65 (0,0))∧cur.size = N
  oth : ∀ k,k ≠ g → W.heap[k]? = W0.heap[k]?
  siz : W.heap.size = W0.heap.size
end LM
namespace LM
def NumP (w : World) (h : Hd) : Prop:=h.k = 0∧rightN h.fl h.f h.s h.xs = true∧h.f < 18446744073709551616∧Lm h.xs∧h.xs.length ≤ h.c∧h.c ≤ 9223372036854775807∧(h.A = none → h.xs.length = 0∧h.c = 0)∧Rd w h.A h.xs
def LeafP (w : World) (h : Hd) : Prop :=
  NumP w h ∨ (h.k = 1∧(h.n = 0 ∨ h.n = 1)) ∨ (h.k = 2∧∃ n : Nat,h.n = (n : Int)∧n ≤ 1114111) ∨ (h.k = 3∧h.t.size ≤ 1000000) ∨ (h.k = 4∧h.t.size ≤ 1000000)
def lfD (nt : Hd → ByteArray) (h : Hd) : List UInt8 :=
  if h.k = 0 then (nt h).data.toList else if h.k = 1 then (if h.n = 1 then [35,116] else [35,102]) else if h.k = 2 then [35,92] ++ nameL h.n.toNat else if h.k = 3 then quoteL h.t else h.t.data.toList
theorem lfD_len {w : World} {nt : Hd → ByteArray} (hnt : ∀ h,NumP w h → (nt h).size ≤ 2000) {h : Hd} (hp : LeafP w h) : (lfD nt h).length ≤ 11000002:=by
  unfold lfD
  rcases hp with hp | ⟨k,_⟩ | ⟨k,_⟩ | ⟨k,hs⟩ | ⟨k,hs⟩
  · have:=hnt h hp
    rw [if_pos hp.1]
    rw [Lib.size_eq] at this
    omega
  · rw [if_neg (by omega),if_pos k]
    split <;> simp
  · rw [if_neg (by omega),if_neg (by omega),if_pos k,List.length_append]
    have:=nameL_len h.n.toNat
    simp only [List.length_cons,List.length_nil]
    omega
  · rw [if_neg (by omega),if_neg (by omega),if_neg (by omega),if_pos k]
    have:=quoteF_len h.t.size h.t.data.toList
    simp only [List.length_append,List.length_cons,List.length_nil]
    omega
  · rw [if_neg (by omega),if_neg (by omega),if_neg (by omega),if_neg (by omega)]
    rw [Lib.size_eq] at hs
    omega
theorem txF_max {P : Hd → Prop} {lf : Hd → List UInt8} (hl : ∀ h,P h → (lf h).length ≤ 11000002) : ∀ (fr : Fr) (dot fst : Bool),WOk P fr → (txF lf dot fst fr).length ≤ fr.nodes * 11000020:=by
  intro fr
  induction fr with
  | nil=>intro _ _ _; exact Nat.zero_le _
  | cons h k r ihk ihr =>
    intro dot fst hw
    obtain ⟨⟨w1,-⟩,w2,w3⟩:=hw
    have h1 : ∀ d,(txF lf d true k).length ≤ k.nodes * 11000020:=fun d=>ihk d true w2
    have h2:=ihr dot false w3
    have hsep : (if dot && r.isNil then ([32,46,32] : List UInt8) else if fst then [] else [32]).length ≤ 3:=by
      split
      · simp
      · split <;> simp
    have hit : (txD lf h k).length ≤ k.nodes * 11000020 + 11000010:=by
      unfold txD
      split
      · have:=h1 false; simp only [List.length_append,List.length_cons,List.length_nil]; omega
      · split
        · have:=h1 true; simp only [List.length_append,List.length_cons,List.length_nil]; omega
        · split
          · have:=h1 false; simp only [List.length_append,List.length_cons,List.length_nil]; omega
          · rename_i a b c
            have:=hl h (w1 ⟨a,b,c⟩).2
            omega
    rw [txF_len]
    have e : (Fr.cons h k r).nodes = k.nodes + 1 + r.nodes:=rfl
    rw [e]
    have e2 : (k.nodes + 1 + r.nodes) * 11000020 = k.nodes * 11000020 + 11000020 + r.nodes * 11000020:=by omega
    omega
theorem txD_max {P : Hd → Prop} {lf : Hd → List UInt8} (hl : ∀ h,P h → (lf h).length ≤ 11000002) {h : Hd} {k : Fr} (hw : WOk P k) (hwh : WH P h k) : (txD lf h k).length ≤ k.nodes * 11000020 + 11000010:=by
  have h1 : ∀ d,(txF lf d true k).length ≤ k.nodes * 11000020:=fun d=>txF_max hl k d true hw
  unfold txD
  split
  · have:=h1 false; simp only [List.length_append,List.length_cons,List.length_nil]; omega
  · split
    · have:=h1 true; simp only [List.length_append,List.length_cons,List.length_nil]; omega
    · split
      · have:=h1 false; simp only [List.length_append,List.length_cons,List.length_nil]; omega
      · rename_i a b c
        have:=hl h (hwh.1 ⟨a,b,c⟩).2
        omega
theorem nil_of_len {kids : Fr} (h : (((kids.len : Nat) : Int) == 0) = true) : kids = .nil:=by
  cases kids with
  | nil=>rfl
  | cons x y z =>
    rw [beq_iff_eq] at h
    have h3 : (((z.len + 1 : Nat) : Int)) = 0:=h
    omega
theorem wh_of {nm : ByteArray → Bool} {d : Int} {h : Hd} {kids : Fr} {sub : Bool} {w : World} (hok : h.Ok kids.len) (ht : h.t.size ≤ 1000000) (hd : Rd w h.A h.xs) (hr : rightK nm d h kids sub = true) : WH (LeafP w) h kids:=by
  unfold rightK elseB at hr
  simp only [Bool.and_eq_true] at hr
  obtain ⟨⟨⟨⟨-,-⟩,-⟩,hi⟩,hr⟩:=hr
  constructor
  · intro hl
    obtain ⟨l5,l6,l7⟩:=hl
    have hkn : kids = .nil:=by
      apply nil_of_len
      have : decide (5 ≤ h.k∧h.k ≤ 7) = false:=decide_eq_false (by omega)
      rw [this,Bool.false_or] at hi
      exact hi
    refine ⟨hkn,?_⟩
    split at hr
    · rename_i k0
      exact .inl ⟨k0,hr,hok.f,hok.lm,hok.c.1,hok.c.2,hok.nA,hd⟩
    · split at hr
      · rename_i k1
        refine .inr (.inl ⟨k1,?_⟩)
        rw [Bool.or_eq_true,beq_iff_eq,beq_iff_eq] at hr
        exact hr
      · split at hr
        · rename_i k2
          refine .inr (.inr (.inl ⟨k2,h.n.toNat,?_⟩))
          unfold csignB at hr
          rw [Bool.or_eq_true,decide_eq_true_eq,decide_eq_true_eq] at hr
          omega
        · split at hr
          · rename_i k3
            exact .inr (.inr (.inr (.inl ⟨k3,ht⟩)))
          · split at hr
            · rename_i k4
              exact .inr (.inr (.inr (.inr ⟨k4,ht⟩)))
            · rw [Bool.and_eq_true,Bool.and_eq_true] at hr
              have hz:=hr.1.2
              unfold areB at hz
              rw [decide_eq_false l5,decide_eq_false l6,decide_eq_false l7] at hz
              simp at hz
  · intro h6
    rw [if_neg (by omega),if_neg (by omega),if_neg (by omega),if_neg (by omega),if_neg (by omega)] at hr
    rw [Bool.and_eq_true,Bool.and_eq_true] at hr
    have hz:=hr.1.2
    unfold areB at hz
    rw [decide_eq_false (show ¬ h.k = 5 by omega),decide_eq_false (show ¬ h.k = 7 by omega),decide_eq_true h6] at hz
    simp at hz
    exact hz.1
theorem wok_of {nm : ByteArray → Bool} {w : World} : ∀ (fr : Fr) (d : Int) (b off : Nat),FAt w b off fr → fr.Ok → TxF fr → rightF nm d fr = true → WOk (LeafP w) fr:=by
  intro fr
  induction fr with
  | nil=>intro d b off _ _ _ _; exact trivial
  | cons h k r ihk ihr =>
    intro d b off hf hok htx hr
    unfold rightF at hr
    rw [Bool.and_eq_true] at hr
    obtain ⟨-,-,hrd,⟨b',off',-,hfk⟩,hfr⟩:=hf
    refine ⟨wh_of hok.1 htx.1 hrd hr.1,?_,ihr d b _ hfr hok.2.2 htx.2.2 hr.2⟩
    rcases rightK_sub hr.1 with rfl | h1
    · exact trivial
    · exact ihk _ b' off' hfk hok.2.1 htx.2.1 h1
theorem right_tells {nm : ByteArray → Bool} {h : Hd} {kids : Fr} {w : World} (hd : DatV w h kids) (hok : kids.Ok) (hho : h.Ok kids.len) (htx : TxF kids) (ht : h.t.size ≤ 1000000) (hr : rightD nm h kids = true) : WOk (LeafP w) kids∧WH (LeafP w) h kids∧kids.nodes < 3000:=by
  unfold rightD at hr
  rw [Bool.and_eq_true,decide_eq_true_eq] at hr
  obtain ⟨b,off,-,hF⟩:=hd.items
  refine ⟨?_,wh_of hho ht hd.xs hr.2,?_⟩
  · rcases rightK_sub hr.2 with rfl | h1
    · exact trivial
    · exact wok_of kids _ b off hF hok htx h1
  · rcases Nat.lt_or_ge kids.nodes 3000 with h1 | h1
    · exact h1
    · have:=cnt_more kids 3001 1 (by omega)
      omega
end LM
namespace LM
theorem decN_4 (n b0 b1 b2 b3 : Nat) : (Lib.decodeN n b0 b1 b2 b3).2 ≤ 4:=by
  unfold Lib.decodeN
  repeat' split
  all_goals simp
theorem dec_4 (s : ByteArray) (pos : Nat) : (Utf8.decode s pos).2 ≤ 4:=by rw [Lib.decode_N]; exact decN_4 _ _ _ _ _
theorem rune_room (s : ByteArray) : ∀ fuel pos,s.size ≤ pos + fuel → s.size ≤ pos + 4 * Lib.runeCountFrom s fuel pos:=by
  intro fuel
  induction fuel with
  | zero=>intro pos h; omega
  | succ f ih =>
    intro pos h
    unfold Lib.runeCountFrom
    split
    · have h4:=dec_4 s pos
      have h1 : 1 ≤ (Utf8.decode s pos).2:=by rw [← Lib.decodeL_drop]; exact Lib.decodeL_width _
      have:=ih (pos + (Utf8.decode s pos).2) (by omega)
      omega
    · omega
theorem text_short {t : ByteArray} (h : textB t = true) : t.size ≤ 1600:=by
  unfold textB at h
  rw [Bool.and_eq_true,decide_eq_true_eq] at h
  have h1:=rune_room t t.size 0 (by omega)
  have h2 : Lib.runeCountFrom t t.size 0 ≤ 400:=h.2
  omega
theorem right_ok {nm : ByteArray → Bool} (hnm : ∀ t,nm t = true → t.size ≤ 40) {d : Int} {h : Hd} {kids : Fr} {sub : Bool} (hr : h.Raw kids.len) (h1 : rightK nm d h kids sub = true) : h.Ok kids.len∧h.t.size ≤ 1000000:=by
  unfold rightK at h1
  rw [Bool.and_eq_true] at h1
  obtain ⟨he,hk⟩:=h1
  unfold elseB at he
  simp only [Bool.and_eq_true,Bool.or_eq_true,decide_eq_true_eq] at he
  obtain ⟨⟨⟨-,hz⟩,ht⟩,-⟩:=he
  have hx : h.xs.length ≤ 64:=by
    by_cases k0 : h.k = 0
    · rw [if_pos k0] at hk
      unfold rightN at hk
      split at hk
      · rw [Bool.and_eq_true,decide_eq_true_eq] at hk
        omega
      · rw [Bool.and_eq_true] at hk
        exact (of_decide_eq_true hk.2).1
    · have hz:=hz.resolve_left k0
      unfold nothB at hz
      simp only [Bool.and_eq_true,decide_eq_true_eq] at hz
      omega
  have hs : h.t.size ≤ 1600:=by
    rcases ht with (k3 | k4) | h0
    · rw [if_neg (by omega),if_neg (by omega),if_neg (by omega),if_pos k3] at hk
      exact text_short hk
    · rw [if_neg (by omega),if_neg (by omega),if_neg (by omega),if_neg (by omega),if_pos k4] at hk
      have:=hnm _ hk
      omega
    · have h2 : h.t.toList = []:=by simpa using h0
      rw [Go.ByteArray.toList_eq] at h2
      rw [Lib.size_eq,h2]
      simp
  exact ⟨⟨hr.k,hr.n,hr.f,hr.lm,hr.c,hr.nA,by omega,by omega,hr.cap,hr.nB,hr.sA,hr.sB⟩,by omega⟩
theorem rightF_ok {nm : ByteArray → Bool} (hnm : ∀ t,nm t = true → t.size ≤ 40) : ∀ (fr : Fr) (d : Int),fr.Raw → rightF nm d fr = true → fr.Ok∧TxF fr:=by
  intro fr
  induction fr with
  | nil=>intro d _ _; exact ⟨trivial,trivial⟩
  | cons h k r ihk ihr =>
    intro d hr h1
    unfold rightF at h1
    rw [Bool.and_eq_true] at h1
    obtain ⟨r1,r2⟩:=ihr d hr.2.2 h1.2
    obtain ⟨o1,o2⟩:=right_ok hnm hr.1 h1.1
    have hk : k.Ok∧TxF k:=by
      rcases rightK_sub h1.1 with rfl | h2
      · exact ⟨trivial,trivial⟩
      · exact ihk _ hr.2.1 h2
    exact ⟨⟨o1,hk.1,r1⟩,⟨o2,hk.2,r2⟩⟩
theorem rightD_ok {nm : ByteArray → Bool} (hnm : ∀ t,nm t = true → t.size ≤ 40) {h : Hd} {kids : Fr} (hr : h.Raw kids.len) (hk : kids.Raw) (h1 : rightD nm h kids = true) : (h.Ok kids.len∧h.t.size ≤ 1000000)∧kids.Ok∧TxF kids:=by
  unfold rightD at h1
  rw [Bool.and_eq_true] at h1
  refine ⟨right_ok hnm hr h1.2,?_⟩
  rcases rightK_sub h1.2 with rfl | h2
  · exact ⟨trivial,trivial⟩
  · exact rightF_ok hnm _ _ hk h2
end LM
namespace LM
theorem text_prog2 (b : Nat) (hb : b < 18446744073709551616) : ∃ t : ByteArray,t.size ≤ 2000∧∀ W,FV W → Calls Tryz.prog 86 #[.float .f64 b] W fun e w'=>e = .returned (.string t)∧Below W.heap.size W w':=by
  have same : ∀ {f : FuncId} {args : Array Value} {t : ByteArray},(∀ W,Calls Tryz.prog f args W fun e w'=>e = .returned (.string t)∧W = w') → ∀ W,FV W → Calls Tryz.prog f args W fun e w'=>e = .returned (.string t)∧Below W.heap.size W w':=fun h W _=>(h W).mono fun e w' ⟨h1,h2⟩=>⟨h1,h2 ▸ Below.refl _ _⟩
  obtain ⟨a,ha⟩ : ∃ a,b % 9223372036854775808 = a:=⟨_,rfl⟩
  rcases Nat.lt_trichotomy a 9218868437227405312 with hlt | heq | hgt
  · have hn : ¬ nanW b:=by unfold nanW; omega
    have hcw : canW b = b:=by unfold canW; rw [if_neg hn]
    obtain ⟨f1,f2,f3,f4⟩:=fin_facts b a hb ha hlt
    by_cases h0 : a = 0
    · have hz : (FloatKind.f64.format.order a 0 == some .eq) = true:=by rw [f4,decide_eq_true h0]
      have hbb : b = 0 ∨ b = 9223372036854775808:=by omega
      rcases hbb with rfl | rfl
      · exact ⟨_,by decide +kernel,fun W hv=>flotext_f 0 a (fmtF false [] 0) W hb ha f1 f2 f3 (.inl hz) (by decide +kernel) (by decide +kernel) (fun v w1 hob=>ftoaF_pzero _ _ _ v w1 rfl hob)⟩
      · exact ⟨_,by decide +kernel,fun W hv=>flotext_f 9223372036854775808 a (fmtF true [] 0) W hb ha f1 f2 f3 (.inl hz) (by decide +kernel) (by decide +kernel) (fun v w1 hob=>ftoaF_mzero _ _ _ v w1 rfl hob)⟩
    · have hz : (FloatKind.f64.format.order a 0 == some .eq) = false:=by rw [f4,decide_eq_false h0]
      obtain ⟨neg,hneg⟩ : ∃ neg,decide (9223372036854775808 ≤ b) = neg:=⟨_,rfl⟩
      obtain ⟨D,dp,hf,hE,hF⟩:=ftoa_fin b neg hb hneg (by omega) (by omega)
      have hdp:=hf.dp
      rcases form_or a with hz1 | hz1
      · have h52 : 4503599627370496 ≤ b % 9223372036854775808:=by
          rcases Nat.lt_or_ge a 4503599627370496 with h | h
          · obtain ⟨hz2,-⟩:=hz1
            rw [small_facts a h] at hz2
            cases hz2
          · omega
        obtain ⟨p1,p2⟩:=fmtF_len (neg:=neg) hf
        exact ⟨_,by rw [lsize]; have:=pointB_len (fmtF neg D dp); omega,fun W hv=>ftext_f b a neg D dp hf hb ha hlt h0 hz1 (hF h52) W hv⟩
      · obtain ⟨sg,P,T,e1,e2,e3,e4,e5,e6⟩:=exp_itoa (x:=dp - 1) (by omega) (by omega)
        obtain ⟨p1,p2⟩:=pre_len (neg:=neg) hf
        have hil : (Lib.itoa (dp - 1)).length ≤ 4:=by
          have h3 : T.length ≤ P.length:=by
            rcases e3 with ⟨c,h1,h2⟩ | ⟨h1,_⟩
            · rw [h1,h2]; exact Nat.le_of_ble_eq_true rfl
            · rw [h1]; exact Nat.le_refl _
          rcases e2 with ⟨_,h⟩ | ⟨_,h⟩
          · rw [h]; omega
          · rw [h,List.length_cons]; omega
        exact ⟨_,by rw [lsize,List.length_append,List.length_cons]; have:=pointB_len (preE neg D); omega,fun W hv=>ftext_e b a neg D dp hf hb ha hlt h0 hz1 hE W hv⟩
  · have hn : ¬ nanW b:=by unfold nanW; omega
    have hcw : canW b = b:=by unfold canW; rw [if_neg hn]
    have hbb : b = 9218868437227405312 ∨ b = 18442240474082181120:=by omega
    rcases hbb with rfl | rfl
    · exact ⟨_,by decide,same flotext_pinf⟩
    · exact ⟨_,by decide,same flotext_minf⟩
  · have hn : nanW b:=by unfold nanW; omega
    have hcw : canW b = 9221120237041090561:=by unfold canW; rw [if_pos hn]
    exact ⟨_,by decide,same fun W=>flotext_nan b W hb hn⟩
theorem ttext_prog2 (fl : Bool) (f : Nat) (s : Bool) (A : Option Addr) (c : Nat) (xs : List Nat) (hr : rightN fl f s xs = true) (hf : f < 18446744073709551616) (hx : Lm xs) (hca : xs.length ≤ c) (hcm : c ≤ 9223372036854775807) (hnil : A = none → xs.length = 0∧c = 0) :
    ∃ t : ByteArray,t.size ≤ 2000∧∀ W,FV W → Rd W A xs → Calls Tryz.prog 71 #[numA fl f s A xs.length c] W fun e w'=>e = .returned (.string t)∧Below W.heap.size W w':=by
  cases fl
  · unfold rightN at hr
    rw [if_neg (by decide),Bool.and_eq_true,decide_eq_true_eq] at hr
    obtain ⟨rfl,rx⟩:=hr
    refine ⟨⟨(decI (sg s (val xs))).toArray⟩,by rw [lsize]; have:=deci_len2 (right_parts rx hx).2.2.2.2; omega,fun W hv ha=>?_⟩
    obtain ⟨h1,h2⟩:=intV_of rx ha hx hca hcm
    exact ttext_i 0 _ s A xs.length c W h1 h2 hv.tab
  · obtain ⟨t,hz,h2⟩:=text_prog2 f hf
    exact ⟨t,hz,fun W hv _=>ttext_f f t s A xs.length c W fun W2 hW2=>h2 W2 (hv.below hW2)⟩
theorem nt_prog (w : World) (hv : FV w) : ∃ nt : Hd → ByteArray,∀ h,NumP w h → (nt h).size ≤ 2000∧∀ W,Below w.heap.size w W → Calls Tryz.prog 71 #[numA h.fl h.f h.s h.A h.xs.length h.c] W fun e w'=>e = .returned (.string (nt h))∧Below W.heap.size W w':=by
  have h0 : ∀ h : Hd,∃ t : ByteArray,NumP w h → t.size ≤ 2000∧∀ W,Below w.heap.size w W → Calls Tryz.prog 71 #[numA h.fl h.f h.s h.A h.xs.length h.c] W fun e w'=>e = .returned (.string t)∧Below W.heap.size W w':=fun h=>by
    by_cases hp : NumP w h
    · obtain ⟨-,p1,p2,p3,p4,p5,p6,p7⟩:=hp
      obtain ⟨t,t1,t3⟩:=ttext_prog2 h.fl h.f h.s h.A h.c h.xs p1 p2 p3 p4 p5 p6
      exact ⟨t,fun _=>⟨t1,fun W hW=>t3 W (hv.below hW) (p7.below hW)⟩⟩
    · exact ⟨⟨#[]⟩,fun h=>absurd h hp⟩
  exact ⟨fun h=>Classical.choose (h0 h),fun h=>Classical.choose_spec (h0 h)⟩
theorem print_prog (nm : ByteArray → Bool) (kids : Fr) (hok : kids.Ok) (htx : TxF kids) (h : Hd) (w : World) (hd : DatV w h kids) (hho : h.Ok kids.len) (ht : h.t.size ≤ 1000000) (hu : UT w) (hv : FV w) (hdb : DB w)
    (hnm : ∀ t,CallB w 82 #[.string t] (.bool (nm t))) (hr : rightD nm h kids = true) :
    ∃ t : ByteArray,∀ W,Below w.heap.size w W → Calls Tryz.prog 41 #[datA h kids.len] W fun e w'=>e = .returned (.tuple #[.string t,.int .i64 0])∧Below W.heap.size W w':=by
  obtain ⟨wok,wh,hno⟩:=right_tells hd hok hho htx ht hr
  obtain ⟨nt,hnt⟩:=nt_prog w hv
  have hlen : (txD (lfD nt) h kids).length ≤ 100000000000:=by
    have h7 : (txD (lfD nt) h kids).length ≤ kids.nodes * 11000020 + 11000010:=txD_max (P:=LeafP w) (fun h hp=>lfD_len (fun h hn=>(hnt h hn).1) hp) wok wh
    omega
  refine ⟨⟨(txD (lfD nt) h kids).toArray⟩,fun W hW=>?_⟩
  refine dprint_right nm (lfD nt) kids hok h W (hd.below hW) hho (hu.keep hW) (fun t _=>callB_keep (hnm t) hW) hr (LeafP w) (fun b w0 hb hw0 hh hp=>?_) wok wh hlen
  subst hb
  have hw2 : ∀ V,Below w0.heap.size w0 V → Below w.heap.size w V:=fun V hV=>bel_trans (B:=w.heap.size) hW (bel_trans (B:=W.heap.size) hw0 hV)
  have hdb2 : ∀ V,Below w0.heap.size w0 V → DB V:=fun V hV=>hdb.below (hw2 V hV)
  unfold lfD
  rcases hp with hp | ⟨k,hn⟩ | ⟨k,n,hn,hm⟩ | ⟨k,hs⟩ | ⟨k,hs⟩
  · rw [if_pos hp.1]
    exact dwrite_num _ w0 hh hp.1 _ fun V hV=>(hnt hh hp).2 V (hw2 V hV)
  · rw [if_neg (by omega),if_pos k]
    rcases hn with hn | hn
    · rw [if_neg (by omega)]
      exact dwrite_bool0 _ w0 hh k hn
    · rw [if_pos hn]
      exact dwrite_bool1 _ w0 hh k hn
  · rw [if_neg (by omega),if_neg (by omega),if_pos k,show hh.n.toNat = n by omega]
    exact dwrite_char _ w0 hh k n hn hm hdb2
  · rw [if_neg (by omega),if_neg (by omega),if_neg (by omega),if_pos k]
    exact dwrite_str2 _ w0 hh k _ fun V cs hV hwr hl=>dwtext_any _ cs hh.t V hwr (fun V2 hV2=>hdb2 V2 (hV.trans hV2)) hs (by omega)
  · rw [if_neg (by omega),if_neg (by omega),if_neg (by omega),if_neg (by omega)]
    exact dwrite_sym _ w0 hh k (by omega)
theorem dname_fn2 (w : World) (hv : FV w) (hx : FX w) (hr : RngCell w) (hsy : SynCell w) : ∃ nm : ByteArray → Bool,∀ t,CallB w 82 #[.string t] (.bool (nm t))∧(nm t = true → t.size ≤ 40):=by
  have h : ∀ t : ByteArray,∃ b : Bool,CallB w 82 #[.string t] (.bool b)∧(b = true → t.size ≤ 40):=fun t=>by
    obtain ⟨ff,hf⟩:=reads_some t
    obtain ⟨q,hq⟩:=nonum_bool t.data.toList ff
    refine ⟨nameV t.data.toList q,fun W hW=>dname_any t ff q hq hf W (hv.below hW) (hx.below hW) (hr.below hW) (hsy.below hW),fun e=>?_⟩
    unfold nameV at e
    simp only [Bool.and_eq_true,decide_eq_true_eq] at e
    rw [Lib.size_eq]
    exact e.2.1
  exact ⟨fun t=>Classical.choose (h t),fun t=>Classical.choose_spec (h t)⟩
theorem const_some (nm : ByteArray → Bool) (h : Hd) (kids : Fr) (w : World) (hd : DatV w h kids) (hr : h.RawT kids.len) (hk : kids.RawT) (hu : UT w) (hv : FV w) (hdb : DB w) (hnm : ∀ t,CallB w 82 #[.string t] (.bool (nm t))∧(nm t = true → t.size ≤ 40)) :
    ∃ b : Bool,∀ W,Below w.heap.size w W → Calls Tryz.prog 22 #[datA h kids.len] W fun e w'=>e = .returned (.bool b)∧Below W.heap.size W w':=by
  cases hR : rightD nm h kids
  · exact ⟨_,fun W hW=>cconst_by h kids.len ⟨#[]⟩ 51 W fun W2 hW2=>by
      have h2 : Below w.heap.size w W2:=bel_trans (B:=w.heap.size) hW hW2
      exact dprint2_not nm kids hk h W2 (hd.below h2) hr (hu.keep h2) (fun t _=>callB_keep (hnm t).1 h2) hR⟩
  · obtain ⟨⟨o1,o2⟩,o3,o4⟩:=rightD_ok (fun t=>(hnm t).2) hr.toRaw hk.raw hR
    obtain ⟨t,ht⟩:=print_prog nm kids o3 o4 h w hd o1 o2 hu hv hdb (fun t=>(hnm t).1) hR
    exact ⟨_,fun W hW=>cconst_by h kids.len t 0 W fun W2 hW2=>ht W2 (bel_trans (B:=w.heap.size) hW hW2)⟩
open Classical in
theorem const_fn (c : Cod) (w : World) (hv : CodV w c) (hraw : c.kids.RawT) (hu : UT w) (hfv : FV w) (hdb : DB w) (hfx : FX w) (hrc : RngCell w) (hsy : SynCell w) :
    ∃ q : Hd → Fr → Bool,∀ hh k j r,c.kids.drop j = .cons hh k r → ∀ W,Below w.heap.size w W → Calls Tryz.prog 22 #[datA hh k.len] W fun e w'=>e = .returned (.bool (q hh k))∧Below W.heap.size W w':=by
  obtain ⟨nm,hnm⟩:=dname_fn2 w hfv hfx hrc hsy
  refine ⟨fun hh k=>if h : ∃ b : Bool,∀ W,Below w.heap.size w W → Calls Tryz.prog 22 #[datA hh k.len] W fun e w'=>e = .returned (.bool b)∧Below W.heap.size W w' then Classical.choose h else false,fun hh k j r hdr=>?_⟩
  obtain ⟨b,off,-,hF⟩:=hv.kids
  have hd : DatV w hh k:=(counted_item hF hdr).2.2
  have hr:=Fr.RawT.drop j hraw
  rw [hdr] at hr
  have hs:=const_some nm hh k w hd hr.1 hr.2.1 hu hfv hdb hnm
  dsimp only
  rw [dif_pos hs]
  exact Classical.choose_spec hs
end LM
end Go.Proofs.YtihbgghlnppkiaaGreatDoor
