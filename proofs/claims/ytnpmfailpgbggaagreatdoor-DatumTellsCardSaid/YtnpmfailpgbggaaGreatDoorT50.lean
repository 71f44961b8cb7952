import Derived.Test.YtnpmfailpgbggaaGreatDoorT48
import Derived.Lib.LaidU8T
import Derived.Shelf.Unicode.DecodeSlow
import Derived.Test.YtnpmfailpgbggaaGreatDoorT37
import Derived.Test.YtnpmfailpgbggaaGreatDoorT14
import Derived.Test.YtnpmfailpgbggaaGreatDoorT35
import Derived.Test.YtnpmfailpgbggaaGreatDoorT34
import Derived.Test.YtnpmfailpgbggaaGreatDoorT36
import Derived.Test.YtnpmfailpgbggaaGreatDoorT47
import Derived.Test.YtnpmfailpgbggaaGreatDoorT39
import Derived.Laws.AppendOwnNone
import Derived.Test.YtnpmfailpgbggaaGreatDoorT53
set_option linter.unusedVariables false
set_option linter.unusedSimpArgs false
set_option maxRecDepth 100000
set_option maxHeartbeats 16000000
namespace Go.Proofs.YtnpmfailpgbggaaGreatDoor
open Go Go.RowKit
namespace LM
theorem u8types : U8Types Tryz.prog Tryz.lays196_ren:=U8Types.of196 Tryz.lays196
theorem u8extra : U8Extra Tryz.prog Tryz.lays196_ren:={ n3:=by kernel_rfl,n4:=by kernel_rfl,y3:=by kernel_rfl,y4:=by kernel_rfl,c5:=by kernel_rfl,c119:=by kernel_rfl,c138:=by kernel_rfl }
theorem ut_of {l : List (String × DataW Unit)} {W : World} (h : laidMetH Tryz.prog l W)
    (e1 : ((l.filter fun x => x.2.handleName?.isNone).filter fun x => x.1 == "unicode/utf8.first") = [("unicode/utf8.first", Lib.firstData)])
    (e2 : ((l.filter fun x => x.2.handleName?.isNone).filter fun x => x.1 == "unicode/utf8.acceptRanges") = [("unicode/utf8.acceptRanges", Lib.acceptData)]) : UT W := fun W' hb => by
  have t:=utf8Tabs_of_readsT u8types u8extra (Go.Lib.laidMet.reads (listed_of h e1) (List.mem_singleton.2 rfl)) (Go.Lib.laidMet.reads (listed_of h e2) (List.mem_singleton.2 rfl))
  exact Utf8Tabs_below t hb
end LM
namespace LM
end LM
namespace LM
end LM
namespace LM
attribute [local go_sem] run_store_flt
theorem small_tx : ∀ (fr : Fr) (deep most : Int),most ≤ 4000 → 0 ≤ smallF deep most fr → TxF fr:=by
  intro fr
  induction fr with
  | nil=>intro deep most _ _; exact trivial
  | cons h k r ihk ihr =>
    intro deep most hm hs
    unfold smallF at hs
    split at hs
    · omega
    · rename_i hb
      split at hs
      · omega
      · rename_i h0
        obtain ⟨b1,b2,b3,b4⟩:=not_big5 hb
        have hbd:=dsmall_bd k (deep + 1) (most - 1) (by omega)
        exact ⟨by omega,ihk (deep + 1) (most - 1) (by omega) (by omega),ihr deep _ (by omega) hs⟩
theorem smallD_tx {deep most : Int} {h : Hd} {k : Fr} (hm : most ≤ 4000) (hs : ¬ smallD deep most h k < 0) : h.t.size ≤ 1000000∧TxF k:=by
  unfold smallD at hs
  split at hs
  · exact absurd (by decide) hs
  · rename_i hb
    split at hs
    · exact absurd (by decide) hs
    · rename_i h0
      obtain ⟨b1,b2,b3,b4⟩:=not_big5 hb
      exact ⟨by omega,small_tx k (deep + 1) (most - 1) (by omega) (by omega)⟩
theorem names_fn (w : World) (hv : FV w) (hx : FX w) (hr : RngCell w) (hsy : SynCell w) : ∃ nm : ByteArray → Bool,∀ t,CallB w 53 #[.string t] (.bool (nm t))∧CallB w 92 #[.string t] (.bool (nm t)):=by
  have h : ∀ t : ByteArray,∃ b : Bool,CallB w 53 #[.string t] (.bool b)∧CallB w 92 #[.string t] (.bool b):=fun t=>by
    obtain ⟨ff,hf⟩:=reads_some t
    obtain ⟨q,hq⟩:=nonum_bool t.data.toList ff
    exact ⟨nameV t.data.toList q,fun W hW=>dname_any t ff q hq hf W (hv.below hW) (hx.below hW) (hr.below hW) (hsy.below hW),fun W hW=>rname_any t ff q hq hf W (hv.below hW) (hx.below hW) (hr.below hW)⟩
  exact ⟨fun t=>Classical.choose (h t),fun t=>Classical.choose_spec (h t)⟩
abbrev listHd (B : Option Addr) (c : Nat) : Hd:=⟨5,0,false,0,false,none,[],0,⟨#[]⟩,B,c⟩
end LM
namespace LM
attribute [local go_sem] run_store_flt
structure LstI (w : World) (fr : Fr) (j : Nat) (x0 done : Fr) (Bl : Option Addr) (cl : Nat) (W : World) : Prop where
  bel : Below w.heap.size w W
  zer : W.heap[w.heap.size]? = some zeroO
  blk : W.heap[w.heap.size + 1]? = some (datO (listHd Bl cl) j)
  row : W.ownsRow (w.heap.size + 2) 30 8 (.slice Bl j cl) j (cellsF done)
  spl : fr = x0.app (fr.drop j)
  alk : AlikeF x0 done
  len : done.len = j
  kid : KidsAt W done
  off : OffF (Value.slice Bl j cl).ownBlock done
  fre : FreshF (w.heap.size + 2) done
  oks : done.Ok
end LM
namespace LM
attribute [local go_sem] run_store_flt
structure Onl (w : World) (g N : Nat) (W0 W : World) : Prop where
  bel : Below w.heap.size w W
  blk : ∃ cur,W.heap[g]? = some (.cells cur 30 (0,0))∧cur.size = N
  oth : ∀ k,k ≠ g → W.heap[k]? = W0.heap[k]?
  siz : W.heap.size = W0.heap.size
end LM
namespace LM
def NumP (w : World) (h : Hd) : Prop:=h.k = 0∧rightN h.fl h.f h.s h.xs = true∧h.f < 18446744073709551616∧Lm h.xs∧h.xs.length ≤ h.c∧h.c ≤ 9223372036854775807∧(h.A = none → h.xs.length = 0∧h.c = 0)∧Rd w h.A h.xs
def LeafP (w : World) (h : Hd) : Prop :=
  NumP w h ∨ (h.k = 1∧(h.n = 0 ∨ h.n = 1)) ∨ (h.k = 2∧∃ n : Nat,h.n = (n : Int)∧n ≤ 1114111) ∨ (h.k = 3∧h.t.size ≤ 1000000) ∨ (h.k = 4∧h.t.size ≤ 1000000)
def lfD (nt : Hd → ByteArray) (h : Hd) : List UInt8 :=
  if h.k = 0 then (nt h).data.toList else if h.k = 1 then (if h.n = 1 then [35,116] else [35,102]) else if h.k = 2 then [35,92] ++ nameL h.n.toNat else if h.k = 3 then quoteL h.t else h.t.data.toList
theorem nt_fn (w : World) (hv : FV w) : ∃ nt : Hd → ByteArray,∀ h,NumP w h → (nt h).size ≤ 2000∧(∀ W,Below w.heap.size w W → Calls Tryz.prog 40 #[numA h.fl h.f h.s h.A h.xs.length h.c] W fun e w'=>e = .returned (.string (nt h))∧Below W.heap.size W w') ∧
    ∀ W,Below w.heap.size w W → Calls Tryz.prog 45 #[numA h.fl h.f h.s h.A h.xs.length h.c] W fun e w'=>e = .returned (.string (nt h))∧Below W.heap.size W w':=by
  have h0 : ∀ h : Hd,∃ t : ByteArray,NumP w h → t.size ≤ 2000∧(∀ W,Below w.heap.size w W → Calls Tryz.prog 40 #[numA h.fl h.f h.s h.A h.xs.length h.c] W fun e w'=>e = .returned (.string t)∧Below W.heap.size W w') ∧
      ∀ W,Below w.heap.size w W → Calls Tryz.prog 45 #[numA h.fl h.f h.s h.A h.xs.length h.c] W fun e w'=>e = .returned (.string t)∧Below W.heap.size W w':=fun h=>by
    by_cases hp : NumP w h
    · obtain ⟨-,p1,p2,p3,p4,p5,p6,p7⟩:=hp
      obtain ⟨t,t1,t2,t3⟩:=ttext_both2 h.fl h.f h.s h.A h.c h.xs p1 p2 p3 p4 p5 p6
      exact ⟨t,fun _=>⟨t1,fun W hW=>t2 W (hv.below hW) (p7.below hW),fun W hW=>t3 W (hv.below hW) (p7.below hW)⟩⟩
    · exact ⟨⟨#[]⟩,fun h=>absurd h hp⟩
  exact ⟨fun h=>Classical.choose (h0 h),fun h=>Classical.choose_spec (h0 h)⟩
theorem lfD_len {w : World} {nt : Hd → ByteArray} (hnt : ∀ h,NumP w h → (nt h).size ≤ 2000) {h : Hd} (hp : LeafP w h) : (lfD nt h).length ≤ 11000002:=by
  unfold lfD
  rcases hp with hp | ⟨k,_⟩ | ⟨k,_⟩ | ⟨k,hs⟩ | ⟨k,hs⟩
  · have:=hnt h hp
    rw [if_pos hp.1]
    rw [Lib.size_eq] at this
    omega
  · rw [if_neg (by omega),if_pos k]
    split <;> simp
  · rw [if_neg (by omega),if_neg (by omega),if_pos k,List.length_append]
    have:=nameL_len h.n.toNat
    simp only [List.length_cons,List.length_nil]
    omega
  · rw [if_neg (by omega),if_neg (by omega),if_neg (by omega),if_pos k]
    have:=quoteF_len h.t.size h.t.data.toList
    simp only [List.length_append,List.length_cons,List.length_nil]
    omega
  · rw [if_neg (by omega),if_neg (by omega),if_neg (by omega),if_neg (by omega)]
    rw [Lib.size_eq] at hs
    omega
theorem txF_max {P : Hd → Prop} {lf : Hd → List UInt8} (hl : ∀ h,P h → (lf h).length ≤ 11000002) : ∀ (fr : Fr) (dot fst : Bool),WOk P fr → (txF lf dot fst fr).length ≤ fr.nodes * 11000020:=by
  intro fr
  induction fr with
  | nil=>intro _ _ _; exact Nat.zero_le _
  | cons h k r ihk ihr =>
    intro dot fst hw
    obtain ⟨⟨w1,-⟩,w2,w3⟩:=hw
    have h1 : ∀ d,(txF lf d true k).length ≤ k.nodes * 11000020:=fun d=>ihk d true w2
    have h2:=ihr dot false w3
    have hsep : (if dot && r.isNil then ([32,46,32] : List UInt8) else if fst then [] else [32]).length ≤ 3:=by
      split
      · simp
      · split <;> simp
    have hit : (txD lf h k).length ≤ k.nodes * 11000020 + 11000010:=by
      unfold txD
      split
      · have:=h1 false; simp only [List.length_append,List.length_cons,List.length_nil]; omega
      · split
        · have:=h1 true; simp only [List.length_append,List.length_cons,List.length_nil]; omega
        · split
          · have:=h1 false; simp only [List.length_append,List.length_cons,List.length_nil]; omega
          · rename_i a b c
            have:=hl h (w1 ⟨a,b,c⟩).2
            omega
    rw [txF_len]
    have e : (Fr.cons h k r).nodes = k.nodes + 1 + r.nodes:=rfl
    rw [e]
    have e2 : (k.nodes + 1 + r.nodes) * 11000020 = k.nodes * 11000020 + 11000020 + r.nodes * 11000020:=by omega
    omega
theorem txD_max {P : Hd → Prop} {lf : Hd → List UInt8} (hl : ∀ h,P h → (lf h).length ≤ 11000002) {h : Hd} {k : Fr} (hw : WOk P k) (hwh : WH P h k) : (txD lf h k).length ≤ k.nodes * 11000020 + 11000010:=by
  have h1 : ∀ d,(txF lf d true k).length ≤ k.nodes * 11000020:=fun d=>txF_max hl k d true hw
  unfold txD
  split
  · have:=h1 false; simp only [List.length_append,List.length_cons,List.length_nil]; omega
  · split
    · have:=h1 true; simp only [List.length_append,List.length_cons,List.length_nil]; omega
    · split
      · have:=h1 false; simp only [List.length_append,List.length_cons,List.length_nil]; omega
      · rename_i a b c
        have:=hl h (hwh.1 ⟨a,b,c⟩).2
        omega
theorem nil_of_len {kids : Fr} (h : (((kids.len : Nat) : Int) == 0) = true) : kids = .nil:=by
  cases kids with
  | nil=>rfl
  | cons x y z =>
    rw [beq_iff_eq] at h
    have h3 : (((z.len + 1 : Nat) : Int)) = 0:=h
    omega
theorem wh_of {nm : ByteArray → Bool} {d : Int} {h : Hd} {kids : Fr} {sub : Bool} {w : World} (hok : h.Ok kids.len) (ht : h.t.size ≤ 1000000) (hd : Rd w h.A h.xs) (hr : rightK nm d h kids sub = true) : WH (LeafP w) h kids:=by
  unfold rightK elseB at hr
  simp only [Bool.and_eq_true] at hr
  obtain ⟨⟨⟨⟨-,-⟩,-⟩,hi⟩,hr⟩:=hr
  constructor
  · intro hl
    obtain ⟨l5,l6,l7⟩:=hl
    have hkn : kids = .nil:=by
      apply nil_of_len
      have : decide (5 ≤ h.k∧h.k ≤ 7) = false:=decide_eq_false (by omega)
      rw [this,Bool.false_or] at hi
      exact hi
    refine ⟨hkn,?_⟩
    split at hr
    · rename_i k0
      exact .inl ⟨k0,hr,hok.f,hok.lm,hok.c.1,hok.c.2,hok.nA,hd⟩
    · split at hr
      · rename_i k1
        refine .inr (.inl ⟨k1,?_⟩)
        rw [Bool.or_eq_true,beq_iff_eq,beq_iff_eq] at hr
        exact hr
      · split at hr
        · rename_i k2
          refine .inr (.inr (.inl ⟨k2,h.n.toNat,?_⟩))
          unfold csignB at hr
          rw [Bool.or_eq_true,decide_eq_true_eq,decide_eq_true_eq] at hr
          omega
        · split at hr
          · rename_i k3
            exact .inr (.inr (.inr (.inl ⟨k3,ht⟩)))
          · split at hr
            · rename_i k4
              exact .inr (.inr (.inr (.inr ⟨k4,ht⟩)))
            · rw [Bool.and_eq_true,Bool.and_eq_true] at hr
              have hz:=hr.1.2
              unfold areB at hz
              rw [decide_eq_false l5,decide_eq_false l6,decide_eq_false l7] at hz
              simp at hz
  · intro h6
    rw [if_neg (by omega),if_neg (by omega),if_neg (by omega),if_neg (by omega),if_neg (by omega)] at hr
    rw [Bool.and_eq_true,Bool.and_eq_true] at hr
    have hz:=hr.1.2
    unfold areB at hz
    rw [decide_eq_false (show ¬ h.k = 5 by omega),decide_eq_false (show ¬ h.k = 7 by omega),decide_eq_true h6] at hz
    simp at hz
    exact hz.1
theorem wok_of {nm : ByteArray → Bool} {w : World} : ∀ (fr : Fr) (d : Int) (b off : Nat),FAt w b off fr → fr.Ok → TxF fr → rightF nm d fr = true → WOk (LeafP w) fr:=by
  intro fr
  induction fr with
  | nil=>intro d b off _ _ _ _; exact trivial
  | cons h k r ihk ihr =>
    intro d b off hf hok htx hr
    unfold rightF at hr
    rw [Bool.and_eq_true] at hr
    obtain ⟨-,-,hrd,⟨b',off',-,hfk⟩,hfr⟩:=hf
    refine ⟨wh_of hok.1 htx.1 hrd hr.1,?_,ihr d b _ hfr hok.2.2 htx.2.2 hr.2⟩
    rcases rightK_sub hr.1 with rfl | h1
    · exact trivial
    · exact ihk _ b' off' hfk hok.2.1 htx.2.1 h1
theorem right_tells {nm : ByteArray → Bool} {h : Hd} {kids : Fr} {w : World} (hd : DatV w h kids) (hok : kids.Ok) (hho : h.Ok kids.len) (htx : TxF kids) (ht : h.t.size ≤ 1000000) (hr : rightD nm h kids = true) : WOk (LeafP w) kids∧WH (LeafP w) h kids∧kids.nodes < 3000:=by
  unfold rightD at hr
  rw [Bool.and_eq_true,decide_eq_true_eq] at hr
  obtain ⟨b,off,-,hF⟩:=hd.items
  refine ⟨?_,wh_of hho ht hd.xs hr.2,?_⟩
  · rcases rightK_sub hr.2 with rfl | h1
    · exact trivial
    · exact wok_of kids _ b off hF hok htx h1
  · rcases Nat.lt_or_ge kids.nodes 3000 with h1 | h1
    · exact h1
    · have:=cnt_more kids 3001 1 (by omega)
      omega
theorem print_both (nm : ByteArray → Bool) (kids : Fr) (hok : kids.Ok) (htx : TxF kids) (h : Hd) (w : World) (hd : DatV w h kids) (hho : h.Ok kids.len) (ht : h.t.size ≤ 1000000) (hu : UT w) (hv : FV w) (hdb : DB w)
    (hnm : ∀ t,CallB w 53 #[.string t] (.bool (nm t))∧CallB w 92 #[.string t] (.bool (nm t))) :
    ∃ (t : ByteArray) (z : Int),(∀ W,Below w.heap.size w W → Calls Tryz.prog 8 #[datA h kids.len] W fun e w'=>e = .returned (.tuple #[.string t,.int .i64 z])∧Below W.heap.size W w') ∧
      ∀ W,Below w.heap.size w W → Calls Tryz.prog 9 #[datA h kids.len] W fun e w'=>e = .returned (.tuple #[.string t,.int .i64 z])∧Below W.heap.size W w':=by
  have hR : ∀ W,Below w.heap.size w W → Calls Tryz.prog 11 #[datA h kids.len] W fun e w'=>e = .returned (.bool (rightD nm h kids))∧Below W.heap.size W w':=fun W hW =>
    rdRight_any nm kids hok htx h W (hd.below hW) hho ht (fun t _=>callB_keep (hnm t).2 hW)
  cases hr : rightD nm h kids
  · rw [hr] at hR
    exact ⟨⟨#[]⟩,51,fun W hW=>dprint_not nm kids hok h W (hd.below hW) hho (hu.keep hW) (fun t _=>callB_keep (hnm t).1 hW) hr,
      fun W hW=>rprint_not kids h W fun W2 hW2=>hR W2 (bel_trans (B:=w.heap.size) hW hW2)⟩
  · rw [hr] at hR
    obtain ⟨wok,wh,hno⟩:=right_tells hd hok hho htx ht hr
    obtain ⟨nt,hnt⟩:=nt_fn w hv
    have hlen : (txD (lfD nt) h kids).length ≤ 100000000000:=by
      have h7 : (txD (lfD nt) h kids).length ≤ kids.nodes * 11000020 + 11000010:=txD_max (P:=LeafP w) (fun h hp=>lfD_len (fun h hn=>(hnt h hn).1) hp) wok wh
      omega
    refine ⟨⟨(txD (lfD nt) h kids).toArray⟩,0,fun W hW=>?_,fun W hW=>?_⟩
    · refine dprint_right nm (lfD nt) kids hok h W (hd.below hW) hho (hu.keep hW) (fun t _=>callB_keep (hnm t).1 hW) hr (LeafP w) (fun b w0 hb hw0 hh hp=>?_) wok wh hlen
      subst hb
      have hw2 : ∀ V,Below w0.heap.size w0 V → Below w.heap.size w V:=fun V hV=>bel_trans (B:=w.heap.size) hW (bel_trans (B:=W.heap.size) hw0 hV)
      have hdb2 : ∀ V,Below w0.heap.size w0 V → DB V:=fun V hV=>hdb.below (hw2 V hV)
      unfold lfD
      rcases hp with hp | ⟨k,hn⟩ | ⟨k,n,hn,hm⟩ | ⟨k,hs⟩ | ⟨k,hs⟩
      · rw [if_pos hp.1]
        exact dwrite_num _ w0 hh hp.1 _ fun V hV=>(hnt hh hp).2.1 V (hw2 V hV)
      · rw [if_neg (by omega),if_pos k]
        rcases hn with hn | hn
        · rw [if_neg (by omega)]
          exact dwrite_bool0 _ w0 hh k hn
        · rw [if_pos hn]
          exact dwrite_bool1 _ w0 hh k hn
      · rw [if_neg (by omega),if_neg (by omega),if_pos k,show hh.n.toNat = n by omega]
        exact dwrite_char _ w0 hh k n hn hm hdb2
      · rw [if_neg (by omega),if_neg (by omega),if_neg (by omega),if_pos k]
        exact dwrite_str2 _ w0 hh k _ fun V cs hV hwr hl=>dwtext_any _ cs hh.t V hwr (fun V2 hV2=>hdb2 V2 (hV.trans hV2)) hs (by omega)
      · rw [if_neg (by omega),if_neg (by omega),if_neg (by omega),if_neg (by omega)]
        exact dwrite_sym _ w0 hh k (by omega)
    · refine rprint_right kids h W _ true (fun W2 hW2=>hR W2 (bel_trans (B:=w.heap.size) hW hW2)) fun W2 hW2=>?_
      refine rdtext_any (lfD nt) W (LeafP w) (fun hh hp=>?_) (kids.size + 1) kids (by omega) hok wok h hho wh (hd.below hW) hlen W2 hW2 (hd.below (bel_trans (B:=w.heap.size) hW hW2))
      unfold lfD
      rcases hp with hp | ⟨k,hn⟩ | ⟨k,n,hn,hm⟩ | ⟨k,hs⟩ | ⟨k,hs⟩
      · rw [if_pos hp.1]
        exact rleaf_num W hh hp.1 _ fun V hV=>(hnt hh hp).2.2 V (bel_trans (B:=w.heap.size) hW hV)
      · rw [if_neg (by omega),if_pos k]
        rcases hn with hn | hn
        · rw [if_neg (by omega)]
          exact rleaf_bool0 W hh k hn
        · rw [if_pos hn]
          exact rleaf_bool1 W hh k hn
      · rw [if_neg (by omega),if_neg (by omega),if_pos k,show hh.n.toNat = n by omega]
        exact rleaf_char W hh k n hn hm
      · rw [if_neg (by omega),if_neg (by omega),if_neg (by omega),if_pos k]
        exact rleaf_str W hh k hs
      · rw [if_neg (by omega),if_neg (by omega),if_neg (by omega),if_neg (by omega)]
        exact rleaf_sym W hh k
end LM
namespace LM
attribute [local go_sem] run_store_flt
end LM
namespace LM
attribute [local go_sem] run_store_flt
theorem dtells_by (nm : ByteArray → Bool) (h h' : Hd) (kids kids' : Fr) (w : World) (hd : DatV w h kids) (hd' : DatV w h' kids') (hr : h.Raw kids.len) (hr' : h'.Raw kids'.len) (hk : kids.Raw) (hk' : kids'.Raw) (hu : UT w) (hv : FV w) (hdb : DB w)
    (hnm : ∀ t,CallB w 53 #[.string t] (.bool (nm t))∧CallB w 92 #[.string t] (.bool (nm t)))
    (hal : ∀ W,Below w.heap.size w W → Calls Tryz.prog 6 #[] W fun e w'=>e = .returned (.bool true)∧Below W.heap.size W w') :
    Calls Tryz.prog 3 #[datA h kids.len,datA h' kids'.len] w fun e w'=>e = .returned (.bool true)∧Below w.heap.size w w':=by
  obtain ⟨W0,hW0⟩ : ∃ W0,(w.alloc (datO h kids.len)).alloc (datO h' kids'.len) = W0:=⟨_,rfl⟩
  have hb0 : Below w.heap.size w W0:=by rw [← hW0]; exact ((Below.refl _ w).alloc (Nat.le_refl _) _).alloc (by simp) _
  have hO : Obs W0 [(w.heap.size + 1,datO h' kids'.len),(w.heap.size,datO h kids.len)]:=by
    rw [← hW0]
    have h1:=(Obs.nil.new (w:=w) (datO h kids.len)).new (datO h' kids'.len)
    simp only [World.size_alloc] at h1
    exact h1
  have BLK : Hid (∀ W,Below W0.heap.size W0 W → C8 W w.heap.size 0 h kids.len):=Lib.hid fun W hW=>C8.of_block (hO.below hW).tl.hd
  have BLK' : Hid (∀ W,Below W0.heap.size W0 W → C8 W (w.heap.size + 1) 0 h' kids'.len):=Lib.hid fun W hW=>C8.of_block (hO.below hW).hd
  have OB : Hid (∀ W,Below W0.heap.size W0 W → W.heap[w.heap.size]? = some (datO h kids.len)):=Lib.hid fun W hW=>(hO.below hW).tl.hd
  have OB' : Hid (∀ W,Below W0.heap.size W0 W → W.heap[w.heap.size + 1]? = some (datO h' kids'.len)):=Lib.hid fun W hW=>(hO.below hW).hd
  obtain ⟨v,hvv⟩ : ∃ v,smallD 0 4000 h kids = v:=⟨_,rfl⟩
  obtain ⟨v',hvv'⟩ : ∃ v,smallD 0 4000 h' kids' = v:=⟨_,rfl⟩
  have AL:=Lib.hid hal
  have SM : Hid (∀ W,Below w.heap.size w W → Calls Tryz.prog 7 #[datA h kids.len,.int .i64 0,.int .i64 4000] W fun e w'=>e = .returned (.int .i64 v)∧Below W.heap.size W w'):=Lib.hid fun W hW=>by
    have:=dsmall_any (kids.size + 1) kids (by omega) hk h 0 4000 W (hd.below hW) hr (by decide) (by decide) (by decide) (by decide)
    rw [hvv] at this
    exact this
  have SM' : Hid (∀ W,Below w.heap.size w W → Calls Tryz.prog 7 #[datA h' kids'.len,.int .i64 0,.int .i64 4000] W fun e w'=>e = .returned (.int .i64 v')∧Below W.heap.size W w'):=Lib.hid fun W hW=>by
    have:=dsmall_any (kids'.size + 1) kids' (by omega) hk' h' 0 4000 W (hd'.below hW) hr' (by decide) (by decide) (by decide) (by decide)
    rw [hvv'] at this
    exact this
  have HVV:=Lib.hid hvv
  have HVV':=Lib.hid hvv'
  have HB0:=Lib.hid hb0
  have HW0:=Lib.hid hW0
  have HD:=Lib.hid hd
  have HD':=Lib.hid hd'
  have HR:=Lib.hid hr
  have HR':=Lib.hid hr'
  have HK:=Lib.hid hk
  have HK':=Lib.hid hk'
  have HU:=Lib.hid hu
  have HFV:=Lib.hid hv
  have HDB:=Lib.hid hdb
  have HN:=Lib.hid hnm
  clear hal hvv hvv' hd hd' hr hr' hk hk' hu hv hdb hnm hO hW0 hb0
  go_enter Tryz.func3,Tryz.ntmps3
  go_wp2_with (fail)
  rw [HW0.out]
  refine (AL.out _ HB0.out).mono ?_
  rintro e w1 ⟨rfl,hb1⟩
  have HB1:=Lib.hid (show Below W0.heap.size W0 w1 from hb1)
  obtain ⟨x0,x1,x2,x3,x4,x5,x6,x7⟩:=BLK.out _ HB1.out
  obtain ⟨y0,y1,y2,y3,y4,y5,y6,y7⟩:=BLK'.out _ HB1.out
  clear hb1
  go_wp2_with (fail)
  refine (SM.out _ (bel_trans (B:=w.heap.size) HB0.out HB1.out)).mono ?_
  rintro e w2 ⟨rfl,hb2⟩
  have HB2:=Lib.hid (bel_trans (B:=W0.heap.size) HB1.out hb2)
  clear hb2 x0 x1 x2 x3 x4 x5 x6 x7 y0 y1 y2 y3 y4 y5 y6 y7
  by_cases hv0 : v < 0
  · have d1 : decide (v < 0) = true:=decide_eq_true hv0
    go_wp2_with (fail)
    go_ret
    exact ⟨rfl,bel_trans (B:=w.heap.size) HB0.out HB2.out⟩
  have d1 : decide (v < 0) = false:=decide_eq_false hv0
  have hv0 : 0 ≤ v:=Int.not_lt.1 hv0
  obtain ⟨y0,y1,y2,y3,y4,y5,y6,y7⟩:=BLK'.out _ HB2.out
  go_wp2_with (fail)
  refine (SM'.out _ (bel_trans (B:=w.heap.size) HB0.out HB2.out)).mono ?_
  rintro e w3 ⟨rfl,hb3⟩
  have HB3:=Lib.hid (bel_trans (B:=W0.heap.size) HB2.out hb3)
  clear hb3 y0 y1 y2 y3 y4 y5 y6 y7
  by_cases hv0' : v' < 0
  · have d2 : decide (v' < 0) = true:=decide_eq_true hv0'
    go_wp2_with (fail)
    go_ret
    exact ⟨rfl,bel_trans (B:=w.heap.size) HB0.out HB3.out⟩
  have d2 : decide (v' < 0) = false:=decide_eq_false hv0'
  have hv0' : 0 ≤ v':=Int.not_lt.1 hv0'
  have hns : ¬ smallD 0 4000 h kids < 0:=by rw [HVV.out]; exact Int.not_lt.2 hv0
  have hns' : ¬ smallD 0 4000 h' kids' < 0:=by rw [HVV'.out]; exact Int.not_lt.2 hv0'
  obtain ⟨ok,kok,few,smf,kl,xl⟩:=smallD_ok HR.out HK.out (Int.le_refl _) hns
  obtain ⟨tx1,tx2⟩:=smallD_tx (Int.le_refl _) hns
  obtain ⟨ok',kok',few',smf',kl',xl'⟩:=smallD_ok HR'.out HK'.out (Int.le_refl _) hns'
  obtain ⟨tx1',tx2'⟩:=smallD_tx (Int.le_refl _) hns'
  obtain ⟨tx,z,P1,P2⟩:=print_both nm kids kok tx2 h w HD.out ok tx1 HU.out HFV.out HDB.out HN.out
  have P1:=Lib.hid P1
  have P2:=Lib.hid P2
  have OK:=Lib.hid ok
  have KOK:=Lib.hid kok
  have OK':=Lib.hid ok'
  have KOK':=Lib.hid kok'
  have R1 : Hid (∀ W,Below w.heap.size w W → Calls Tryz.prog 10 #[datA h kids.len] W fun e w'=>e = .returned (.bool (rightD nm h kids))∧Below W.heap.size W w'):=Lib.hid fun W hW=>dRight_any nm kids kok h W (HD.out.below hW) ok (HU.out.keep hW) (fun t _=>callB_keep (HN.out t).1 hW)
  have R2 : Hid (∀ W,Below w.heap.size w W → Calls Tryz.prog 11 #[datA h kids.len] W fun e w'=>e = .returned (.bool (rightD nm h kids))∧Below W.heap.size W w'):=Lib.hid fun W hW=>rdRight_any nm kids kok tx2 h W (HD.out.below hW) ok tx1 (fun t _=>callB_keep (HN.out t).2 hW)
  have R3 : Hid (∀ W,Below w.heap.size w W → Calls Tryz.prog 11 #[datA h' kids'.len] W fun e w'=>e = .returned (.bool (rightD nm h' kids'))∧Below W.heap.size W w'):=Lib.hid fun W hW=>rdRight_any nm kids' kok' tx2' h' W (HD'.out.below hW) ok' tx1' (fun t _=>callB_keep (HN.out t).2 hW)
  obtain ⟨q,hq⟩ : ∃ q,rightD nm h kids = q:=⟨_,rfl⟩
  obtain ⟨q',hq'⟩ : ∃ q,rightD nm h' kids' = q:=⟨_,rfl⟩
  rw [hq] at R1 R2
  rw [hq'] at R3
  have HQ:=Lib.hid hq
  have HQ':=Lib.hid hq'
  clear hv0 hv0' hns hns' ok kok few smf kl xl tx1 tx2 ok' kok' few' smf' kl' xl' tx1' tx2' hq hq'
  obtain ⟨x0,x1,x2,x3,x4,x5,x6,x7⟩:=BLK.out _ HB3.out
  go_wp2_with (fail)
  refine (P1.out _ (bel_trans (B:=w.heap.size) HB0.out HB3.out)).mono ?_
  rintro e w4 ⟨rfl,hb4⟩
  have HB4:=Lib.hid (bel_trans (B:=W0.heap.size) HB3.out hb4)
  clear hb4 x0 x1 x2 x3 x4 x5 x6 x7
  obtain ⟨x0,x1,x2,x3,x4,x5,x6,x7⟩:=BLK.out _ HB4.out
  go_wp2_with (fail)
  refine (P2.out _ (bel_trans (B:=w.heap.size) HB0.out HB4.out)).mono ?_
  rintro e w5 ⟨rfl,hb5⟩
  have HB5:=Lib.hid (bel_trans (B:=W0.heap.size) HB4.out hb5)
  clear hb5 x0 x1 x2 x3 x4 x5 x6 x7
  obtain ⟨x0,x1,x2,x3,x4,x5,x6,x7⟩:=BLK.out _ HB5.out
  go_wp2_with (fail)
  have KS : Hid (∀ W : World,W.heap[w.heap.size]? = some (datO h kids.len) → W.cell? ⟨w.heap.size,0,none⟩ = some (.int .i64 h.k)∧W.cell? ⟨w.heap.size,1,none⟩ = some (.int .i64 h.n)∧W.cell? ⟨w.heap.size,2,none⟩ = some (.bool h.fl)∧W.cell? ⟨w.heap.size,3,none⟩ = some (.float .f64 h.f)∧W.cell? ⟨w.heap.size,4,none⟩ = some (.bool h.s)∧W.cell? ⟨w.heap.size,5,none⟩ = some (.slice h.A h.xs.length h.c)∧W.cell? ⟨w.heap.size,6,none⟩ = some (.string h.t)∧W.cell? ⟨w.heap.size,7,none⟩ = some (.slice h.B kids.len h.cap)):=Lib.hid fun W h=>⟨ob_cell h 0,ob_cell h 1,ob_cell h 2,ob_cell h 3,ob_cell h 4,ob_cell h 5,ob_cell h 6,ob_cell h 7⟩
  have O0:=Lib.hid (OB.out _ (Below.drew HB5.out))
  have D1:=Lib.hid (R1.out w5.drew (bel_trans (B:=w.heap.size) HB0.out (Below.drew HB5.out)))
  have B5:=Lib.hid (Below.drew HB5.out)
  go_region_held3 (fun W=>W.cell? ⟨w.heap.size,0,none⟩ = some (.int .i64 h.k)∧W.cell? ⟨w.heap.size,1,none⟩ = some (.int .i64 h.n)∧W.cell? ⟨w.heap.size,2,none⟩ = some (.bool h.fl)∧W.cell? ⟨w.heap.size,3,none⟩ = some (.float .f64 h.f)∧W.cell? ⟨w.heap.size,4,none⟩ = some (.bool h.s)∧W.cell? ⟨w.heap.size,5,none⟩ = some (.slice h.A h.xs.length h.c)∧W.cell? ⟨w.heap.size,6,none⟩ = some (.string h.t)∧W.cell? ⟨w.heap.size,7,none⟩ = some (.slice h.B kids.len h.cap))
    ((exact KS.out _ (Hid.out (by assumption))))
    (first
      | (go_at_call 10; (with_reducible refine D1.out.mono ?_); rintro e v1 ⟨rfl,hbz⟩; have Z1:=Lib.hid (bel_trans (B:=W0.heap.size) B5.out hbz); have O1:=Lib.hid (OB.out _ Z1.out); have D2:=Lib.hid (R2.out v1 (bel_trans (B:=w.heap.size) HB0.out Z1.out)); clear hbz)
      | (go_at_call 11; (with_reducible refine D2.out.mono ?_); rintro e v2 ⟨rfl,hbz⟩; have Z2:=Lib.hid (bel_trans (B:=W0.heap.size) Z1.out hbz); have O2:=Lib.hid (OB.out _ Z2.out); clear hbz))
  all_goals
    clear x0 x1 x2 x3 x4 x5 x6 x7
    obtain ⟨x0,x1,x2,x3,x4,x5,x6,x7⟩:=BLK.out _ Z2.out
    go_wp2_with (fail)
    refine (R2.out _ (bel_trans (B:=w.heap.size) HB0.out Z2.out)).mono ?_
    rintro e v3 ⟨rfl,hbz⟩
    have Z3:=Lib.hid (bel_trans (B:=W0.heap.size) Z2.out hbz)
    clear hbz x0 x1 x2 x3 x4 x5 x6 x7
    cases q
    · go_wp2_with (fail)
      go_ret
      exact ⟨rfl,bel_trans (B:=w.heap.size) HB0.out Z3.out⟩
    obtain ⟨y0,y1,y2,y3,y4,y5,y6,y7⟩:=BLK'.out _ Z3.out
    go_wp2_with (fail)
    refine (R3.out _ (bel_trans (B:=w.heap.size) HB0.out Z3.out)).mono ?_
    rintro e v4 ⟨rfl,hbz⟩
    have Z4:=Lib.hid (bel_trans (B:=W0.heap.size) Z3.out hbz)
    clear hbz y0 y1 y2 y3 y4 y5 y6 y7
    cases q'
    · go_wp2_with (fail)
      go_ret
      exact ⟨rfl,bel_trans (B:=w.heap.size) HB0.out Z4.out⟩
    obtain ⟨rn,nr⟩:=rightD_nums HQ.out
    obtain ⟨rn',nr'⟩:=rightD_nums HQ'.out
    have hcn:=rightD_cnt HQ.out
    have hno : kids.nodes < 3000:=by
      have h1:=HQ.out
      unfold rightD at h1
      rw [Bool.and_eq_true,decide_eq_true_eq] at h1
      rcases Nat.lt_or_ge kids.nodes 3000 with h2 | h2
      · exact h2
      · have:=cnt_more kids 3001 1 (by omega)
        omega
    have hcz : cnt 65536 1 kids = ((kids.nodes + 1 : Nat) : Int):=by rw [cnt_nodes kids 65536 1 (by omega)]; omega
    obtain ⟨p,hp⟩ : ∃ p,(headS h h' && sameF kids kids') = p:=⟨_,rfl⟩
    obtain ⟨c,hc⟩ : ∃ c,kids.nodes + 1 = c:=⟨_,rfl⟩
    have S1 : Hid (∀ W,Below w.heap.size w W → Calls Tryz.prog 12 #[datA h kids.len,datA h' kids'.len] W fun e w'=>e = .returned (.bool p)∧Below W.heap.size W w'):=Lib.hid fun W hW=>by
      rw [← hp]
      exact dSame_any kids kids' KOK.out KOK'.out nr nr' hcn h h' W (HD.out.below hW) (HD'.out.below hW) OK.out OK'.out rn rn'
    have S2 : Hid (∀ W,Below w.heap.size w W → Calls Tryz.prog 13 #[datA h kids.len,datA h' kids'.len] W fun e w'=>e = .returned (.bool p)∧Below W.heap.size W w'):=Lib.hid fun W hW=>by
      rw [← hp]
      exact rdsame_any (kids.size + 1) kids kids' (by omega) KOK.out KOK'.out nr nr' h h' W (HD.out.below hW) (HD'.out.below hW) OK.out OK'.out rn rn'
    have S3 : Hid (∀ W,Below w.heap.size w W → Calls Tryz.prog 14 #[datA h kids.len] W fun e w'=>e = .returned (.int .i64 (c : Int))∧Below W.heap.size W w'):=Lib.hid fun W hW=>by
      rw [← hc,← hcz]
      exact dnodes_any kids KOK.out h W (HD.out.below hW) OK.out
    have S4 : Hid (∀ W,Below w.heap.size w W → Calls Tryz.prog 15 #[datA h kids.len] W fun e w'=>e = .returned (.int .i64 (c : Int))∧Below W.heap.size W w'):=Lib.hid fun W hW=>by
      rw [← hc]
      exact rnodes_any (kids.size + 1) kids (by omega) KOK.out h W (HD.out.below hW) OK.out (by omega)
    have KB : Hid (∀ W : World,W.heap[w.heap.size]? = some (datO h kids.len)∧W.heap[w.heap.size + 1]? = some (datO h' kids'.len) → W.cell? ⟨w.heap.size,0,none⟩ = some (.int .i64 h.k)∧W.cell? ⟨w.heap.size,1,none⟩ = some (.int .i64 h.n)∧W.cell? ⟨w.heap.size,2,none⟩ = some (.bool h.fl)∧W.cell? ⟨w.heap.size,3,none⟩ = some (.float .f64 h.f)∧W.cell? ⟨w.heap.size,4,none⟩ = some (.bool h.s)∧W.cell? ⟨w.heap.size,5,none⟩ = some (.slice h.A h.xs.length h.c)∧W.cell? ⟨w.heap.size,6,none⟩ = some (.string h.t)∧W.cell? ⟨w.heap.size,7,none⟩ = some (.slice h.B kids.len h.cap)∧W.cell? ⟨w.heap.size + 1,0,none⟩ = some (.int .i64 h'.k)∧W.cell? ⟨w.heap.size + 1,1,none⟩ = some (.int .i64 h'.n)∧W.cell? ⟨w.heap.size + 1,2,none⟩ = some (.bool h'.fl)∧W.cell? ⟨w.heap.size + 1,3,none⟩ = some (.float .f64 h'.f)∧W.cell? ⟨w.heap.size + 1,4,none⟩ = some (.bool h'.s)∧W.cell? ⟨w.heap.size + 1,5,none⟩ = some (.slice h'.A h'.xs.length h'.c)∧W.cell? ⟨w.heap.size + 1,6,none⟩ = some (.string h'.t)∧W.cell? ⟨w.heap.size + 1,7,none⟩ = some (.slice h'.B kids'.len h'.cap)):=Lib.hid fun W hh=>by
      obtain ⟨h,h2⟩:=hh
      exact ⟨ob_cell h 0,ob_cell h 1,ob_cell h 2,ob_cell h 3,ob_cell h 4,ob_cell h 5,ob_cell h 6,ob_cell h 7,ob_cell h2 0,ob_cell h2 1,ob_cell h2 2,ob_cell h2 3,ob_cell h2 4,ob_cell h2 5,ob_cell h2 6,ob_cell h2 7⟩
    have PB : Hid (∀ W,Below W0.heap.size W0 W → W.heap[w.heap.size]? = some (datO h kids.len)∧W.heap[w.heap.size + 1]? = some (datO h' kids'.len)):=Lib.hid fun W hW=>⟨OB.out W hW,OB'.out W hW⟩
    have B6:=Lib.hid (Below.drew Z4.out)
    have N0:=Lib.hid (PB.out _ B6.out)
    have E1:=Lib.hid (S1.out v4.drew (bel_trans (B:=w.heap.size) HB0.out B6.out))
    clear rn nr rn' nr' hcn hno hcz hp hc O0 O1 O2
    go_wp2_with (fail)
    go_region_held3 (fun W=>W.cell? ⟨w.heap.size,0,none⟩ = some (.int .i64 h.k)∧W.cell? ⟨w.heap.size,1,none⟩ = some (.int .i64 h.n)∧W.cell? ⟨w.heap.size,2,none⟩ = some (.bool h.fl)∧W.cell? ⟨w.heap.size,3,none⟩ = some (.float .f64 h.f)∧W.cell? ⟨w.heap.size,4,none⟩ = some (.bool h.s)∧W.cell? ⟨w.heap.size,5,none⟩ = some (.slice h.A h.xs.length h.c)∧W.cell? ⟨w.heap.size,6,none⟩ = some (.string h.t)∧W.cell? ⟨w.heap.size,7,none⟩ = some (.slice h.B kids.len h.cap)∧W.cell? ⟨w.heap.size + 1,0,none⟩ = some (.int .i64 h'.k)∧W.cell? ⟨w.heap.size + 1,1,none⟩ = some (.int .i64 h'.n)∧W.cell? ⟨w.heap.size + 1,2,none⟩ = some (.bool h'.fl)∧W.cell? ⟨w.heap.size + 1,3,none⟩ = some (.float .f64 h'.f)∧W.cell? ⟨w.heap.size + 1,4,none⟩ = some (.bool h'.s)∧W.cell? ⟨w.heap.size + 1,5,none⟩ = some (.slice h'.A h'.xs.length h'.c)∧W.cell? ⟨w.heap.size + 1,6,none⟩ = some (.string h'.t)∧W.cell? ⟨w.heap.size + 1,7,none⟩ = some (.slice h'.B kids'.len h'.cap))
      ((exact KB.out _ (Hid.out (by assumption))))
      (first
        | (go_at_call 12; (with_reducible refine E1.out.mono ?_); rintro e u1 ⟨rfl,hbz⟩; have Y1:=Lib.hid (bel_trans (B:=W0.heap.size) B6.out hbz); have N1:=Lib.hid (PB.out _ Y1.out); have E2:=Lib.hid (S2.out u1 (bel_trans (B:=w.heap.size) HB0.out Y1.out)); clear hbz)
        | (go_at_call 13; (with_reducible refine E2.out.mono ?_); rintro e u2 ⟨rfl,hbz⟩; have Y2:=Lib.hid (bel_trans (B:=W0.heap.size) Y1.out hbz); have N2:=Lib.hid (PB.out _ Y2.out); have E3:=Lib.hid (S3.out u2 (bel_trans (B:=w.heap.size) HB0.out Y2.out)); clear hbz)
        | (go_at_call 14; (with_reducible refine E3.out.mono ?_); rintro e u3 ⟨rfl,hbz⟩; have Y3:=Lib.hid (bel_trans (B:=W0.heap.size) Y2.out hbz); have N3:=Lib.hid (PB.out _ Y3.out); have E4:=Lib.hid (S4.out u3 (bel_trans (B:=w.heap.size) HB0.out Y3.out)); clear hbz)
        | (go_at_call 15; (with_reducible refine E4.out.mono ?_); rintro e u4 ⟨rfl,hbz⟩; have Y4:=Lib.hid (bel_trans (B:=W0.heap.size) Y3.out hbz); have N4:=Lib.hid (PB.out _ Y4.out); clear hbz))
    all_goals
      go_wp2_with (fail)
      go_ret
      exact ⟨by first | rfl | simp,bel_trans (B:=w.heap.size) HB0.out Y4.out⟩
end LM
namespace LM
abbrev lowBits : List Int:=[0,1,56,2,57,49,28,3,61,58,42,50,38,29,17,4,62,47,59,36,45,43,51,22,53,39,33,30,24,18,12,5,63,55,48,27,60,41,37,16,46,35,44,21,52,32,23,11,54,26,40,15,34,20,31,10,25,14,19,9,13,8,7,6]
theorem db_of {l : List (String × DataW Unit)} {W : World} (h : laidMetH Tryz.prog l W)
    (he : ((l.filter fun x => x.2.handleName?.isNone).filter fun x => x.1 == "math/bits.deBruijn64tab") = [("math/bits.deBruijn64tab", Lib.tabData .u8 lowBits)]) : DB W := by
  have t : Lib.TabIs Tryz.prog W "math/bits.deBruijn64tab" .u8 lowBits :=
    Lib.tabIs_of_head (g:=12) (t:=256) (e:=5) (n:=64) (by kernel_rfl) (by kernel_rfl) Tryz.underlying256 Tryz.underlying5 (by kernel_rfl) (by kernel_rfl) (listed_of h he)
  have hc : W.cell? ⟨12,15,none⟩ = some (.int .u8 4):=t.cell (by kernel_rfl) 15 (by decide)
  exact ⟨hc,(spot_none hc).2⟩
theorem dtells_card {l : List (String × DataW Unit)} {nm nr : String} {d dr : DataW Unit} {W : World} (h : laidMetH Tryz.prog l W)
    (e0 : ((l.filter fun x => x.2.handleName?.isNone).filter fun x => x.1 == "math/bits.deBruijn64tab") = [("math/bits.deBruijn64tab", Lib.tabData .u8 lowBits)])
    (e1 : ((l.filter fun x => x.2.handleName?.isNone).filter fun x => x.1 == "unicode/utf8.first") = [("unicode/utf8.first", Lib.firstData)])
    (e2 : ((l.filter fun x => x.2.handleName?.isNone).filter fun x => x.1 == "unicode/utf8.acceptRanges") = [("unicode/utf8.acceptRanges", Lib.acceptData)])
    (c1 : ((l.filter fun x => x.2.handleName?.isNone).filter fun x => x.1 == "internal/strconv.leftcheats") = [("internal/strconv.leftcheats", Go.Pinned.leftcheats)])
    (c2 : ((l.filter fun x => x.2.handleName?.isNone).filter fun x => x.1 == "internal/strconv.powtab") = [("internal/strconv.powtab", .slice (powtabL.map fun x => .lit (.int .i64 ((x : Nat) : Int))) [])])
    (c3 : ((l.filter fun x => x.2.handleName?.isNone).filter fun x => x.1 == "internal/strconv.float64info") = [("internal/strconv.float64info", .agg [.lit (.int .u64 52), .lit (.int .u64 11), .lit (.int .i64 (-1023))])])
    (e3 : ((l.filter fun x => x.2.handleName?.isNone).filter fun x => x.1 == "strconv.ErrSyntax") = [("strconv.ErrSyntax", .iface nm d)])
    (e4 : ((l.filter fun x => x.2.handleName?.isNone).filter fun x => x.1 == "strconv.ErrRange") = [("strconv.ErrRange", .iface nr dr)]) (hv : FV W) (hh : Hd) (kids : Fr) (hd : DatV W hh kids) (hraw : hh.Raw kids.len) (hk : kids.Raw) (hh' : Hd) (kids' : Fr) (hd' : DatV W hh' kids') (hraw' : hh'.Raw kids'.len) (hk' : kids'.Raw) :
    Calls Tryz.prog 3 #[datA hh kids.len,datA hh' kids'.len] W fun e w'=>e = .returned (.bool true)∧Below W.heap.size W w':=by
  obtain ⟨nmf,hnm⟩:=names_fn W hv (fx_of h c1 c2 c3) (rngcell_of h e4) (sentinel_of h e3)
  exact dtells_by nmf hh hh' kids kids' W hd hd' hraw hraw' hk hk' (ut_of h e1 e2) hv (db_of h e0) hnm fun W2 hW=>dalive_any W2 ((sentinel_of h e3).below hW) ((ut_of h e1 e2).keep hW) (hv.below hW).tab
end LM
end Go.Proofs.YtnpmfailpgbggaaGreatDoor
