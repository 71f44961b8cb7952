import Derived.Test.YtaonablbgicmpaaGreatDoorE37
import Derived.Laws.Cover4
import Derived.Lib.OthersKept
import Derived.Test.YtaonablbgicmpaaGreatDoorE40
import Derived.Test.YtaonablbgicmpaaGreatDoorE31
import Derived.Test.YtaonablbgicmpaaGreatDoorE42
import Derived.Test.YtaonablbgicmpaaGreatDoorE09
import Derived.Test.YtaonablbgicmpaaGreatDoorE34
import Derived.Laws.RangeAny
import Derived.Laws.Cover1
import Derived.Laws.Runes
import Derived.Test.YtaonablbgicmpaaGreatDoorE35
import Derived.Deep.RegionHeld3
set_option linter.unusedVariables false
set_option linter.unusedSimpArgs false
set_option maxRecDepth 100000
set_option maxHeartbeats 16000000
namespace Go.Proofs.YtaonablbgicmpaaGreatDoor
open Go Go.RowKit
namespace LM
attribute [local go_sem] run_store_flt
def WH (P : Hd → Prop) (h : Hd) (k : Fr) : Prop:=(leafK h.k → k = .nil∧P h)∧(h.k = 6 → 2 ≤ k.len)
def WOk (P : Hd → Prop) : Fr → Prop
 | .nil=>True
 | .cons h k r=>WH P h k∧WOk P k∧WOk P r
theorem WOk.drop {P : Hd → Prop} : ∀ (j : Nat) {fr : Fr},WOk P fr → WOk P (fr.drop j):=by
 intro j
 induction j with
 | zero=>intro fr h; exact h
 | succ j ih =>
  intro fr h
  cases fr with
  | nil=>exact trivial
  | cons hh k r=>exact ih h.2.2
theorem txI_mono (lf : Hd → List UInt8) : ∀ (j n : Nat) (fst : Bool) (fr : Fr),j ≤ n → (txI lf j fst fr).length ≤ (txI lf n fst fr).length:=by
 intro j
 induction j with
 | zero=>intro n fst fr _; show 0 ≤ _; omega
 | succ j ih =>
  intro n fst fr hn
  obtain ⟨m,rfl⟩ : ∃ m,n = m + 1:=⟨n - 1,by omega⟩
  cases fr with
  | nil=>exact Nat.le_refl _
  | cons a b c =>
   have:=ih m false c (by omega)
   show ((if fst then [] else [32]) ++ txD lf a b ++ txI lf j false c).length ≤ ((if fst then [] else [32]) ++ txD lf a b ++ txI lf m false c).length
   simp only [List.length_append]
   omega
abbrev WriteC (b : Nat) (w0 : World) (h : Hd) (n : Nat) (t : List UInt8) : Prop:=∀ W cs,Below b w0 W → WR b cs W → cs.length + t.length ≤ 100000000000 → Calls Tryz.prog 42 #[.pointer (some ⟨b,0,none⟩),datA h n] W (Wrote b cs t W)
theorem dwrite_row (b : Nat) (w0 : World) (h : Hd) (kids : Fr) (t : List UInt8) (o : ByteArray) (ho : (h.k = 5∧o = ⟨#[40]⟩) ∨ (h.k = 7∧o = ⟨#[35,40]⟩)) (W : World) (cs : List UInt8) (hb : Below b w0 W) (hr : WR b cs W)
  (hI : ∀ W,Below b w0 W → WR b cs W → Calls Tryz.prog 74 #[.pointer (some ⟨b,0,none⟩),.string o,.slice h.B kids.len h.cap] W (Wrote b cs (o.data.toList ++ t) W)) (hl : cs.length + (o.data.toList ++ t ++ [41]).length ≤ 100000000000) :
  Calls Tryz.prog 42 #[.pointer (some ⟨b,0,none⟩),datA h kids.len] W (Wrote b cs (o.data.toList ++ t ++ [41]) W):=by
 obtain ⟨W0,hW0,hb0,hO,hs0⟩:=dat_block W h kids.len
 have hbw:=hr.2
 have A1:=Lib.hid (hr.below hb0)
 have A2:=Lib.hid (hb0.mono (Nat.le_of_lt hbw))
 have A3:=Lib.hid (keeps8_below (B:=b + 1) hb0)
 have HI:=Lib.hid (hI W0 (hb.trans (hb0.mono (Nat.le_of_lt hbw))) (hr.below hb0))
 have HW0:=Lib.hid hW0
 have HL:=Lib.hid hl
 clear hW0 hb0 hO hI hb hr hl hs0
 rcases ho with ⟨hk,rfl⟩ | ⟨hk,rfl⟩
 all_goals
  have f0 : (h.k == 0) = false:=by rw [hk]; rfl
  have f1 : (h.k == 1) = false:=by rw [hk]; rfl
  have f2 : (h.k == 2) = false:=by rw [hk]; rfl
  have f3 : (h.k == 3) = false:=by rw [hk]; rfl
  have f4 : (h.k == 4) = false:=by rw [hk]; rfl
  have f5 : (h.k == 5) = decide (h.k = 5):=by rw [hk]; rfl
  have f6 : (h.k == 6) = false:=by rw [hk]; rfl
  have f7 : (h.k == 7) = decide (h.k = 7):=by rw [hk]; rfl
 ·have g5 : decide (h.k = 5) = true:=decide_eq_true hk
  rw [g5] at f5
  clear hk g5 f7
  go_enter Tryz.func42,Tryz.ntmps42
  go_wp2_with (fail)
  rw [HW0.out]
  refine HI.out.mono ?_
  rintro e w1 ⟨⟨v,rfl⟩,h1,h2,h3⟩
  have H2:=Lib.hid (wrstr_any b _ ⟨#[41]⟩ w1 h1 (by have:=HL.out; simp only [List.length_append] at this ⊢; show _ + 1 ≤ _; omega))
  have B2:=Lib.hid (A2.out.trans h2)
  have B3:=Lib.hid (A3.out.trans h3)
  clear h1 h2 h3
  go_wp2_with (fail)
  refine H2.out.mono ?_
  rintro e w2 ⟨⟨v2,rfl⟩,h1,h2,h3⟩
  have C1:=Lib.hid h1
  have C2:=Lib.hid (B2.out.trans h2)
  have C3:=Lib.hid (B3.out.trans h3)
  clear h1 h2 h3
  go_wp2_with (fail)
  go_end0
  exact ⟨⟨_,rfl⟩,by have:=C1.out; rw [List.append_assoc] at this; exact this,C2.out,C3.out⟩
 ·have g5 : decide (h.k = 5) = false:=decide_eq_false (by omega)
  have g7 : decide (h.k = 7) = true:=decide_eq_true hk
  rw [g5] at f5
  rw [g7] at f7
  clear hk g5 g7
  go_enter Tryz.func42,Tryz.ntmps42
  go_wp2_with (fail)
  rw [HW0.out]
  refine HI.out.mono ?_
  rintro e w1 ⟨⟨v,rfl⟩,h1,h2,h3⟩
  have H2:=Lib.hid (wrstr_any b _ ⟨#[41]⟩ w1 h1 (by have:=HL.out; simp only [List.length_append] at this ⊢; show _ + 1 ≤ _; omega))
  have B2:=Lib.hid (A2.out.trans h2)
  have B3:=Lib.hid (A3.out.trans h3)
  clear h1 h2 h3
  go_wp2_with (fail)
  refine H2.out.mono ?_
  rintro e w2 ⟨⟨v2,rfl⟩,h1,h2,h3⟩
  have C1:=Lib.hid h1
  have C2:=Lib.hid (B2.out.trans h2)
  have C3:=Lib.hid (B3.out.trans h3)
  clear h1 h2 h3
  go_wp2_with (fail)
  go_end0
  exact ⟨⟨_,rfl⟩,by have:=C1.out; rw [List.append_assoc] at this; exact this,C2.out,C3.out⟩
theorem dwrite_dot (b : Nat) (w0 : World) (h : Hd) (kids : Fr) (t : List UInt8) (bb off : Nat) (hk : h.k = 6) (hB : h.B = some ⟨bb,off,none⟩) (hn2 : 2 ≤ kids.len) (hcap : kids.len ≤ h.cap) (hcap2 : h.cap ≤ 9223372036854775807) (hh : Hd) (k : Fr) (hC : ∀ W,Below b w0 W → C8 W bb (off + (kids.len - 1) * 8) hh k.len)
  (tl : List UInt8) (W : World) (cs : List UInt8) (hb : Below b w0 W) (hr : WR b cs W)
  (hI : ∀ W,Below b w0 W → WR b cs W → Calls Tryz.prog 74 #[.pointer (some ⟨b,0,none⟩),.string ⟨#[40]⟩,.slice (some ⟨bb,off,none⟩) ((kids.len - 1 : Nat) : Nat) h.cap] W (Wrote b cs ([40] ++ t) W))
  (hw : WriteC b w0 hh k.len tl) (hl : cs.length + ([40] ++ (t ++ [32,46,32] ++ tl) ++ [41]).length ≤ 100000000000) :
  Calls Tryz.prog 42 #[.pointer (some ⟨b,0,none⟩),datA h kids.len] W (Wrote b cs ([40] ++ (t ++ [32,46,32] ++ tl) ++ [41]) W):=by
 obtain ⟨W0,hW0,hb0,hO,hs0⟩:=dat_block W h kids.len
 have hbw:=hr.2
 have A0:=Lib.hid (hb.trans (hb0.mono (Nat.le_of_lt hbw)))
 have A1:=Lib.hid (hr.below hb0)
 have A2:=Lib.hid (hb0.mono (Nat.le_of_lt hbw))
 have A3:=Lib.hid (keeps8_below (B:=b + 1) hb0)
 have HI:=Lib.hid (hI W0 (hb.trans (hb0.mono (Nat.le_of_lt hbw))) (hr.below hb0))
 have HC:=Lib.hid hC
 have HW:=Lib.hid hw
 have HO:=Lib.hid hO
 have HW0:=Lib.hid hW0
 have HL:=Lib.hid hl
 have HBW:=Lib.hid hbw
 have f0 : (h.k == 0) = false:=by rw [hk]; rfl
 have f1 : (h.k == 1) = false:=by rw [hk]; rfl
 have f2 : (h.k == 2) = false:=by rw [hk]; rfl
 have f3 : (h.k == 3) = false:=by rw [hk]; rfl
 have f4 : (h.k == 4) = false:=by rw [hk]; rfl
 have f5 : (h.k == 5) = false:=by rw [hk]; rfl
 have f6 : (h.k == 6) = true:=by rw [hk]; rfl
 have w1 : IntKind.i64.wrap ((kids.len : Int) - 1) = ((kids.len - 1 : Nat) : Int):=by rw [IntKind.wrap_i64]; omega
 obtain ⟨q,hq⟩ : ∃ q,kids.len - 1 = q:=⟨_,rfl⟩
 rw [hq] at w1 HI HC
 have hqn : q < kids.len:=by omega
 have hqc : q ≤ h.cap:=by omega
 obtain ⟨k0,n0,fl0,ff0,s0,AA0,xs0,c0,t0,B0,cap0⟩:=h
 dsimp only at hB hcap hcap2 hqc HI HO HW0 f0 f1 f2 f3 f4 f5 f6 ⊢
 subst hB
 obtain ⟨u0,u1,u2,u3,u4,u5,u6,u7⟩:=C8.of_block HO.out
 clear hW0 hb0 hO hI hb hr hl hs0 hC hw hk hbw hq hn2
 go_enter Tryz.func42,Tryz.ntmps42
 go_wp2_with (fail)
 rw [HW0.out]
 go_wp2_with (fail)
 refine HI.out.mono ?_
 rintro e w1 ⟨⟨v,rfl⟩,h1,h2,h3⟩
 have H2:=Lib.hid (wrstr_any b _ ⟨#[32,46,32]⟩ w1 h1 (by have:=HL.out; simp only [List.length_append] at this ⊢; have t3 : ([32,46,32] : List UInt8).length = 3:=rfl; show _ + 3 ≤ _; omega))
 have B0:=Lib.hid (A0.out.trans h2)
 have B2:=Lib.hid (A2.out.trans h2)
 have B3:=Lib.hid (A3.out.trans h3)
 have BO:=Lib.hid (h3.same W.heap.size _ (by have:=HBW.out; omega) HO.out rfl)
 clear h1 h2 h3 u0 u1 u2 u3 u4 u5 u6 u7
 go_wp2_with (fail)
 refine H2.out.mono ?_
 rintro e w2 ⟨⟨v2,rfl⟩,h1,h2,h3⟩
 have C0:=Lib.hid (B0.out.trans h2)
 have C1:=Lib.hid h1
 have C2:=Lib.hid (B2.out.trans h2)
 have C3:=Lib.hid (B3.out.trans h3)
 have H3:=Lib.hid (HW.out w2 _ C0.out h1 (by have:=HL.out; simp only [List.length_append] at this ⊢; have t3 : ([32,46,32] : List UInt8).length = 3:=rfl; omega))
 have hbo:=h3.same W.heap.size _ (by have:=HBW.out; omega) BO.out rfl
 obtain ⟨u0,u1,u2,u3,u4,u5,u6,u7⟩:=C8.of_block hbo
 obtain ⟨x0,x1,x2,x3,x4,x5,x6,x7⟩:=HC.out w2 C0.out
 clear h1 h2 h3 hbo
 go_wp2_with (fail)
 refine H3.out.mono ?_
 rintro e w3 ⟨⟨v3,rfl⟩,h1,h2,h3⟩
 have H4:=Lib.hid (wrstr_any b _ ⟨#[41]⟩ w3 h1 (by have:=HL.out; simp only [List.length_append] at this ⊢; have t3 : ([32,46,32] : List UInt8).length = 3:=rfl; show _ + 1 ≤ _; omega))
 have D2:=Lib.hid (C2.out.trans h2)
 have D3:=Lib.hid (C3.out.trans h3)
 clear h1 h2 h3 u0 u1 u2 u3 u4 u5 u6 u7 x0 x1 x2 x3 x4 x5 x6 x7
 go_wp2_with (fail)
 refine H4.out.mono ?_
 rintro e w4 ⟨⟨v4,rfl⟩,h1,h2,h3⟩
 have E1:=Lib.hid h1
 have E2:=Lib.hid (D2.out.trans h2)
 have E3:=Lib.hid (D3.out.trans h3)
 clear h1 h2 h3
 go_wp2_with (fail)
 go_end0
 exact ⟨⟨_,rfl⟩,by have:=E1.out; simp only [List.append_assoc] at this ⊢; exact this,E2.out,E3.out⟩
end LM
namespace LM
attribute [local go_sem] run_store_flt
theorem dwrite_any (lf : Hd → List UInt8) (b : Nat) (w0 : World) (hw0 : b = w0.heap.size) (P : Hd → Prop) (hP : ∀ hh,P hh → WriteC b w0 hh 0 (lf hh)) :
  ∀ (m : Nat) (kids : Fr),kids.size < m → kids.Ok → WOk P kids → ∀ h : Hd,h.Ok kids.len → WH P h kids → DatV w0 h kids → WriteC b w0 h kids.len (txD lf h kids):=by
 intro m
 induction m with
 | zero=>intro kids h; omega
 | succ m ih =>
  intro kids hsz hok hwok h hho hwh hd W cs hb hr hl
  obtain ⟨bb,off,hB,hF⟩:=hd.items
  have rows : ∀ (n : Nat) (o : ByteArray),n ≤ kids.len → cs.length + o.size + (txI lf n true kids).length ≤ 100000000000 → ∀ W,Below b w0 W → WR b cs W → Calls Tryz.prog 74 #[.pointer (some ⟨b,0,none⟩),.string o,.slice h.B n h.cap] W (Wrote b cs (o.data.toList ++ txI lf n true kids) W):=fun n o hn hlo W hb hr =>
   dwitems_any lf kids n hn o h.B h.cap bb off b cs w0 W hb hw0 (fun hp=>hB (by omega)) hF (by have:=hho.cap.1; omega) hho.cap.2 (fun j=>txI lf j true kids) rfl (fun hh k j r _ e=>by
    have:=txI_step lf j true kids hh k r e
    simpa using this) (fun j hj=>txI_mono lf j n true kids hj) hr hlo (fun hh k j r hj e W2 cs2 hb2 hr2 hl2=>by
    have o1:=Fr.Ok.drop j hok
    have o2:=WOk.drop j hwok
    rw [e] at o1 o2
    exact ih k (by have:=size_item e; omega) o1.2.1 o2.2.1 hh o1.1 o2.1 (counted_item hF e).2.2 W2 cs2 hb2 hr2 hl2)
  by_cases hlk : leafK h.k
  ·obtain ⟨rfl,hp⟩:=hwh.1 hlk
   have e : txD lf h .nil = lf h:=by unfold txD; rw [if_neg hlk.1,if_neg hlk.2.1,if_neg hlk.2.2]
   rw [e] at hl ⊢
   exact hP h hp W cs hb hr hl
  ·by_cases h5 : h.k = 5
   ·have e : txD lf h kids = [40] ++ txF lf false true kids ++ [41]:=by unfold txD; rw [if_pos h5]
    rw [e] at hl ⊢
    refine dwrite_row b w0 h kids (txF lf false true kids) ⟨#[40]⟩ (.inl ⟨h5,rfl⟩) W cs hb hr (fun W2 hb2 hr2=>?_) hl
    have:=rows kids.len ⟨#[40]⟩ (Nat.le_refl _) (by rw [txI_all]; simp only [List.length_append] at hl; show _ + 1 + _ ≤ _; have t1 : ([40] : List UInt8).length = 1:=rfl; omega) W2 hb2 hr2
    rw [txI_all] at this
    exact this
   ·by_cases h7 : h.k = 7
    ·have h6 : h.k ≠ 6:=by omega
     have e : txD lf h kids = [35,40] ++ txF lf false true kids ++ [41]:=by unfold txD; rw [if_neg h5,if_neg h6,if_pos h7]
     rw [e] at hl ⊢
     refine dwrite_row b w0 h kids (txF lf false true kids) ⟨#[35,40]⟩ (.inr ⟨h7,rfl⟩) W cs hb hr (fun W2 hb2 hr2=>?_) hl
     have:=rows kids.len ⟨#[35,40]⟩ (Nat.le_refl _) (by rw [txI_all]; simp only [List.length_append] at hl; show _ + 2 + _ ≤ _; have t1 : ([35,40] : List UInt8).length = 2:=rfl; omega) W2 hb2 hr2
     rw [txI_all] at this
     exact this
    ·have h6 : h.k = 6:=by
      unfold leafK at hlk
      omega
     have hn2:=hwh.2 h6
     obtain ⟨hh,k,e1,e2⟩:=last_item kids (by omega)
     have e : txD lf h kids = [40] ++ (txI lf (kids.len - 1) true kids ++ [32,46,32] ++ txD lf hh k) ++ [41]:=by
      rw [← txI_dot lf kids true hh k (by omega) e1]
      unfold txD
      rw [if_neg h5,if_pos h6]
     rw [e] at hl ⊢
     have o1:=Fr.Ok.drop (kids.len - 1) hok
     have o2:=WOk.drop (kids.len - 1) hwok
     rw [e1] at o1 o2
     have hBs:=hB (by omega)
     refine dwrite_dot b w0 h kids _ bb off h6 hBs hn2 hho.cap.1 hho.cap.2 hh k (fun W2 hb2=>(counted_item (FAt.below (hw0 ▸ hb2) _ _ _ hF) e1).2.1) _ W cs hb hr (fun W2 hb2 hr2=>?_) (ih k (by have:=size_item e1; omega) o1.2.1 o2.2.1 hh o1.1 o2.1 (counted_item hF e1).2.2) hl
     have:=rows (kids.len - 1) ⟨#[40]⟩ (by omega) (by simp only [List.length_append] at hl; show _ + 1 + _ ≤ _; have t1 : ([40] : List UInt8).length = 1:=rfl; omega) W2 hb2 hr2
     rw [hBs] at this
     exact this
end LM
namespace LM
attribute [local go_sem] run_store_flt
end LM
namespace LM
attribute [local go_sem] run_store_flt
theorem new_builder (w : World) : ∃ W0,w.alloc (.cells #[.pointer none,.slice none 0 0] 86) = W0∧Below w.heap.size w W0∧WR w.heap.size [] W0 :=
 ⟨_,rfl,(Below.refl _ w).alloc (Nat.le_refl _) _,Lib.IsBuilderF.of (Lib.fresh_isBuilder _ _ w),by simp⟩
theorem dprint_right (nm : ByteArray → Bool) (lf : Hd → List UInt8) (kids : Fr) (hok : kids.Ok) (h : Hd) (w : World) (hd : DatV w h kids) (hho : h.Ok kids.len) (hu : UT w) (hnm : ∀ t,(h.k = 4∧t = h.t) ∨ SymIn t kids → CallB w 104 #[.string t] (.bool (nm t)))
  (hr : rightD nm h kids = true) (P : Hd → Prop) (hP : ∀ b w0,b = w0.heap.size → Below w.heap.size w w0 → ∀ hh,P hh → WriteC b w0 hh 0 (lf hh)) (hw : WOk P kids) (hwh : WH P h kids) (hl : (txD lf h kids).length ≤ 100000000000) :
  Calls Tryz.prog 18 #[datA h kids.len] w fun e w'=>e = .returned (.tuple #[.string ⟨(txD lf h kids).toArray⟩,.int .i64 0])∧Below w.heap.size w w':=by
 obtain ⟨W0,hW0,hb0,ho,hs0⟩:=dat_block w h kids.len
 have HR:=Lib.hid (dRight_any nm kids hok h W0 (hd.below hb0) hho (hu.keep hb0) fun t ht=>callB_keep (hnm t ht) hb0)
 rw [hr] at HR
 obtain ⟨tx,htx⟩ : ∃ tx,txD lf h kids = tx:=⟨_,rfl⟩
 have HWR:=Lib.hid fun (w2 : World) (h2 : Below w.heap.size w w2)=>dwrite_any lf w2.heap.size w2 rfl P (fun hh hp=>hP _ _ rfl h2 hh hp) (kids.size + 1) kids (by omega) hok hw h hho hwh (hd.below h2)
 rw [htx] at HWR hl ⊢
 have HL:=Lib.hid hl
 have HB0:=Lib.hid hb0
 have HW0:=Lib.hid hW0
 have HO:=Lib.hid ho
 have HS:=Lib.hid hs0
 obtain ⟨x0,x1,x2,x3,x4,x5,x6,x7⟩:=C8.of_block ho
 clear hW0 hb0 ho hd hho hu hnm hr hok hs0 hw hwh hl hP htx
 go_enter Tryz.func18,Tryz.ntmps18
 go_wp2_with (fail)
 rw [HW0.out]
 go_wp2_with (fail)
 refine HR.out.mono ?_
 rintro e w1 ⟨rfl,hb1⟩
 have HB1:=Lib.hid (bel_trans (B:=w.heap.size) HB0.out hb1)
 obtain ⟨W1,hW1,hbb,hwr⟩:=new_builder w1
 obtain ⟨y0,y1,y2,y3,y4,y5,y6,y7⟩:=(C8.of_block HO.out).keep hb1 HS.out
 simp only [Nat.zero_add] at y0 y1 y2 y3 y4 y5 y6 y7
 clear x0 x1 x2 x3 x4 x5 x6 x7
 have hz1 : w.heap.size < w1.heap.size:=Nat.lt_of_lt_of_le HS.out hb1.size
 have HW1:=Lib.hid hW1
 have HBB:=Lib.hid hbb
 have HC:=Lib.hid (HWR.out w1 HB1.out W1 [] hbb hwr (by have:=HL.out; simpa using this))
 clear hb1 hW1 hbb hwr
 go_wp2_with (fail)
 rw [HW1.out]
 go_wp2_with (fail)
 refine HC.out.mono ?_
 rintro e w2 ⟨⟨v,rfl⟩,hr2,hb2,hk2⟩
 have HR2:=Lib.hid hr2
 have HK2:=Lib.hid (bel_trans (B:=w.heap.size) HB1.out (HBB.out.trans hb2))
 clear hr2 hb2 hk2
 go_wp2_with (fail)
 refine (Tryz.Builder_String_any_k _ _ _ _ HR2.out.1 (Nat.le_of_lt HR2.out.2)).mono ?_
 rintro e w3 ⟨rfl,_,hb3,_⟩
 have HK3:=Lib.hid (HK2.out.trans (hb3.mono HB1.out.size))
 clear hb3
 go_wp2_with (fail)
 go_ret2
 exact ⟨by rfl,HK3.out⟩
end LM
namespace LM
def signT (r : Nat) : List UInt8 :=
 if r = 34 ∨ r = 92 then 92 :: encL r else if r = 10 then [92,110] else if r = 9 then [92,116] else if r = 13 then [92,114]
 else if r < 32 ∨ r = 127 then [92,120] ++ hexF 8 r ++ [59] else encL r
def quoteF : Nat → List UInt8 → List UInt8
 | 0,_=>[]
 | n + 1,l=>if l = [] then [] else signT (Lib.decodeL l).1 ++ quoteF n (l.drop (Lib.decodeL l).2)
theorem encL_len (r : Nat) : (encL r).length ≤ 4:=by
 unfold encL
 repeat' split
 all_goals exact Nat.le_of_ble_eq_true rfl
theorem signT_len (r : Nat) : (signT r).length ≤ 11:=by
 have h1:=encL_len r
 have h2:=hexF_len 8 r
 unfold signT
 repeat' split
 all_goals try simp only [List.length_cons,List.length_append,List.length_nil]
 all_goals omega
theorem quoteF_len : ∀ (n : Nat) (l : List UInt8),(quoteF n l).length ≤ 11 * n:=by
 intro n
 induction n with
 | zero=>intro l; exact Nat.zero_le _
 | succ n ih =>
  intro l
  unfold quoteF
  split
  ·simp
  ·rw [List.length_append]
   have h1:=signT_len (Lib.decodeL l).1
   have h2:=ih (l.drop (Lib.decodeL l).2)
   omega
theorem quoteF_nil (n : Nat) : quoteF n [] = []:=by
 cases n with
 | zero=>rfl
 | succ n=>unfold quoteF; rw [if_pos rfl]
theorem encode_B (r : Nat) (h : r < 55296 ∨ (57344 ≤ r∧r ≤ 1114111)) : Utf8.encode (r : Int) = ⟨(encL r).toArray⟩:=by
 apply ByteArray.ext
 apply Array.toList_inj.1
 exact encode_L r h
theorem dsignin_any (r : Nat) (hr : r < 55296 ∨ (57344 ≤ r∧r ≤ 1114111)) (w : World) (hd : DB w) : Calls Tryz.prog 111 #[.int .i32 (r : Int)] w fun e w'=>e = .returned (.string ⟨(signT r).toArray⟩)∧Below w.heap.size w w':=by
 have HX:=Lib.hid (dhex_any r (by omega) w hd)
 have HB0:=Lib.hid (Below.refl w.heap.size w)
 clear hd
 obtain ⟨R,hR⟩ : ∃ R,signT r = R:=⟨_,rfl⟩
 rw [hR]
 unfold signT at hR
 obtain ⟨own,how⟩ : ∃ own : ByteArray,(⟨(encL r).toArray⟩ : ByteArray) = own:=⟨_,rfl⟩
 have hcv : ∀ W,(convert 21 9 (.int .i32 (r : Int))).run Tryz.prog W = .ok (.string own) W:=fun W=>by
  rw [run_convert_int_string W 21 9 .i32 (r : Int) (by rw [Tryz.underlying21]; rfl) Tryz.underlying9,encode_B r hr,how]
 have hos : own.size ≤ 4:=by
  rw [← how]
  show (encL r).toArray.size ≤ 4
  rw [List.size_toArray]
  exact encL_len r
 have HO:=Lib.hid how
 clear how
 obtain ⟨b1,e1⟩ : ∃ b,((r : Int) == 34) = b:=⟨_,rfl⟩
 obtain ⟨b2,e2⟩ : ∃ b,((r : Int) == 92) = b:=⟨_,rfl⟩
 by_cases hq : r = 34 ∨ r = 92
 ·have HR : Hid (R = 92 :: encL r):=Lib.hid (by rw [← hR,if_pos hq])
  have hb : b1 = true ∨ (b1 = false∧b2 = true):=by
   rw [← e1,← e2]
   rcases hq with rfl | rfl
   ·exact .inl rfl
   ·exact .inr ⟨rfl,rfl⟩
  clear hR hq hr
  rcases hb with rfl | ⟨rfl,rfl⟩
  all_goals
   go_enter Tryz.func111,Tryz.ntmps111
   go_wp2_with (fail)
   go_ret
   exact ⟨by rw [HR.out,← HO.out]; rfl,HB0.out⟩
 have hb1 : b1 = false:=by rw [← e1,beq_eq_false_iff_ne]; omega
 have hb2 : b2 = false:=by rw [← e2,beq_eq_false_iff_ne]; omega
 subst hb1 hb2
 rw [if_neg hq] at hR
 obtain ⟨b3,e3⟩ : ∃ b,((r : Int) == 10) = b:=⟨_,rfl⟩
 by_cases h10 : r = 10
 ·have HR : Hid (R = [92,110]):=Lib.hid (by rw [← hR,if_pos h10])
  have hb3 : b3 = true:=by rw [← e3,beq_iff_eq]; omega
  subst hb3
  clear hR h10 hr hq
  go_enter Tryz.func111,Tryz.ntmps111
  go_wp2_with (fail)
  go_ret
  exact ⟨by rw [HR.out]; rfl,HB0.out⟩
 have hb3 : b3 = false:=by rw [← e3,beq_eq_false_iff_ne]; omega
 subst hb3
 rw [if_neg h10] at hR
 obtain ⟨b4,e4⟩ : ∃ b,((r : Int) == 9) = b:=⟨_,rfl⟩
 by_cases h9 : r = 9
 ·have HR : Hid (R = [92,116]):=Lib.hid (by rw [← hR,if_pos h9])
  have hb4 : b4 = true:=by rw [← e4,beq_iff_eq]; omega
  subst hb4
  clear hR h9 h10 hr hq
  go_enter Tryz.func111,Tryz.ntmps111
  go_wp2_with (fail)
  go_ret
  exact ⟨by rw [HR.out]; rfl,HB0.out⟩
 have hb4 : b4 = false:=by rw [← e4,beq_eq_false_iff_ne]; omega
 subst hb4
 rw [if_neg h9] at hR
 obtain ⟨b5,e5⟩ : ∃ b,((r : Int) == 13) = b:=⟨_,rfl⟩
 by_cases h13 : r = 13
 ·have HR : Hid (R = [92,114]):=Lib.hid (by rw [← hR,if_pos h13])
  have hb5 : b5 = true:=by rw [← e5,beq_iff_eq]; omega
  subst hb5
  clear hR h9 h10 h13 hr hq
  go_enter Tryz.func111,Tryz.ntmps111
  go_wp2_with (fail)
  go_ret
  exact ⟨by rw [HR.out]; rfl,HB0.out⟩
 have hb5 : b5 = false:=by rw [← e5,beq_eq_false_iff_ne]; omega
 subst hb5
 rw [if_neg h13] at hR
 obtain ⟨b6,e6⟩ : ∃ b,decide ((r : Int) < 32) = b:=⟨_,rfl⟩
 obtain ⟨b7,e7⟩ : ∃ b,((r : Int) == 127) = b:=⟨_,rfl⟩
 by_cases hc : r < 32 ∨ r = 127
 ·have HR : Hid (R = [92,120] ++ hexF 8 r ++ [59]):=Lib.hid (by rw [← hR,if_pos hc])
  have hl:=hexF_len 8 r
  obtain ⟨t,ht⟩ : ∃ t : ByteArray,(⟨(hexF 8 r).toArray⟩ : ByteArray) = t:=⟨_,rfl⟩
  have hts : t.size ≤ 8:=by
   rw [← ht]
   show (hexF 8 r).toArray.size ≤ 8
   rw [List.size_toArray]
   omega
  rw [ht] at HX
  have HT:=Lib.hid ht
  have w1 : IntKind.i64.wrap (r : Int) = (r : Int):=by rw [IntKind.wrap_i64]; omega
  have hb : b6 = true ∨ (b6 = false∧b7 = true):=by
   rw [← e6,← e7]
   by_cases h : r < 32
   ·exact .inl (decide_eq_true (by omega))
   ·exact .inr ⟨decide_eq_false (by omega),by rw [beq_iff_eq]; omega⟩
  clear hR h9 h10 h13 hr hq hc hl ht
  rcases hb with rfl | ⟨rfl,rfl⟩
  all_goals
   go_enter Tryz.func111,Tryz.ntmps111
   go_wp2_with (fail)
   refine HX.out.mono ?_
   rintro e w1 ⟨rfl,hb1⟩
   go_wp2_with (fail)
   go_ret
   exact ⟨by rw [HR.out,← HT.out]; rfl,hb1⟩
 ·have HR : Hid (R = encL r):=Lib.hid (by rw [← hR,if_neg hc])
  have hb6 : b6 = false:=by rw [← e6]; exact decide_eq_false (by omega)
  have hb7 : b7 = false:=by rw [← e7,beq_eq_false_iff_ne]; omega
  subst hb6 hb7
  clear hR h9 h10 h13 hr hq hc
  go_enter Tryz.func111,Tryz.ntmps111
  go_wp2_with (fail)
  go_ret
  exact ⟨by rw [HR.out,← HO.out]; rfl,HB0.out⟩
end LM
namespace LM
attribute [local go_sem] run_store_flt
abbrev quoteL (s : ByteArray) : List UInt8:=[34] ++ quoteF s.size s.data.toList ++ [34]
theorem dwtext_any (b : Nat) (cs : List UInt8) (s : ByteArray) (w : World) (hr : WR b cs w) (hdb : ∀ W,Below b w W → DB W) (hs : s.size ≤ 1000000) (hl : cs.length ≤ 100000000000) :
  Calls Tryz.prog 73 #[.pointer (some ⟨b,0,none⟩),.string s] w (Wrote b cs (quoteL s) w):=by
 have H1:=Lib.hid (wrstr_any b cs ⟨#[34]⟩ w hr (by show _ + 1 ≤ _; omega))
 have hbw:=hr.2
 have HDB:=Lib.hid hdb
 obtain ⟨ALL,hALL⟩ : ∃ ALL,quoteF s.size s.data.toList = ALL:=⟨_,rfl⟩
 have hAL : ALL.length ≤ 11000000:=by
  have:=quoteF_len s.size s.data.toList
  rw [hALL] at this
  omega
 have HQ : Hid (quoteL s = [34] ++ ALL ++ [34]):=Lib.hid (by unfold quoteL; rw [hALL])
 have HALL:=Lib.hid hALL
 clear hr hdb hALL
 go_enter Tryz.func73,Tryz.ntmps73
 go_wp2_with (fail)
 refine H1.out.mono ?_
 rintro e w1 ⟨⟨v,rfl⟩,h1,h2,h3⟩
 have B1:=Lib.hid h1
 have B2:=Lib.hid h2
 have B3:=Lib.hid h3
 clear h1 h2 h3
 have hlt:=B1.out.2
 have hws : w.heap.size ≤ w1.heap.size:=B2.out.size
 go_wp2_with (fail)
 obtain ⟨WI,hWI⟩ : ∃ WI,w1.iter s 0 = WI:=⟨_,rfl⟩
 have hbi : Below w1.heap.size w1 WI:=by rw [← hWI]; exact below_iterD w1 s 0
 have hit : WI.heap[w1.heap.size]? = some (.stringIter s 0):=by rw [← hWI]; exact World.iter_heap w1 s 0
 have I1:=Lib.hid (B1.out.below hbi)
 have I2:=Lib.hid (bel_trans (B:=b) B2.out hbi (by omega))
 have I3:=Lib.hid (B3.out.trans (keeps8_below (B:=b + 1) hbi))
 have IT:=Lib.hid hit
 rw [hWI]
 clear hbi hit hWI
 go_loopg [5] (s.size + 1) (fun kk _ wr=>Below b w wr∧Keeps8 (b + 1) w wr∧∃ (pos : Nat) (done : List UInt8),s.size ≤ pos + kk - 1∧1 ≤ kk∧wr.heap[w1.heap.size]? = some (.stringIter s pos)∧WR b (cs ++ [34] ++ done) wr∧ALL = done ++ quoteF (kk - 1) (s.data.toList.drop pos))
 case atStart=>exact ⟨I2.out,I3.out,0,[],by omega,by omega,IT.out,by rw [List.append_nil]; exact I1.out,by rw [List.drop_zero,Nat.add_sub_cancel,List.nil_append]; exact HALL.out.symm⟩
 case round =>
  obtain ⟨r1,r2,pos,done,hfu,hk1,r3,r4,r5⟩:=hrel
  obtain ⟨kq,rfl⟩ : ∃ kq,gk = kq + 1:=⟨gk - 1,by omega⟩
  rw [Nat.add_sub_cancel] at r5
  have hdl2 : done.length ≤ 11000000:=by
   have:=congrArg List.length r5
   rw [List.length_append] at this
   omega
  by_cases hp : pos < s.size
  ·have hne : s.data.toList.drop pos ≠ []:=by
    intro h0
    have:=congrArg List.length h0
    rw [List.length_drop,← Lib.size_eq] at this
    simp at this
    omega
   obtain ⟨kp,rfl⟩ : ∃ kp,kq = kp + 1:=⟨kq - 1,by omega⟩
   have hdl:=Lib.decodeL_drop s pos
   have hval:=dec_valid (s.data.toList.drop pos)
   have hwid:=Lib.decodeL_width (s.data.toList.drop pos)
   rw [quoteF,if_neg hne,hdl] at r5
   rw [hdl] at hval hwid
   obtain ⟨⟨r,d⟩,hrd⟩ : ∃ x,Utf8.decode s pos = x:=⟨_,rfl⟩
   rw [hrd] at r5 hval hwid
   simp only at r5 hval hwid
   rw [List.drop_drop] at r5
   obtain ⟨W2,hW2⟩ : ∃ W2,wr.iterAt w1.heap.size s (pos + d) = W2:=⟨_,rfl⟩
   have hnx : ∀ ty,(Instr.next (.pointer (some ⟨w1.heap.size,0,none⟩)) true ty).run Tryz.prog wr = .ok (.tuple #[.bool true,.int .i64 (pos : Int),.int .i32 (r : Int)]) W2:=fun ty=>by
    rw [Lib.run_next_any_at wr w1.heap.size s pos ty r3 hp,hrd,hW2]
   have q4 : WR b (cs ++ [34] ++ done) W2:=by rw [← hW2]; exact ⟨r4.1.iterAt r3 _,by rw [Lib.iterAt_size]; exact r4.2⟩
   have q3 : W2.heap[w1.heap.size]? = some (.stringIter s (pos + d)):=by rw [← hW2]; exact Lib.iterAt_heap wr w1.heap.size s pos (pos + d) r3
   have q1 : Below b w W2:=by rw [← hW2]; exact Lib.below_iterAt r1 (k:=w1.heap.size) (by omega) s (pos + d)
   have q2 : Keeps8 (b + 1) w W2:=by
    rw [← hW2]
    exact ⟨by rw [Lib.iterAt_size]; exact r2.size,fun k o hB hk ho=>by
     have hkl:=heap_lt hk
     rw [Lib.iterAt_other _ _ _ _ _ (by omega)]
     exact r2.same k o hB hk ho⟩
   have SI:=Lib.hid (dsignin_any r hval W2 (HDB.out _ q1))
   obtain ⟨st,hst⟩ : ∃ st,signT r = st:=⟨_,rfl⟩
   have hsl:=signT_len r
   rw [hst] at SI r5 hsl
   have Q1:=Lib.hid q1
   have Q2:=Lib.hid q2
   have Q3:=Lib.hid q3
   have Q4:=Lib.hid q4
   have R5:=Lib.hid r5
   have HWD:=Lib.hid hwid
   have FU:=Lib.hid hfu
   clear q1 q2 q3 q4 r1 r2 r3 r4 r5 hwid hval hrd hdl hne hst hW2 hfu
   go_wp2_with (fail)
   refine SI.out.mono ?_
   rintro e w2 ⟨rfl,hb2⟩
   have hbw2:=Q4.out.2
   have H2:=Lib.hid (wrstr_any b _ ⟨st.toArray⟩ _ (Q4.out.below hb2) (by
    simp only [List.length_append]
    have t1 : ([34] : List UInt8).length = 1:=rfl
    have t2 : (⟨st.toArray⟩ : ByteArray).size = st.length:=by show st.toArray.size = _; rw [List.size_toArray]
    omega))
   have C0:=Lib.hid (bel_trans (B:=b) Q1.out hb2 (by omega))
   have C2:=Lib.hid (Q2.out.trans (keeps8_below (B:=b + 1) hb2))
   have C3:=Lib.hid ((hb2.block _ (heap_lt Q3.out)).trans Q3.out)
   clear hb2
   go_wp2_with (fail)
   refine H2.out.mono ?_
   rintro e w3 ⟨⟨v3,rfl⟩,h1,h2,h3⟩
   have E1:=Lib.hid h1
   have E2:=Lib.hid (C0.out.trans h2)
   have E3:=Lib.hid (C2.out.trans h3)
   have E4:=Lib.hid (h3.same w1.heap.size _ (by omega) C3.out rfl)
   clear h1 h2 h3 hnx
   go_wp2_with (fail)
   go_roundg (kp + 1)
   case measure=>omega
   case rel=>exact ⟨E2.out,E3.out,pos + d,done ++ st,by have:=FU.out; have:=HWD.out; omega,by omega,E4.out,by have:=E1.out; rw [← List.append_assoc]; exact this,by rw [Nat.add_sub_cancel,List.append_assoc]; exact R5.out⟩
  ·have hnx : ∀ ty,(Instr.next (.pointer (some ⟨w1.heap.size,0,none⟩)) true ty).run Tryz.prog wr = .ok (.tuple #[.bool false]) wr:=fun ty=>Lib.run_next_end_at wr w1.heap.size s pos ty r3 hp
   have hdn : ALL = done:=by
    have : s.data.toList.drop pos = []:=List.drop_eq_nil_of_le (by rw [← Lib.size_eq]; omega)
    rw [this,quoteF_nil,List.append_nil] at r5
    exact r5
   have H2:=Lib.hid (wrstr_any b _ ⟨#[34]⟩ _ r4 (by
    simp only [List.length_append]
    have t1 : ([34] : List UInt8).length = 1:=rfl
    show _ + 1 ≤ _
    omega))
   have R1:=Lib.hid r1
   have R2:=Lib.hid r2
   have HDN:=Lib.hid hdn
   clear r1 r2 r3 r4 r5 hdn hfu
   go_wp2_with (fail)
   refine H2.out.mono ?_
   rintro e w3 ⟨⟨v3,rfl⟩,h1,h2,h3⟩
   have C1:=Lib.hid h1
   have C2:=Lib.hid (R1.out.trans h2)
   have C3:=Lib.hid (R2.out.trans h3)
   clear h1 h2 h3 hnx
   go_wp2_with (fail)
   go_end0
   exact ⟨⟨_,rfl⟩,by rw [HQ.out,HDN.out]; have:=C1.out; simp only [List.append_assoc] at this ⊢; exact this,C2.out,C3.out⟩
end LM
namespace LM
theorem str_cat (a b : List UInt8) : (⟨a.toArray⟩ : ByteArray) ++ ⟨b.toArray⟩ = ⟨(a ++ b).toArray⟩:=by
 apply ByteArray.ext
 apply Array.toList_inj.1
 simp
theorem rquote_any (s : ByteArray) (hs : s.size ≤ 1000000) (w : World) :
  Calls Tryz.prog 33 #[.string s] w fun e w'=>e = .returned (.string ⟨(quoteL s).toArray⟩)∧Below w.heap.size w w':=by
 obtain ⟨ALL,hALL⟩ : ∃ ALL,quoteF s.size s.data.toList = ALL:=⟨_,rfl⟩
 have hAL : ALL.length ≤ 11000000:=by
  have:=quoteF_len s.size s.data.toList
  rw [hALL] at this
  omega
 have HQ : Hid (quoteL s = [34] ++ ALL ++ [34]):=Lib.hid (by unfold quoteL; rw [hALL])
 have HALL:=Lib.hid hALL
 clear hALL
 obtain ⟨WI,hWI⟩ : ∃ WI,w.iter s 0 = WI:=⟨_,rfl⟩
 have hbi : Below w.heap.size w WI:=by rw [← hWI]; exact below_iterD w s 0
 have hit : WI.heap[w.heap.size]? = some (.stringIter s 0):=by rw [← hWI]; exact World.iter_heap w s 0
 have I2:=Lib.hid hbi
 have IT:=Lib.hid hit
 have HWI:=Lib.hid hWI
 have RH:=Lib.hid rhex_8
 clear hbi hit hWI
 go_enter Tryz.func33,Tryz.ntmps33
 go_wp2_with (fail)
 rw [HWI.out]
 go_loopg [3,5,6,7] (s.size + 1) (fun kk l _ _ _ wr=>Below w.heap.size w wr∧∃ (t : ByteArray) (pos : Nat) (done : List UInt8),.string t = l∧(⟨([34] ++ done).toArray⟩ : ByteArray) = t∧s.size ≤ pos + kk - 1∧1 ≤ kk∧wr.heap[w.heap.size]? = some (.stringIter s pos)∧ALL = done ++ quoteF (kk - 1) (s.data.toList.drop pos))
 case atStart=>exact ⟨I2.out,_,0,[],rfl,rfl,by omega,by omega,IT.out,by rw [List.drop_zero,Nat.add_sub_cancel,List.nil_append]; exact HALL.out.symm⟩
 case round =>
  obtain ⟨r1,t,pos,done,rfl,rt,hfu,hk1,r3,r5⟩:=hrel
  obtain ⟨kq,rfl⟩ : ∃ kq,gk = kq + 1:=⟨gk - 1,by omega⟩
  rw [Nat.add_sub_cancel] at r5
  have hdl2 : done.length ≤ 11000000:=by
   have:=congrArg List.length r5
   rw [List.length_append] at this
   omega
  have hts : t.size ≤ 11000001:=by
   rw [← rt]
   show ([34] ++ done).toArray.size ≤ _
   rw [List.size_toArray,List.length_append]
   have t1 : ([34] : List UInt8).length = 1:=rfl
   omega
  have RT:=Lib.hid rt
  clear rt
  by_cases hp : pos < s.size
  ·have hne : s.data.toList.drop pos ≠ []:=by
    intro h0
    have:=congrArg List.length h0
    rw [List.length_drop,← Lib.size_eq] at this
    simp at this
    omega
   obtain ⟨kp,rfl⟩ : ∃ kp,kq = kp + 1:=⟨kq - 1,by omega⟩
   have hdl:=Lib.decodeL_drop s pos
   have hval:=dec_valid (s.data.toList.drop pos)
   have hwid:=Lib.decodeL_width (s.data.toList.drop pos)
   rw [quoteF,if_neg hne,hdl] at r5
   rw [hdl] at hval hwid
   obtain ⟨⟨r,d⟩,hrd⟩ : ∃ x,Utf8.decode s pos = x:=⟨_,rfl⟩
   rw [hrd] at r5 hval hwid
   simp only at r5 hval hwid
   rw [List.drop_drop] at r5
   obtain ⟨W2,hW2⟩ : ∃ W2,wr.iterAt w.heap.size s (pos + d) = W2:=⟨_,rfl⟩
   have hnx : ∀ ty,(Instr.next (.pointer (some ⟨w.heap.size,0,none⟩)) true ty).run Tryz.prog wr = .ok (.tuple #[.bool true,.int .i64 (pos : Int),.int .i32 (r : Int)]) W2:=fun ty=>by
    rw [Lib.run_next_any_at wr w.heap.size s pos ty r3 hp,hrd,hW2]
   have q3 : W2.heap[w.heap.size]? = some (.stringIter s (pos + d)):=by rw [← hW2]; exact Lib.iterAt_heap wr w.heap.size s pos (pos + d) r3
   have q1 : Below w.heap.size w W2:=by rw [← hW2]; exact Lib.below_iterAt r1 (k:=w.heap.size) (Nat.le_refl _) s (pos + d)
   have hb2 : Below W2.heap.size W2 (W2.alloc (.cells #[.int .i32 (r : Int)] 21)):=(Below.refl _ W2).alloc (Nat.le_refl _) _
   obtain ⟨W3,hW3⟩ : ∃ W3,W2.alloc (.cells #[.int .i32 (r : Int)] 21) = W3:=⟨_,rfl⟩
   rw [hW3] at hb2
   obtain ⟨own,how⟩ : ∃ own : ByteArray,(⟨(encL r).toArray⟩ : ByteArray) = own:=⟨_,rfl⟩
   have hcv2 : (convert 95 9 (.slice (some ⟨W2.heap.size,0,none⟩) 1 1)).run Tryz.prog (W2.alloc (.cells #[.int .i32 (r : Int)] 21)) = .ok (.string own) W3:=by
    rw [hW3,run_convert_runes W3 _ _ 21 ⟨W2.heap.size,0,none⟩ 1 1 [(r : Int)] (Nat.le_refl _) Tryz.underlying95 Tryz.underlying21 Tryz.underlying9 (fun j hj=>by
     have hj0 : j = 0:=by have : j < 1:=hj; omega
     subst hj0
     rw [← hW3]
     exact cell_alloc_first W2 _ _)]
    have he : runesBytes [(r : Int)] = own:=by
     show ByteArray.empty ++ Utf8.encode (r : Int) = own
     rw [ByteArray.empty_append,encode_B r hval,how]
    rw [← he]
    rfl
   have hos : own.size ≤ 4:=by
    rw [← how]
    show (encL r).toArray.size ≤ 4
    rw [List.size_toArray]
    exact encL_len r
   have w0 : IntKind.i64.wrap (r : Int) = (r : Int):=by rw [IntKind.wrap_i64]; omega
   obtain ⟨st,hst⟩ : ∃ st,signT r = st:=⟨_,rfl⟩
   rw [hst] at r5
   unfold signT at hst
   have HO:=Lib.hid how
   have B3:=Lib.hid (bel_trans (B:=w.heap.size) q1 hb2)
   have I3:=Lib.hid ((hb2.block _ (heap_lt q3)).trans q3)
   have R5:=Lib.hid r5
   have HWD:=Lib.hid hwid
   have FU:=Lib.hid hfu
   clear q1 q3 hb2 r1 r3 r5 hwid hrd hdl hne how hW2 hW3 hfu
   obtain ⟨b1,e1⟩ : ∃ b,((r : Int) == 34) = b:=⟨_,rfl⟩
   obtain ⟨b2,e2⟩ : ∃ b,((r : Int) == 92) = b:=⟨_,rfl⟩
   by_cases hq : r = 34 ∨ r = 92
   ·have HR:=Lib.hid (show st = 92 :: encL r by rw [← hst,if_pos hq])
    have hb : b1 = true ∨ (b1 = false∧b2 = true):=by
     rw [← e1,← e2]
     rcases hq with rfl | rfl
     ·exact .inl rfl
     ·exact .inr ⟨rfl,rfl⟩
    clear hst hq hval
    rcases hb with rfl | ⟨rfl,rfl⟩
    all_goals
     go_wp2_with (fail)
     go_roundg (kp + 1)
     case measure=>omega
     case rel=>exact ⟨B3.out,_,pos + d,done ++ st,rfl,by rw [HR.out,← RT.out,← HO.out]; simp only [str_cat,List.append_assoc]; try rfl,by have:=FU.out; have:=HWD.out; omega,by omega,I3.out,by rw [Nat.add_sub_cancel,List.append_assoc]; exact R5.out⟩
   have hb1 : b1 = false:=by rw [← e1,beq_eq_false_iff_ne]; omega
   have hb2 : b2 = false:=by rw [← e2,beq_eq_false_iff_ne]; omega
   subst hb1 hb2
   rw [if_neg hq] at hst
   obtain ⟨b3,e3⟩ : ∃ b,((r : Int) == 10) = b:=⟨_,rfl⟩
   by_cases h10 : r = 10
   ·have HR:=Lib.hid (show st = [92,110] by rw [← hst,if_pos h10])
    have hbb : b3 = true:=by rw [← e3,beq_iff_eq]; omega
    subst hbb
    clear hst hq hval h10
    go_wp2_with (fail)
    go_roundg (kp + 1)
    case measure=>omega
    case rel=>exact ⟨B3.out,_,pos + d,done ++ st,rfl,by rw [HR.out,← RT.out]; simp only [str_cat,List.append_assoc]; try rfl,by have:=FU.out; have:=HWD.out; omega,by omega,I3.out,by rw [Nat.add_sub_cancel,List.append_assoc]; exact R5.out⟩
   have hbb : b3 = false:=by rw [← e3,beq_eq_false_iff_ne]; omega
   subst hbb
   rw [if_neg h10] at hst
   obtain ⟨b4,e4⟩ : ∃ b,((r : Int) == 9) = b:=⟨_,rfl⟩
   by_cases h9 : r = 9
   ·have HR:=Lib.hid (show st = [92,116] by rw [← hst,if_pos h9])
    have hbb : b4 = true:=by rw [← e4,beq_iff_eq]; omega
    subst hbb
    clear hst hq hval h9
    go_wp2_with (fail)
    go_roundg (kp + 1)
    case measure=>omega
    case rel=>exact ⟨B3.out,_,pos + d,done ++ st,rfl,by rw [HR.out,← RT.out]; simp only [str_cat,List.append_assoc]; try rfl,by have:=FU.out; have:=HWD.out; omega,by omega,I3.out,by rw [Nat.add_sub_cancel,List.append_assoc]; exact R5.out⟩
   have hbb : b4 = false:=by rw [← e4,beq_eq_false_iff_ne]; omega
   subst hbb
   rw [if_neg h9] at hst
   obtain ⟨b5,e5⟩ : ∃ b,((r : Int) == 13) = b:=⟨_,rfl⟩
   by_cases h13 : r = 13
   ·have HR:=Lib.hid (show st = [92,114] by rw [← hst,if_pos h13])
    have hbb : b5 = true:=by rw [← e5,beq_iff_eq]; omega
    subst hbb
    clear hst hq hval h13
    go_wp2_with (fail)
    go_roundg (kp + 1)
    case measure=>omega
    case rel=>exact ⟨B3.out,_,pos + d,done ++ st,rfl,by rw [HR.out,← RT.out]; simp only [str_cat,List.append_assoc]; try rfl,by have:=FU.out; have:=HWD.out; omega,by omega,I3.out,by rw [Nat.add_sub_cancel,List.append_assoc]; exact R5.out⟩
   have hbb : b5 = false:=by rw [← e5,beq_eq_false_iff_ne]; omega
   subst hbb
   rw [if_neg h13] at hst
   obtain ⟨b6,e6⟩ : ∃ b,decide ((r : Int) < 32) = b:=⟨_,rfl⟩
   obtain ⟨b7,e7⟩ : ∃ b,((r : Int) == 127) = b:=⟨_,rfl⟩
   by_cases hc : r < 32 ∨ r = 127
   ·have HR:=Lib.hid (show st = [92,120] ++ hexF 8 r ++ [59] by rw [← hst,if_pos hc])
    have HX:=Lib.hid (RH.out r (by omega) W3)
    have hl:=hexF_len 8 r
    obtain ⟨x,hx⟩ : ∃ x : ByteArray,(⟨(hexF 8 r).toArray⟩ : ByteArray) = x:=⟨_,rfl⟩
    have hxs : x.size ≤ 8:=by
     rw [← hx]
     show (hexF 8 r).toArray.size ≤ 8
     rw [List.size_toArray]
     omega
    rw [hx] at HX
    have HT:=Lib.hid hx
    have hb : b6 = true ∨ (b6 = false∧b7 = true):=by
     rw [← e6,← e7]
     by_cases h : r < 32
     ·exact .inl (decide_eq_true (by omega))
     ·exact .inr ⟨decide_eq_false (by omega),by rw [beq_iff_eq]; omega⟩
    clear hst hq hval hc h10 h9 h13 hl hx
    rcases hb with rfl | ⟨rfl,rfl⟩
    all_goals
     go_wp2_with (fail)
     refine HX.out.mono ?_
     rintro e w5 ⟨rfl,hb5⟩
     have B5:=Lib.hid (bel_trans (B:=w.heap.size) B3.out hb5)
     have I5:=Lib.hid ((hb5.block _ (heap_lt I3.out)).trans I3.out)
     clear hb5
     go_wp2_with (fail)
     go_roundg (kp + 1)
     case measure=>omega
     case rel=>exact ⟨B5.out,_,pos + d,done ++ st,rfl,by rw [HR.out,← RT.out,← HT.out]; simp only [str_cat,List.append_assoc]; try rfl,by have:=FU.out; have:=HWD.out; omega,by omega,I5.out,by rw [Nat.add_sub_cancel,List.append_assoc]; exact R5.out⟩
   ·have HR:=Lib.hid (show st = encL r by rw [← hst,if_neg hc])
    have hb6 : b6 = false:=by rw [← e6]; exact decide_eq_false (by omega)
    have hb7 : b7 = false:=by rw [← e7,beq_eq_false_iff_ne]; omega
    subst hb6 hb7
    clear hst hq hval hc h10 h9 h13
    go_wp2_with (fail)
    go_roundg (kp + 1)
    case measure=>omega
    case rel=>exact ⟨B3.out,_,pos + d,done ++ st,rfl,by rw [HR.out,← RT.out,← HO.out]; simp only [str_cat,List.append_assoc]; try rfl,by have:=FU.out; have:=HWD.out; omega,by omega,I3.out,by rw [Nat.add_sub_cancel,List.append_assoc]; exact R5.out⟩
  ·have hnx : ∀ ty,(Instr.next (.pointer (some ⟨w.heap.size,0,none⟩)) true ty).run Tryz.prog wr = .ok (.tuple #[.bool false]) wr:=fun ty=>Lib.run_next_end_at wr w.heap.size s pos ty r3 hp
   have hdn : ALL = done:=by
    have : s.data.toList.drop pos = []:=List.drop_eq_nil_of_le (by rw [← Lib.size_eq]; omega)
    rw [this,quoteF_nil,List.append_nil] at r5
    exact r5
   have R1:=Lib.hid r1
   have HDN:=Lib.hid hdn
   clear r1 r3 r5 hdn hfu
   go_wp2_with (fail)
   go_ret
   exact ⟨by rw [HQ.out,HDN.out,← RT.out]; rfl,R1.out⟩
end LM
end Go.Proofs.YtaonablbgicmpaaGreatDoor
namespace Go.Proofs.YtaonablbgicmpaaGreatDoor
open Go Go.Shelf Go.RowKit Go.Sort Go.Lib
namespace LM
theorem ftoaF_pzero (b B : Nat) (W0 : World) (v : Value) (w : World) (hbe : b = 0) (hob : OB B W0 0 [] v [] w) :
  Calls Tryz.prog 164 #[v,.float .f64 b,.int .u8 102,.int .i64 (-1)] w fun r w' =>
   ∃ v' g ds,r = .returned v'∧OB B W0 g ds v' (fmtF false [] 0) w':=by
 obtain ⟨bq,hbq⟩ : ∃ q,b / 4503599627370496 = q:=⟨_,rfl⟩
 have hbqi : (b : Int) / 4503599627370496 = (bq : Int):=by omega
 have hbql : bq < 4096:=by omega
 have hex2 : bits .and .i64 (bq : Int) 2047 = 0:=by
  have h:=i64_and_nat bq 2047 (by omega) (by decide)
  have h2 : bq &&& 2047 = 0:=by rw [nat_mask11]; omega
  rw [h2] at h
  exact h
 have hfr2 : bits .and .u64 (b : Int) 4503599627370495 = 0:=by
  have h:=u64_and_nat b 4503599627370495 (by omega) (by decide)
  have h2 : b &&& 4503599627370495 = 0:=by
   rw [show b &&& 4503599627370495 = b % 2 ^ 52 from Nat.and_two_pow_sub_one_eq_mod b 52]
   omega
  rw [h2] at h
  exact h
 have hneg2 : ((b : Int) / 9223372036854775808 != 0) = false:=by
  rw [bne_eq_false_iff_eq]; omega
 have RB:=run_sbits b
 have FZ:=Lib.hid fun k=>fmtF_zero B W0 v [] (w.drewN k) false 0 (hob.drewN k) (by decide)
 clear hbe hbq hob
 go_enter Tryz.func164,Tryz.ntmps164
 go_wp2_with (fail)
 go_quiet (fail)
 go_wp2_with (fail)
 refine (FZ.out _).mono ?_
 rintro r w4 ⟨v4,rfl,hob4⟩
 go_wp2
 go_ret
 exact ⟨_,_,_,rfl,hob4⟩
theorem rtext_nan (b : Nat) (w : World) (hb : b < 18446744073709551616) (hn : canW b = 9221120237041090561) :
  Calls Tryz.prog 55 #[.float .f64 b] w fun e w'=>e = .returned (.string ⟨#[43,110,97,110,46,48]⟩)∧w = w':=by
 have hB:=fun W=>rbits_any b W hb
 rw [hn] at hB
 have B1:=Lib.hid hB
 clear hB hn
 go_enter Tryz.func55,Tryz.ntmps55
 go_wp2_with (fail)
 refine (B1.out _).mono ?_
 rintro e w' ⟨rfl,rfl⟩
 go_wp2_with (fail)
 go_ret
 exact ⟨rfl,rfl⟩
theorem rtext_pinf (b : Nat) (w : World) (hb : b < 18446744073709551616) (hn : canW b = 9218868437227405312) :
  Calls Tryz.prog 55 #[.float .f64 b] w fun e w'=>e = .returned (.string ⟨#[43,105,110,102,46,48]⟩)∧w = w':=by
 have hB:=fun W=>rbits_any b W hb
 rw [hn] at hB
 have B1:=Lib.hid hB
 clear hB hn
 go_enter Tryz.func55,Tryz.ntmps55
 go_wp2_with (fail)
 refine (B1.out _).mono ?_
 rintro e w' ⟨rfl,rfl⟩
 go_wp2_with (fail)
 go_ret
 exact ⟨rfl,rfl⟩
theorem rtext_minf (b : Nat) (w : World) (hb : b < 18446744073709551616) (hn : canW b = 18442240474082181120) :
  Calls Tryz.prog 55 #[.float .f64 b] w fun e w'=>e = .returned (.string ⟨#[45,105,110,102,46,48]⟩)∧w = w':=by
 have hB:=fun W=>rbits_any b W hb
 rw [hn] at hB
 have B1:=Lib.hid hB
 clear hB hn
 go_enter Tryz.func55,Tryz.ntmps55
 go_wp2_with (fail)
 refine (B1.out _).mono ?_
 rintro e w' ⟨rfl,rfl⟩
 go_wp2_with (fail)
 go_ret
 exact ⟨rfl,rfl⟩
end LM
namespace LM
theorem lsize (l : List UInt8) : (⟨l.toArray⟩ : ByteArray).size = l.length:=by
 show l.toArray.size = _
 rw [List.size_toArray]
theorem pointB_len (l : List UInt8) : (pointB l).length ≤ l.length + 2:=by
 unfold pointB
 split
 ·omega
 ·rw [List.length_append]
  exact Nat.le_refl _
end LM
end Go.Proofs.YtaonablbgicmpaaGreatDoor
namespace Go.Proofs.YtaonablbgicmpaaGreatDoor
open Go Go.RowKit
namespace LM
attribute [local go_sem] run_store_flt
abbrev RTextC (w0 : World) (h : Hd) (t : List UInt8) : Prop:=∀ W,Below w0.heap.size w0 W → Calls Tryz.prog 14 #[datA h 0] W fun e w'=>e = .returned (.string ⟨t.toArray⟩)∧Below W.heap.size W w'
theorem txF_len (lf : Hd → List UInt8) (dot fst : Bool) (h : Hd) (k r : Fr) : (txF lf dot fst (.cons h k r)).length = (if dot && r.isNil then ([32,46,32] : List UInt8) else if fst then [] else [32]).length + (txD lf h k).length + (txF lf dot false r).length:=by
 show (((if dot && r.isNil then ([32,46,32] : List UInt8) else if fst then [] else [32]) ++ txD lf h k) ++ txF lf dot false r).length = _
 rw [List.length_append,List.length_append]
theorem txF_cons (lf : Hd → List UInt8) (dot fst : Bool) (h : Hd) (k r : Fr) : txF lf dot fst (.cons h k r) = (if dot && r.isNil then [32,46,32] else if fst then [] else [32]) ++ txD lf h k ++ txF lf dot false r:=rfl
theorem rtext_row5 (lf : Hd → List UInt8) (w0 : World) (h : Hd) (hk : h.k = 5) (kids : Fr) (hn : True) (hho : h.Ok kids.len) (hd : DatV w0 h kids) (hl : (txD lf h kids).length ≤ 100000000000)
  (hcl : ∀ hh k j r,kids.drop j = .cons hh k r → (txD lf hh k).length ≤ 100000000000 → ∀ W,Below w0.heap.size w0 W → DatV W hh k → Calls Tryz.prog 14 #[datA hh k.len] W fun e w'=>e = .returned (.string ⟨(txD lf hh k).toArray⟩)∧Below W.heap.size W w') (w : World) (hw : Below w0.heap.size w0 w) :
  Calls Tryz.prog 14 #[datA h kids.len] w fun e w'=>e = .returned (.string ⟨(txD lf h kids).toArray⟩)∧Below w.heap.size w w':=by
 have htx : txD lf h kids = [40] ++ txF lf false true kids ++ [41]:=by unfold txD; rw [if_pos hk]
 obtain ⟨W0,hW0,hb0,ho,hs0⟩:=dat_block w h kids.len
 obtain ⟨x0,x1,x2,x3,x4,x5,x6,x7⟩:=C8.of_block ho
 have hbw0 : Below w0.heap.size w0 W0:=bel_trans (B:=w0.heap.size) hw hb0
 obtain ⟨b,off,hB,hF⟩:=(hd.below hbw0).items
 have hkl : kids.len ≤ 9223372036854775807:=Nat.le_trans hho.cap.1 hho.cap.2
 rw [htx,List.length_append,List.length_append] at hl
 have HTX:=Lib.hid htx
 have HL:=Lib.hid hl
 have HW0:=Lib.hid hW0
 have HB0:=Lib.hid hb0
 have HBW:=Lib.hid hbw0
 have HF:=Lib.hid hF
 have HB:=Lib.hid hB
 have HCL:=Lib.hid hcl
 have BLK : Hid (∀ W,Below W0.heap.size W0 W → C8 W w.heap.size 0 h kids.len):=Lib.hid fun W hW=>C8.of_block ((hW.block _ hs0).trans ho)
 have k0 : (h.k == 0) = false:=by rw [hk]; rfl
 have k1 : (h.k == 1) = false:=by rw [hk]; rfl
 have k2 : (h.k == 2) = false:=by rw [hk]; rfl
 have k3 : (h.k == 3) = false:=by rw [hk]; rfl
 have k4 : (h.k == 4) = false:=by rw [hk]; rfl
 have k5 : (h.k == 5) = true:=by rw [hk]; rfl
 have k6 : (h.k == 6) = false:=by rw [hk]; rfl
 have k7 : (h.k == 7) = false:=by rw [hk]; rfl
 clear hW0 hb0 hF hB hcl hd ho hbw0 hl htx hs0 hk
 go_enter Tryz.func14,Tryz.ntmps14
 go_wp2_with (fail)
 rw [HW0.out]
 go_wp2_with (fail)
 go_loopg [3,4,5,39] kids.len (fun kk l _ _ i wr=>Below W0.heap.size W0 wr∧∃ j : Nat,j ≤ kids.len∧kk = kids.len - j∧i = .int .i64 (j : Int)∧∃ (t : ByteArray) (al : List UInt8),.string t = l∧(⟨al.toArray⟩ : ByteArray) = t∧[40] ++ txF lf false true kids = al ++ txF lf false (decide (j = 0)) (kids.drop j))
 case atStart=>exact ⟨Below.refl _ _,0,Nat.zero_le _,rfl,rfl,_,[40],rfl,rfl,rfl⟩
 case round =>
  obtain ⟨hbr,j,hj,rfl,rfl,t,al,rfl,rt,hrs⟩:=hrel
  have HBR:=Lib.hid hbr
  have RT:=Lib.hid rt
  have hal : al.length ≤ 100000000000:=by
   have h1:=congrArg List.length hrs
   have h2:=HL.out
   rw [List.length_append,List.length_append] at h1
   omega
  have hts : t.size ≤ 100000000000:=by rw [← rt,lsize]; exact hal
  obtain ⟨z0,z1,z2,z3,z4,z5,z6,z7⟩:=BLK.out _ hbr
  clear hbr rt x0 x1 x2 x3 x4 x5 x6 x7
  by_cases hjl : j < kids.len
  ·obtain ⟨hh,k,r,hdr,hdr1⟩:=Fr.cons_of_lt hjl
   have hBe:=HB.out (by omega)
   obtain ⟨hbl,C,D⟩:=counted_item (FAt.below HBR.out _ _ _ HF.out) hdr
   rw [hdr,txF_cons] at hrs
   obtain ⟨tx,htx⟩ : ∃ tx,txD lf hh k = tx:=⟨_,rfl⟩
   have htl : tx.length ≤ 100000000000:=by
    have h1:=congrArg List.length hrs
    have h2:=HL.out
    rw [htx] at h1
    simp only [List.length_append] at h1 h2
    omega
   have hrl : r.len + (j + 1) = kids.len:=by
    have h1:=Fr.len_drop j kids
    rw [hdr] at h1
    have h3 : r.len + 1 = kids.len - j:=h1
    omega
   have CK:=Lib.hid fun W (hW : Below wr.heap.size wr W)=>HCL.out hh k j r hdr (by rw [htx]; exact htl) W (bel_trans (B:=w0.heap.size) HBW.out (bel_trans (B:=W0.heap.size) HBR.out hW)) (D.below hW)
   rw [htx] at CK hrs
   obtain ⟨tb,htb⟩ : ∃ tb : ByteArray,(⟨tx.toArray⟩ : ByteArray) = tb:=⟨_,rfl⟩
   have htbs : tb.size ≤ 100000000000:=by rw [← htb,lsize]; exact htl
   rw [htb] at CK
   have HTB:=Lib.hid htb
   have HRS:=Lib.hid hrs
   have HDR1:=Lib.hid hdr1
   obtain ⟨x0,x1,x2,x3,x4,x5,x6,x7⟩:=C
   have hba : Below wr.heap.size wr (wr.alloc (.cells #[.int .i64 hh.k,.int .i64 hh.n,.bool hh.fl,.float .f64 hh.f,.bool hh.s,.slice hh.A hh.xs.length hh.c,.string hh.t,.slice hh.B k.len hh.cap] 44)):=(Below.refl _ wr).alloc (Nat.le_refl _) _
   have HBA:=Lib.hid hba
   have HRL:=Lib.hid hrl
   obtain ⟨y0,y1,y2,y3,y4,y5,y6,y7⟩:=BLK.out _ (bel_trans (B:=W0.heap.size) HBR.out HBA.out)
   clear hrs hdr hdr1 D hba htx htb hbl hrl
   rw [hBe]
   by_cases hj0 : j = 0
   ·have SEP:=Lib.hid (show (if (false && r.isNil) = true then ([32,46,32] : List UInt8) else if decide (j = 0) = true then [] else [32]) = [] by simp [hj0])
    have dj : decide (0 < j) = false:=decide_eq_false (by omega)
    have dj2 : decide ((0 : Int) < (j : Int)) = false:=decide_eq_false (by omega)
    clear hj0
    go_wp2_with (fail)
    refine (CK.out _ HBA.out).mono ?_
    rintro e w2 ⟨rfl,hb2⟩
    have HB2:=Lib.hid (bel_trans (B:=W0.heap.size) HBR.out (bel_trans (B:=wr.heap.size) HBA.out hb2))
    clear hb2 x0 x1 x2 x3 x4 x5 x6 x7 z0 z1 z2 z3 z4 z5 z6 z7 y0 y1 y2 y3 y4 y5 y6 y7
    go_wp2_with (fail)
    rw [← hBe]
    go_roundg (kids.len - (j + 1))
    case measure=>omega
    case rel=>exact ⟨HB2.out,j + 1,by omega,rfl,by go_num,_,al ++ (([] : List UInt8) ++ tx),rfl,by rw [← RT.out,← HTB.out]; simp only [str_cat,List.append_assoc,List.nil_append]; try rfl,by rw [HDR1.out,HRS.out,SEP.out]; simp [List.append_assoc]⟩
   ·have SEP:=Lib.hid (show (if (false && r.isNil) = true then ([32,46,32] : List UInt8) else if decide (j = 0) = true then [] else [32]) = [32] by simp [hj0])
    have dj : decide (0 < j) = true:=decide_eq_true (by omega)
    have dj2 : decide ((0 : Int) < (j : Int)) = true:=decide_eq_true (by omega)
    clear hj0
    go_wp2_with (fail)
    refine (CK.out _ HBA.out).mono ?_
    rintro e w2 ⟨rfl,hb2⟩
    have HB2:=Lib.hid (bel_trans (B:=W0.heap.size) HBR.out (bel_trans (B:=wr.heap.size) HBA.out hb2))
    clear hb2 x0 x1 x2 x3 x4 x5 x6 x7 z0 z1 z2 z3 z4 z5 z6 z7 y0 y1 y2 y3 y4 y5 y6 y7
    go_wp2_with (fail)
    rw [← hBe]
    go_roundg (kids.len - (j + 1))
    case measure=>omega
    case rel=>exact ⟨HB2.out,j + 1,by omega,rfl,by go_num,_,al ++ ([32] ++ tx),rfl,by rw [← RT.out,← HTB.out]; simp only [str_cat,List.append_assoc,List.nil_append]; try rfl,by rw [HDR1.out,HRS.out,SEP.out]; simp [List.append_assoc]⟩
  ·have hje : j = kids.len:=by omega
   subst hje
   rw [drop_all] at hrs
   have hfull : [40] ++ txF lf false true kids = al:=hrs.trans (List.append_nil al)
   have HFU:=Lib.hid hfull
   clear hrs hfull
   go_wp2_with (fail)
   go_ret
   exact ⟨by rw [HTX.out,HFU.out,← RT.out]; first | rfl | (rw [← str_cat]),bel_trans (B:=w.heap.size) HB0.out HBR.out⟩
theorem rtext_row7 (lf : Hd → List UInt8) (w0 : World) (h : Hd) (hk : h.k = 7) (kids : Fr) (hn : True) (hho : h.Ok kids.len) (hd : DatV w0 h kids) (hl : (txD lf h kids).length ≤ 100000000000)
  (hcl : ∀ hh k j r,kids.drop j = .cons hh k r → (txD lf hh k).length ≤ 100000000000 → ∀ W,Below w0.heap.size w0 W → DatV W hh k → Calls Tryz.prog 14 #[datA hh k.len] W fun e w'=>e = .returned (.string ⟨(txD lf hh k).toArray⟩)∧Below W.heap.size W w') (w : World) (hw : Below w0.heap.size w0 w) :
  Calls Tryz.prog 14 #[datA h kids.len] w fun e w'=>e = .returned (.string ⟨(txD lf h kids).toArray⟩)∧Below w.heap.size w w':=by
 have htx : txD lf h kids = [35,40] ++ txF lf false true kids ++ [41]:=by unfold txD; rw [if_neg (by omega),if_neg (by omega),if_pos hk]
 obtain ⟨W0,hW0,hb0,ho,hs0⟩:=dat_block w h kids.len
 obtain ⟨x0,x1,x2,x3,x4,x5,x6,x7⟩:=C8.of_block ho
 have hbw0 : Below w0.heap.size w0 W0:=bel_trans (B:=w0.heap.size) hw hb0
 obtain ⟨b,off,hB,hF⟩:=(hd.below hbw0).items
 have hkl : kids.len ≤ 9223372036854775807:=Nat.le_trans hho.cap.1 hho.cap.2
 rw [htx,List.length_append,List.length_append] at hl
 have HTX:=Lib.hid htx
 have HL:=Lib.hid hl
 have HW0:=Lib.hid hW0
 have HB0:=Lib.hid hb0
 have HBW:=Lib.hid hbw0
 have HF:=Lib.hid hF
 have HB:=Lib.hid hB
 have HCL:=Lib.hid hcl
 have BLK : Hid (∀ W,Below W0.heap.size W0 W → C8 W w.heap.size 0 h kids.len):=Lib.hid fun W hW=>C8.of_block ((hW.block _ hs0).trans ho)
 have k0 : (h.k == 0) = false:=by rw [hk]; rfl
 have k1 : (h.k == 1) = false:=by rw [hk]; rfl
 have k2 : (h.k == 2) = false:=by rw [hk]; rfl
 have k3 : (h.k == 3) = false:=by rw [hk]; rfl
 have k4 : (h.k == 4) = false:=by rw [hk]; rfl
 have k5 : (h.k == 5) = false:=by rw [hk]; rfl
 have k6 : (h.k == 6) = false:=by rw [hk]; rfl
 have k7 : (h.k == 7) = true:=by rw [hk]; rfl
 clear hW0 hb0 hF hB hcl hd ho hbw0 hl htx hs0 hk
 go_enter Tryz.func14,Tryz.ntmps14
 go_wp2_with (fail)
 rw [HW0.out]
 go_wp2_with (fail)
 go_loopg [3,4,5,39] kids.len (fun kk l _ _ i wr=>Below W0.heap.size W0 wr∧∃ j : Nat,j ≤ kids.len∧kk = kids.len - j∧i = .int .i64 (j : Int)∧∃ (t : ByteArray) (al : List UInt8),.string t = l∧(⟨al.toArray⟩ : ByteArray) = t∧[35,40] ++ txF lf false true kids = al ++ txF lf false (decide (j = 0)) (kids.drop j))
 case atStart=>exact ⟨Below.refl _ _,0,Nat.zero_le _,rfl,rfl,_,[35,40],rfl,rfl,rfl⟩
 case round =>
  obtain ⟨hbr,j,hj,rfl,rfl,t,al,rfl,rt,hrs⟩:=hrel
  have HBR:=Lib.hid hbr
  have RT:=Lib.hid rt
  have hal : al.length ≤ 100000000000:=by
   have h1:=congrArg List.length hrs
   have h2:=HL.out
   rw [List.length_append,List.length_append] at h1
   omega
  have hts : t.size ≤ 100000000000:=by rw [← rt,lsize]; exact hal
  obtain ⟨z0,z1,z2,z3,z4,z5,z6,z7⟩:=BLK.out _ hbr
  clear hbr rt x0 x1 x2 x3 x4 x5 x6 x7
  by_cases hjl : j < kids.len
  ·obtain ⟨hh,k,r,hdr,hdr1⟩:=Fr.cons_of_lt hjl
   have hBe:=HB.out (by omega)
   obtain ⟨hbl,C,D⟩:=counted_item (FAt.below HBR.out _ _ _ HF.out) hdr
   rw [hdr,txF_cons] at hrs
   obtain ⟨tx,htx⟩ : ∃ tx,txD lf hh k = tx:=⟨_,rfl⟩
   have htl : tx.length ≤ 100000000000:=by
    have h1:=congrArg List.length hrs
    have h2:=HL.out
    rw [htx] at h1
    simp only [List.length_append] at h1 h2
    omega
   have hrl : r.len + (j + 1) = kids.len:=by
    have h1:=Fr.len_drop j kids
    rw [hdr] at h1
    have h3 : r.len + 1 = kids.len - j:=h1
    omega
   have CK:=Lib.hid fun W (hW : Below wr.heap.size wr W)=>HCL.out hh k j r hdr (by rw [htx]; exact htl) W (bel_trans (B:=w0.heap.size) HBW.out (bel_trans (B:=W0.heap.size) HBR.out hW)) (D.below hW)
   rw [htx] at CK hrs
   obtain ⟨tb,htb⟩ : ∃ tb : ByteArray,(⟨tx.toArray⟩ : ByteArray) = tb:=⟨_,rfl⟩
   have htbs : tb.size ≤ 100000000000:=by rw [← htb,lsize]; exact htl
   rw [htb] at CK
   have HTB:=Lib.hid htb
   have HRS:=Lib.hid hrs
   have HDR1:=Lib.hid hdr1
   obtain ⟨x0,x1,x2,x3,x4,x5,x6,x7⟩:=C
   have hba : Below wr.heap.size wr (wr.alloc (.cells #[.int .i64 hh.k,.int .i64 hh.n,.bool hh.fl,.float .f64 hh.f,.bool hh.s,.slice hh.A hh.xs.length hh.c,.string hh.t,.slice hh.B k.len hh.cap] 44)):=(Below.refl _ wr).alloc (Nat.le_refl _) _
   have HBA:=Lib.hid hba
   have HRL:=Lib.hid hrl
   obtain ⟨y0,y1,y2,y3,y4,y5,y6,y7⟩:=BLK.out _ (bel_trans (B:=W0.heap.size) HBR.out HBA.out)
   clear hrs hdr hdr1 D hba htx htb hbl hrl
   rw [hBe]
   by_cases hj0 : j = 0
   ·have SEP:=Lib.hid (show (if (false && r.isNil) = true then ([32,46,32] : List UInt8) else if decide (j = 0) = true then [] else [32]) = [] by simp [hj0])
    have dj : decide (0 < j) = false:=decide_eq_false (by omega)
    have dj2 : decide ((0 : Int) < (j : Int)) = false:=decide_eq_false (by omega)
    clear hj0
    go_wp2_with (fail)
    refine (CK.out _ HBA.out).mono ?_
    rintro e w2 ⟨rfl,hb2⟩
    have HB2:=Lib.hid (bel_trans (B:=W0.heap.size) HBR.out (bel_trans (B:=wr.heap.size) HBA.out hb2))
    clear hb2 x0 x1 x2 x3 x4 x5 x6 x7 z0 z1 z2 z3 z4 z5 z6 z7 y0 y1 y2 y3 y4 y5 y6 y7
    go_wp2_with (fail)
    rw [← hBe]
    go_roundg (kids.len - (j + 1))
    case measure=>omega
    case rel=>exact ⟨HB2.out,j + 1,by omega,rfl,by go_num,_,al ++ (([] : List UInt8) ++ tx),rfl,by rw [← RT.out,← HTB.out]; simp only [str_cat,List.append_assoc,List.nil_append]; try rfl,by rw [HDR1.out,HRS.out,SEP.out]; simp [List.append_assoc]⟩
   ·have SEP:=Lib.hid (show (if (false && r.isNil) = true then ([32,46,32] : List UInt8) else if decide (j = 0) = true then [] else [32]) = [32] by simp [hj0])
    have dj : decide (0 < j) = true:=decide_eq_true (by omega)
    have dj2 : decide ((0 : Int) < (j : Int)) = true:=decide_eq_true (by omega)
    clear hj0
    go_wp2_with (fail)
    refine (CK.out _ HBA.out).mono ?_
    rintro e w2 ⟨rfl,hb2⟩
    have HB2:=Lib.hid (bel_trans (B:=W0.heap.size) HBR.out (bel_trans (B:=wr.heap.size) HBA.out hb2))
    clear hb2 x0 x1 x2 x3 x4 x5 x6 x7 z0 z1 z2 z3 z4 z5 z6 z7 y0 y1 y2 y3 y4 y5 y6 y7
    go_wp2_with (fail)
    rw [← hBe]
    go_roundg (kids.len - (j + 1))
    case measure=>omega
    case rel=>exact ⟨HB2.out,j + 1,by omega,rfl,by go_num,_,al ++ ([32] ++ tx),rfl,by rw [← RT.out,← HTB.out]; simp only [str_cat,List.append_assoc,List.nil_append]; try rfl,by rw [HDR1.out,HRS.out,SEP.out]; simp [List.append_assoc]⟩
  ·have hje : j = kids.len:=by omega
   subst hje
   rw [drop_all] at hrs
   have hfull : [35,40] ++ txF lf false true kids = al:=hrs.trans (List.append_nil al)
   have HFU:=Lib.hid hfull
   clear hrs hfull
   go_wp2_with (fail)
   go_ret
   exact ⟨by rw [HTX.out,HFU.out,← RT.out]; first | rfl | (rw [← str_cat]),bel_trans (B:=w.heap.size) HB0.out HBR.out⟩
theorem rtext_row6 (lf : Hd → List UInt8) (w0 : World) (h : Hd) (hk : h.k = 6) (kids : Fr) (hn : 2 ≤ kids.len) (hho : h.Ok kids.len) (hd : DatV w0 h kids) (hl : (txD lf h kids).length ≤ 100000000000)
  (hcl : ∀ hh k j r,kids.drop j = .cons hh k r → (txD lf hh k).length ≤ 100000000000 → ∀ W,Below w0.heap.size w0 W → DatV W hh k → Calls Tryz.prog 14 #[datA hh k.len] W fun e w'=>e = .returned (.string ⟨(txD lf hh k).toArray⟩)∧Below W.heap.size W w') (w : World) (hw : Below w0.heap.size w0 w) :
  Calls Tryz.prog 14 #[datA h kids.len] w fun e w'=>e = .returned (.string ⟨(txD lf h kids).toArray⟩)∧Below w.heap.size w w':=by
 have htx : txD lf h kids = [40] ++ txF lf true true kids ++ [41]:=by unfold txD; rw [if_neg (by omega),if_pos hk]
 obtain ⟨W0,hW0,hb0,ho,hs0⟩:=dat_block w h kids.len
 obtain ⟨x0,x1,x2,x3,x4,x5,x6,x7⟩:=C8.of_block ho
 have hbw0 : Below w0.heap.size w0 W0:=bel_trans (B:=w0.heap.size) hw hb0
 obtain ⟨b,off,hB,hF⟩:=(hd.below hbw0).items
 have hkl : kids.len ≤ 9223372036854775807:=Nat.le_trans hho.cap.1 hho.cap.2
 rw [htx,List.length_append,List.length_append] at hl
 have HTX:=Lib.hid htx
 have HL:=Lib.hid hl
 have HW0:=Lib.hid hW0
 have HB0:=Lib.hid hb0
 have HBW:=Lib.hid hbw0
 have HF:=Lib.hid hF
 have HB:=Lib.hid hB
 have HCL:=Lib.hid hcl
 have BLK : Hid (∀ W,Below W0.heap.size W0 W → C8 W w.heap.size 0 h kids.len):=Lib.hid fun W hW=>C8.of_block ((hW.block _ hs0).trans ho)
 have k0 : (h.k == 0) = false:=by rw [hk]; rfl
 have k1 : (h.k == 1) = false:=by rw [hk]; rfl
 have k2 : (h.k == 2) = false:=by rw [hk]; rfl
 have k3 : (h.k == 3) = false:=by rw [hk]; rfl
 have k4 : (h.k == 4) = false:=by rw [hk]; rfl
 have k5 : (h.k == 5) = false:=by rw [hk]; rfl
 have k6 : (h.k == 6) = true:=by rw [hk]; rfl
 have k7 : (h.k == 7) = false:=by rw [hk]; rfl
 clear hW0 hb0 hF hB hcl hd ho hbw0 hl htx hs0 hk
 go_enter Tryz.func14,Tryz.ntmps14
 go_wp2_with (fail)
 rw [HW0.out]
 go_wp2_with (fail)
 go_loopg [3,4,5,39] kids.len (fun kk l _ _ i wr=>Below W0.heap.size W0 wr∧∃ j : Nat,j ≤ kids.len∧kk = kids.len - j∧i = .int .i64 (j : Int)∧∃ (t : ByteArray) (al : List UInt8),.string t = l∧(⟨al.toArray⟩ : ByteArray) = t∧[40] ++ txF lf true true kids = al ++ txF lf true (decide (j = 0)) (kids.drop j))
 case atStart=>exact ⟨Below.refl _ _,0,Nat.zero_le _,rfl,rfl,_,[40],rfl,rfl,rfl⟩
 case round =>
  obtain ⟨hbr,j,hj,rfl,rfl,t,al,rfl,rt,hrs⟩:=hrel
  have HBR:=Lib.hid hbr
  have RT:=Lib.hid rt
  have hal : al.length ≤ 100000000000:=by
   have h1:=congrArg List.length hrs
   have h2:=HL.out
   rw [List.length_append,List.length_append] at h1
   omega
  have hts : t.size ≤ 100000000000:=by rw [← rt,lsize]; exact hal
  obtain ⟨z0,z1,z2,z3,z4,z5,z6,z7⟩:=BLK.out _ hbr
  clear hbr rt x0 x1 x2 x3 x4 x5 x6 x7
  by_cases hjl : j < kids.len
  ·obtain ⟨hh,k,r,hdr,hdr1⟩:=Fr.cons_of_lt hjl
   have hBe:=HB.out (by omega)
   obtain ⟨hbl,C,D⟩:=counted_item (FAt.below HBR.out _ _ _ HF.out) hdr
   rw [hdr,txF_cons] at hrs
   obtain ⟨tx,htx⟩ : ∃ tx,txD lf hh k = tx:=⟨_,rfl⟩
   have htl : tx.length ≤ 100000000000:=by
    have h1:=congrArg List.length hrs
    have h2:=HL.out
    rw [htx] at h1
    simp only [List.length_append] at h1 h2
    omega
   have hrl : r.len + (j + 1) = kids.len:=by
    have h1:=Fr.len_drop j kids
    rw [hdr] at h1
    have h3 : r.len + 1 = kids.len - j:=h1
    omega
   have CK:=Lib.hid fun W (hW : Below wr.heap.size wr W)=>HCL.out hh k j r hdr (by rw [htx]; exact htl) W (bel_trans (B:=w0.heap.size) HBW.out (bel_trans (B:=W0.heap.size) HBR.out hW)) (D.below hW)
   rw [htx] at CK hrs
   obtain ⟨tb,htb⟩ : ∃ tb : ByteArray,(⟨tx.toArray⟩ : ByteArray) = tb:=⟨_,rfl⟩
   have htbs : tb.size ≤ 100000000000:=by rw [← htb,lsize]; exact htl
   rw [htb] at CK
   have HTB:=Lib.hid htb
   have HRS:=Lib.hid hrs
   have HDR1:=Lib.hid hdr1
   obtain ⟨x0,x1,x2,x3,x4,x5,x6,x7⟩:=C
   have hba : Below wr.heap.size wr (wr.alloc (.cells #[.int .i64 hh.k,.int .i64 hh.n,.bool hh.fl,.float .f64 hh.f,.bool hh.s,.slice hh.A hh.xs.length hh.c,.string hh.t,.slice hh.B k.len hh.cap] 44)):=(Below.refl _ wr).alloc (Nat.le_refl _) _
   have HBA:=Lib.hid hba
   have HRL:=Lib.hid hrl
   obtain ⟨y0,y1,y2,y3,y4,y5,y6,y7⟩:=BLK.out _ (bel_trans (B:=W0.heap.size) HBR.out HBA.out)
   clear hrs hdr hdr1 D hba htx htb hbl hrl
   rw [hBe]
   have w1 : IntKind.i64.wrap ((kids.len : Int) - 1) = ((kids.len - 1 : Nat) : Int):=by rw [IntKind.wrap_i64]; omega
   obtain ⟨q,hq⟩ : ∃ q,kids.len - 1 = q:=⟨_,rfl⟩
   rw [hq] at w1
   by_cases hla : j = q
   ·have hnil : r.isNil = true:=by
     cases r with
     | nil=>rfl
     | cons a b c=>have:=HRL.out; have h3 : (Fr.cons a b c).len = c.len + 1:=rfl; omega
    have SEP:=Lib.hid (show (if (true && r.isNil) = true then ([32,46,32] : List UInt8) else if decide (j = 0) = true then [] else [32]) = [32,46,32] by rw [hnil]; rfl)
    have dj : decide (0 < j) = true:=decide_eq_true (by omega)
    have dj2 : decide ((0 : Int) < (j : Int)) = true:=decide_eq_true (by omega)
    have dl : ((j : Int) == (q : Int)) = true:=by rw [beq_iff_eq]; omega
    clear hla hq hnil
    go_wp2_with (fail)
    refine (CK.out _ HBA.out).mono ?_
    rintro e w2 ⟨rfl,hb2⟩
    have HB2:=Lib.hid (bel_trans (B:=W0.heap.size) HBR.out (bel_trans (B:=wr.heap.size) HBA.out hb2))
    clear hb2 x0 x1 x2 x3 x4 x5 x6 x7 z0 z1 z2 z3 z4 z5 z6 z7 y0 y1 y2 y3 y4 y5 y6 y7
    go_wp2_with (fail)
    rw [← hBe]
    go_roundg (kids.len - (j + 1))
    case measure=>omega
    case rel=>exact ⟨HB2.out,j + 1,by omega,rfl,by go_num,_,al ++ ([32,46,32] ++ tx),rfl,by rw [← RT.out,← HTB.out]; simp only [str_cat,List.append_assoc,List.nil_append]; try rfl,by rw [HDR1.out,HRS.out,SEP.out]; simp [List.append_assoc]⟩
   ·have hnil : r.isNil = false:=by
     cases r with
     | nil=>have:=HRL.out; have h3 : (Fr.nil).len = 0:=rfl; omega
     | cons a b c=>rfl
    have dl : ((j : Int) == (q : Int)) = false:=by rw [beq_eq_false_iff_ne]; omega
    by_cases hj0 : j = 0
    ·have SEP:=Lib.hid (show (if (true && r.isNil) = true then ([32,46,32] : List UInt8) else if decide (j = 0) = true then [] else [32]) = [] by rw [hnil,hj0]; rfl)
     have dj : decide (0 < j) = false:=decide_eq_false (by omega)
     have dj2 : decide ((0 : Int) < (j : Int)) = false:=decide_eq_false (by omega)
     clear hj0 hla hq hnil
     go_wp2_with (fail)
     refine (CK.out _ HBA.out).mono ?_
     rintro e w2 ⟨rfl,hb2⟩
     have HB2:=Lib.hid (bel_trans (B:=W0.heap.size) HBR.out (bel_trans (B:=wr.heap.size) HBA.out hb2))
     clear hb2 x0 x1 x2 x3 x4 x5 x6 x7 z0 z1 z2 z3 z4 z5 z6 z7 y0 y1 y2 y3 y4 y5 y6 y7
     go_wp2_with (fail)
     rw [← hBe]
     go_roundg (kids.len - (j + 1))
     case measure=>omega
     case rel=>exact ⟨HB2.out,j + 1,by omega,rfl,by go_num,_,al ++ (([] : List UInt8) ++ tx),rfl,by rw [← RT.out,← HTB.out]; simp only [str_cat,List.append_assoc,List.nil_append]; try rfl,by rw [HDR1.out,HRS.out,SEP.out]; simp [List.append_assoc]⟩
    ·have SEP:=Lib.hid (show (if (true && r.isNil) = true then ([32,46,32] : List UInt8) else if decide (j = 0) = true then [] else [32]) = [32] by rw [hnil,decide_eq_false hj0]; rfl)
     have dj : decide (0 < j) = true:=decide_eq_true (by omega)
     have dj2 : decide ((0 : Int) < (j : Int)) = true:=decide_eq_true (by omega)
     clear hj0 hla hq hnil
     go_wp2_with (fail)
     refine (CK.out _ HBA.out).mono ?_
     rintro e w2 ⟨rfl,hb2⟩
     have HB2:=Lib.hid (bel_trans (B:=W0.heap.size) HBR.out (bel_trans (B:=wr.heap.size) HBA.out hb2))
     clear hb2 x0 x1 x2 x3 x4 x5 x6 x7 z0 z1 z2 z3 z4 z5 z6 z7 y0 y1 y2 y3 y4 y5 y6 y7
     go_wp2_with (fail)
     rw [← hBe]
     go_roundg (kids.len - (j + 1))
     case measure=>omega
     case rel=>exact ⟨HB2.out,j + 1,by omega,rfl,by go_num,_,al ++ ([32] ++ tx),rfl,by rw [← RT.out,← HTB.out]; simp only [str_cat,List.append_assoc,List.nil_append]; try rfl,by rw [HDR1.out,HRS.out,SEP.out]; simp [List.append_assoc]⟩
  ·have hje : j = kids.len:=by omega
   subst hje
   rw [drop_all] at hrs
   have hfull : [40] ++ txF lf true true kids = al:=hrs.trans (List.append_nil al)
   have HFU:=Lib.hid hfull
   clear hrs hfull
   go_wp2_with (fail)
   go_ret
   exact ⟨by rw [HTX.out,HFU.out,← RT.out]; first | rfl | (rw [← str_cat]),bel_trans (B:=w.heap.size) HB0.out HBR.out⟩
end LM
namespace LM
attribute [local go_sem] run_store_flt
theorem dwrite_str2 (b : Nat) (w0 : World) (h : Hd) (hk : h.k = 3) (t : List UInt8) (hT : ∀ W cs,Below b w0 W → WR b cs W → cs.length + t.length ≤ 100000000000 → Calls Tryz.prog 73 #[.pointer (some ⟨b,0,none⟩),.string h.t] W (Wrote b cs t W)) : WriteC b w0 h 0 t:=by
 intro W cs hb hr hl
 obtain ⟨W0,hW0,hb0,hO,hs0⟩:=dat_block W h 0
 have hbw:=hr.2
 have A2:=Lib.hid (hb0.mono (Nat.le_of_lt hbw))
 have A3:=Lib.hid (keeps8_below (B:=b + 1) hb0)
 have H1:=Lib.hid (hT W0 cs (hb.trans A2.out) (hr.below hb0) hl)
 have HW0:=Lib.hid hW0
 have f0 : (h.k == 0) = false:=by rw [hk]; rfl
 have f1 : (h.k == 1) = false:=by rw [hk]; rfl
 have f2 : (h.k == 2) = false:=by rw [hk]; rfl
 have f3 : (h.k == 3) = true:=by rw [hk]; rfl
 have f4 : (h.k == 4) = false:=by rw [hk]; rfl
 have f5 : (h.k == 5) = false:=by rw [hk]; rfl
 have f6 : (h.k == 6) = false:=by rw [hk]; rfl
 have f7 : (h.k == 7) = false:=by rw [hk]; rfl
 clear hW0 hb0 hO hb hr hl hs0 hk hbw hT
 go_enter Tryz.func42,Tryz.ntmps42
 go_wp2_with (fail)
 rw [HW0.out]
 refine H1.out.mono ?_
 rintro e w1 ⟨⟨v,rfl⟩,h1,h2,h3⟩
 have B1:=Lib.hid h1
 have B2:=Lib.hid (A2.out.trans h2)
 have B3:=Lib.hid (A3.out.trans h3)
 clear h1 h2 h3
 go_wp2_with (fail)
 go_end0
 exact ⟨⟨_,rfl⟩,B1.out,B2.out,B3.out⟩
end LM
namespace LM
attribute [local go_sem] run_store_flt
theorem rleaf_num (w0 : World) (h : Hd) (hk : h.k = 0) (t : ByteArray) (hT : ∀ W,Below w0.heap.size w0 W → Calls Tryz.prog 31 #[numA h.fl h.f h.s h.A h.xs.length h.c] W fun e w'=>e = .returned (.string t)∧Below W.heap.size W w') : RTextC w0 h t.data.toList:=by
 intro W hb
 obtain ⟨W0,hW0,hb0,hO,hs0⟩:=dat_block W h 0
 have HB0:=Lib.hid hb0
 have HW0:=Lib.hid hW0
 have HT:=Lib.hid (hT W0 (bel_trans (B:=w0.heap.size) hb hb0))
 have f0 : (h.k == 0) = true:=by rw [hk]; rfl
 have f1 : (h.k == 1) = false:=by rw [hk]; rfl
 have f2 : (h.k == 2) = false:=by rw [hk]; rfl
 have f3 : (h.k == 3) = false:=by rw [hk]; rfl
 have f4 : (h.k == 4) = false:=by rw [hk]; rfl
 have f5 : (h.k == 5) = false:=by rw [hk]; rfl
 have f6 : (h.k == 6) = false:=by rw [hk]; rfl
 have f7 : (h.k == 7) = false:=by rw [hk]; rfl
 clear hW0 hb0 hO hb hs0 hk hT
 go_enter Tryz.func14,Tryz.ntmps14
 go_wp2_with (fail)
 rw [HW0.out]
 refine HT.out.mono ?_
 rintro e w1 ⟨rfl,hb1⟩
 have HB1:=Lib.hid (bel_trans (B:=W.heap.size) HB0.out hb1)
 clear hb1
 go_wp2_with (fail)
 go_ret
 exact ⟨by rfl,HB1.out⟩
theorem rleaf_bool0 (w0 : World) (h : Hd) (hk : h.k = 1) (hn : h.n = 0) : RTextC w0 h [35,102]:=by
 intro W hb
 obtain ⟨W0,hW0,hb0,hO,hs0⟩:=dat_block W h 0
 have HB0:=Lib.hid hb0
 have HW0:=Lib.hid hW0
 have f0 : (h.k == 0) = false:=by rw [hk]; rfl
 have f1 : (h.k == 1) = true:=by rw [hk]; rfl
 have f2 : (h.k == 2) = false:=by rw [hk]; rfl
 have f3 : (h.k == 3) = false:=by rw [hk]; rfl
 have f4 : (h.k == 4) = false:=by rw [hk]; rfl
 have f5 : (h.k == 5) = false:=by rw [hk]; rfl
 have f6 : (h.k == 6) = false:=by rw [hk]; rfl
 have f7 : (h.k == 7) = false:=by rw [hk]; rfl
 clear hW0 hb0 hO hb hs0 hk
 go_enter Tryz.func14,Tryz.ntmps14
 go_wp2_with (fail)
 change Oper.upon _ _ _ _ _ ((Result.ok (Value.string ⟨#[35,102]⟩) _).andThen _)
 go_wp2_with (fail)
 go_ret
 exact ⟨by rfl,by first | exact HB0.out | exact (Below.refl _ W).alloc (Nat.le_refl _) _⟩
theorem rleaf_bool1 (w0 : World) (h : Hd) (hk : h.k = 1) (hn : h.n = 1) : RTextC w0 h [35,116]:=by
 intro W hb
 obtain ⟨W0,hW0,hb0,hO,hs0⟩:=dat_block W h 0
 have HB0:=Lib.hid hb0
 have HW0:=Lib.hid hW0
 have f0 : (h.k == 0) = false:=by rw [hk]; rfl
 have f1 : (h.k == 1) = true:=by rw [hk]; rfl
 have f2 : (h.k == 2) = false:=by rw [hk]; rfl
 have f3 : (h.k == 3) = false:=by rw [hk]; rfl
 have f4 : (h.k == 4) = false:=by rw [hk]; rfl
 have f5 : (h.k == 5) = false:=by rw [hk]; rfl
 have f6 : (h.k == 6) = false:=by rw [hk]; rfl
 have f7 : (h.k == 7) = false:=by rw [hk]; rfl
 clear hW0 hb0 hO hb hs0 hk
 go_enter Tryz.func14,Tryz.ntmps14
 go_wp2_with (fail)
 change Oper.upon _ _ _ _ _ ((Result.ok (Value.string ⟨#[35,116]⟩) _).andThen _)
 go_wp2_with (fail)
 go_ret
 exact ⟨by rfl,by first | exact HB0.out | exact (Below.refl _ W).alloc (Nat.le_refl _) _⟩
theorem rleaf_char (w0 : World) (h : Hd) (hk : h.k = 2) (n : Nat) (hn : h.n = (n : Int)) (hnn : n ≤ 1114111) : RTextC w0 h ([35,92] ++ nameL n):=by
 intro W hb
 obtain ⟨W0,hW0,hb0,hO,hs0⟩:=dat_block W h 0
 have HB0:=Lib.hid hb0
 have HW0:=Lib.hid hW0
 have HT:=Lib.hid (show Calls Tryz.prog 32 #[.int .i64 h.n] W0 fun e w'=>e = .returned (.string ⟨([35,92] ++ nameL n).toArray⟩)∧Below W0.heap.size W0 w' by rw [hn]; exact rchar_any n hnn W0)
 have f0 : (h.k == 0) = false:=by rw [hk]; rfl
 have f1 : (h.k == 1) = false:=by rw [hk]; rfl
 have f2 : (h.k == 2) = true:=by rw [hk]; rfl
 have f3 : (h.k == 3) = false:=by rw [hk]; rfl
 have f4 : (h.k == 4) = false:=by rw [hk]; rfl
 have f5 : (h.k == 5) = false:=by rw [hk]; rfl
 have f6 : (h.k == 6) = false:=by rw [hk]; rfl
 have f7 : (h.k == 7) = false:=by rw [hk]; rfl
 clear hW0 hb0 hO hb hs0 hk hn
 go_enter Tryz.func14,Tryz.ntmps14
 go_wp2_with (fail)
 rw [HW0.out]
 refine HT.out.mono ?_
 rintro e w1 ⟨rfl,hb1⟩
 have HB1:=Lib.hid (bel_trans (B:=W.heap.size) HB0.out hb1)
 clear hb1
 go_wp2_with (fail)
 go_ret
 exact ⟨by rfl,HB1.out⟩
theorem rleaf_str (w0 : World) (h : Hd) (hk : h.k = 3) (hs : h.t.size ≤ 1000000) : RTextC w0 h (quoteL h.t):=by
 intro W hb
 obtain ⟨W0,hW0,hb0,hO,hs0⟩:=dat_block W h 0
 have HB0:=Lib.hid hb0
 have HW0:=Lib.hid hW0
 have HT:=Lib.hid (rquote_any h.t hs W0)
 have f0 : (h.k == 0) = false:=by rw [hk]; rfl
 have f1 : (h.k == 1) = false:=by rw [hk]; rfl
 have f2 : (h.k == 2) = false:=by rw [hk]; rfl
 have f3 : (h.k == 3) = true:=by rw [hk]; rfl
 have f4 : (h.k == 4) = false:=by rw [hk]; rfl
 have f5 : (h.k == 5) = false:=by rw [hk]; rfl
 have f6 : (h.k == 6) = false:=by rw [hk]; rfl
 have f7 : (h.k == 7) = false:=by rw [hk]; rfl
 clear hW0 hb0 hO hb hs0 hk
 go_enter Tryz.func14,Tryz.ntmps14
 go_wp2_with (fail)
 rw [HW0.out]
 refine HT.out.mono ?_
 rintro e w1 ⟨rfl,hb1⟩
 have HB1:=Lib.hid (bel_trans (B:=W.heap.size) HB0.out hb1)
 clear hb1
 go_wp2_with (fail)
 go_ret
 exact ⟨by rfl,HB1.out⟩
theorem rleaf_sym (w0 : World) (h : Hd) (hk : h.k = 4)  : RTextC w0 h h.t.data.toList:=by
 intro W hb
 obtain ⟨W0,hW0,hb0,hO,hs0⟩:=dat_block W h 0
 have HB0:=Lib.hid hb0
 have HW0:=Lib.hid hW0
 have f0 : (h.k == 0) = false:=by rw [hk]; rfl
 have f1 : (h.k == 1) = false:=by rw [hk]; rfl
 have f2 : (h.k == 2) = false:=by rw [hk]; rfl
 have f3 : (h.k == 3) = false:=by rw [hk]; rfl
 have f4 : (h.k == 4) = true:=by rw [hk]; rfl
 have f5 : (h.k == 5) = false:=by rw [hk]; rfl
 have f6 : (h.k == 6) = false:=by rw [hk]; rfl
 have f7 : (h.k == 7) = false:=by rw [hk]; rfl
 clear hW0 hb0 hO hb hs0 hk
 go_enter Tryz.func14,Tryz.ntmps14
 go_wp2_with (fail)
 rw [HW0.out]
 go_ret
 exact ⟨by rfl,by first | exact HB0.out | exact (Below.refl _ W).alloc (Nat.le_refl _) _⟩
theorem rdtext_any (lf : Hd → List UInt8) (w0 : World) (P : Hd → Prop) (hP : ∀ hh,P hh → RTextC w0 hh (lf hh)) :
  ∀ (m : Nat) (kids : Fr),kids.size < m → kids.Ok → WOk P kids → ∀ h : Hd,h.Ok kids.len → WH P h kids → DatV w0 h kids → (txD lf h kids).length ≤ 100000000000 → ∀ W,Below w0.heap.size w0 W → DatV W h kids →
   Calls Tryz.prog 14 #[datA h kids.len] W fun e w'=>e = .returned (.string ⟨(txD lf h kids).toArray⟩)∧Below W.heap.size W w':=by
 intro m
 induction m with
 | zero=>intro kids h; omega
 | succ m ih =>
  intro kids hsz hok hwok h hho hwh hd hl W hb _
  obtain ⟨bb,off,hB,hF⟩:=hd.items
  have rows : ∀ hh k j r,kids.drop j = .cons hh k r → (txD lf hh k).length ≤ 100000000000 → ∀ W,Below w0.heap.size w0 W → DatV W hh k → Calls Tryz.prog 14 #[datA hh k.len] W fun e w'=>e = .returned (.string ⟨(txD lf hh k).toArray⟩)∧Below W.heap.size W w':=by
   intro hh k j r e hl2 W2 hb2 hd2
   have o1:=Fr.Ok.drop j hok
   have o2:=WOk.drop j hwok
   rw [e] at o1 o2
   exact ih k (by have:=size_item e; omega) o1.2.1 o2.2.1 hh o1.1 o2.1 (counted_item hF e).2.2 hl2 W2 hb2 hd2
  by_cases hlk : leafK h.k
  ·obtain ⟨rfl,hp⟩:=hwh.1 hlk
   have e : txD lf h .nil = lf h:=by unfold txD; rw [if_neg hlk.1,if_neg hlk.2.1,if_neg hlk.2.2]
   rw [e]
   exact hP h hp W hb
  ·by_cases h5 : h.k = 5
   ·exact rtext_row5 lf w0 h h5 kids trivial hho hd hl rows W hb
   ·by_cases h7 : h.k = 7
    ·exact rtext_row7 lf w0 h h7 kids trivial hho hd hl rows W hb
    ·have h6 : h.k = 6:=by
      unfold leafK at hlk
      omega
     exact rtext_row6 lf w0 h h6 kids (hwh.2 h6) hho hd hl rows W hb
end LM
namespace LM
end LM
namespace LM
end LM
namespace LM
attribute [local go_sem] run_store_flt
theorem zero_block (w : World) : ∃ W0,w.alloc zeroO = W0∧Below w.heap.size w W0∧W0.heap[w.heap.size]? = some zeroO∧w.heap.size < W0.heap.size :=
 ⟨_,rfl,(Below.refl _ w).alloc (Nat.le_refl _) _,by unfold World.alloc; simp,by simp⟩
end LM
end Go.Proofs.YtaonablbgicmpaaGreatDoor
