import Derived.Test.YtnpmfailpgbggaaGreatDoorT39
import Derived.Test.YtnpmfailpgbggaaGreatDoorT47
set_option linter.unusedVariables false
set_option linter.unusedSimpArgs false
set_option maxRecDepth 100000
set_option maxHeartbeats 16000000
namespace Go.Proofs.YtnpmfailpgbggaaGreatDoor
open Go Go.RowKit
namespace LM
attribute [local go_sem] run_store_flt
theorem rnodes_any : ∀ (m : Nat) (kids : Fr),kids.size < m → kids.Ok → ∀ (h : Hd) (w : World),DatV w h kids → h.Ok kids.len → kids.nodes ≤ 1000000 →
    Calls Tryz.prog 15 #[datA h kids.len] w fun e w'=>e = .returned (.int .i64 ((kids.nodes + 1 : Nat) : Int))∧Below w.heap.size w w':=by
  intro m
  induction m with
  | zero=>intro kids h; omega
  | succ m ih =>
    intro kids hsz hok h w hd hho hnd
    obtain ⟨W0,hW0,hb0,ho,hs0⟩:=dat_block w h kids.len
    obtain ⟨x0,x1,x2,x3,x4,x5,x6,x7⟩:=C8.of_block ho
    obtain ⟨b,off,hB,hF⟩:=(hd.below hb0).items
    have hkl : kids.len ≤ 9223372036854775807:=Nat.le_trans hho.cap.1 hho.cap.2
    have HW0:=Lib.hid hW0
    have HB0:=Lib.hid hb0
    have HF:=Lib.hid hF
    have HB:=Lib.hid hB
    have HOK:=Lib.hid hok
    have IH:=Lib.hid ih
    have HSZ:=Lib.hid hsz
    clear hW0 hb0 hF hB hok ih hsz hd ho
    go_enter Tryz.func15,Tryz.ntmps15
    go_wp2_with (fail)
    rw [HW0.out]
    go_wp2_with (fail)
    go_loopg [3,5,9] kids.len (fun kk n _ i wr=>Below W0.heap.size W0 wr∧∃ j : Nat,j ≤ kids.len∧kk = kids.len - j∧i = .int .i64 (j : Int)∧∃ a : Nat,n = .int .i64 (a : Int)∧a + (kids.drop j).nodes = kids.nodes + 1)
    case atStart=>exact ⟨Below.refl _ _,0,Nat.zero_le _,rfl,rfl,1,rfl,by show 1 + kids.nodes = _; omega⟩
    case round =>
      obtain ⟨hbr,j,hj,rfl,rfl,a,rfl,hcn⟩:=hrel
      have HBR:=Lib.hid hbr
      clear hbr
      by_cases hjl : j < kids.len
      · obtain ⟨hh,k,r,hdr,hdr1⟩:=Fr.cons_of_lt hjl
        have hBe:=HB.out (by omega)
        rw [hBe]
        obtain ⟨hbl,C,D⟩:=counted_item (FAt.below HBR.out _ _ _ HF.out) hdr
        have hks:=size_item hdr
        have hko:=HOK.out.drop j
        rw [hdr] at hko hcn
        have hcn2 : a + (k.nodes + 1 + r.nodes) = kids.nodes + 1:=hcn
        have CK:=Lib.hid fun W (hW : Below wr.heap.size wr W)=>IH.out k (by have:=HSZ.out; omega) hko.2.1 hh W (D.below hW) hko.1 (by omega)
        have NX:=Lib.hid (show (a + (k.nodes + 1)) + (kids.drop (j + 1)).nodes = kids.nodes + 1 by rw [hdr1]; omega)
        have w1 : IntKind.i64.wrap ((a : Int) + ((k.nodes + 1 : Nat) : Int)) = ((a + (k.nodes + 1) : Nat) : Int):=by rw [IntKind.wrap_i64]; omega
        obtain ⟨x0,x1,x2,x3,x4,x5,x6,x7⟩:=C
        have hba : Below wr.heap.size wr (wr.alloc (.cells #[.int .i64 hh.k,.int .i64 hh.n,.bool hh.fl,.float .f64 hh.f,.bool hh.s,.slice hh.A hh.xs.length hh.c,.string hh.t,.slice hh.B k.len hh.cap] 30)):=(Below.refl _ wr).alloc (Nat.le_refl _) _
        have HBA:=Lib.hid hba
        obtain ⟨q,hq⟩ : ∃ q,k.nodes + 1 = q:=⟨_,rfl⟩
        rw [hq] at CK NX w1
        clear hcn hcn2 hdr hdr1 hks hko D hba hq
        go_wp2_with (fail)
        refine (CK.out _ HBA.out).mono ?_
        rintro e w2 ⟨rfl,hb2⟩
        have HB2:=Lib.hid (bel_trans (B:=W0.heap.size) HBR.out (bel_trans (B:=wr.heap.size) HBA.out hb2))
        clear hb2 x0 x1 x2 x3 x4 x5 x6 x7
        go_wp2_with (fail)
        rw [← hBe]
        go_roundg (kids.len - (j + 1))
        case measure=>omega
        case rel=>exact ⟨HB2.out,j + 1,by omega,rfl,by go_num,a + q,by first | rfl | go_num | simp,NX.out⟩
      · have hje : j = kids.len:=by omega
        subst hje
        rw [drop_all] at hcn
        have hcn2 : a = kids.nodes + 1:=hcn
        subst hcn2
        clear hcn
        go_wp2_with (fail)
        go_ret
        exact ⟨rfl,bel_trans (B:=w.heap.size) HB0.out HBR.out⟩
abbrev RTextC (w0 : World) (h : Hd) (t : List UInt8) : Prop:=∀ W,Below w0.heap.size w0 W → Calls Tryz.prog 27 #[datA h 0] W fun e w'=>e = .returned (.string ⟨t.toArray⟩)∧Below W.heap.size W w'
theorem txF_len (lf : Hd → List UInt8) (dot fst : Bool) (h : Hd) (k r : Fr) : (txF lf dot fst (.cons h k r)).length = (if dot && r.isNil then ([32,46,32] : List UInt8) else if fst then [] else [32]).length + (txD lf h k).length + (txF lf dot false r).length:=by
  show (((if dot && r.isNil then ([32,46,32] : List UInt8) else if fst then [] else [32]) ++ txD lf h k) ++ txF lf dot false r).length = _
  rw [List.length_append,List.length_append]
theorem txF_cons (lf : Hd → List UInt8) (dot fst : Bool) (h : Hd) (k r : Fr) : txF lf dot fst (.cons h k r) = (if dot && r.isNil then [32,46,32] else if fst then [] else [32]) ++ txD lf h k ++ txF lf dot false r:=rfl
theorem rtext_row5 (lf : Hd → List UInt8) (w0 : World) (h : Hd) (hk : h.k = 5) (kids : Fr) (hn : True) (hho : h.Ok kids.len) (hd : DatV w0 h kids) (hl : (txD lf h kids).length ≤ 100000000000)
    (hcl : ∀ hh k j r,kids.drop j = .cons hh k r → (txD lf hh k).length ≤ 100000000000 → ∀ W,Below w0.heap.size w0 W → DatV W hh k → Calls Tryz.prog 27 #[datA hh k.len] W fun e w'=>e = .returned (.string ⟨(txD lf hh k).toArray⟩)∧Below W.heap.size W w') (w : World) (hw : Below w0.heap.size w0 w) :
    Calls Tryz.prog 27 #[datA h kids.len] w fun e w'=>e = .returned (.string ⟨(txD lf h kids).toArray⟩)∧Below w.heap.size w w':=by
  have htx : txD lf h kids = [40] ++ txF lf false true kids ++ [41]:=by unfold txD; rw [if_pos hk]
  obtain ⟨W0,hW0,hb0,ho,hs0⟩:=dat_block w h kids.len
  obtain ⟨x0,x1,x2,x3,x4,x5,x6,x7⟩:=C8.of_block ho
  have hbw0 : Below w0.heap.size w0 W0:=bel_trans (B:=w0.heap.size) hw hb0
  obtain ⟨b,off,hB,hF⟩:=(hd.below hbw0).items
  have hkl : kids.len ≤ 9223372036854775807:=Nat.le_trans hho.cap.1 hho.cap.2
  rw [htx,List.length_append,List.length_append] at hl
  have HTX:=Lib.hid htx
  have HL:=Lib.hid hl
  have HW0:=Lib.hid hW0
  have HB0:=Lib.hid hb0
  have HBW:=Lib.hid hbw0
  have HF:=Lib.hid hF
  have HB:=Lib.hid hB
  have HCL:=Lib.hid hcl
  have BLK : Hid (∀ W,Below W0.heap.size W0 W → C8 W w.heap.size 0 h kids.len):=Lib.hid fun W hW=>C8.of_block ((hW.block _ hs0).trans ho)
  have k0 : (h.k == 0) = false:=by rw [hk]; rfl
  have k1 : (h.k == 1) = false:=by rw [hk]; rfl
  have k2 : (h.k == 2) = false:=by rw [hk]; rfl
  have k3 : (h.k == 3) = false:=by rw [hk]; rfl
  have k4 : (h.k == 4) = false:=by rw [hk]; rfl
  have k5 : (h.k == 5) = true:=by rw [hk]; rfl
  have k6 : (h.k == 6) = false:=by rw [hk]; rfl
  have k7 : (h.k == 7) = false:=by rw [hk]; rfl
  clear hW0 hb0 hF hB hcl hd ho hbw0 hl htx hs0 hk
  go_enter Tryz.func27,Tryz.ntmps27
  go_wp2_with (fail)
  rw [HW0.out]
  go_wp2_with (fail)
  go_loopg [3,4,5,39] kids.len (fun kk l _ _ i wr=>Below W0.heap.size W0 wr∧∃ j : Nat,j ≤ kids.len∧kk = kids.len - j∧i = .int .i64 (j : Int)∧∃ (t : ByteArray) (al : List UInt8),.string t = l∧(⟨al.toArray⟩ : ByteArray) = t∧[40] ++ txF lf false true kids = al ++ txF lf false (decide (j = 0)) (kids.drop j))
  case atStart=>exact ⟨Below.refl _ _,0,Nat.zero_le _,rfl,rfl,_,[40],rfl,rfl,rfl⟩
  case round =>
    obtain ⟨hbr,j,hj,rfl,rfl,t,al,rfl,rt,hrs⟩:=hrel
    have HBR:=Lib.hid hbr
    have RT:=Lib.hid rt
    have hal : al.length ≤ 100000000000:=by
      have h1:=congrArg List.length hrs
      have h2:=HL.out
      rw [List.length_append,List.length_append] at h1
      omega
    have hts : t.size ≤ 100000000000:=by rw [← rt,lsize]; exact hal
    obtain ⟨z0,z1,z2,z3,z4,z5,z6,z7⟩:=BLK.out _ hbr
    clear hbr rt x0 x1 x2 x3 x4 x5 x6 x7
    by_cases hjl : j < kids.len
    · obtain ⟨hh,k,r,hdr,hdr1⟩:=Fr.cons_of_lt hjl
      have hBe:=HB.out (by omega)
      obtain ⟨hbl,C,D⟩:=counted_item (FAt.below HBR.out _ _ _ HF.out) hdr
      rw [hdr,txF_cons] at hrs
      obtain ⟨tx,htx⟩ : ∃ tx,txD lf hh k = tx:=⟨_,rfl⟩
      have htl : tx.length ≤ 100000000000:=by
        have h1:=congrArg List.length hrs
        have h2:=HL.out
        rw [htx] at h1
        simp only [List.length_append] at h1 h2
        omega
      have hrl : r.len + (j + 1) = kids.len:=by
        have h1:=Fr.len_drop j kids
        rw [hdr] at h1
        have h3 : r.len + 1 = kids.len - j:=h1
        omega
      have CK:=Lib.hid fun W (hW : Below wr.heap.size wr W)=>HCL.out hh k j r hdr (by rw [htx]; exact htl) W (bel_trans (B:=w0.heap.size) HBW.out (bel_trans (B:=W0.heap.size) HBR.out hW)) (D.below hW)
      rw [htx] at CK hrs
      obtain ⟨tb,htb⟩ : ∃ tb : ByteArray,(⟨tx.toArray⟩ : ByteArray) = tb:=⟨_,rfl⟩
      have htbs : tb.size ≤ 100000000000:=by rw [← htb,lsize]; exact htl
      rw [htb] at CK
      have HTB:=Lib.hid htb
      have HRS:=Lib.hid hrs
      have HDR1:=Lib.hid hdr1
      obtain ⟨x0,x1,x2,x3,x4,x5,x6,x7⟩:=C
      have hba : Below wr.heap.size wr (wr.alloc (.cells #[.int .i64 hh.k,.int .i64 hh.n,.bool hh.fl,.float .f64 hh.f,.bool hh.s,.slice hh.A hh.xs.length hh.c,.string hh.t,.slice hh.B k.len hh.cap] 30)):=(Below.refl _ wr).alloc (Nat.le_refl _) _
      have HBA:=Lib.hid hba
      have HRL:=Lib.hid hrl
      obtain ⟨y0,y1,y2,y3,y4,y5,y6,y7⟩:=BLK.out _ (bel_trans (B:=W0.heap.size) HBR.out HBA.out)
      clear hrs hdr hdr1 D hba htx htb hbl hrl
      rw [hBe]
      by_cases hj0 : j = 0
      · have SEP:=Lib.hid (show (if (false && r.isNil) = true then ([32,46,32] : List UInt8) else if decide (j = 0) = true then [] else [32]) = [] by simp [hj0])
        have dj : decide (0 < j) = false:=decide_eq_false (by omega)
        have dj2 : decide ((0 : Int) < (j : Int)) = false:=decide_eq_false (by omega)
        clear hj0
        go_wp2_with (fail)
        refine (CK.out _ HBA.out).mono ?_
        rintro e w2 ⟨rfl,hb2⟩
        have HB2:=Lib.hid (bel_trans (B:=W0.heap.size) HBR.out (bel_trans (B:=wr.heap.size) HBA.out hb2))
        clear hb2 x0 x1 x2 x3 x4 x5 x6 x7 z0 z1 z2 z3 z4 z5 z6 z7 y0 y1 y2 y3 y4 y5 y6 y7
        go_wp2_with (fail)
        rw [← hBe]
        go_roundg (kids.len - (j + 1))
        case measure=>omega
        case rel=>exact ⟨HB2.out,j + 1,by omega,rfl,by go_num,_,al ++ (([] : List UInt8) ++ tx),rfl,by rw [← RT.out,← HTB.out]; simp only [str_cat,List.append_assoc,List.nil_append]; try rfl,by rw [HDR1.out,HRS.out,SEP.out]; simp [List.append_assoc]⟩
      · have SEP:=Lib.hid (show (if (false && r.isNil) = true then ([32,46,32] : List UInt8) else if decide (j = 0) = true then [] else [32]) = [32] by simp [hj0])
        have dj : decide (0 < j) = true:=decide_eq_true (by omega)
        have dj2 : decide ((0 : Int) < (j : Int)) = true:=decide_eq_true (by omega)
        clear hj0
        go_wp2_with (fail)
        refine (CK.out _ HBA.out).mono ?_
        rintro e w2 ⟨rfl,hb2⟩
        have HB2:=Lib.hid (bel_trans (B:=W0.heap.size) HBR.out (bel_trans (B:=wr.heap.size) HBA.out hb2))
        clear hb2 x0 x1 x2 x3 x4 x5 x6 x7 z0 z1 z2 z3 z4 z5 z6 z7 y0 y1 y2 y3 y4 y5 y6 y7
        go_wp2_with (fail)
        rw [← hBe]
        go_roundg (kids.len - (j + 1))
        case measure=>omega
        case rel=>exact ⟨HB2.out,j + 1,by omega,rfl,by go_num,_,al ++ ([32] ++ tx),rfl,by rw [← RT.out,← HTB.out]; simp only [str_cat,List.append_assoc,List.nil_append]; try rfl,by rw [HDR1.out,HRS.out,SEP.out]; simp [List.append_assoc]⟩
    · have hje : j = kids.len:=by omega
      subst hje
      rw [drop_all] at hrs
      have hfull : [40] ++ txF lf false true kids = al:=hrs.trans (List.append_nil al)
      have HFU:=Lib.hid hfull
      clear hrs hfull
      go_wp2_with (fail)
      go_ret
      exact ⟨by rw [HTX.out,HFU.out,← RT.out]; first | rfl | (rw [← str_cat]),bel_trans (B:=w.heap.size) HB0.out HBR.out⟩
theorem rtext_row7 (lf : Hd → List UInt8) (w0 : World) (h : Hd) (hk : h.k = 7) (kids : Fr) (hn : True) (hho : h.Ok kids.len) (hd : DatV w0 h kids) (hl : (txD lf h kids).length ≤ 100000000000)
    (hcl : ∀ hh k j r,kids.drop j = .cons hh k r → (txD lf hh k).length ≤ 100000000000 → ∀ W,Below w0.heap.size w0 W → DatV W hh k → Calls Tryz.prog 27 #[datA hh k.len] W fun e w'=>e = .returned (.string ⟨(txD lf hh k).toArray⟩)∧Below W.heap.size W w') (w : World) (hw : Below w0.heap.size w0 w) :
    Calls Tryz.prog 27 #[datA h kids.len] w fun e w'=>e = .returned (.string ⟨(txD lf h kids).toArray⟩)∧Below w.heap.size w w':=by
  have htx : txD lf h kids = [35,40] ++ txF lf false true kids ++ [41]:=by unfold txD; rw [if_neg (by omega),if_neg (by omega),if_pos hk]
  obtain ⟨W0,hW0,hb0,ho,hs0⟩:=dat_block w h kids.len
  obtain ⟨x0,x1,x2,x3,x4,x5,x6,x7⟩:=C8.of_block ho
  have hbw0 : Below w0.heap.size w0 W0:=bel_trans (B:=w0.heap.size) hw hb0
  obtain ⟨b,off,hB,hF⟩:=(hd.below hbw0).items
  have hkl : kids.len ≤ 9223372036854775807:=Nat.le_trans hho.cap.1 hho.cap.2
  rw [htx,List.length_append,List.length_append] at hl
  have HTX:=Lib.hid htx
  have HL:=Lib.hid hl
  have HW0:=Lib.hid hW0
  have HB0:=Lib.hid hb0
  have HBW:=Lib.hid hbw0
  have HF:=Lib.hid hF
  have HB:=Lib.hid hB
  have HCL:=Lib.hid hcl
  have BLK : Hid (∀ W,Below W0.heap.size W0 W → C8 W w.heap.size 0 h kids.len):=Lib.hid fun W hW=>C8.of_block ((hW.block _ hs0).trans ho)
  have k0 : (h.k == 0) = false:=by rw [hk]; rfl
  have k1 : (h.k == 1) = false:=by rw [hk]; rfl
  have k2 : (h.k == 2) = false:=by rw [hk]; rfl
  have k3 : (h.k == 3) = false:=by rw [hk]; rfl
  have k4 : (h.k == 4) = false:=by rw [hk]; rfl
  have k5 : (h.k == 5) = false:=by rw [hk]; rfl
  have k6 : (h.k == 6) = false:=by rw [hk]; rfl
  have k7 : (h.k == 7) = true:=by rw [hk]; rfl
  clear hW0 hb0 hF hB hcl hd ho hbw0 hl htx hs0 hk
  go_enter Tryz.func27,Tryz.ntmps27
  go_wp2_with (fail)
  rw [HW0.out]
  go_wp2_with (fail)
  go_loopg [3,4,5,39] kids.len (fun kk l _ _ i wr=>Below W0.heap.size W0 wr∧∃ j : Nat,j ≤ kids.len∧kk = kids.len - j∧i = .int .i64 (j : Int)∧∃ (t : ByteArray) (al : List UInt8),.string t = l∧(⟨al.toArray⟩ : ByteArray) = t∧[35,40] ++ txF lf false true kids = al ++ txF lf false (decide (j = 0)) (kids.drop j))
  case atStart=>exact ⟨Below.refl _ _,0,Nat.zero_le _,rfl,rfl,_,[35,40],rfl,rfl,rfl⟩
  case round =>
    obtain ⟨hbr,j,hj,rfl,rfl,t,al,rfl,rt,hrs⟩:=hrel
    have HBR:=Lib.hid hbr
    have RT:=Lib.hid rt
    have hal : al.length ≤ 100000000000:=by
      have h1:=congrArg List.length hrs
      have h2:=HL.out
      rw [List.length_append,List.length_append] at h1
      omega
    have hts : t.size ≤ 100000000000:=by rw [← rt,lsize]; exact hal
    obtain ⟨z0,z1,z2,z3,z4,z5,z6,z7⟩:=BLK.out _ hbr
    clear hbr rt x0 x1 x2 x3 x4 x5 x6 x7
    by_cases hjl : j < kids.len
    · obtain ⟨hh,k,r,hdr,hdr1⟩:=Fr.cons_of_lt hjl
      have hBe:=HB.out (by omega)
      obtain ⟨hbl,C,D⟩:=counted_item (FAt.below HBR.out _ _ _ HF.out) hdr
      rw [hdr,txF_cons] at hrs
      obtain ⟨tx,htx⟩ : ∃ tx,txD lf hh k = tx:=⟨_,rfl⟩
      have htl : tx.length ≤ 100000000000:=by
        have h1:=congrArg List.length hrs
        have h2:=HL.out
        rw [htx] at h1
        simp only [List.length_append] at h1 h2
        omega
      have hrl : r.len + (j + 1) = kids.len:=by
        have h1:=Fr.len_drop j kids
        rw [hdr] at h1
        have h3 : r.len + 1 = kids.len - j:=h1
        omega
      have CK:=Lib.hid fun W (hW : Below wr.heap.size wr W)=>HCL.out hh k j r hdr (by rw [htx]; exact htl) W (bel_trans (B:=w0.heap.size) HBW.out (bel_trans (B:=W0.heap.size) HBR.out hW)) (D.below hW)
      rw [htx] at CK hrs
      obtain ⟨tb,htb⟩ : ∃ tb : ByteArray,(⟨tx.toArray⟩ : ByteArray) = tb:=⟨_,rfl⟩
      have htbs : tb.size ≤ 100000000000:=by rw [← htb,lsize]; exact htl
      rw [htb] at CK
      have HTB:=Lib.hid htb
      have HRS:=Lib.hid hrs
      have HDR1:=Lib.hid hdr1
      obtain ⟨x0,x1,x2,x3,x4,x5,x6,x7⟩:=C
      have hba : Below wr.heap.size wr (wr.alloc (.cells #[.int .i64 hh.k,.int .i64 hh.n,.bool hh.fl,.float .f64 hh.f,.bool hh.s,.slice hh.A hh.xs.length hh.c,.string hh.t,.slice hh.B k.len hh.cap] 30)):=(Below.refl _ wr).alloc (Nat.le_refl _) _
      have HBA:=Lib.hid hba
      have HRL:=Lib.hid hrl
      obtain ⟨y0,y1,y2,y3,y4,y5,y6,y7⟩:=BLK.out _ (bel_trans (B:=W0.heap.size) HBR.out HBA.out)
      clear hrs hdr hdr1 D hba htx htb hbl hrl
      rw [hBe]
      by_cases hj0 : j = 0
      · have SEP:=Lib.hid (show (if (false && r.isNil) = true then ([32,46,32] : List UInt8) else if decide (j = 0) = true then [] else [32]) = [] by simp [hj0])
        have dj : decide (0 < j) = false:=decide_eq_false (by omega)
        have dj2 : decide ((0 : Int) < (j : Int)) = false:=decide_eq_false (by omega)
        clear hj0
        go_wp2_with (fail)
        refine (CK.out _ HBA.out).mono ?_
        rintro e w2 ⟨rfl,hb2⟩
        have HB2:=Lib.hid (bel_trans (B:=W0.heap.size) HBR.out (bel_trans (B:=wr.heap.size) HBA.out hb2))
        clear hb2 x0 x1 x2 x3 x4 x5 x6 x7 z0 z1 z2 z3 z4 z5 z6 z7 y0 y1 y2 y3 y4 y5 y6 y7
        go_wp2_with (fail)
        rw [← hBe]
        go_roundg (kids.len - (j + 1))
        case measure=>omega
        case rel=>exact ⟨HB2.out,j + 1,by omega,rfl,by go_num,_,al ++ (([] : List UInt8) ++ tx),rfl,by rw [← RT.out,← HTB.out]; simp only [str_cat,List.append_assoc,List.nil_append]; try rfl,by rw [HDR1.out,HRS.out,SEP.out]; simp [List.append_assoc]⟩
      · have SEP:=Lib.hid (show (if (false && r.isNil) = true then ([32,46,32] : List UInt8) else if decide (j = 0) = true then [] else [32]) = [32] by simp [hj0])
        have dj : decide (0 < j) = true:=decide_eq_true (by omega)
        have dj2 : decide ((0 : Int) < (j : Int)) = true:=decide_eq_true (by omega)
        clear hj0
        go_wp2_with (fail)
        refine (CK.out _ HBA.out).mono ?_
        rintro e w2 ⟨rfl,hb2⟩
        have HB2:=Lib.hid (bel_trans (B:=W0.heap.size) HBR.out (bel_trans (B:=wr.heap.size) HBA.out hb2))
        clear hb2 x0 x1 x2 x3 x4 x5 x6 x7 z0 z1 z2 z3 z4 z5 z6 z7 y0 y1 y2 y3 y4 y5 y6 y7
        go_wp2_with (fail)
        rw [← hBe]
        go_roundg (kids.len - (j + 1))
        case measure=>omega
        case rel=>exact ⟨HB2.out,j + 1,by omega,rfl,by go_num,_,al ++ ([32] ++ tx),rfl,by rw [← RT.out,← HTB.out]; simp only [str_cat,List.append_assoc,List.nil_append]; try rfl,by rw [HDR1.out,HRS.out,SEP.out]; simp [List.append_assoc]⟩
    · have hje : j = kids.len:=by omega
      subst hje
      rw [drop_all] at hrs
      have hfull : [35,40] ++ txF lf false true kids = al:=hrs.trans (List.append_nil al)
      have HFU:=Lib.hid hfull
      clear hrs hfull
      go_wp2_with (fail)
      go_ret
      exact ⟨by rw [HTX.out,HFU.out,← RT.out]; first | rfl | (rw [← str_cat]),bel_trans (B:=w.heap.size) HB0.out HBR.out⟩
theorem rtext_row6 (lf : Hd → List UInt8) (w0 : World) (h : Hd) (hk : h.k = 6) (kids : Fr) (hn : 2 ≤ kids.len) (hho : h.Ok kids.len) (hd : DatV w0 h kids) (hl : (txD lf h kids).length ≤ 100000000000)
    (hcl : ∀ hh k j r,kids.drop j = .cons hh k r → (txD lf hh k).length ≤ 100000000000 → ∀ W,Below w0.heap.size w0 W → DatV W hh k → Calls Tryz.prog 27 #[datA hh k.len] W fun e w'=>e = .returned (.string ⟨(txD lf hh k).toArray⟩)∧Below W.heap.size W w') (w : World) (hw : Below w0.heap.size w0 w) :
    Calls Tryz.prog 27 #[datA h kids.len] w fun e w'=>e = .returned (.string ⟨(txD lf h kids).toArray⟩)∧Below w.heap.size w w':=by
  have htx : txD lf h kids = [40] ++ txF lf true true kids ++ [41]:=by unfold txD; rw [if_neg (by omega),if_pos hk]
  obtain ⟨W0,hW0,hb0,ho,hs0⟩:=dat_block w h kids.len
  obtain ⟨x0,x1,x2,x3,x4,x5,x6,x7⟩:=C8.of_block ho
  have hbw0 : Below w0.heap.size w0 W0:=bel_trans (B:=w0.heap.size) hw hb0
  obtain ⟨b,off,hB,hF⟩:=(hd.below hbw0).items
  have hkl : kids.len ≤ 9223372036854775807:=Nat.le_trans hho.cap.1 hho.cap.2
  rw [htx,List.length_append,List.length_append] at hl
  have HTX:=Lib.hid htx
  have HL:=Lib.hid hl
  have HW0:=Lib.hid hW0
  have HB0:=Lib.hid hb0
  have HBW:=Lib.hid hbw0
  have HF:=Lib.hid hF
  have HB:=Lib.hid hB
  have HCL:=Lib.hid hcl
  have BLK : Hid (∀ W,Below W0.heap.size W0 W → C8 W w.heap.size 0 h kids.len):=Lib.hid fun W hW=>C8.of_block ((hW.block _ hs0).trans ho)
  have k0 : (h.k == 0) = false:=by rw [hk]; rfl
  have k1 : (h.k == 1) = false:=by rw [hk]; rfl
  have k2 : (h.k == 2) = false:=by rw [hk]; rfl
  have k3 : (h.k == 3) = false:=by rw [hk]; rfl
  have k4 : (h.k == 4) = false:=by rw [hk]; rfl
  have k5 : (h.k == 5) = false:=by rw [hk]; rfl
  have k6 : (h.k == 6) = true:=by rw [hk]; rfl
  have k7 : (h.k == 7) = false:=by rw [hk]; rfl
  clear hW0 hb0 hF hB hcl hd ho hbw0 hl htx hs0 hk
  go_enter Tryz.func27,Tryz.ntmps27
  go_wp2_with (fail)
  rw [HW0.out]
  go_wp2_with (fail)
  go_loopg [3,4,5,39] kids.len (fun kk l _ _ i wr=>Below W0.heap.size W0 wr∧∃ j : Nat,j ≤ kids.len∧kk = kids.len - j∧i = .int .i64 (j : Int)∧∃ (t : ByteArray) (al : List UInt8),.string t = l∧(⟨al.toArray⟩ : ByteArray) = t∧[40] ++ txF lf true true kids = al ++ txF lf true (decide (j = 0)) (kids.drop j))
  case atStart=>exact ⟨Below.refl _ _,0,Nat.zero_le _,rfl,rfl,_,[40],rfl,rfl,rfl⟩
  case round =>
    obtain ⟨hbr,j,hj,rfl,rfl,t,al,rfl,rt,hrs⟩:=hrel
    have HBR:=Lib.hid hbr
    have RT:=Lib.hid rt
    have hal : al.length ≤ 100000000000:=by
      have h1:=congrArg List.length hrs
      have h2:=HL.out
      rw [List.length_append,List.length_append] at h1
      omega
    have hts : t.size ≤ 100000000000:=by rw [← rt,lsize]; exact hal
    obtain ⟨z0,z1,z2,z3,z4,z5,z6,z7⟩:=BLK.out _ hbr
    clear hbr rt x0 x1 x2 x3 x4 x5 x6 x7
    by_cases hjl : j < kids.len
    · obtain ⟨hh,k,r,hdr,hdr1⟩:=Fr.cons_of_lt hjl
      have hBe:=HB.out (by omega)
      obtain ⟨hbl,C,D⟩:=counted_item (FAt.below HBR.out _ _ _ HF.out) hdr
      rw [hdr,txF_cons] at hrs
      obtain ⟨tx,htx⟩ : ∃ tx,txD lf hh k = tx:=⟨_,rfl⟩
      have htl : tx.length ≤ 100000000000:=by
        have h1:=congrArg List.length hrs
        have h2:=HL.out
        rw [htx] at h1
        simp only [List.length_append] at h1 h2
        omega
      have hrl : r.len + (j + 1) = kids.len:=by
        have h1:=Fr.len_drop j kids
        rw [hdr] at h1
        have h3 : r.len + 1 = kids.len - j:=h1
        omega
      have CK:=Lib.hid fun W (hW : Below wr.heap.size wr W)=>HCL.out hh k j r hdr (by rw [htx]; exact htl) W (bel_trans (B:=w0.heap.size) HBW.out (bel_trans (B:=W0.heap.size) HBR.out hW)) (D.below hW)
      rw [htx] at CK hrs
      obtain ⟨tb,htb⟩ : ∃ tb : ByteArray,(⟨tx.toArray⟩ : ByteArray) = tb:=⟨_,rfl⟩
      have htbs : tb.size ≤ 100000000000:=by rw [← htb,lsize]; exact htl
      rw [htb] at CK
      have HTB:=Lib.hid htb
      have HRS:=Lib.hid hrs
      have HDR1:=Lib.hid hdr1
      obtain ⟨x0,x1,x2,x3,x4,x5,x6,x7⟩:=C
      have hba : Below wr.heap.size wr (wr.alloc (.cells #[.int .i64 hh.k,.int .i64 hh.n,.bool hh.fl,.float .f64 hh.f,.bool hh.s,.slice hh.A hh.xs.length hh.c,.string hh.t,.slice hh.B k.len hh.cap] 30)):=(Below.refl _ wr).alloc (Nat.le_refl _) _
      have HBA:=Lib.hid hba
      have HRL:=Lib.hid hrl
      obtain ⟨y0,y1,y2,y3,y4,y5,y6,y7⟩:=BLK.out _ (bel_trans (B:=W0.heap.size) HBR.out HBA.out)
      clear hrs hdr hdr1 D hba htx htb hbl hrl
      rw [hBe]
      have w1 : IntKind.i64.wrap ((kids.len : Int) - 1) = ((kids.len - 1 : Nat) : Int):=by rw [IntKind.wrap_i64]; omega
      obtain ⟨q,hq⟩ : ∃ q,kids.len - 1 = q:=⟨_,rfl⟩
      rw [hq] at w1
      by_cases hla : j = q
      · have hnil : r.isNil = true:=by
          cases r with
          | nil=>rfl
          | cons a b c=>have:=HRL.out; have h3 : (Fr.cons a b c).len = c.len + 1:=rfl; omega
        have SEP:=Lib.hid (show (if (true && r.isNil) = true then ([32,46,32] : List UInt8) else if decide (j = 0) = true then [] else [32]) = [32,46,32] by rw [hnil]; rfl)
        have dj : decide (0 < j) = true:=decide_eq_true (by omega)
        have dj2 : decide ((0 : Int) < (j : Int)) = true:=decide_eq_true (by omega)
        have dl : ((j : Int) == (q : Int)) = true:=by rw [beq_iff_eq]; omega
        clear hla hq hnil
        go_wp2_with (fail)
        refine (CK.out _ HBA.out).mono ?_
        rintro e w2 ⟨rfl,hb2⟩
        have HB2:=Lib.hid (bel_trans (B:=W0.heap.size) HBR.out (bel_trans (B:=wr.heap.size) HBA.out hb2))
        clear hb2 x0 x1 x2 x3 x4 x5 x6 x7 z0 z1 z2 z3 z4 z5 z6 z7 y0 y1 y2 y3 y4 y5 y6 y7
        go_wp2_with (fail)
        rw [← hBe]
        go_roundg (kids.len - (j + 1))
        case measure=>omega
        case rel=>exact ⟨HB2.out,j + 1,by omega,rfl,by go_num,_,al ++ ([32,46,32] ++ tx),rfl,by rw [← RT.out,← HTB.out]; simp only [str_cat,List.append_assoc,List.nil_append]; try rfl,by rw [HDR1.out,HRS.out,SEP.out]; simp [List.append_assoc]⟩
      · have hnil : r.isNil = false:=by
          cases r with
          | nil=>have:=HRL.out; have h3 : (Fr.nil).len = 0:=rfl; omega
          | cons a b c=>rfl
        have dl : ((j : Int) == (q : Int)) = false:=by rw [beq_eq_false_iff_ne]; omega
        by_cases hj0 : j = 0
        · have SEP:=Lib.hid (show (if (true && r.isNil) = true then ([32,46,32] : List UInt8) else if decide (j = 0) = true then [] else [32]) = [] by rw [hnil,hj0]; rfl)
          have dj : decide (0 < j) = false:=decide_eq_false (by omega)
          have dj2 : decide ((0 : Int) < (j : Int)) = false:=decide_eq_false (by omega)
          clear hj0 hla hq hnil
          go_wp2_with (fail)
          refine (CK.out _ HBA.out).mono ?_
          rintro e w2 ⟨rfl,hb2⟩
          have HB2:=Lib.hid (bel_trans (B:=W0.heap.size) HBR.out (bel_trans (B:=wr.heap.size) HBA.out hb2))
          clear hb2 x0 x1 x2 x3 x4 x5 x6 x7 z0 z1 z2 z3 z4 z5 z6 z7 y0 y1 y2 y3 y4 y5 y6 y7
          go_wp2_with (fail)
          rw [← hBe]
          go_roundg (kids.len - (j + 1))
          case measure=>omega
          case rel=>exact ⟨HB2.out,j + 1,by omega,rfl,by go_num,_,al ++ (([] : List UInt8) ++ tx),rfl,by rw [← RT.out,← HTB.out]; simp only [str_cat,List.append_assoc,List.nil_append]; try rfl,by rw [HDR1.out,HRS.out,SEP.out]; simp [List.append_assoc]⟩
        · have SEP:=Lib.hid (show (if (true && r.isNil) = true then ([32,46,32] : List UInt8) else if decide (j = 0) = true then [] else [32]) = [32] by rw [hnil,decide_eq_false hj0]; rfl)
          have dj : decide (0 < j) = true:=decide_eq_true (by omega)
          have dj2 : decide ((0 : Int) < (j : Int)) = true:=decide_eq_true (by omega)
          clear hj0 hla hq hnil
          go_wp2_with (fail)
          refine (CK.out _ HBA.out).mono ?_
          rintro e w2 ⟨rfl,hb2⟩
          have HB2:=Lib.hid (bel_trans (B:=W0.heap.size) HBR.out (bel_trans (B:=wr.heap.size) HBA.out hb2))
          clear hb2 x0 x1 x2 x3 x4 x5 x6 x7 z0 z1 z2 z3 z4 z5 z6 z7 y0 y1 y2 y3 y4 y5 y6 y7
          go_wp2_with (fail)
          rw [← hBe]
          go_roundg (kids.len - (j + 1))
          case measure=>omega
          case rel=>exact ⟨HB2.out,j + 1,by omega,rfl,by go_num,_,al ++ ([32] ++ tx),rfl,by rw [← RT.out,← HTB.out]; simp only [str_cat,List.append_assoc,List.nil_append]; try rfl,by rw [HDR1.out,HRS.out,SEP.out]; simp [List.append_assoc]⟩
    · have hje : j = kids.len:=by omega
      subst hje
      rw [drop_all] at hrs
      have hfull : [40] ++ txF lf true true kids = al:=hrs.trans (List.append_nil al)
      have HFU:=Lib.hid hfull
      clear hrs hfull
      go_wp2_with (fail)
      go_ret
      exact ⟨by rw [HTX.out,HFU.out,← RT.out]; first | rfl | (rw [← str_cat]),bel_trans (B:=w.heap.size) HB0.out HBR.out⟩
end LM
namespace LM
attribute [local go_sem] run_store_flt
theorem dwrite_str2 (b : Nat) (w0 : World) (h : Hd) (hk : h.k = 3) (t : List UInt8) (hT : ∀ W cs,Below b w0 W → WR b cs W → cs.length + t.length ≤ 100000000000 → Calls Tryz.prog 43 #[.pointer (some ⟨b,0,none⟩),.string h.t] W (Wrote b cs t W)) : WriteC b w0 h 0 t:=by
  intro W cs hb hr hl
  obtain ⟨W0,hW0,hb0,hO,hs0⟩:=dat_block W h 0
  have hbw:=hr.2
  have A2:=Lib.hid (hb0.mono (Nat.le_of_lt hbw))
  have A3:=Lib.hid (keeps8_below (B:=b + 1) hb0)
  have H1:=Lib.hid (hT W0 cs (hb.trans A2.out) (hr.below hb0) hl)
  have HW0:=Lib.hid hW0
  have f0 : (h.k == 0) = false:=by rw [hk]; rfl
  have f1 : (h.k == 1) = false:=by rw [hk]; rfl
  have f2 : (h.k == 2) = false:=by rw [hk]; rfl
  have f3 : (h.k == 3) = true:=by rw [hk]; rfl
  have f4 : (h.k == 4) = false:=by rw [hk]; rfl
  have f5 : (h.k == 5) = false:=by rw [hk]; rfl
  have f6 : (h.k == 6) = false:=by rw [hk]; rfl
  have f7 : (h.k == 7) = false:=by rw [hk]; rfl
  clear hW0 hb0 hO hb hr hl hs0 hk hbw hT
  go_enter Tryz.func25,Tryz.ntmps25
  go_wp2_with (fail)
  rw [HW0.out]
  refine H1.out.mono ?_
  rintro e w1 ⟨⟨v,rfl⟩,h1,h2,h3⟩
  have B1:=Lib.hid h1
  have B2:=Lib.hid (A2.out.trans h2)
  have B3:=Lib.hid (A3.out.trans h3)
  clear h1 h2 h3
  go_wp2_with (fail)
  go_end0
  exact ⟨⟨_,rfl⟩,B1.out,B2.out,B3.out⟩
theorem dtruth_0 (w : World) : Calls Tryz.prog 41 #[.int .i64 0] w fun e w'=>e = .returned (.string ⟨#[35,102]⟩)∧w' = w:=by
  go_enter Tryz.func41,Tryz.ntmps41
  go_wp2_with (fail)
  go_ret
  exact ⟨by rfl,rfl⟩
theorem dwrite_bool0 (b : Nat) (w0 : World) (h : Hd) (hk : h.k = 1) (hn : h.n = 0) : WriteC b w0 h 0 [35,102]:=by
  intro W cs hb hr hl
  obtain ⟨W0,hW0,hb0,hO,hs0⟩:=dat_block W h 0
  have hbw:=hr.2
  have A2:=Lib.hid (hb0.mono (Nat.le_of_lt hbw))
  have A3:=Lib.hid (keeps8_below (B:=b + 1) hb0)
  have AR:=Lib.hid (hr.below hb0)
  have HT:=Lib.hid (show Calls Tryz.prog 41 #[.int .i64 h.n] W0 fun e w'=>e = .returned (.string ⟨#[35,102]⟩)∧Below W0.heap.size W0 w' by rw [hn]; exact (dtruth_0 W0).mono (by rintro e w' ⟨rfl,rfl⟩; exact ⟨rfl,Below.refl _ _⟩))
  have SZ:=Lib.hid (show cs.length + (⟨#[35,102]⟩ : ByteArray).size = cs.length + ([35,102] : List UInt8).length from rfl)
  have TL:=Lib.hid (show (⟨#[35,102]⟩ : ByteArray).data.toList = [35,102] from rfl)
  have HL:=Lib.hid hl
  have HW0:=Lib.hid hW0
  have HBW:=Lib.hid hbw
  have f0 : (h.k == 0) = false:=by rw [hk]; rfl
  have f1 : (h.k == 1) = true:=by rw [hk]; rfl
  have f2 : (h.k == 2) = false:=by rw [hk]; rfl
  have f3 : (h.k == 3) = false:=by rw [hk]; rfl
  have f4 : (h.k == 4) = false:=by rw [hk]; rfl
  have f5 : (h.k == 5) = false:=by rw [hk]; rfl
  have f6 : (h.k == 6) = false:=by rw [hk]; rfl
  have f7 : (h.k == 7) = false:=by rw [hk]; rfl
  clear hW0 hb0 hO hb hr hl hk hbw hn
  go_enter Tryz.func25,Tryz.ntmps25
  go_wp2_with (fail)
  rw [HW0.out]
  refine HT.out.mono ?_
  rintro e w1 ⟨rfl,hb1⟩
  have H1:=Lib.hid (wrstr_any b cs _ w1 (AR.out.below hb1) (Nat.le_trans (by rw [SZ.out]; exact Nat.le_refl _) (Nat.le_trans HL.out (by decide))))
  try rw [TL.out] at H1
  have A22:=Lib.hid (bel_trans (B:=b) A2.out hb1 (by have:=HBW.out; omega))
  have A32:=Lib.hid (A3.out.trans (keeps8_below (B:=b + 1) hb1))
  clear hb1
  go_wp2_with (fail)
  refine H1.out.mono ?_
  rintro e w2 ⟨⟨v,rfl⟩,h1,h2,h3⟩
  have B1:=Lib.hid h1
  have B2:=Lib.hid (A22.out.trans h2)
  have B3:=Lib.hid (A32.out.trans h3)
  clear h1 h2 h3
  go_wp2_with (fail)
  go_end0
  exact ⟨⟨_,rfl⟩,B1.out,B2.out,B3.out⟩
theorem dtruth_1 (w : World) : Calls Tryz.prog 41 #[.int .i64 1] w fun e w'=>e = .returned (.string ⟨#[35,116]⟩)∧w' = w:=by
  go_enter Tryz.func41,Tryz.ntmps41
  go_wp2_with (fail)
  go_ret
  exact ⟨by rfl,rfl⟩
theorem dwrite_bool1 (b : Nat) (w0 : World) (h : Hd) (hk : h.k = 1) (hn : h.n = 1) : WriteC b w0 h 0 [35,116]:=by
  intro W cs hb hr hl
  obtain ⟨W0,hW0,hb0,hO,hs0⟩:=dat_block W h 0
  have hbw:=hr.2
  have A2:=Lib.hid (hb0.mono (Nat.le_of_lt hbw))
  have A3:=Lib.hid (keeps8_below (B:=b + 1) hb0)
  have AR:=Lib.hid (hr.below hb0)
  have HT:=Lib.hid (show Calls Tryz.prog 41 #[.int .i64 h.n] W0 fun e w'=>e = .returned (.string ⟨#[35,116]⟩)∧Below W0.heap.size W0 w' by rw [hn]; exact (dtruth_1 W0).mono (by rintro e w' ⟨rfl,rfl⟩; exact ⟨rfl,Below.refl _ _⟩))
  have SZ:=Lib.hid (show cs.length + (⟨#[35,116]⟩ : ByteArray).size = cs.length + ([35,116] : List UInt8).length from rfl)
  have TL:=Lib.hid (show (⟨#[35,116]⟩ : ByteArray).data.toList = [35,116] from rfl)
  have HL:=Lib.hid hl
  have HW0:=Lib.hid hW0
  have HBW:=Lib.hid hbw
  have f0 : (h.k == 0) = false:=by rw [hk]; rfl
  have f1 : (h.k == 1) = true:=by rw [hk]; rfl
  have f2 : (h.k == 2) = false:=by rw [hk]; rfl
  have f3 : (h.k == 3) = false:=by rw [hk]; rfl
  have f4 : (h.k == 4) = false:=by rw [hk]; rfl
  have f5 : (h.k == 5) = false:=by rw [hk]; rfl
  have f6 : (h.k == 6) = false:=by rw [hk]; rfl
  have f7 : (h.k == 7) = false:=by rw [hk]; rfl
  clear hW0 hb0 hO hb hr hl hk hbw hn
  go_enter Tryz.func25,Tryz.ntmps25
  go_wp2_with (fail)
  rw [HW0.out]
  refine HT.out.mono ?_
  rintro e w1 ⟨rfl,hb1⟩
  have H1:=Lib.hid (wrstr_any b cs _ w1 (AR.out.below hb1) (Nat.le_trans (by rw [SZ.out]; exact Nat.le_refl _) (Nat.le_trans HL.out (by decide))))
  try rw [TL.out] at H1
  have A22:=Lib.hid (bel_trans (B:=b) A2.out hb1 (by have:=HBW.out; omega))
  have A32:=Lib.hid (A3.out.trans (keeps8_below (B:=b + 1) hb1))
  clear hb1
  go_wp2_with (fail)
  refine H1.out.mono ?_
  rintro e w2 ⟨⟨v,rfl⟩,h1,h2,h3⟩
  have B1:=Lib.hid h1
  have B2:=Lib.hid (A22.out.trans h2)
  have B3:=Lib.hid (A32.out.trans h3)
  clear h1 h2 h3
  go_wp2_with (fail)
  go_end0
  exact ⟨⟨_,rfl⟩,B1.out,B2.out,B3.out⟩
theorem pair_cat (l : List UInt8) : (⟨#[35,92]⟩ : ByteArray) ++ ⟨l.toArray⟩ = ⟨([35,92] ++ l).toArray⟩:=str_cat [35,92] l
theorem dwrite_char (b : Nat) (w0 : World) (h : Hd) (hk : h.k = 2) (n : Nat) (hn : h.n = (n : Int)) (hnn : n ≤ 1114111) (hD : ∀ W,Below b w0 W → DB W) : WriteC b w0 h 0 ([35,92] ++ nameL n):=by
  intro W cs hb hr hl
  obtain ⟨W0,hW0,hb0,hO,hs0⟩:=dat_block W h 0
  have hbw:=hr.2
  have A2:=Lib.hid (hb0.mono (Nat.le_of_lt hbw))
  have A3:=Lib.hid (keeps8_below (B:=b + 1) hb0)
  have AR:=Lib.hid (hr.below hb0)
  have HT:=Lib.hid (show Calls Tryz.prog 42 #[.int .i64 h.n] W0 fun e w'=>e = .returned (.string ⟨(nameL n).toArray⟩)∧Below W0.heap.size W0 w' by rw [hn]; exact dsname_any n hnn W0 (hD _ (hb.trans A2.out)))
  obtain ⟨tb,htb⟩ : ∃ tb : ByteArray,(⟨(nameL n).toArray⟩ : ByteArray) = tb:=⟨_,rfl⟩
  have hz : tb.size ≤ 20:=by rw [← htb,lsize]; exact nameL_len n
  rw [htb] at HT
  have PC:=Lib.hid (show (⟨#[35,92]⟩ : ByteArray) ++ tb = ⟨([35,92] ++ nameL n).toArray⟩ by rw [← htb]; exact pair_cat _)
  have SZ:=Lib.hid (show cs.length + ((⟨#[35,92]⟩ : ByteArray) ++ tb).size = cs.length + ([35,92] ++ nameL n).length by rw [PC.out,lsize])
  have TL:=Lib.hid (show ((⟨#[35,92]⟩ : ByteArray) ++ tb).data.toList = [35,92] ++ nameL n by rw [PC.out])
  clear htb
  have HL:=Lib.hid hl
  have HW0:=Lib.hid hW0
  have HBW:=Lib.hid hbw
  have f0 : (h.k == 0) = false:=by rw [hk]; rfl
  have f1 : (h.k == 1) = false:=by rw [hk]; rfl
  have f2 : (h.k == 2) = true:=by rw [hk]; rfl
  have f3 : (h.k == 3) = false:=by rw [hk]; rfl
  have f4 : (h.k == 4) = false:=by rw [hk]; rfl
  have f5 : (h.k == 5) = false:=by rw [hk]; rfl
  have f6 : (h.k == 6) = false:=by rw [hk]; rfl
  have f7 : (h.k == 7) = false:=by rw [hk]; rfl
  clear hW0 hb0 hO hb hr hl hk hbw hD hn
  go_enter Tryz.func25,Tryz.ntmps25
  go_wp2_with (fail)
  rw [HW0.out]
  refine HT.out.mono ?_
  rintro e w1 ⟨rfl,hb1⟩
  have H1:=Lib.hid (wrstr_any b cs _ w1 (AR.out.below hb1) (Nat.le_trans (by rw [SZ.out]; exact Nat.le_refl _) (Nat.le_trans HL.out (by decide))))
  try rw [TL.out] at H1
  have A22:=Lib.hid (bel_trans (B:=b) A2.out hb1 (by have:=HBW.out; omega))
  have A32:=Lib.hid (A3.out.trans (keeps8_below (B:=b + 1) hb1))
  clear hb1
  go_wp2_with (fail)
  refine H1.out.mono ?_
  rintro e w2 ⟨⟨v,rfl⟩,h1,h2,h3⟩
  have B1:=Lib.hid h1
  have B2:=Lib.hid (A22.out.trans h2)
  have B3:=Lib.hid (A32.out.trans h3)
  clear h1 h2 h3
  go_wp2_with (fail)
  go_end0
  exact ⟨⟨_,rfl⟩,B1.out,B2.out,B3.out⟩
end LM
namespace LM
attribute [local go_sem] run_store_flt
theorem rleaf_num (w0 : World) (h : Hd) (hk : h.k = 0) (t : ByteArray) (hT : ∀ W,Below w0.heap.size w0 W → Calls Tryz.prog 45 #[numA h.fl h.f h.s h.A h.xs.length h.c] W fun e w'=>e = .returned (.string t)∧Below W.heap.size W w') : RTextC w0 h t.data.toList:=by
  intro W hb
  obtain ⟨W0,hW0,hb0,hO,hs0⟩:=dat_block W h 0
  have HB0:=Lib.hid hb0
  have HW0:=Lib.hid hW0
  have HT:=Lib.hid (hT W0 (bel_trans (B:=w0.heap.size) hb hb0))
  have f0 : (h.k == 0) = true:=by rw [hk]; rfl
  have f1 : (h.k == 1) = false:=by rw [hk]; rfl
  have f2 : (h.k == 2) = false:=by rw [hk]; rfl
  have f3 : (h.k == 3) = false:=by rw [hk]; rfl
  have f4 : (h.k == 4) = false:=by rw [hk]; rfl
  have f5 : (h.k == 5) = false:=by rw [hk]; rfl
  have f6 : (h.k == 6) = false:=by rw [hk]; rfl
  have f7 : (h.k == 7) = false:=by rw [hk]; rfl
  clear hW0 hb0 hO hb hs0 hk hT
  go_enter Tryz.func27,Tryz.ntmps27
  go_wp2_with (fail)
  rw [HW0.out]
  refine HT.out.mono ?_
  rintro e w1 ⟨rfl,hb1⟩
  have HB1:=Lib.hid (bel_trans (B:=W.heap.size) HB0.out hb1)
  clear hb1
  go_wp2_with (fail)
  go_ret
  exact ⟨by rfl,HB1.out⟩
theorem rleaf_bool0 (w0 : World) (h : Hd) (hk : h.k = 1) (hn : h.n = 0) : RTextC w0 h [35,102]:=by
  intro W hb
  obtain ⟨W0,hW0,hb0,hO,hs0⟩:=dat_block W h 0
  have HB0:=Lib.hid hb0
  have HW0:=Lib.hid hW0
  have f0 : (h.k == 0) = false:=by rw [hk]; rfl
  have f1 : (h.k == 1) = true:=by rw [hk]; rfl
  have f2 : (h.k == 2) = false:=by rw [hk]; rfl
  have f3 : (h.k == 3) = false:=by rw [hk]; rfl
  have f4 : (h.k == 4) = false:=by rw [hk]; rfl
  have f5 : (h.k == 5) = false:=by rw [hk]; rfl
  have f6 : (h.k == 6) = false:=by rw [hk]; rfl
  have f7 : (h.k == 7) = false:=by rw [hk]; rfl
  clear hW0 hb0 hO hb hs0 hk
  go_enter Tryz.func27,Tryz.ntmps27
  go_wp2_with (fail)
  change Oper.upon _ _ _ _ _ ((Result.ok (Value.string ⟨#[35,102]⟩) _).andThen _)
  go_wp2_with (fail)
  go_ret
  exact ⟨by rfl,by first | exact HB0.out | exact (Below.refl _ W).alloc (Nat.le_refl _) _⟩
theorem rleaf_bool1 (w0 : World) (h : Hd) (hk : h.k = 1) (hn : h.n = 1) : RTextC w0 h [35,116]:=by
  intro W hb
  obtain ⟨W0,hW0,hb0,hO,hs0⟩:=dat_block W h 0
  have HB0:=Lib.hid hb0
  have HW0:=Lib.hid hW0
  have f0 : (h.k == 0) = false:=by rw [hk]; rfl
  have f1 : (h.k == 1) = true:=by rw [hk]; rfl
  have f2 : (h.k == 2) = false:=by rw [hk]; rfl
  have f3 : (h.k == 3) = false:=by rw [hk]; rfl
  have f4 : (h.k == 4) = false:=by rw [hk]; rfl
  have f5 : (h.k == 5) = false:=by rw [hk]; rfl
  have f6 : (h.k == 6) = false:=by rw [hk]; rfl
  have f7 : (h.k == 7) = false:=by rw [hk]; rfl
  clear hW0 hb0 hO hb hs0 hk
  go_enter Tryz.func27,Tryz.ntmps27
  go_wp2_with (fail)
  change Oper.upon _ _ _ _ _ ((Result.ok (Value.string ⟨#[35,116]⟩) _).andThen _)
  go_wp2_with (fail)
  go_ret
  exact ⟨by rfl,by first | exact HB0.out | exact (Below.refl _ W).alloc (Nat.le_refl _) _⟩
theorem rleaf_char (w0 : World) (h : Hd) (hk : h.k = 2) (n : Nat) (hn : h.n = (n : Int)) (hnn : n ≤ 1114111) : RTextC w0 h ([35,92] ++ nameL n):=by
  intro W hb
  obtain ⟨W0,hW0,hb0,hO,hs0⟩:=dat_block W h 0
  have HB0:=Lib.hid hb0
  have HW0:=Lib.hid hW0
  have HT:=Lib.hid (show Calls Tryz.prog 46 #[.int .i64 h.n] W0 fun e w'=>e = .returned (.string ⟨([35,92] ++ nameL n).toArray⟩)∧Below W0.heap.size W0 w' by rw [hn]; exact rchar_any n hnn W0)
  have f0 : (h.k == 0) = false:=by rw [hk]; rfl
  have f1 : (h.k == 1) = false:=by rw [hk]; rfl
  have f2 : (h.k == 2) = true:=by rw [hk]; rfl
  have f3 : (h.k == 3) = false:=by rw [hk]; rfl
  have f4 : (h.k == 4) = false:=by rw [hk]; rfl
  have f5 : (h.k == 5) = false:=by rw [hk]; rfl
  have f6 : (h.k == 6) = false:=by rw [hk]; rfl
  have f7 : (h.k == 7) = false:=by rw [hk]; rfl
  clear hW0 hb0 hO hb hs0 hk hn
  go_enter Tryz.func27,Tryz.ntmps27
  go_wp2_with (fail)
  rw [HW0.out]
  refine HT.out.mono ?_
  rintro e w1 ⟨rfl,hb1⟩
  have HB1:=Lib.hid (bel_trans (B:=W.heap.size) HB0.out hb1)
  clear hb1
  go_wp2_with (fail)
  go_ret
  exact ⟨by rfl,HB1.out⟩
theorem rleaf_str (w0 : World) (h : Hd) (hk : h.k = 3) (hs : h.t.size ≤ 1000000) : RTextC w0 h (quoteL h.t):=by
  intro W hb
  obtain ⟨W0,hW0,hb0,hO,hs0⟩:=dat_block W h 0
  have HB0:=Lib.hid hb0
  have HW0:=Lib.hid hW0
  have HT:=Lib.hid (rquote_any h.t hs W0)
  have f0 : (h.k == 0) = false:=by rw [hk]; rfl
  have f1 : (h.k == 1) = false:=by rw [hk]; rfl
  have f2 : (h.k == 2) = false:=by rw [hk]; rfl
  have f3 : (h.k == 3) = true:=by rw [hk]; rfl
  have f4 : (h.k == 4) = false:=by rw [hk]; rfl
  have f5 : (h.k == 5) = false:=by rw [hk]; rfl
  have f6 : (h.k == 6) = false:=by rw [hk]; rfl
  have f7 : (h.k == 7) = false:=by rw [hk]; rfl
  clear hW0 hb0 hO hb hs0 hk
  go_enter Tryz.func27,Tryz.ntmps27
  go_wp2_with (fail)
  rw [HW0.out]
  refine HT.out.mono ?_
  rintro e w1 ⟨rfl,hb1⟩
  have HB1:=Lib.hid (bel_trans (B:=W.heap.size) HB0.out hb1)
  clear hb1
  go_wp2_with (fail)
  go_ret
  exact ⟨by rfl,HB1.out⟩
theorem rleaf_sym (w0 : World) (h : Hd) (hk : h.k = 4)  : RTextC w0 h h.t.data.toList:=by
  intro W hb
  obtain ⟨W0,hW0,hb0,hO,hs0⟩:=dat_block W h 0
  have HB0:=Lib.hid hb0
  have HW0:=Lib.hid hW0
  have f0 : (h.k == 0) = false:=by rw [hk]; rfl
  have f1 : (h.k == 1) = false:=by rw [hk]; rfl
  have f2 : (h.k == 2) = false:=by rw [hk]; rfl
  have f3 : (h.k == 3) = false:=by rw [hk]; rfl
  have f4 : (h.k == 4) = true:=by rw [hk]; rfl
  have f5 : (h.k == 5) = false:=by rw [hk]; rfl
  have f6 : (h.k == 6) = false:=by rw [hk]; rfl
  have f7 : (h.k == 7) = false:=by rw [hk]; rfl
  clear hW0 hb0 hO hb hs0 hk
  go_enter Tryz.func27,Tryz.ntmps27
  go_wp2_with (fail)
  rw [HW0.out]
  go_ret
  exact ⟨by rfl,by first | exact HB0.out | exact (Below.refl _ W).alloc (Nat.le_refl _) _⟩
theorem rdtext_any (lf : Hd → List UInt8) (w0 : World) (P : Hd → Prop) (hP : ∀ hh,P hh → RTextC w0 hh (lf hh)) :
    ∀ (m : Nat) (kids : Fr),kids.size < m → kids.Ok → WOk P kids → ∀ h : Hd,h.Ok kids.len → WH P h kids → DatV w0 h kids → (txD lf h kids).length ≤ 100000000000 → ∀ W,Below w0.heap.size w0 W → DatV W h kids →
      Calls Tryz.prog 27 #[datA h kids.len] W fun e w'=>e = .returned (.string ⟨(txD lf h kids).toArray⟩)∧Below W.heap.size W w':=by
  intro m
  induction m with
  | zero=>intro kids h; omega
  | succ m ih =>
    intro kids hsz hok hwok h hho hwh hd hl W hb _
    obtain ⟨bb,off,hB,hF⟩:=hd.items
    have rows : ∀ hh k j r,kids.drop j = .cons hh k r → (txD lf hh k).length ≤ 100000000000 → ∀ W,Below w0.heap.size w0 W → DatV W hh k → Calls Tryz.prog 27 #[datA hh k.len] W fun e w'=>e = .returned (.string ⟨(txD lf hh k).toArray⟩)∧Below W.heap.size W w':=by
      intro hh k j r e hl2 W2 hb2 hd2
      have o1:=Fr.Ok.drop j hok
      have o2:=WOk.drop j hwok
      rw [e] at o1 o2
      exact ih k (by have:=size_item e; omega) o1.2.1 o2.2.1 hh o1.1 o2.1 (counted_item hF e).2.2 hl2 W2 hb2 hd2
    by_cases hlk : leafK h.k
    · obtain ⟨rfl,hp⟩:=hwh.1 hlk
      have e : txD lf h .nil = lf h:=by unfold txD; rw [if_neg hlk.1,if_neg hlk.2.1,if_neg hlk.2.2]
      rw [e]
      exact hP h hp W hb
    · by_cases h5 : h.k = 5
      · exact rtext_row5 lf w0 h h5 kids trivial hho hd hl rows W hb
      · by_cases h7 : h.k = 7
        · exact rtext_row7 lf w0 h h7 kids trivial hho hd hl rows W hb
        · have h6 : h.k = 6:=by
            unfold leafK at hlk
            omega
          exact rtext_row6 lf w0 h h6 kids (hwh.2 h6) hho hd hl rows W hb
theorem rprint_right (kids : Fr) (h : Hd) (w : World) (t : List UInt8) (b : Bool)
    (hR : ∀ W,Below w.heap.size w W → Calls Tryz.prog 11 #[datA h kids.len] W fun e w'=>e = .returned (.bool true)∧Below W.heap.size W w')
    (hT : ∀ W,Below w.heap.size w W → Calls Tryz.prog 27 #[datA h kids.len] W fun e w'=>e = .returned (.string ⟨t.toArray⟩)∧Below W.heap.size W w') :
    Calls Tryz.prog 9 #[datA h kids.len] w fun e w'=>e = .returned (.tuple #[.string ⟨t.toArray⟩,.int .i64 0])∧Below w.heap.size w w':=by
  obtain ⟨W0,hW0,hb0,ho,hs0⟩:=dat_block w h kids.len
  have HR:=Lib.hid (hR W0 hb0)
  have HT:=Lib.hid fun W (hW : Below W0.heap.size W0 W)=>hT W (bel_trans (B:=w.heap.size) hb0 hW)
  have HB0:=Lib.hid hb0
  have HW0:=Lib.hid hW0
  have HO:=Lib.hid ho
  have HS:=Lib.hid hs0
  obtain ⟨x0,x1,x2,x3,x4,x5,x6,x7⟩:=C8.of_block ho
  clear hW0 hb0 ho hs0 hR hT
  go_enter Tryz.func9,Tryz.ntmps9
  go_wp2_with (fail)
  rw [HW0.out]
  go_wp2_with (fail)
  refine HR.out.mono ?_
  rintro e w1 ⟨rfl,hb1⟩
  have HT1:=Lib.hid (HT.out w1 hb1)
  have HB1:=Lib.hid (bel_trans (B:=w.heap.size) HB0.out hb1)
  obtain ⟨y0,y1,y2,y3,y4,y5,y6,y7⟩:=(C8.of_block HO.out).keep hb1 HS.out
  simp only [Nat.zero_add] at y0 y1 y2 y3 y4 y5 y6 y7
  clear x0 x1 x2 x3 x4 x5 x6 x7 hb1
  go_wp2_with (fail)
  refine HT1.out.mono ?_
  rintro e w2 ⟨rfl,hb2⟩
  have HB2:=Lib.hid (bel_trans (B:=w.heap.size) HB1.out hb2)
  clear hb2
  go_wp2_with (fail)
  go_ret2
  exact ⟨by rfl,HB2.out⟩
theorem rprint_not (kids : Fr) (h : Hd) (w : World)
    (hR : ∀ W,Below w.heap.size w W → Calls Tryz.prog 11 #[datA h kids.len] W fun e w'=>e = .returned (.bool false)∧Below W.heap.size W w') :
    Calls Tryz.prog 9 #[datA h kids.len] w fun e w'=>e = .returned (.tuple #[.string ⟨#[]⟩,.int .i64 51])∧Below w.heap.size w w':=by
  obtain ⟨W0,hW0,hb0,ho,hs0⟩:=dat_block w h kids.len
  have HR:=Lib.hid (hR W0 hb0)
  have HB0:=Lib.hid hb0
  have HW0:=Lib.hid hW0
  obtain ⟨x0,x1,x2,x3,x4,x5,x6,x7⟩:=C8.of_block ho
  clear hW0 hb0 ho hs0 hR
  go_enter Tryz.func9,Tryz.ntmps9
  go_wp2_with (fail)
  rw [HW0.out]
  go_wp2_with (fail)
  refine HR.out.mono ?_
  rintro e w1 ⟨rfl,hb1⟩
  have HB1:=Lib.hid (bel_trans (B:=w.heap.size) HB0.out hb1)
  clear hb1
  go_wp2_with (fail)
  go_ret2
  exact ⟨by rfl,HB1.out⟩
end LM
end Go.Proofs.YtnpmfailpgbggaaGreatDoor
