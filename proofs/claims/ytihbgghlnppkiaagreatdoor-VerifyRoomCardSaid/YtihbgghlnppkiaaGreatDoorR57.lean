import Derived.Test.YtihbgghlnppkiaaGreatDoorR20
import Derived.Test.YtihbgghlnppkiaaGreatDoorR17
import Derived.Test.YtihbgghlnppkiaaGreatDoorR38
set_option linter.unusedVariables false
set_option linter.unusedSimpArgs false
set_option maxRecDepth 100000
set_option maxHeartbeats 16000000
namespace Go.Proofs.YtihbgghlnppkiaaGreatDoor
open Go Go.Shelf Go.RowKit Go.Sort Go.Lib
namespace LM
attribute [local go_sem] run_store_flt
def TOut (l : List UInt8) (ff : Nat) (w : World) (fl : Bool) (f : Nat) (s : Bool) (A : Option Addr) (n c : Nat) (er : Int) : Prop :=
  (OkText (signOf l).2∧fl = false∧f = 0∧∃ z,POut l z er∧IntV w (.agg #[.bool s,.slice A n c]) z) ∨
  (¬ OkText (signOf l).2∧(parV l ff).2 ≠ 0∧fl = false∧f = 0∧s = false∧A = none∧n = 0∧c = 0∧er = 13) ∨
  (¬ OkText (signOf l).2∧(parV l ff).2 = 0∧fl = true∧f = (parV l ff).1∧s = false∧A = none∧n = 0∧c = 0∧er = 0)
def RetT (w : World) (l : List UInt8) (ff : Nat) (e : Ending) (w' : World) : Prop :=
  ∃ fl f s A n c er,e = .returned (.tuple #[.agg #[.bool fl,.float .f64 f,.bool s,.slice A n c],.int .i64 er])∧TOut l ff w' fl f s A n c er∧Below w.heap.size w w'
theorem parV_err (l : List UInt8) (ff : Nat) : (parV l ff).2 = 0 ∨ parV l ff = (0,31):=by
  unfold parV
  split
  · exact .inl rfl
  · split
    · exact .inl rfl
    · split
      · exact .inl rfl
      · split
        · exact .inr rfl
        · exact .inl rfl
theorem tparse_any (s : ByteArray) (ff : Nat) (hs : s.size ≤ 1000) (has : ∀ (j : Nat) b,s.data.toList[j]? = some b → b.toNat < 128) (hf : ReadsF s ff) (w : World) (hv : FV w) (hx : FX w) (hr : RngCell w) (hsy : SynCell w) :
    Calls Tryz.prog 97 #[.string s] w (RetT w s.data.toList ff):=by
  have EP:=Lib.hid fun W (hW : Below w.heap.size w W)=>eparse_any s W (by omega) (fun W2 hW2 _=>(hsy.below hW).below hW2)
  have FP:=Lib.hid fun W (hW : Below w.heap.size w W)=>fparse_any s ff hs has hf W (hv.below hW) (hx.below hW) (hr.below hW)
  have TW:=Lib.hid twhole_any
  have TF:=Lib.hid tflo_any
  have hb0 : Below w.heap.size w (w.alloc (.cells #[.bool false,.float .f64 0,.bool false,.slice none 0 0] 63)):=(Below.refl _ w).alloc (Nat.le_refl _) _
  have Y0:=Nx.new w false 0 false none 0 0
  have HB0:=Lib.hid hb0
  have HY0:=Lib.hid Y0
  have PE:=Lib.hid (parV_err s.data.toList ff)
  obtain ⟨l,hl⟩ : ∃ l,s.data.toList = l:=⟨_,rfl⟩
  rw [hl] at EP FP PE ⊢
  clear hsy hv hx hr hf has hb0 Y0 hl
  go_enter Tryz.func97,Tryz.ntmps97
  go_wp2_with (fail)
  refine (EP.out _ HB0.out).mono ?_
  rintro e w1 ⟨s1,A1,n1,c1,er,z,rfl,hiv,hpo,hb1⟩
  have HY1:=Lib.hid (HY0.out.below hb1)
  have HB1:=Lib.hid (bel_trans (B:=w.heap.size) HB0.out hb1)
  have hba : Below w1.heap.size w1 (w1.alloc (.cells #[.bool s1,.slice A1 n1 c1] 61)):=(Below.refl _ w1).alloc (Nat.le_refl _) _
  have X1:=Bx.new w1 s1 A1 n1 c1
  obtain ⟨q0,q1,-,-,ql⟩:=X1.facts
  have HBA:=Lib.hid hba
  have HVA:=Lib.hid (hiv.keep hba)
  have HPO:=Lib.hid hpo
  clear hb1 hiv hba X1
  rcases hpo with ⟨hno,rfl,rfl⟩ | ⟨hok,hbig,rfl,rfl⟩ | ⟨hok,hbig,hz,rfl⟩
  · go_wp2_with (fail)
    refine (FP.out _ (bel_trans (B:=w.heap.size) HB1.out HBA.out)).mono ?_
    rintro e w2 ⟨rfl,hb2⟩
    have HB2:=Lib.hid (bel_trans (B:=w.heap.size) (bel_trans (B:=w.heap.size) HB1.out HBA.out) hb2)
    have HY2:=Lib.hid ((HY1.out.below HBA.out).below hb2)
    clear hb2
    rcases PE.out with h0 | h31
    · obtain ⟨p,hp⟩ : ∃ p,parV l ff = p:=⟨_,rfl⟩
      obtain ⟨pv,pe⟩:=p
      rw [hp] at h0 ⊢
      have h0 : pe = 0:=h0
      subst h0
      have HP:=Lib.hid hp
      clear hp PE
      go_wp2_with (fail)
      refine (TF.out _ _).mono ?_
      rintro e w3 ⟨rfl,hb3⟩
      have HB3:=bel_trans (B:=w.heap.size) HB2.out hb3
      have HY3:=HY2.out.below hb3
      obtain ⟨y0,y1,y2,y3,y4,y5,y6,y7,yl⟩:=HY3.facts
      obtain ⟨W,hW,ZR,hbW,-,-⟩:=stored_num HY3 HB3 (Nat.le_refl _) true pv false none 0 0
      obtain ⟨z0,z1,z2,z3,-,-,-,-,zl⟩:=ZR.facts
      have HW:=Lib.hid hW
      have HBW:=Lib.hid hbW
      clear hb3 HB3 HY3 hW hbW ZR
      go_wp2_with (fail)
      rw [HW.out]
      refine bodyPost_ret (v:=.tuple #[.agg #[.bool true,.float .f64 pv,.bool false,.slice none 0 0],.int .i64 0]) (by simp [results,Tryz.results97,go_sem,z0,z1,z2,z3]) rfl ?_
      exact ⟨_,_,_,_,_,_,_,rfl,.inr (.inr ⟨hno,by rw [HP.out],rfl,by rw [HP.out],rfl,rfl,rfl,rfl,rfl⟩),HBW.out⟩
    · have HP:=Lib.hid h31
      rw [h31]
      clear h31 PE
      obtain ⟨y0,y1,y2,y3,y4,y5,y6,y7,yl⟩:=HY2.out.facts
      obtain ⟨W,hW,ZR,hbW,-,-⟩:=stored_num HY2.out HB2.out (Nat.le_refl _) false 0 false none 0 0
      obtain ⟨z0,z1,z2,z3,-,-,-,-,zl⟩:=ZR.facts
      have HW:=Lib.hid hW
      have HBW:=Lib.hid hbW
      clear hW hbW ZR
      go_wp2_with (fail)
      rw [HW.out]
      refine bodyPost_ret (v:=.tuple #[.agg #[.bool false,.float .f64 0,.bool false,.slice none 0 0],.int .i64 13]) (by simp [results,Tryz.results97,go_sem,z0,z1,z2,z3]) rfl ?_
      exact ⟨_,_,_,_,_,_,_,rfl,.inr (.inl ⟨hno,by rw [HP.out]; decide,rfl,rfl,rfl,rfl,rfl,rfl,rfl⟩),HBW.out⟩
  · go_wp2_with (fail)
    refine (TW.out _ _ _ _ _).mono ?_
    rintro e w2 ⟨rfl,hb2,hv2⟩
    have hB2:=bel_trans (B:=w.heap.size) (bel_trans (B:=w.heap.size) HB1.out HBA.out) hb2
    have hY2:=(HY1.out.below HBA.out).below hb2
    obtain ⟨y0,y1,y2,y3,y4,y5,y6,y7,yl⟩:=hY2.facts
    obtain ⟨W,hW,ZR,hbW,hvW,-⟩:=stored_num hY2 hB2 (Nat.le_refl _) false 0 s1 A1 n1 c1
    obtain ⟨z0,z1,z2,z3,-,-,-,-,zl⟩:=ZR.facts
    have HW:=Lib.hid hW
    have HBW:=Lib.hid hbW
    have HVW:=Lib.hid (hvW _ _ (hv2 _ _ HVA.out))
    clear hb2 hv2 hB2 hY2 hW hbW hvW ZR
    go_wp2_with (fail)
    rw [HW.out]
    refine bodyPost_ret (v:=.tuple #[.agg #[.bool false,.float .f64 0,.bool s1,.slice A1 n1 c1],.int .i64 11]) (by simp [results,Tryz.results97,go_sem,z0,z1,z2,z3]) rfl ?_
    exact ⟨_,_,_,_,_,_,_,rfl,.inl ⟨hok,rfl,rfl,_,HPO.out,HVW.out⟩,HBW.out⟩
  · go_wp2_with (fail)
    refine (TW.out _ _ _ _ _).mono ?_
    rintro e w2 ⟨rfl,hb2,hv2⟩
    have hB2:=bel_trans (B:=w.heap.size) (bel_trans (B:=w.heap.size) HB1.out HBA.out) hb2
    have hY2:=(HY1.out.below HBA.out).below hb2
    obtain ⟨y0,y1,y2,y3,y4,y5,y6,y7,yl⟩:=hY2.facts
    obtain ⟨W,hW,ZR,hbW,hvW,-⟩:=stored_num hY2 hB2 (Nat.le_refl _) false 0 s1 A1 n1 c1
    obtain ⟨z0,z1,z2,z3,-,-,-,-,zl⟩:=ZR.facts
    have HW:=Lib.hid hW
    have HBW:=Lib.hid hbW
    have HVW:=Lib.hid (hvW _ _ (hv2 _ _ HVA.out))
    clear hb2 hv2 hB2 hY2 hW hbW hvW ZR
    go_wp2_with (fail)
    rw [HW.out]
    refine bodyPost_ret (v:=.tuple #[.agg #[.bool false,.float .f64 0,.bool s1,.slice A1 n1 c1],.int .i64 0]) (by simp [results,Tryz.results97,go_sem,z0,z1,z2,z3]) rfl ?_
    exact ⟨_,_,_,_,_,_,_,rfl,.inl ⟨hok,rfl,rfl,_,HPO.out,HVW.out⟩,HBW.out⟩
end LM
end Go.Proofs.YtihbgghlnppkiaaGreatDoor
