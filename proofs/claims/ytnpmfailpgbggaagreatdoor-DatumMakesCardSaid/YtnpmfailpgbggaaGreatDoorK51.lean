/- The law DatumMakes, of what the row lists. -/
import Derived.Test.YtnpmfailpgbggaaGreatDoorK43
import Derived.Lib.LaidU8T
import Derived.Shelf.Unicode.DecodeSlow
import Derived.Test.YtnpmfailpgbggaaGreatDoorK41
import Derived.Test.YtnpmfailpgbggaaGreatDoorK14
import Derived.Test.YtnpmfailpgbggaaGreatDoorK39
import Derived.Test.YtnpmfailpgbggaaGreatDoorK34
import Derived.Test.YtnpmfailpgbggaaGreatDoorK40
import Derived.Test.YtnpmfailpgbggaaGreatDoorK42
import Derived.Laws.AppendOwnNone
namespace Go.Proofs.YtnpmfailpgbggaaGreatDoor
open Go Go.RowKit
namespace LM
set_option linter.unusedVariables false

theorem u8types : U8Types Tryz.prog Tryz.lays196_ren := U8Types.of196 Tryz.lays196
theorem u8extra : U8Extra Tryz.prog Tryz.lays196_ren := { n3 := by kernel_rfl, n4 := by kernel_rfl, y3 := by kernel_rfl, y4 := by kernel_rfl, c5 := by kernel_rfl, c119 := by kernel_rfl, c138 := by kernel_rfl }
theorem ut_of {l : List (String × DataW Unit)} {W : World} (h : laidMetH Tryz.prog l W)
    (e1 : ((l.filter fun x => x.2.handleName?.isNone).filter fun x => x.1 == "unicode/utf8.first") = [("unicode/utf8.first", Lib.firstData)])
    (e2 : ((l.filter fun x => x.2.handleName?.isNone).filter fun x => x.1 == "unicode/utf8.acceptRanges") = [("unicode/utf8.acceptRanges", Lib.acceptData)]) : UT W := fun W' hb => by
  have t := utf8Tabs_of_readsT u8types u8extra (Go.Lib.laidMet.reads (listed_of h e1) (List.mem_singleton.2 rfl)) (Go.Lib.laidMet.reads (listed_of h e2) (List.mem_singleton.2 rfl))
  exact Utf8Tabs_below t hb
end LM
end Go.Proofs.YtnpmfailpgbggaaGreatDoor

namespace Go.Proofs.YtnpmfailpgbggaaGreatDoor
open Go Go.RowKit
namespace LM
set_option linter.unusedVariables false

end LM
end Go.Proofs.YtnpmfailpgbggaaGreatDoor

namespace Go.Proofs.YtnpmfailpgbggaaGreatDoor
open Go Go.RowKit
namespace LM
set_option linter.unusedVariables false

/-- the program's Name, as a function of the text -/
theorem dname_fn (w : World) (hv : FV w) (hx : FX w) (hr : RngCell w) (hsy : SynCell w) : ∃ nm : ByteArray → Bool, ∀ t, CallB w 53 #[.string t] (.bool (nm t)) := by
  have h : ∀ t : ByteArray, ∃ b : Bool, CallB w 53 #[.string t] (.bool b) := fun t => by
    obtain ⟨ff, hf⟩ := reads_some t
    obtain ⟨q, hq⟩ := nonum_bool t.data.toList ff
    exact ⟨nameV t.data.toList q, fun W hW => dname_any t ff q hq hf W (hv.below hW) (hx.below hW) (hr.below hW) (hsy.below hW)⟩
  exact ⟨fun t => Classical.choose (h t), fun t => Classical.choose_spec (h t)⟩
theorem dcopies_card {l : List (String × DataW Unit)} {nm nr : String} {d dr : DataW Unit} {W : World} (h : laidMetH Tryz.prog l W)
    (e1 : ((l.filter fun x => x.2.handleName?.isNone).filter fun x => x.1 == "unicode/utf8.first") = [("unicode/utf8.first", Lib.firstData)])
    (e2 : ((l.filter fun x => x.2.handleName?.isNone).filter fun x => x.1 == "unicode/utf8.acceptRanges") = [("unicode/utf8.acceptRanges", Lib.acceptData)])
    (c1 : ((l.filter fun x => x.2.handleName?.isNone).filter fun x => x.1 == "internal/strconv.leftcheats") = [("internal/strconv.leftcheats", Go.Pinned.leftcheats)])
    (c2 : ((l.filter fun x => x.2.handleName?.isNone).filter fun x => x.1 == "internal/strconv.powtab") = [("internal/strconv.powtab", .slice (powtabL.map fun x => .lit (.int .i64 ((x : Nat) : Int))) [])])
    (c3 : ((l.filter fun x => x.2.handleName?.isNone).filter fun x => x.1 == "internal/strconv.float64info") = [("internal/strconv.float64info", .agg [.lit (.int .u64 52), .lit (.int .u64 11), .lit (.int .i64 (-1023))])])
    (e3 : ((l.filter fun x => x.2.handleName?.isNone).filter fun x => x.1 == "strconv.ErrSyntax") = [("strconv.ErrSyntax", .iface nm d)])
    (e4 : ((l.filter fun x => x.2.handleName?.isNone).filter fun x => x.1 == "strconv.ErrRange") = [("strconv.ErrRange", .iface nr dr)]) (hv : FV W) (hh : Hd) (kids : Fr) (hd : DatV W hh kids) (hraw : hh.Raw kids.len) (hk : kids.Raw) :
    Calls Tryz.prog 5 #[datA hh kids.len] W fun e w' => e = .returned (.bool true) ∧ Below W.heap.size W w' := by
  obtain ⟨nmf, hnm⟩ := dname_fn W hv (fx_of h c1 c2 c3) (rngcell_of h e4) (sentinel_of h e3)
  exact dcopies_by nmf hh kids W hd hraw hk (ut_of h e1 e2) (fun t _ => hnm t) fun W2 hW => dalive_any W2 ((sentinel_of h e3).below hW) ((ut_of h e1 e2).keep hW) (hv.below hW).tab

end LM
end Go.Proofs.YtnpmfailpgbggaaGreatDoor

namespace Go.Proofs.YtnpmfailpgbggaaGreatDoor
open Go Go.RowKit
namespace LM
set_option linter.unusedVariables false
attribute [local go_sem] run_store_flt

theorem small_tx : ∀ (fr : Fr) (deep most : Int), most ≤ 4000 → 0 ≤ smallF deep most fr → TxF fr := by
  intro fr
  induction fr with
  | nil => intro deep most _ _; exact trivial
  | cons h k r ihk ihr =>
    intro deep most hm hs
    unfold smallF at hs
    split at hs
    · omega
    · rename_i hb
      split at hs
      · omega
      · rename_i h0
        obtain ⟨b1, b2, b3, b4⟩ := not_big5 hb
        have hbd := dsmall_bd k (deep + 1) (most - 1) (by omega)
        exact ⟨by omega, ihk (deep + 1) (most - 1) (by omega) (by omega), ihr deep _ (by omega) hs⟩
theorem smallD_tx {deep most : Int} {h : Hd} {k : Fr} (hm : most ≤ 4000) (hs : ¬ smallD deep most h k < 0) : h.t.size ≤ 1000000 ∧ TxF k := by
  unfold smallD at hs
  split at hs
  · exact absurd (by decide) hs
  · rename_i hb
    split at hs
    · exact absurd (by decide) hs
    · rename_i h0
      obtain ⟨b1, b2, b3, b4⟩ := not_big5 hb
      exact ⟨by omega, small_tx k (deep + 1) (most - 1) (by omega) (by omega)⟩

/-- both Names, as one function of the text -/
theorem names_fn (w : World) (hv : FV w) (hx : FX w) (hr : RngCell w) (hsy : SynCell w) : ∃ nm : ByteArray → Bool, ∀ t, CallB w 53 #[.string t] (.bool (nm t)) ∧ CallB w 92 #[.string t] (.bool (nm t)) := by
  have h : ∀ t : ByteArray, ∃ b : Bool, CallB w 53 #[.string t] (.bool b) ∧ CallB w 92 #[.string t] (.bool b) := fun t => by
    obtain ⟨ff, hf⟩ := reads_some t
    obtain ⟨q, hq⟩ := nonum_bool t.data.toList ff
    exact ⟨nameV t.data.toList q, fun W hW => dname_any t ff q hq hf W (hv.below hW) (hx.below hW) (hr.below hW) (hsy.below hW), fun W hW => rname_any t ff q hq hf W (hv.below hW) (hx.below hW) (hr.below hW)⟩
  exact ⟨fun t => Classical.choose (h t), fun t => Classical.choose_spec (h t)⟩

/-- a list's head -/
abbrev listHd (B : Option Addr) (c : Nat) : Hd := ⟨5, 0, false, 0, false, none, [], 0, ⟨#[]⟩, B, c⟩
set_option maxRecDepth 100000 in
set_option maxHeartbeats 8000000 in
theorem rsym_any (s : ByteArray) (w : World) :
    Calls Tryz.prog 20 #[.string s] w fun e w' => e = .returned (datA (symHd s) 0) ∧ Below w.heap.size w w' := by
  obtain ⟨W1, hW1, hb1, ho1, -⟩ := dat_block w (symHd s) 0
  obtain ⟨q0, q1, q2, q3, q4, q5, q6, q7⟩ := C8.of_block ho1
  try dsimp only [Nat.zero_add, List.length_nil] at q0 q1 q2 q3 q4 q5 q6 q7
  dsimp only [datO, symHd, listHd, List.length_nil] at hW1
  have HW1 := Lib.hid hW1
  have HB1 := Lib.hid hb1
  clear hW1 hb1 ho1
  go_enter Tryz.func20, Tryz.ntmps20
  go_wp2_with (fail)
  rw [HW1.out]
  refine bodyPost_ret (v := datA (symHd s) 0) (by simp [results, Tryz.results20, go_sem, q0, q1, q2, q3, q4, q5, q6, q7]) rfl ?_
  exact ⟨rfl, HB1.out⟩

set_option maxRecDepth 100000 in
set_option maxHeartbeats 8000000 in
theorem rlist_any (B : Option Addr) (n c : Nat) (w : World) :
    Calls Tryz.prog 21 #[.slice B n c] w fun e w' => e = .returned (datA (listHd B c) n) ∧ Below w.heap.size w w' := by
  obtain ⟨W1, hW1, hb1, ho1, -⟩ := dat_block w (listHd B c) n
  obtain ⟨q0, q1, q2, q3, q4, q5, q6, q7⟩ := C8.of_block ho1
  try dsimp only [Nat.zero_add, List.length_nil] at q0 q1 q2 q3 q4 q5 q6 q7
  dsimp only [datO, symHd, listHd, List.length_nil] at hW1
  have HW1 := Lib.hid hW1
  have HB1 := Lib.hid hb1
  clear hW1 hb1 ho1
  go_enter Tryz.func21, Tryz.ntmps21
  go_wp2_with (fail)
  rw [HW1.out]
  refine bodyPost_ret (v := datA (listHd B c) n) (by simp [results, Tryz.results21, go_sem, q0, q1, q2, q3, q4, q5, q6, q7]) rfl ?_
  exact ⟨rfl, HB1.out⟩

set_option maxRecDepth 100000 in
set_option maxHeartbeats 8000000 in
theorem rdnum_any (z : Int) (h1 : -9223372036854775808 ≤ z) (h2 : z ≤ 9223372036854775807) (w : World) :
    Calls Tryz.prog 18 #[.int .i64 z] w fun e w' => ∃ A xs c, e = .returned (datA (numHd (decide (z < 0)) A xs c) 0) ∧ xs.length ≤ c ∧ c ≤ 9223372036854775807 ∧ Rd w' A xs ∧ Can xs ∧ val xs = z.natAbs ∧ Below w.heap.size w w' := by
  obtain ⟨W0, hW0, hb0, hO, hs0⟩ := zero_block w
  have H1 := Lib.hid (rtint_any z h1 h2 W0)
  have HW0 := Lib.hid hW0
  have O0 := Lib.hid hO
  have HB0 := Lib.hid hb0
  have HS0 := Lib.hid hs0
  clear hW0 hb0 hO h1 h2 hs0
  go_enter Tryz.func18, Tryz.ntmps18
  go_wp2_with (fail)
  rw [HW0.out]
  refine H1.out.mono ?_
  rintro e w2 ⟨s1, A1, n1, c1, rfl, ⟨A, c, xs, ev, g1, g2, g3, g4, g5⟩, bc⟩
  injection ev with ev
  injection ev with ev
  simp only [List.cons.injEq, Value.bool.injEq, Value.slice.injEq, and_true] at ev
  obtain ⟨rfl, rfl, rfl, rfl⟩ := ev
  have iz := (bc.block _ HS0.out).trans O0.out
  have hlz := heap_lt iz
  have ib := bel_trans (B := w.heap.size) HB0.out bc
  obtain ⟨WF, hWF, CF, OF, hbF, -⟩ := result_dat (h := numHd (decide (z < 0)) A1 xs c1) (n := 0) iz ib (Nat.le_refl _)
  dsimp only [set8z, List.length_nil] at hWF
  have HWF := Lib.hid hWF
  have HBF := Lib.hid hbF
  have G1 := Lib.hid g1
  have G2 := Lib.hid g2
  have G4 := Lib.hid g4
  have G5 := Lib.hid g5
  obtain ⟨q0, q1, q2, q3, q4, q5, q6, q7⟩ := CF
  try dsimp only [Nat.zero_add, List.length_nil] at q0 q1 q2 q3 q4 q5 q6 q7
  obtain ⟨z0, z1, z2, z3, z4, z5, z6, z7, e0, e1, e2, e3, e4, e5, e6, e7, el⟩ := zero_facts iz
  have GR := Lib.hid (OF.rd g3 fun hx => limb_off iz g3 hx)
  clear hWF OF hbF bc iz ib hlz g1 g2 g3 g4 g5
  go_wp2_with (fail)
  rw [HWF.out]
  refine bodyPost_ret (v := datA (numHd (decide (z < 0)) A1 xs c1) 0) (by simp [results, Tryz.results18, go_sem, q0, q1, q2, q3, q4, q5, q6, q7]) rfl ?_
  exact ⟨A1, xs, c1, rfl, G1.out, G2.out, GR.out, G4.out, G5.out, HBF.out⟩
end LM
end Go.Proofs.YtnpmfailpgbggaaGreatDoor

namespace Go.Proofs.YtnpmfailpgbggaaGreatDoor
open Go Go.RowKit
namespace LM
set_option linter.unusedVariables false
attribute [local go_sem] run_store_flt

/-- what stands between two rounds of making a list -/
structure LstI (w : World) (fr : Fr) (j : Nat) (x0 done : Fr) (Bl : Option Addr) (cl : Nat) (W : World) : Prop where
  bel : Below w.heap.size w W
  zer : W.heap[w.heap.size]? = some zeroO
  blk : W.heap[w.heap.size + 1]? = some (datO (listHd Bl cl) j)
  row : W.ownsRow (w.heap.size + 2) 30 8 (.slice Bl j cl) j (cellsF done)
  spl : fr = x0.app (fr.drop j)
  alk : AlikeF x0 done
  len : done.len = j
  kid : KidsAt W done
  off : OffF (Value.slice Bl j cl).ownBlock done
  fre : FreshF (w.heap.size + 2) done
  oks : done.Ok

theorem lst_step {w wr w2 w3 W4 : World} {o : Obj} {fr k r kc x0 done : Fr} {hh hc : Hd} {j B : Nat} {Bl B' : Option Addr} {cl c' : Nat} (hI : LstI w fr j x0 done Bl cl wr) (hd : fr.drop j = .cons hh k r) (hd1 : fr.drop (j + 1) = r)
    (dc : DatV w2 hc kc) (ac : AlikeH hh hc) (afc : AlikeF k kc) (okc : hc.Ok kc.len) (okf : kc.Ok) (frc : FreshH B hc kc.len) (frf : FreshF B kc) (hB : wr.heap.size ≤ B) (hb : Below wr.heap.size wr w2)
    (hgrow : (w2.alloc o).grownBy w3 (Value.slice Bl j cl).ownBlock) (hown : w3.ownsRow (w.heap.size + 2) 30 8 (.slice B' (j + 1) c') (j + 1) (cellsF done ++ head8 hc kc.len)) (hnw : (Value.slice B' (j + 1) c').ownBlock = (Value.slice Bl j cl).ownBlock ∨ (Value.slice B' (j + 1) c').ownBlock = some (w2.alloc o).heap.size)
    (hW4 : w3.setCell ⟨w.heap.size + 1, 7, none⟩ (.slice B' (j + 1) c') = W4) :
    LstI w fr (j + 1) (x0.app (.cons hh k .nil)) (done.app (.cons hc kc .nil)) B' c' W4 := by
  obtain ⟨ib, iz, ik, ir, ie, ia, idl, iK, iF, iN, iO⟩ := hI
  rw [hd] at ie
  have hwr := ib.size
  have hba : Below wr.heap.size wr (w2.alloc o) := hb.alloc hb.size o
  have hob := fun k hk => own_base ir (k := k) hk
  have hoff : OffF (Value.slice Bl j cl).ownBlock (done.app (.cons hc kc .nil)) := by
    cases hl : (Value.slice Bl j cl).ownBlock with
    | none => exact OffF.no
    | some g =>
      rw [hl] at iF
      have hg := (hob g hl).2
      refine OffF.snoc ⟨fun hx ad e e2 => ?_, fun hx ad e e2 => ?_⟩ (OffF.of_away (FreshF.away (by omega) frf)) iF
      · injection e2 with e2; have := frc.1 hx ad e; omega
      · injection e2 with e2; have := frc.2 hx ad e; omega
  have hkid : KidsAt (w2.alloc o) (done.app (.cons hc kc .nil)) := KidsAt.snoc (dc.below ((Below.refl _ w2).alloc (Nat.le_refl _) o)) (KidsAt.below hba iK)
  have h0 := heap_lt ik
  have h1 := heap_lt iz
  have hold : ∀ b, b < w.heap.size + 2 → b < wr.heap.size → w3.heap[b]? = wr.heap[b]? := fun b hb1 hb2 => by
    have hs := hba.size
    rw [hgrow.block b (by omega) (fun e => by have := (hob b e.symm).1; omega)]
    exact hba.block b hb2
  have hb3 : Below w.heap.size w w3 := (bel_trans (B := w.heap.size) ib hba).grown hgrow (by have := hba.size; omega) (fun k hk => by have := (hob k hk).1; omega)
  have hk3 : KidsAt w3 (done.app (.cons hc kc .nil)) := KidsAt.keep hgrow hkid hoff
  have hf3 : FreshF (w.heap.size + 2) (done.app (.cons hc kc .nil)) := fresh_snoc ⟨fun hx ad e => by have := frc.1 hx ad e; omega, fun hx ad e => by have := frc.2 hx ad e; omega⟩ (FreshF.mono (by omega) frf) iN
  have hnb : (Value.slice B' (j + 1) c').ownBlock ≠ some (w.heap.size + 1) := fun e => by have := (own_base hown e).1; omega
  obtain ⟨W5, hW5, Y5, hb5, ho5, hz5⟩ := stored_dat (h' := listHd B' c') (n' := j + 1) ((hold _ (by omega) h0).trans ik) hb3 (Nat.le_succ _) (i := 7) (v := .slice B' (j + 1) c') (by unfold head8; rfl)
  rw [hW4] at hW5
  subst hW5
  have hg4 : w3.grownBy W4 (some (w.heap.size + 1)) := ⟨by rw [← hW4]; rfl, by rw [← hW4]; rfl, by rw [← hW4]; rfl, by omega, fun k hk hkn => ho5 k fun e => hkn (by rw [e])⟩
  refine ⟨hb5, ?_, Y5, ?_, ?_, alike_snoc ac afc ia, ?_, KidsAt.keep hg4 hk3 (OffF.of_away (FreshF.away (by omega) hf3)), ?_, hf3, ok_snoc okc okf iO⟩
  · rw [ho5 _ (by omega), hold _ (by omega) h1]; exact iz
  · rw [cellsF_snoc]; exact hown.kept hg4 (.inr hnb)
  · rw [hd1, app_snoc]; exact ie
  · rw [app_len]; show done.len + (0 + 1) = j + 1; omega
  · rcases hnw with e | e
    · rw [e]; exact hoff
    · rw [e]; exact off_old (Nat.le_refl _) hkid

/-- what a list is -/
def RetList (w : World) (fr : Fr) (e : Ending) (w' : World) : Prop :=
  ∃ B c done, e = .returned (datA (listHd B c) done.len) ∧ done.len = fr.len ∧ DatV w' (listHd B c) done ∧ AlikeF fr done ∧ (listHd B c).Ok done.len ∧ done.Ok ∧ (0 < done.len → ∀ ad, B = some ad → w.heap.size ≤ ad.block) ∧ FreshF w.heap.size done ∧ Below w.heap.size w w'

theorem lst_out {w W : World} {fr x0 done : Fr} {Bl : Option Addr} {cl : Nat} (hI : LstI w fr fr.len x0 done Bl cl W) :
    ∃ B2 cap2, Value.slice Bl fr.len cl = .slice B2 fr.len cap2 ∧ (Bl = none → fr.len = 0 ∧ cl = 0) ∧ fr.len ≤ cl ∧ cl ≤ 9223372036854775807 ∧ (∀ ad, Bl = some ad → ad.spot = none) ∧ (0 < done.len → ∀ ad, Bl = some ad → w.heap.size + 2 ≤ ad.block) ∧
      ∃ b off, (0 < done.len → Bl = some ⟨b, off, none⟩) ∧ FAt W b off done ∧ w.heap.size + 2 ≤ b ∧ AlikeF fr done := by
  obtain ⟨ib, iz, ik, ir, ie, ia, idl, iK, iF, iN, iO⟩ := hI
  rw [drop_all, app_nil] at ie
  subst ie
  obtain ⟨hl, ⟨e1, h0⟩ | ⟨g, cap, cur, e1, hg, hh, h1, h2, h3, h4⟩⟩ := ir
  · have hd : done = .nil := by
      cases done with
      | nil => rfl
      | cons x y z => have h3 : z.len + 1 = fr.len := idl; omega
    subst hd
    injection e1 with e1 e2 e3
    subst e1 e3
    exact ⟨none, 0, rfl, fun _ => ⟨h0, rfl⟩, by omega, by decide, fun ad e => (by cases e), fun h => absurd h (by show ¬ 0 < 0; omega), w.heap.size + 2, 0, fun h => absurd h (by show ¬ 0 < 0; omega), trivial, Nat.le_refl _, ia⟩
  · injection e1 with e1 e2 e3
    subst e1 e3
    refine ⟨some ⟨g, 0, none⟩, cl, rfl, fun e => (by cases e), h1, by unfold maxLen at h2; omega, fun ad e => (by injection e with e; subst e; rfl), fun _ ad e => (by injection e with e; subst e; exact hg), g, 0, fun _ => rfl, KidsAt.fat (heap_lt hh) iK fun i u hu => ?_, hg, ia⟩
    have hi : i < fr.len * 8 := by
      rcases Nat.lt_or_ge i (fr.len * 8) with h | h
      · exact h
      · rw [List.getElem?_eq_none (by rw [hl]; exact h)] at hu; cases hu
    rw [← h4, List.getElem?_take, if_pos hi, Array.getElem?_toList] at hu
    rw [Nat.zero_add]
    simp only [World.cell?, hh]
    exact hu

/-- each of some data can be copied -/
def CopF : Fr → Prop
  | .nil => True
  | .cons h k r => k.len ≤ 1000000 ∧ cnt 65536 1 k < 65536 ∧ CopF r
theorem CopF.drop : ∀ (j : Nat) {fr : Fr}, CopF fr → CopF (fr.drop j) := by
  intro j
  induction j with
  | zero => intro fr h; exact h
  | succ j ih =>
    intro fr h
    cases fr with
    | nil => exact trivial
    | cons hh k r => exact ih h.2.2

theorem lst_zero (w : World) (fr : Fr) : ∃ W, (w.alloc zeroO).alloc (datO (listHd none 0) 0) = W ∧ LstI w fr 0 .nil .nil none 0 W := by
  obtain ⟨W, hW, hb, hz, ho, hs⟩ := two_zero w
  exact ⟨W, hW, hb, hz, ho, World.ownsRow_nil W _ _ 8, rfl, trivial, rfl, trivial, trivial, trivial, trivial⟩

set_option maxRecDepth 100000 in
set_option maxHeartbeats 8000000 in
theorem dlist_any (fr : Fr) (hok : fr.Ok) (hfew : FewF fr) (hcop : CopF fr) (hlen : fr.len ≤ 1000) (B : Option Addr) (cap b off : Nat) (w : World) (hB : 0 < fr.len → B = some ⟨b, off, none⟩) (hF : FAt w b off fr) (hc1 : fr.len ≤ cap) (hc2 : cap ≤ 9223372036854775807) :
    Calls Tryz.prog 16 #[.slice B fr.len cap] w (RetList w fr) := by
  obtain ⟨W, hW, hst⟩ := lst_zero w fr
  dsimp only [datO, listHd, List.length_nil] at hW
  have HW := Lib.hid hW
  have HST := Lib.hid hst
  have HBI := Lib.hid hB
  have HFF := Lib.hid hF
  have HOK := Lib.hid hok
  have HFW := Lib.hid hfew
  have HCP := Lib.hid hcop
  have hi := datum_info
  have hby := datum_bytes
  cases hinf : Tryz.prog.info? 30 with
  | none => rw [hinf] at hi; cases hi
  | some i0 =>
    rw [hinf] at hi hby
    simp only [Option.map_some, Option.some.injEq, Prod.mk.injEq, decide_eq_true_eq] at hi hby
    clear hW hst hB hF hok hfew hcop
    go_enter Tryz.func16, Tryz.ntmps16
    go_wp2_with (fail)
    rw [HW.out]
    go_loopg [5, 9] fr.len (fun kk _ i wr => ∃ j : Nat, j ≤ fr.len ∧ kk = fr.len - j ∧ i = .int .i64 (j : Int) ∧ ∃ x0 done Bl cl, LstI w fr j x0 done Bl cl wr)
    case atStart => exact ⟨0, Nat.zero_le _, rfl, rfl, .nil, .nil, none, 0, HST.out⟩
    case round =>
      obtain ⟨j, hj, rfl, rfl, x0, done, Bl, cl, hI⟩ := hrel
      have HI := Lib.hid hI
      by_cases hjl : j < fr.len
      · obtain ⟨hh, k, r, hdr, hdr1⟩ := Fr.cons_of_lt hjl
        have hBe := HBI.out (by omega)
        rw [hBe]
        obtain ⟨hbl, C, D⟩ := counted_item (FAt.below hI.bel _ _ _ HFF.out) hdr
        have hko := HOK.out.drop j
        have hkf := HFW.out.drop j
        have hkc := HCP.out.drop j
        rw [hdr] at hko hkf hkc
        obtain ⟨Wx, hWx⟩ : ∃ Wx, wr.alloc (datO hh k.len) = Wx := ⟨_, rfl⟩
        have hba : Below wr.heap.size wr Wx := by rw [← hWx]; exact (Below.refl _ wr).alloc (Nat.le_refl _) _
        have hox : Wx.heap[wr.heap.size]? = some (datO hh k.len) := by rw [← hWx]; exact heap_alloc_new wr _
        have CK := Lib.hid (dCopy_any k hko.2.1 hkf.2.1 hkf.1 hkc.2.1 hh Wx.drew ((D.below hba).below ((Below.refl _ Wx).drew)) hko.1)
        have HWX := Lib.hid hWx
        have HBA := Lib.hid hba
        have HDR := Lib.hid hdr
        have HDR1 := Lib.hid hdr1
        obtain ⟨x0', x1, x2, x3, x4, x5, x6, x7⟩ := C
        clear hko hkf hkc hdr hdr1 hI D
        have hbw := HI.out.bel.size
        have hl1 := heap_lt HI.out.blk
        have hl0 := heap_lt HI.out.zer
        have hx1 := hba.size
        have KB : Hid (∀ W, Below Wx.heap.size Wx W → W.heap[w.heap.size + 1]? = some (datO (listHd Bl cl) j)) := Lib.hid fun W hW => ((hW.block _ (by omega)).trans (HBA.out.block _ hl1)).trans HI.out.blk
        have KX : Hid (∀ W, Below Wx.heap.size Wx W → C8 W wr.heap.size 0 hh k.len) := Lib.hid fun W hW => C8.of_block ((hW.block _ (heap_lt hox)).trans hox)
        have HLX := Lib.hid (heap_lt hox)
        have I0 : Wx.drew.cell? ⟨w.heap.size + 1, 7, none⟩ = some (.slice Bl j cl) := ob_cell (KB.out _ ((Below.refl _ Wx).drew)) 7
        have P0 := Lib.hid (KX.out _ ((Below.refl _ Wx).drew))
        clear hba hox hWx hbl
        go_wp2_with (fail)
        rw [HWX.out]
        refine wp_region_held_drew (S := fun W => C8 W wr.heap.size 0 hh k.len) (by kernel_rfl) P0.out (fun hHeld => ?_)
        refine wpAnyH_take (i := 0) (v := ?v0) rfl (by kernel_rfl) (by kernel_rfl) (by kernel_rfl) (fun _ _ _ h => h) (Or.inl ⟨by rfl, ?y0⟩) hHeld ?r0
        case y0 =>
          intro W hSw
          obtain ⟨u0, u1, u2, u3, u4, u5, u6, u7⟩ := hSw
          simp only [Nat.zero_add] at u0 u1 u2 u3 u4 u5 u6 u7
          go_simp
          all_goals (with_reducible rfl)
        change wpAnyH _ _ _ _ _ _ _ (Act.put _ (some 13) _) _
        simp only [Act.put, List.setIfInBounds_toArray, List.set_cons_zero, List.set_cons_succ]
        refine wpAnyH_take (i := 2) (v := ?v2) rfl (by kernel_rfl) (by kernel_rfl) (by kernel_rfl) (fun _ _ _ h => h) (Or.inl ⟨by rfl, ?y2⟩) hHeld ?r2
        case y2 =>
          intro W hSw
          obtain ⟨u0, u1, u2, u3, u4, u5, u6, u7⟩ := hSw
          simp only [Nat.zero_add] at u0 u1 u2 u3 u4 u5 u6 u7
          go_simp
          all_goals (with_reducible rfl)
        change wpAnyH _ _ _ _ _ _ _ (Act.put _ (some 15) _) _
        simp only [Act.put, List.setIfInBounds_toArray, List.set_cons_zero, List.set_cons_succ]
        refine wpAnyH_ready (rs := [1, 3]) (by kernel_rfl) (by simp) ?_
        refine AllReadyH.cons rfl (fun K hK => ?_) (AllReadyH.cons rfl (fun K hK => ?_) AllReadyH.nil)
        · go_simp
          refine hK.out _ _ P0.out (fun hHeld => ?_)
          clear hK K
          refine wpAnyH_ready (rs := [3]) (by kernel_rfl) (by simp) ?_
          refine AllReadyH.cons rfl (fun K hK => ?_) AllReadyH.nil
          go_simp
          refine CK.out.mono ?_
          rintro e v1 ⟨hc, kc, rfl, dc, ac, afc, okc, okf, frc, frf, bc, -, -⟩
          have hbx : Below Wx.heap.size Wx v1 := ((Below.refl _ Wx).drew).trans bc
          have P1 := Lib.hid (KX.out _ hbx)
          have I1 : v1.cell? ⟨w.heap.size + 1, 7, none⟩ = some (.slice Bl j cl) := ob_cell (KB.out _ hbx) 7
          have hba1 : Below v1.heap.size v1 (v1.alloc (datO hc kc.len)) := (Below.refl _ v1).alloc (Nat.le_refl _) _
          have hbx2 := bel_trans (B := Wx.heap.size) hbx hba1
          have P2 := Lib.hid (KX.out _ hbx2)
          have I2 : (v1.alloc (datO hc kc.len)).cell? ⟨w.heap.size + 1, 7, none⟩ = some (.slice Bl j cl) := ob_cell (KB.out _ hbx2) 7
          have hb2 : Below wr.heap.size wr v1 := bel_trans (B := wr.heap.size) HBA.out hbx
          have hown := owns_below (owns_below HI.out.row hb2) hba1
          have hcz : (v1.alloc (datO hc kc.len)).heap[v1.heap.size]? = some (datO hc kc.len) := heap_alloc_new v1 _
          obtain ⟨v', w3, hr, hown3, hgrow3, -, hnw3⟩ := run_append_own_at (P := Tryz.prog) (v1.alloc (datO hc kc.len)) (w.heap.size + 2) 28 28 30 i0 _ 8 i0.bytes Tryz.underlying28 hinf hi.1 hi.2 rfl rfl (by decide) _ _ _ hown ⟨v1.heap.size, 0, none⟩ 1 1 (head8 hc kc.len) rfl
            (fun i u hu => by
              have ha : ((⟨v1.heap.size, 0, none⟩ : Addr).add i) = ⟨v1.heap.size, i, none⟩ := by
                unfold Addr.add
                split <;> simp_all
              rw [ha, ob_cell hcz]
              show (head8 hc kc.len).toArray[i]? = some u
              rw [List.getElem?_toArray]
              exact hu)
            (fun u hu => cellsF_one (.cons hc kc .nil) u (List.mem_append_left _ hu)) (by unfold maxLen; omega)
            (Nat.le_trans (Nat.mul_le_mul (by omega : j + 1 ≤ 1000000) hby) (by decide)) (by simp; have := hb2.size; omega)
          obtain ⟨B', c', rfl⟩ : ∃ B' c', v' = .slice B' (j + 1) c' := by
            obtain ⟨-, ⟨rfl, h1⟩ | ⟨g, cp, cur, rfl, -⟩⟩ := hown3
            · omega
            · exact ⟨_, _, rfl⟩
          have hs4 : Below wr.heap.size wr (v1.alloc (datO hc kc.len)) := bel_trans (B := wr.heap.size) hb2 hba1
          have hob3 : w3.heap[w.heap.size + 1]? = some (datO (listHd Bl cl) j) := by
            rw [hgrow3.block _ (by have := hs4.size; omega) (fun e => by have := (own_base HI.out.row e.symm).1; omega), hs4.block _ hl1]
            exact HI.out.blk
          have hox3 : w3.heap[wr.heap.size]? = some (datO hh k.len) := by
            have hlx := HLX.out
            rw [hgrow3.block _ (by have := hbx2.size; omega) (fun e => by have := (own_base HI.out.row e.symm).2; omega)]
            exact hbx2.block _ hlx |>.trans (by rw [← HWX.out]; exact heap_alloc_new wr _)
          have P3 := Lib.hid (C8.of_block hox3)
          have I3 : w3.cell? ⟨w.heap.size + 1, 7, none⟩ = some (.slice Bl j cl) := ob_cell hob3 7
          have F3 : w3.frozen? ⟨w.heap.size + 1, 7, none⟩ = false := ob_free hob3 7 (by simp)
          obtain ⟨W4, hW4⟩ : ∃ W4, w3.setCell ⟨w.heap.size + 1, 7, none⟩ (.slice B' (j + 1) c') = W4 := ⟨_, rfl⟩
          have hlo : wr.heap.size ≠ w.heap.size + 1 := by omega
          have P4 := Lib.hid (show C8 W4 wr.heap.size 0 hh k.len from C8.of_block (by rw [← hW4, Below.heap_setCell w3 _ _ _ hlo]; exact hox3))
          have NEW := Lib.hid (lst_step HI.out HDR.out HDR1.out dc ac afc okc okf frc frf (by have := hx1; simp; omega) hb2 hgrow3 hown3 hnw3 hW4)
          clear dc ac afc okc okf frc frf bc hbx hba1 hbx2 hb2 hown hcz hown3 hgrow3 hnw3 hs4 hob3 hox3 hlo
          refine hK.out _ _ P1.out (fun hHeld => ?_)
          clear hK K
          refine wpAnyH_ready (rs := [4]) (by kernel_rfl) (by simp) ?_
          refine AllReadyH.cons rfl (fun K hK => ?_) AllReadyH.nil
          go_simp
          refine hK.out _ _ P2.out (fun hHeld => ?_)
          clear hK K
          refine wpAnyH_ready (rs := [5]) (by kernel_rfl) (by simp) ?_
          refine AllReadyH.cons rfl (fun K hK => ?_) AllReadyH.nil
          rw [if_pos (by rfl)]
          simp only [List.getElem_toArray, List.getElem_cons_succ, List.getElem_cons_zero]
          unfold Oper.wp execOp
          simp only [resolve, invoke, builtin, Sem.run_bind, Sem.run_pure, Result.andThen_ok, List.map_toArray, List.map_cons, List.map_nil, Act.eval, Array.getD_eq_getD_getElem?, List.getElem?_toArray, List.getElem?_cons_succ, List.getElem?_cons_zero, Option.getD_some]
          rw [hr]
          go_simp
          refine hK.out _ _ P3.out (fun hHeld => ?_)
          clear hK K
          refine wpAnyH_take (i := 6) (v := ?v6a) rfl (by kernel_rfl) (by kernel_rfl) (by kernel_rfl) (fun _ _ _ h => h) (Or.inl ⟨by rfl, ?y6a⟩) hHeld ?r6a
          case y6a =>
            intro W hSw
            obtain ⟨u0, u1, u2, u3, u4, u5, u6, u7⟩ := hSw
            simp only [Nat.zero_add] at u0 u1 u2 u3 u4 u5 u6 u7
            go_simp
            all_goals (with_reducible rfl)
          change wpAnyH _ _ _ _ _ _ _ (Act.put _ (some 19) _) _
          simp only [Act.put, List.setIfInBounds_toArray, List.set_cons_zero, List.set_cons_succ]
          refine wpAnyH_ready (rs := [7]) (by kernel_rfl) (by simp) ?_
          refine AllReadyH.cons rfl (fun K hK => ?_) AllReadyH.nil
          go_simp
          refine hK.out _ _ P4.out (fun hHeld => ?_)
          clear hK K
          refine wpAnyH_done (by kernel_rfl) ?_ _
          clear hr hW4 I1 I2 I3 F3 hHeld
          go_wp2_with (fail)
          rw [← hBe]
          go_roundg (fr.len - (j + 1))
          case measure => omega
          case rel => exact ⟨j + 1, by omega, rfl, by go_num, _, _, _, _, NEW.out⟩
        · go_simp
          refine CK.out.mono ?_
          rintro e v1 ⟨hc, kc, rfl, dc, ac, afc, okc, okf, frc, frf, bc, -, -⟩
          have hbx : Below Wx.heap.size Wx v1 := ((Below.refl _ Wx).drew).trans bc
          have P1 := Lib.hid (KX.out _ hbx)
          have I1 : v1.cell? ⟨w.heap.size + 1, 7, none⟩ = some (.slice Bl j cl) := ob_cell (KB.out _ hbx) 7
          have hba1 : Below v1.heap.size v1 (v1.alloc (datO hc kc.len)) := (Below.refl _ v1).alloc (Nat.le_refl _) _
          have hbx2 := bel_trans (B := Wx.heap.size) hbx hba1
          have P2 := Lib.hid (KX.out _ hbx2)
          have I2 : (v1.alloc (datO hc kc.len)).cell? ⟨w.heap.size + 1, 7, none⟩ = some (.slice Bl j cl) := ob_cell (KB.out _ hbx2) 7
          have hb2 : Below wr.heap.size wr v1 := bel_trans (B := wr.heap.size) HBA.out hbx
          have hown := owns_below (owns_below HI.out.row hb2) hba1
          have hcz : (v1.alloc (datO hc kc.len)).heap[v1.heap.size]? = some (datO hc kc.len) := heap_alloc_new v1 _
          obtain ⟨v', w3, hr, hown3, hgrow3, -, hnw3⟩ := run_append_own_at (P := Tryz.prog) (v1.alloc (datO hc kc.len)) (w.heap.size + 2) 28 28 30 i0 _ 8 i0.bytes Tryz.underlying28 hinf hi.1 hi.2 rfl rfl (by decide) _ _ _ hown ⟨v1.heap.size, 0, none⟩ 1 1 (head8 hc kc.len) rfl
            (fun i u hu => by
              have ha : ((⟨v1.heap.size, 0, none⟩ : Addr).add i) = ⟨v1.heap.size, i, none⟩ := by
                unfold Addr.add
                split <;> simp_all
              rw [ha, ob_cell hcz]
              show (head8 hc kc.len).toArray[i]? = some u
              rw [List.getElem?_toArray]
              exact hu)
            (fun u hu => cellsF_one (.cons hc kc .nil) u (List.mem_append_left _ hu)) (by unfold maxLen; omega)
            (Nat.le_trans (Nat.mul_le_mul (by omega : j + 1 ≤ 1000000) hby) (by decide)) (by simp; have := hb2.size; omega)
          obtain ⟨B', c', rfl⟩ : ∃ B' c', v' = .slice B' (j + 1) c' := by
            obtain ⟨-, ⟨rfl, h1⟩ | ⟨g, cp, cur, rfl, -⟩⟩ := hown3
            · omega
            · exact ⟨_, _, rfl⟩
          have hs4 : Below wr.heap.size wr (v1.alloc (datO hc kc.len)) := bel_trans (B := wr.heap.size) hb2 hba1
          have hob3 : w3.heap[w.heap.size + 1]? = some (datO (listHd Bl cl) j) := by
            rw [hgrow3.block _ (by have := hs4.size; omega) (fun e => by have := (own_base HI.out.row e.symm).1; omega), hs4.block _ hl1]
            exact HI.out.blk
          have hox3 : w3.heap[wr.heap.size]? = some (datO hh k.len) := by
            have hlx := HLX.out
            rw [hgrow3.block _ (by have := hbx2.size; omega) (fun e => by have := (own_base HI.out.row e.symm).2; omega)]
            exact hbx2.block _ hlx |>.trans (by rw [← HWX.out]; exact heap_alloc_new wr _)
          have P3 := Lib.hid (C8.of_block hox3)
          have I3 : w3.cell? ⟨w.heap.size + 1, 7, none⟩ = some (.slice Bl j cl) := ob_cell hob3 7
          have F3 : w3.frozen? ⟨w.heap.size + 1, 7, none⟩ = false := ob_free hob3 7 (by simp)
          obtain ⟨W4, hW4⟩ : ∃ W4, w3.setCell ⟨w.heap.size + 1, 7, none⟩ (.slice B' (j + 1) c') = W4 := ⟨_, rfl⟩
          have hlo : wr.heap.size ≠ w.heap.size + 1 := by omega
          have P4 := Lib.hid (show C8 W4 wr.heap.size 0 hh k.len from C8.of_block (by rw [← hW4, Below.heap_setCell w3 _ _ _ hlo]; exact hox3))
          have NEW := Lib.hid (lst_step HI.out HDR.out HDR1.out dc ac afc okc okf frc frf (by have := hx1; simp; omega) hb2 hgrow3 hown3 hnw3 hW4)
          clear dc ac afc okc okf frc frf bc hbx hba1 hbx2 hb2 hown hcz hown3 hgrow3 hnw3 hs4 hob3 hox3 hlo
          refine hK.out _ _ P1.out (fun hHeld => ?_)
          clear hK K
          refine wpAnyH_ready (rs := [1, 4]) (by kernel_rfl) (by simp) ?_
          refine AllReadyH.cons rfl (fun K hK => ?_) (AllReadyH.cons rfl (fun K hK => ?_) AllReadyH.nil)
          · go_simp
            refine hK.out _ _ P1.out (fun hHeld => ?_)
            clear hK K
            refine wpAnyH_ready (rs := [4]) (by kernel_rfl) (by simp) ?_
            refine AllReadyH.cons rfl (fun K hK => ?_) AllReadyH.nil
            go_simp
            refine hK.out _ _ P2.out (fun hHeld => ?_)
            clear hK K
            refine wpAnyH_ready (rs := [5]) (by kernel_rfl) (by simp) ?_
            refine AllReadyH.cons rfl (fun K hK => ?_) AllReadyH.nil
            rw [if_pos (by rfl)]
            simp only [List.getElem_toArray, List.getElem_cons_succ, List.getElem_cons_zero]
            unfold Oper.wp execOp
            simp only [resolve, invoke, builtin, Sem.run_bind, Sem.run_pure, Result.andThen_ok, List.map_toArray, List.map_cons, List.map_nil, Act.eval, Array.getD_eq_getD_getElem?, List.getElem?_toArray, List.getElem?_cons_succ, List.getElem?_cons_zero, Option.getD_some]
            rw [hr]
            go_simp
            refine hK.out _ _ P3.out (fun hHeld => ?_)
            clear hK K
            refine wpAnyH_take (i := 6) (v := ?v6b) rfl (by kernel_rfl) (by kernel_rfl) (by kernel_rfl) (fun _ _ _ h => h) (Or.inl ⟨by rfl, ?y6b⟩) hHeld ?r6b
            case y6b =>
              intro W hSw
              obtain ⟨u0, u1, u2, u3, u4, u5, u6, u7⟩ := hSw
              simp only [Nat.zero_add] at u0 u1 u2 u3 u4 u5 u6 u7
              go_simp
              all_goals (with_reducible rfl)
            change wpAnyH _ _ _ _ _ _ _ (Act.put _ (some 19) _) _
            simp only [Act.put, List.setIfInBounds_toArray, List.set_cons_zero, List.set_cons_succ]
            refine wpAnyH_ready (rs := [7]) (by kernel_rfl) (by simp) ?_
            refine AllReadyH.cons rfl (fun K hK => ?_) AllReadyH.nil
            go_simp
            refine hK.out _ _ P4.out (fun hHeld => ?_)
            clear hK K
            refine wpAnyH_done (by kernel_rfl) ?_ _
            clear hr hW4 I1 I2 I3 F3 hHeld
            go_wp2_with (fail)
            rw [← hBe]
            go_roundg (fr.len - (j + 1))
            case measure => omega
            case rel => exact ⟨j + 1, by omega, rfl, by go_num, _, _, _, _, NEW.out⟩
          · go_simp
            refine hK.out _ _ P2.out (fun hHeld => ?_)
            clear hK K
            refine wpAnyH_ready (rs := [1]) (by kernel_rfl) (by simp) ?_
            refine AllReadyH.cons rfl (fun K hK => ?_) AllReadyH.nil
            go_simp
            refine hK.out _ _ P2.out (fun hHeld => ?_)
            clear hK K
            refine wpAnyH_ready (rs := [5]) (by kernel_rfl) (by simp) ?_
            refine AllReadyH.cons rfl (fun K hK => ?_) AllReadyH.nil
            rw [if_pos (by rfl)]
            simp only [List.getElem_toArray, List.getElem_cons_succ, List.getElem_cons_zero]
            unfold Oper.wp execOp
            simp only [resolve, invoke, builtin, Sem.run_bind, Sem.run_pure, Result.andThen_ok, List.map_toArray, List.map_cons, List.map_nil, Act.eval, Array.getD_eq_getD_getElem?, List.getElem?_toArray, List.getElem?_cons_succ, List.getElem?_cons_zero, Option.getD_some]
            rw [hr]
            go_simp
            refine hK.out _ _ P3.out (fun hHeld => ?_)
            clear hK K
            refine wpAnyH_take (i := 6) (v := ?v6c) rfl (by kernel_rfl) (by kernel_rfl) (by kernel_rfl) (fun _ _ _ h => h) (Or.inl ⟨by rfl, ?y6c⟩) hHeld ?r6c
            case y6c =>
              intro W hSw
              obtain ⟨u0, u1, u2, u3, u4, u5, u6, u7⟩ := hSw
              simp only [Nat.zero_add] at u0 u1 u2 u3 u4 u5 u6 u7
              go_simp
              all_goals (with_reducible rfl)
            change wpAnyH _ _ _ _ _ _ _ (Act.put _ (some 19) _) _
            simp only [Act.put, List.setIfInBounds_toArray, List.set_cons_zero, List.set_cons_succ]
            refine wpAnyH_ready (rs := [7]) (by kernel_rfl) (by simp) ?_
            refine AllReadyH.cons rfl (fun K hK => ?_) AllReadyH.nil
            go_simp
            refine hK.out _ _ P4.out (fun hHeld => ?_)
            clear hK K
            refine wpAnyH_done (by kernel_rfl) ?_ _
            clear hr hW4 I1 I2 I3 F3 hHeld
            go_wp2_with (fail)
            rw [← hBe]
            go_roundg (fr.len - (j + 1))
            case measure => omega
            case rel => exact ⟨j + 1, by omega, rfl, by go_num, _, _, _, _, NEW.out⟩
      · have hje : j = fr.len := by omega
        subst hje
        obtain ⟨B2, cap2, e1, q1, q2, q3, q4, q5, bD, oD, q6, q7, q8, q9⟩ := lst_out hI
        have hl0 := heap_lt hI.zer
        have hl1 := heap_lt hI.blk
        obtain ⟨WF, hWF, CF, OF, hbF, -⟩ := result_dat (h := listHd Bl cl) (n := fr.len) hI.zer hI.bel (Nat.le_refl _)
        have FF := OF.fat q7 (FreshF.away (by omega) hI.fre) (.inl (by omega))
        have hlen2 := q9.len
        have OUT := Lib.hid (show RetList w fr (.returned (datA (listHd Bl cl) fr.len)) WF from
          ⟨Bl, cl, done, by rw [hlen2], hlen2, ⟨fun h => absurd h (Nat.lt_irrefl 0), bD, oD, q6, FF⟩, q9,
            ⟨by dsimp only [listHd]; decide, by dsimp only [listHd]; decide, by dsimp only [listHd]; decide, by simp [Lm], by dsimp only [listHd]; decide, fun _ => ⟨rfl, rfl⟩, by dsimp only [listHd]; decide, by dsimp only [listHd]; decide, by rw [hlen2]; exact ⟨q2, q3⟩, fun e => by rw [hlen2]; exact q1 e, fun ad e => (by cases e), fun ad e _ => q4 ad e⟩,
            hI.oks, fun hp ad e => by have := q5 hp ad e; omega, FreshF.mono (by omega) hI.fre, hbF⟩)
        dsimp only [set8z, List.length_nil] at hWF
        have HWF := Lib.hid hWF
        obtain ⟨r0, r1, r2, r3, r4, r5, r6, r7⟩ := CF
        dsimp only [Nat.zero_add] at r0 r1 r2 r3 r4 r5 r6 r7
        obtain ⟨t0, t1, t2, t3, t4, t5, t6, t7⟩ := C8.of_block hI.blk
        obtain ⟨z0, z1, z2, z3, z4, z5, z6, z7, f0, f1, f2, f3, f4, f5, f6, f7, el⟩ := zero_facts hI.zer
        clear hI q1 q2 q3 q4 q5 q6 q7 q8 q9 OF hbF FF e1 hWF
        go_wp2_with (fail)
        rw [HWF.out]
        refine bodyPost_ret (v := datA (listHd Bl cl) fr.len) (by simp [results, Tryz.results16, go_sem, r0, r1, r2, r3, r4, r5, r6, r7]) rfl ?_
        exact OUT.out
end LM
end Go.Proofs.YtnpmfailpgbggaaGreatDoor

namespace Go.Proofs.YtnpmfailpgbggaaGreatDoor
open Go Go.RowKit
namespace LM
set_option linter.unusedVariables false
attribute [local go_sem] run_store_flt

/-- the guards let each of some data pass -/
def PassF (nm : ByteArray → Bool) : Fr → Prop
  | .nil => True
  | .cons h k r => (¬ smallD 0 4000 h k < 0 ∧ rightD nm h k = true) ∧ PassF nm r
theorem PassF.snoc {nm : ByteArray → Bool} {h : Hd} {k : Fr} (hh : ¬ smallD 0 4000 h k < 0 ∧ rightD nm h k = true) : ∀ {x : Fr}, PassF nm x → PassF nm (x.app (.cons h k .nil)) := by
  intro x
  induction x with
  | nil => intro _; exact ⟨hh, trivial⟩
  | cons a b c _ ih => intro hx; exact ⟨hx.1, ih hx.2⟩
theorem PassF.facts {nm : ByteArray → Bool} : ∀ {fr : Fr}, PassF nm fr → fr.Raw → fr.Ok ∧ FewF fr ∧ CopF fr ∧ NumsR fr := by
  intro fr
  induction fr with
  | nil => intro _ _; exact ⟨trivial, trivial, trivial, trivial⟩
  | cons h k r _ ih =>
    intro hp hr
    obtain ⟨h1, h2, h3, h4, h5, h6⟩ := smallD_ok hr.1 hr.2.1 (Int.le_refl _) hp.1.1
    obtain ⟨i1, i2, i3, i4⟩ := ih hp.2 hr.2.2
    obtain ⟨n1, n2⟩ := rightD_nums hp.1.2
    exact ⟨⟨h1, h2, i1⟩, ⟨by omega, h3, i2⟩, ⟨by omega, rightD_cnt hp.1.2, i3⟩, ⟨n1, n2, i4⟩⟩

set_option maxRecDepth 100000 in
/-- data copied into a row of one's own -/
theorem wp_copyD {ops : Array Oper} {rest : List Oper} {o : Oper} {a : Act} {Q : Exit → Act → World → Prop} (hgd : o.guard = none) (s x : Operand)
    (ho : o.op = .call { callee := .builtin .append, args := #[s, x], argTypes := #[28, 28] }) (w : World) (A : Option Addr) (c : Nat) (fr : Fr) (hit : ∃ b off, (0 < fr.len → A = some ⟨b, off, none⟩) ∧ FAt w b off fr) (hl : fr.len ≤ 1000) (hnil : A = none → fr.len = 0 ∧ c = 0)
    (hs : a.eval s = .slice (some ⟨w.heap.size, 0, none⟩) 0 0) (hx : a.eval x = .slice A fr.len c)
    (h : ∀ g cap w1 cur, fr.len ≤ cap → cap ≤ 9223372036854775807 → w.heap.size ≤ g → w1.heap[g]? = some (.cells cur 30 (0, 0)) → cur.size = cap * 8 → FAt w1 g 0 fr → Below w.heap.size w w1 → wpList Tryz.prog ops Q rest (a.put o.dst (.slice (some ⟨g, 0, none⟩) fr.len cap)) w1) :
    wpList Tryz.prog ops Q (o :: rest) a (w.alloc (.cells #[] 30)) := by
  have hi := datum_info
  have hby := datum_bytes
  cases hinf : Tryz.prog.info? 30 with
  | none => rw [hinf] at hi; cases hi
  | some i0 =>
  rw [hinf] at hi hby
  simp only [Option.map_some, Option.some.injEq, Prod.mk.injEq, decide_eq_true_eq] at hi hby
  have hrow := World.ownsRow_made w (e := 30) (size := 8) (base := w.heap.size) #[] 0 (by omega) (Nat.zero_le _) (by simp)
  have hba : Below w.heap.size w (w.alloc (.cells #[] 30)) := (Below.refl _ w).alloc (Nat.le_refl _) _
  obtain ⟨b, off, hA, hF⟩ := hit
  rcases A with _ | ad
  · obtain ⟨hx0, rfl⟩ := hnil rfl
    have hk0 : fr = .nil := by
      cases fr with
      | nil => rfl
      | cons x y z => have h3 : z.len + 1 = 0 := hx0; omega
    subst hk0
    exact wpList_append_own_none hgd s x _ ho w.heap.size _ i0 8 Tryz.underlying28 hinf _ _ _ hs hrow hx (h w.heap.size 0 _ #[] (Nat.le_refl _) (by decide) (Nat.le_refl _) (heap_alloc_new w _) rfl trivial hba)
  · have hsrc : ∀ j u, (cellsF fr)[j]? = some u → (w.alloc (.cells #[] 30)).cell? (ad.add j) = some u := by
      intro j u hu
      have hp : 0 < fr.len := by
        rcases Nat.eq_zero_or_pos fr.len with h0 | h0
        · have hz : (cellsF fr).length = 0 := by rw [cellsF_len, h0]
          rw [List.eq_nil_of_length_eq_zero hz] at hu
          cases hu
        · exact h0
      have e := hA hp
      injection e with e
      subst e
      have ha : ((⟨b, off, none⟩ : Addr).add j) = ⟨b, off + j, none⟩ := by
        unfold Addr.add
        split <;> simp_all
      rw [ha]
      exact fat_cells (FAt.below hba _ _ _ hF) j u hu
    refine wpList_append_own_at _ hgd s x 28 ho w.heap.size 30 i0 _ 8 i0.bytes Tryz.underlying28 hinf hi.1 hi.2 rfl rfl (by decide) _ _ _ hs hrow ad fr.len c (cellsF fr) hx (cellsF_len fr) hsrc (cellsF_one fr) (by unfold maxLen; omega)
      (Nat.le_trans (Nat.mul_le_mul (by omega : 0 + fr.len ≤ 1000) hby) (by decide)) (by simp) ?_
    intro v1 w1 hown1 hg1 hiff hnw
    have hb1 : Below w.heap.size w w1 := hba.grown hg1 (by simp) (fun k e => by have e3 : some w.heap.size = some k := e; injection e3 with e3; omega)
    rw [Nat.zero_add] at hown1
    obtain ⟨hl1, ⟨rfl, h0⟩ | ⟨g, cap, cur, rfl, hgb, hh, h1, h2, h3, h4⟩⟩ := hown1
    · have h2 : Value.slice (some ⟨w.heap.size, 0, none⟩) 0 0 = .slice none 0 0 := (hiff.1 rfl).1
      cases h2
    · refine h g cap w1 cur h1 (by unfold maxLen at h2; omega) hgb hh h3 (fat_move hb1 (heap_lt hh) hF fun j u hu => ?_) hb1
      have hj : j < fr.len * 8 := by
        rcases Nat.lt_or_ge j (fr.len * 8) with h | h
        · exact h
        · rw [List.getElem?_eq_none (by rw [cellsF_len]; exact h)] at hu; cases hu
      have h5 : cur.toList.take (fr.len * 8) = cellsF fr := by simpa using h4
      rw [← h5, List.getElem?_take, if_pos hj, Array.getElem?_toList] at hu
      rw [Nat.zero_add]
      simp only [World.cell?, hh]
      exact hu

/-- only block g is another one -/
structure Onl (w : World) (g N : Nat) (W0 W : World) : Prop where
  bel : Below w.heap.size w W
  blk : ∃ cur, W.heap[g]? = some (.cells cur 30 (0, 0)) ∧ cur.size = N
  oth : ∀ k, k ≠ g → W.heap[k]? = W0.heap[k]?
  siz : W.heap.size = W0.heap.size
theorem Onl.set {w W0 W : World} {g N : Nat} (h : Onl w g N W0 W) (hg : w.heap.size ≤ g) (i : Nat) (v : Value) : Onl w g N W0 (W.setCell ⟨g, i, none⟩ v) := by
  obtain ⟨h1, ⟨cur, h2, h3⟩, h4, h5⟩ := h
  refine ⟨h1.setCell hg v, ⟨cur.setIfInBounds i v, heap_setCell_same W g i cur _ v h2, by rw [Array.size_setIfInBounds]; exact h3⟩, fun k hk => (Below.heap_setCell W _ v k hk).trans (h4 k hk), by simp [World.setCell]; exact h5⟩
theorem Onl.cell {w W0 W : World} {g N : Nat} (h : Onl w g N W0 W) {i : Nat} (hi : i < N) : ∃ u, W.cell? ⟨g, i, none⟩ = some u := by
  obtain ⟨-, ⟨cur, h2, h3⟩, -, -⟩ := h
  exact ⟨cur[i]'(by omega), by simp only [World.cell?, h2]; exact Array.getElem?_eq_getElem (by omega)⟩
theorem Onl.free {w W0 W : World} {g N : Nat} (h : Onl w g N W0 W) {i : Nat} (hi : i < N) : W.frozen? ⟨g, i, none⟩ = false := by
  obtain ⟨-, ⟨cur, h2, h3⟩, -, -⟩ := h
  exact ob_free h2 i (by omega)
end LM
end Go.Proofs.YtnpmfailpgbggaaGreatDoor

namespace Go.Proofs.YtnpmfailpgbggaaGreatDoor
open Go Go.RowKit
namespace LM
set_option linter.unusedVariables false
attribute [local go_sem] run_store_flt

theorem same_nils (W : World) : CallB W 34 #[.slice none 0 0, .slice none 0 0] (.bool true) := fun V hV =>
  rdlist_any .nil .nil none none 0 0 0 0 0 0 V (fun h => absurd h (Nat.lt_irrefl 0)) (fun h => absurd h (Nat.lt_irrefl 0)) trivial trivial (Nat.le_refl _) (by decide) (Nat.le_refl _) (by decide) (fun hh k hh' k' j r r' e => by cases j <;> cases e)
/-- the numbers of one int are the same -/
theorem num_same {z : Int} (h1 : -9223372036854775808 ≤ z) (h2 : z ≤ 9223372036854775807) {A1 A2 : Option Addr} {xs1 xs2 : List Nat} {c1 c2 : Nat} {W : World} (l1 : xs1.length ≤ c1) (m1 : c1 ≤ 9223372036854775807) (r1 : Rd W A1 xs1) (k1 : Can xs1) (v1 : val xs1 = z.natAbs)
    (l2 : xs2.length ≤ c2) (m2 : c2 ≤ 9223372036854775807) (r2 : Rd W A2 xs2) (k2 : Can xs2) (v2 : val xs2 = z.natAbs) :
    Calls Tryz.prog 13 #[datA (numHd (decide (z < 0)) A1 xs1 c1) 0, datA (numHd (decide (z < 0)) A2 xs2 c2) 0] W fun e w' => e = .returned (.bool true) ∧ Below W.heap.size W w' := by
  have hr : ∀ xs : List Nat, Can xs → val xs = z.natAbs → rightN false 0 (decide (z < 0)) xs = true := fun xs hk hv => by
    unfold rightN rightB
    have hlen : xs.length ≤ 64 := by
      have e2 : (4294967296 : Nat) ^ 2 = 18446744073709551616 := by decide
      have := mt (can_len hk 2).1 (by rw [hv, e2]; omega)
      omega
    have hz : ¬ (decide (z < 0) = true ∧ xs.length = 0) := fun ⟨h, h0⟩ => by
      have h3 : xs = [] := List.eq_nil_of_length_eq_zero h0
      rw [h3] at hv
      have h4 : val [] = 0 := rfl
      have := of_decide_eq_true h
      omega
    simp [hlen, hk.2]
    rcases Int.lt_or_le z 0 with h | h
    · exact .inr fun h0 => hz ⟨decide_eq_true h, by rw [h0]; rfl⟩
    · exact .inl h
  have hT := rtsame_any (w := W) (h := numHd (decide (z < 0)) A1 xs1 c1) (h' := numHd (decide (z < 0)) A2 xs2 c2) (numOk_of (hr _ k1 v1) (show (0 : Nat) < 18446744073709551616 by decide) r1 k1.1 l1 m1) (numOk_of (hr _ k2 v2) (show (0 : Nat) < 18446744073709551616 by decide) r2 k2.1 l2 m2) (hr _ k1 v1) (hr _ k2 v2) r1 r2 k1.1 k2.1 ⟨l1, m1⟩ ⟨l2, m2⟩
  have hn : numS (numHd (decide (z < 0)) A1 xs1 c1) (numHd (decide (z < 0)) A2 xs2 c2) = true := by
    unfold numS
    simp [v1, v2]
  have := rdsame_go (numHd (decide (z < 0)) A1 xs1 c1) (numHd (decide (z < 0)) A2 xs2 c2) .nil .nil true W hT (same_nils W)
  have hh : headS (numHd (decide (z < 0)) A1 xs1 c1) (numHd (decide (z < 0)) A2 xs2 c2) = true := by
    unfold headS
    rw [hn]
    simp
  rw [hh] at this
  exact this
theorem zero_same (W : World) : CallB W 33 #[numA false 0 false none 0 0, numA false 0 false none 0 0] (.bool true) := by
  have hz : rightN zHd.fl zHd.f zHd.s zHd.xs = true := by decide
  have := rtsame_any (w := W) (h := zHd) (h' := zHd) (numOk_of hz (by decide) Rd.nil Lm.nil (Nat.le_refl _) (by decide)) (numOk_of hz (by decide) Rd.nil Lm.nil (Nat.le_refl _) (by decide)) hz hz Rd.nil Rd.nil Lm.nil Lm.nil ⟨Nat.le_refl _, by decide⟩ ⟨Nat.le_refl _, by decide⟩
  exact this
theorem sym_same (s : ByteArray) (W : World) :
    Calls Tryz.prog 13 #[datA (symHd s) 0, datA (symHd s) 0] W fun e w' => e = .returned (.bool true) ∧ Below W.heap.size W w' := by
  have := rdsame_go (symHd s) (symHd s) .nil .nil true W (zero_same W) (same_nils W)
  have hh : headS (symHd s) (symHd s) = true := by
    unfold headS numS
    simp
  rw [hh] at this
  exact this
theorem list_ok {B : Option Addr} {c n : Nat} (hc : n ≤ c ∧ c ≤ 9223372036854775807) (hn : B = none → n = 0 ∧ c = 0) (hs : ∀ ad, B = some ad → 0 < c → ad.spot = none) : (listHd B c).Ok n :=
  ⟨by dsimp only [listHd]; decide, by dsimp only [listHd]; decide, by dsimp only [listHd]; decide, by simp [Lm], by dsimp only [listHd]; decide, fun _ => ⟨rfl, rfl⟩, by dsimp only [listHd]; decide, by dsimp only [listHd]; decide, hc, hn, fun ad e => (by cases e), hs⟩
theorem list_same {B B' : Option Addr} {c c' : Nat} {a b : Fr} {W : World} (da : DatV W (listHd B c) a) (db : DatV W (listHd B' c') b) (oa : (listHd B c).Ok a.len) (ob : (listHd B' c').Ok b.len) (ka : a.Ok) (kb : b.Ok) (na : NumsR a) (nb : NumsR b) (hs : sameF a b = true) :
    Calls Tryz.prog 13 #[datA (listHd B c) a.len, datA (listHd B' c') b.len] W fun e w' => e = .returned (.bool true) ∧ Below W.heap.size W w' := by
  have := rdsame_any (a.size + 1) a b (by omega) ka kb na nb (listHd B c) (listHd B' c') W da db oa ob (show rightN false 0 false [] = true by decide) (show rightN false 0 false [] = true by decide)
  have hh : headS (listHd B c) (listHd B' c') = true := by
    unfold headS numS
    simp
  rw [hh, hs] at this
  exact this

set_option maxRecDepth 100000 in
set_option maxHeartbeats 8000000 in
theorem dmakes_by (nm : ByteArray → Bool) (n : Int) (hn1 : -9223372036854775808 ≤ n) (hn2 : n ≤ 9223372036854775807) (s : ByteArray) (hs : s.size ≤ 281474976710656) (B : Option Addr) (cap : Nat) (fr : Fr) (w : World)
    (hit : ∃ b off, (0 < fr.len → B = some ⟨b, off, none⟩) ∧ FAt w b off fr) (hraw : fr.Raw) (hc : fr.len ≤ cap ∧ cap ≤ 9223372036854775807) (hnil : B = none → fr.len = 0 ∧ cap = 0) (hsp : ∀ ad, B = some ad → 0 < cap → ad.spot = none)
    (hnr : ∀ t, CallB w 92 #[.string t] (.bool (nm t)))
    (hal : ∀ W, Below w.heap.size w W → Calls Tryz.prog 6 #[] W fun e w' => e = .returned (.bool true) ∧ Below W.heap.size W w') :
    Calls Tryz.prog 4 #[.int .i64 n, .string s, .slice B fr.len cap] w fun e w' => e = .returned (.bool true) ∧ Below w.heap.size w w' := by
  have AL := Lib.hid (hal w (Below.refl _ _))
  have HS := Lib.hid hs
  have HRAW := Lib.hid hraw
  have HNR := Lib.hid hnr
  obtain ⟨b, off, hB, hF⟩ := hit
  have HB := Lib.hid hB
  have HF := Lib.hid hF
  have hc1 := hc.1
  have hc2 := hc.2
  clear hal hs hraw hnr hB hF
  go_enter Tryz.func4, Tryz.ntmps4
  go_wp2_with (fail)
  refine AL.out.mono ?_
  rintro e w1 ⟨rfl, hb1⟩
  have HB1 := Lib.hid hb1
  clear hb1
  by_cases h50 : 50 < fr.len
  · have d1 : decide (50 < (fr.len : Int)) = true := decide_eq_true (by omega)
    have d2 : decide (50 < fr.len) = true := decide_eq_true h50
    go_wp2_with (fail)
    go_ret
    exact ⟨rfl, HB1.out⟩
  have d1 : decide (50 < (fr.len : Int)) = false := decide_eq_false (by omega)
  have d2 : decide (50 < fr.len) = false := decide_eq_false h50
  go_wp2_with (fail)
  go_loopg [8, 19] fr.len (fun kk _ i wr => Below w.heap.size w wr ∧ ∃ j : Nat, j ≤ fr.len ∧ kk = fr.len - j ∧ i = .int .i64 (j : Int) ∧ ∃ x0, fr = x0.app (fr.drop j) ∧ PassF nm x0)
  case atStart => exact ⟨HB1.out, 0, Nat.zero_le _, rfl, rfl, .nil, rfl, trivial⟩
  case round =>
    obtain ⟨hbr, j, hj, rfl, rfl, x0, hx0, hpx⟩ := hrel
    have HBR := Lib.hid hbr
    have HX := Lib.hid hx0
    have HPX := Lib.hid hpx
    clear hbr hx0 hpx
    by_cases hjl : j < fr.len
    · obtain ⟨hh, k, r, hdr, hdr1⟩ := Fr.cons_of_lt hjl
      have hBe := HB.out (by omega)
      rw [hBe]
      obtain ⟨hbl, C, D⟩ := counted_item (FAt.below (HBR.out.mono (Nat.le_refl _)) _ _ _ HF.out) hdr
      have hkr := Fr.Raw.drop j HRAW.out
      rw [hdr] at hkr
      obtain ⟨v, hv⟩ : ∃ v, smallD 0 4000 hh k = v := ⟨_, rfl⟩
      obtain ⟨Wx, hWx⟩ : ∃ Wx, wr.alloc (datO hh k.len) = Wx := ⟨_, rfl⟩
      have hba : Below wr.heap.size wr Wx := by rw [← hWx]; exact (Below.refl _ wr).alloc (Nat.le_refl _) _
      have hox : Wx.heap[wr.heap.size]? = some (datO hh k.len) := by rw [← hWx]; exact heap_alloc_new wr _
      have hlx := heap_lt hox
      have SM := Lib.hid (dsmall_any (k.size + 1) k (by omega) hkr.2.1 hh 0 4000 Wx (D.below hba) hkr.1 (by decide) (by decide) (by decide) (by decide))
      rw [hv] at SM
      have HV := Lib.hid hv
      have HKR := Lib.hid hkr
      have HBX := Lib.hid (bel_trans (B := w.heap.size) HBR.out hba)
      have HDX := Lib.hid (D.below hba)
      have KX : Hid (∀ W, Below Wx.heap.size Wx W → C8 W wr.heap.size 0 hh k.len) := Lib.hid fun W hW => C8.of_block ((hW.block _ hlx).trans hox)
      have HWX := Lib.hid hWx
      have HDR := Lib.hid hdr
      have HDR1 := Lib.hid hdr1
      obtain ⟨x0', x1, x2, x3, x4, x5, x6, x7⟩ := C
      clear hdr hdr1 hkr hv hba hox hlx D hWx
      go_wp2_with (fail)
      rw [HWX.out]
      refine SM.out.mono ?_
      rintro e w2 ⟨rfl, hb2⟩
      have HB2 := Lib.hid (bel_trans (B := w.heap.size) HBX.out hb2)
      have B2 := Lib.hid hb2
      obtain ⟨y0, y1, y2, y3, y4, y5, y6, y7⟩ := KX.out _ hb2
      clear hb2 x0' x1 x2 x3 x4 x5 x6 x7
      by_cases hv0 : v < 0
      · have d9 : decide (v < 0) = true := decide_eq_true hv0
        clear hv0
        go_wp2_with (fail)
        go_ret
        exact ⟨rfl, HB2.out⟩
      · have d9 : decide (v < 0) = false := decide_eq_false hv0
        have hns : ¬ smallD 0 4000 hh k < 0 := by rw [HV.out]; exact hv0
        obtain ⟨ok, kok, few, smf, kl, xl⟩ := smallD_ok HKR.out.1 HKR.out.2.1 (Int.le_refl _) hns
        obtain ⟨tx1, tx2⟩ := smallD_tx (Int.le_refl _) hns
        have RR := Lib.hid (rdRight_any nm k kok tx2 hh w2 (HDX.out.below B2.out) ok tx1 (fun t _ => callB_keep (HNR.out t) HB2.out))
        obtain ⟨q, hq⟩ : ∃ q, rightD nm hh k = q := ⟨_, rfl⟩
        rw [hq] at RR
        have HQ := Lib.hid hq
        have HNS := Lib.hid (Int.not_lt.1 hns)
        clear hv0 hns ok kok few smf kl xl tx1 tx2 hq
        go_wp2_with (fail)
        refine RR.out.mono ?_
        rintro e w3 ⟨rfl, hb3⟩
        have HB3 := Lib.hid (bel_trans (B := w.heap.size) HB2.out hb3)
        clear hb3 y0 y1 y2 y3 y4 y5 y6 y7
        cases q
        · go_wp2_with (fail)
          go_ret
          exact ⟨rfl, HB3.out⟩
        · go_wp2_with (fail)
          rw [← hBe]
          go_roundg (fr.len - (j + 1))
          case measure => omega
          case rel => exact ⟨HB3.out, j + 1, by omega, rfl, by go_num, x0.app (.cons hh k .nil), by rw [HDR1.out, app_snoc, ← HDR.out]; exact HX.out, PassF.snoc ⟨Int.not_lt.2 HNS.out, HQ.out⟩ HPX.out⟩
    · have hje : j = fr.len := by omega
      subst hje
      have hx0 := HX.out
      rw [drop_all, app_nil] at hx0
      subst hx0
      obtain ⟨ok, few, cop, nums⟩ := HPX.out.facts HRAW.out
      have OK := Lib.hid ok
      have FEW := Lib.hid few
      have COP := Lib.hid cop
      have NUMS := Lib.hid nums
      have hl50 : fr.len ≤ 50 := by omega
      have HIT : Hid (∃ b off, (0 < fr.len → B = some ⟨b, off, none⟩) ∧ FAt wr b off fr) := Lib.hid ⟨b, off, HB.out, FAt.below HBR.out _ _ _ HF.out⟩
      clear ok few cop nums d1 d2 h50 hj hjl
      go_wp2_with (at_builtin; refine wp_copyD rfl _ _ rfl wr B cap fr HIT.out (by omega) hnil rfl rfl ?_; intro g cg w2 cur p1 p2 p3 p4 p5 p6 p7; have HG := Lib.hid p3; have HCUR := Lib.hid p4; have HCZ := Lib.hid p5; have HFG := Lib.hid p6; have HB2 := Lib.hid (bel_trans (B := w.heap.size) HBR.out p7); clear p3 p4 p5 p6 p7)
      refine (dlist_any fr OK.out FEW.out COP.out (by omega) (some ⟨g, 0, none⟩) cg g 0 w2 (fun _ => rfl) HFG.out p1 p2).mono ?_
      rintro e w3 ⟨Bd, cd, done, rfl, hdl, dd, da, dok, doks, dfr1, dfr2, db⟩
      obtain ⟨W3, hW3⟩ : ∃ W3, w3.alloc (datO (listHd Bd cd) done.len) = W3 := ⟨_, rfl⟩
      have hba3 : Below w3.heap.size w3 W3 := by rw [← hW3]; exact (Below.refl _ w3).alloc (Nat.le_refl _) _
      have hod : W3.heap[w3.heap.size]? = some (datO (listHd Bd cd) done.len) := by rw [← hW3]; exact heap_alloc_new w3 _
      have hg2 := heap_lt HCUR.out
      have hg := HG.out
      have hwr := HBR.out.size
      have hb3 := bel_trans (B := w.heap.size) HB2.out (bel_trans (B := w2.heap.size) db hba3)
      have hon : Onl w g (cg * 8) W3 W3 := ⟨hb3, ⟨cur, (hba3.block _ (Nat.lt_of_lt_of_le hg2 db.size)).trans ((db.block _ hg2).trans HCUR.out), HCZ.out⟩, fun _ _ => rfl, rfl⟩
      have HON := Lib.hid hon
      dsimp only [datO, listHd, List.length_nil] at hW3
      have HW3 := Lib.hid hW3
      have HOD := Lib.hid hod
      have DD := Lib.hid (dd.below hba3)
      have DA := Lib.hid da
      have DOK := Lib.hid dok
      have DOKS := Lib.hid doks
      have DF1 := Lib.hid dfr1
      have DF2 := Lib.hid dfr2
      have HDL := Lib.hid hdl
      have HG2 := Lib.hid hg2
      have HGW := Lib.hid (show w.heap.size ≤ g by omega)
      have HB3 := Lib.hid hb3
      have HDB := Lib.hid (show g < w3.heap.size from Nat.lt_of_lt_of_le hg2 db.size)
      clear hba3 hod hon da dok doks dfr1 dfr2 dd db hb3 hg2 hg hwr hdl hW3
      go_wp2_with (fail)
      rw [HW3.out]
      go_loopg [11, 39] fr.len (fun kk _ i wz => ∃ j : Nat, j ≤ fr.len ∧ kk = fr.len - j ∧ i = .int .i64 (j : Int) ∧ Onl w g (cg * 8) W3 wz)
      case atStart => exact ⟨0, Nat.zero_le _, rfl, rfl, HON.out⟩
      case round =>
        obtain ⟨j, hj, rfl, rfl, ho⟩ := hrel
        by_cases hjl : j < fr.len
        · obtain ⟨u0, m0⟩ := ho.cell (i := j * 8) (by omega)
          obtain ⟨u1, m1⟩ := ho.cell (i := j * 8 + 1) (by omega)
          obtain ⟨u2, m2⟩ := ho.cell (i := j * 8 + 2) (by omega)
          obtain ⟨u3, m3⟩ := ho.cell (i := j * 8 + 3) (by omega)
          obtain ⟨u4, m4⟩ := ho.cell (i := j * 8 + 4) (by omega)
          obtain ⟨u5, m5⟩ := ho.cell (i := j * 8 + 5) (by omega)
          obtain ⟨u6, m6⟩ := ho.cell (i := j * 8 + 6) (by omega)
          obtain ⟨u7, m7⟩ := ho.cell (i := j * 8 + 7) (by omega)
          have f0 := ho.free (i := j * 8) (by omega)
          have f1 := ho.free (i := j * 8 + 1) (by omega)
          have f2 := ho.free (i := j * 8 + 2) (by omega)
          have f3 := ho.free (i := j * 8 + 3) (by omega)
          have f4 := ho.free (i := j * 8 + 4) (by omega)
          have f5 := ho.free (i := j * 8 + 5) (by omega)
          have f6 := ho.free (i := j * 8 + 6) (by omega)
          have f7 := ho.free (i := j * 8 + 7) (by omega)
          have ON := Lib.hid ((((((((ho.set HGW.out (j * 8) (.int .i64 0)).set HGW.out (j * 8 + 1) (.int .i64 0)).set HGW.out (j * 8 + 2) (.bool false)).set HGW.out (j * 8 + 3) (.float .f64 0)).set HGW.out (j * 8 + 4) (.bool false)).set HGW.out (j * 8 + 5) (.slice none 0 0)).set HGW.out (j * 8 + 6) (.string ⟨#[]⟩)).set HGW.out (j * 8 + 7) (.slice none 0 0))
          clear ho
          go_wp2_with (fail)
          go_roundg (fr.len - (j + 1))
          case measure => omega
          case rel => exact ⟨j + 1, by omega, rfl, by go_num, ON.out⟩
        · have hje : j = fr.len := by omega
          subst hje
          clear hj hjl
          have hgk : w3.heap.size ≠ g := by have := HDB.out; omega
          have hod := (ho.oth _ hgk).trans HOD.out
          have hbw := ho.bel
          have hdd : DatV wr (listHd Bd cd) done := by
            obtain ⟨dx, db, doff, d1, d2⟩ := DD.out
            refine ⟨Rd.nil, db, doff, d1, ?_⟩
            rcases Nat.eq_zero_or_pos done.len with h0 | h0
            · cases done with
              | nil => exact trivial
              | cons x y z => have h3 : z.len + 1 = 0 := h0; omega
            · have hne : db ≠ g := by have h7 : w2.heap.size ≤ db := DF1.out h0 _ (d1 h0); have := HG2.out; omega
              exact FAt.other ho.siz ho.oth d2 (FreshF.away HG2.out DF2.out) hne
          have HBW := Lib.hid hbw.drew
          have HDD := Lib.hid (hdd.below ((Below.refl _ wr).drew))
          have hlw := heap_lt hod
          have OB : Hid (∀ W, Below wr.drew.heap.size wr.drew W → W.heap[w3.heap.size]? = some (datO (listHd Bd cd) done.len)) := Lib.hid fun W hW => (hW.block _ hlw).trans hod
          have DL : Hid (∀ W, Below wr.drew.heap.size wr.drew W → Calls Tryz.prog 13 #[.agg #[.int .i64 5, .int .i64 0, .bool false, .float .f64 0, .bool false, .slice none 0 0, .string ⟨#[]⟩, .slice Bd done.len cd], datA (listHd B cap) fr.len] W fun e w' => e = .returned (.bool true) ∧ Below W.heap.size W w') := Lib.hid fun W hW =>
            list_same (HDD.out.below hW) ⟨Rd.nil, b, off, HB.out, FAt.below (bel_trans (B := w.heap.size) HBW.out hW) _ _ _ HF.out⟩ DOK.out (list_ok ⟨hc1, hc2⟩ hnil hsp) DOKS.out OK.out (nums_alike DA.out NUMS.out) NUMS.out (sameF_alike DA.out).2
          have KS : Hid (∀ W : World, W.heap[w3.heap.size]? = some (datO (listHd Bd cd) done.len) → W.cell? ⟨w3.heap.size, 0, none⟩ = some (.int .i64 5) ∧ W.cell? ⟨w3.heap.size, 1, none⟩ = some (.int .i64 0) ∧ W.cell? ⟨w3.heap.size, 2, none⟩ = some (.bool false) ∧ W.cell? ⟨w3.heap.size, 3, none⟩ = some (.float .f64 0) ∧ W.cell? ⟨w3.heap.size, 4, none⟩ = some (.bool false) ∧ W.cell? ⟨w3.heap.size, 5, none⟩ = some (.slice none 0 0) ∧ W.cell? ⟨w3.heap.size, 6, none⟩ = some (.string ⟨#[]⟩) ∧ W.cell? ⟨w3.heap.size, 7, none⟩ = some (.slice Bd done.len cd)) := Lib.hid fun W h =>
            ⟨ob_cell h 0, ob_cell h 1, ob_cell h 2, ob_cell h 3, ob_cell h 4, ob_cell h 5, ob_cell h 6, ob_cell h 7⟩
          have O0 := Lib.hid (OB.out _ (Below.refl _ _))
          have D1 := Lib.hid (dnum_any n hn1 hn2 wr.drew)
          clear hod hbw hdd hlw ho
          go_wp2_with (fail)
          go_region_held3 (fun W => W.cell? ⟨w3.heap.size, 0, none⟩ = some (.int .i64 5) ∧ W.cell? ⟨w3.heap.size, 1, none⟩ = some (.int .i64 0) ∧ W.cell? ⟨w3.heap.size, 2, none⟩ = some (.bool false) ∧ W.cell? ⟨w3.heap.size, 3, none⟩ = some (.float .f64 0) ∧ W.cell? ⟨w3.heap.size, 4, none⟩ = some (.bool false) ∧ W.cell? ⟨w3.heap.size, 5, none⟩ = some (.slice none 0 0) ∧ W.cell? ⟨w3.heap.size, 6, none⟩ = some (.string ⟨#[]⟩) ∧ W.cell? ⟨w3.heap.size, 7, none⟩ = some (.slice Bd done.len cd))
            ((exact KS.out _ (Hid.out (by assumption))))
            (first
              | (go_at_call 17; (with_reducible refine D1.out.mono ?_); rintro e v1 ⟨A1, xs1, cc1, rfl, g1, g2, g3, g4, g5, hbz⟩; have Z1 := Lib.hid hbz; have O1 := Lib.hid (OB.out _ Z1.out); have G1 := Lib.hid (And.intro g1 (And.intro g2 (And.intro g3 (And.intro g4 g5)))); have D2 := Lib.hid (rdnum_any n hn1 hn2 v1); clear hbz g1 g2 g3 g4 g5)
              | (go_at_call 18; (with_reducible refine D2.out.mono ?_); rintro e v2 ⟨A2, xs2, cc2, rfl, g1, g2, g3, g4, g5, hbz⟩; have Z2 := Lib.hid (bel_trans (B := wr.drew.heap.size) Z1.out hbz); have O2 := Lib.hid (OB.out _ Z2.out); have D3 := Lib.hid (num_same hn1 hn2 G1.out.1 G1.out.2.1 (G1.out.2.2.1.below hbz) G1.out.2.2.2.1 G1.out.2.2.2.2 g1 g2 g3 g4 g5); clear hbz g1 g2 g3 g4 g5)
              | (go_at_call 13; (with_reducible refine D3.out.mono ?_); rintro e v3 ⟨rfl, hbz⟩; have Z3 := Lib.hid (bel_trans (B := wr.drew.heap.size) Z2.out hbz); have O3 := Lib.hid (OB.out _ Z3.out); have D4 := Lib.hid (dsym_any s HS.out v3); clear hbz)
              | (go_at_call 19; (with_reducible refine D4.out.mono ?_); rintro e v4 ⟨rfl, hbz⟩; have Z4 := Lib.hid (bel_trans (B := wr.drew.heap.size) Z3.out hbz); have O4 := Lib.hid (OB.out _ Z4.out); have D5 := Lib.hid (rsym_any s v4); clear hbz)
              | (go_at_call 20; (with_reducible refine D5.out.mono ?_); rintro e v5 ⟨rfl, hbz⟩; have Z5 := Lib.hid (bel_trans (B := wr.drew.heap.size) Z4.out hbz); have O5 := Lib.hid (OB.out _ Z5.out); have D6 := Lib.hid (sym_same s v5); clear hbz)
              | (go_at_call 13; (with_reducible refine D6.out.mono ?_); rintro e v6 ⟨rfl, hbz⟩; have Z6 := Lib.hid (bel_trans (B := wr.drew.heap.size) Z5.out hbz); have O6 := Lib.hid (OB.out _ Z6.out); have D7 := Lib.hid (rlist_any B fr.len cap v6); clear hbz)
              | (go_at_call 21; (with_reducible refine D7.out.mono ?_); rintro e v7 ⟨rfl, hbz⟩; have Z7 := Lib.hid (bel_trans (B := wr.drew.heap.size) Z6.out hbz); have O7 := Lib.hid (OB.out _ Z7.out); have D8 := Lib.hid (DL.out v7 Z7.out); clear hbz)
              | (go_at_call 13; (with_reducible refine D8.out.mono ?_); rintro e v8 ⟨rfl, hbz⟩; have Z8 := Lib.hid (bel_trans (B := wr.drew.heap.size) Z7.out hbz); have O8 := Lib.hid (OB.out _ Z8.out); clear hbz))
          all_goals
            go_wp2_with (fail)
            go_ret
            exact ⟨by first | rfl | simp, bel_trans (B := w.heap.size) HBW.out Z8.out⟩
end LM
end Go.Proofs.YtnpmfailpgbggaaGreatDoor

namespace Go.Proofs.YtnpmfailpgbggaaGreatDoor
open Go Go.RowKit
namespace LM
set_option linter.unusedVariables false

theorem dmakes_card {l : List (String × DataW Unit)} {nm nr : String} {d dr : DataW Unit} {W : World} (h : laidMetH Tryz.prog l W)
    (e1 : ((l.filter fun x => x.2.handleName?.isNone).filter fun x => x.1 == "unicode/utf8.first") = [("unicode/utf8.first", Lib.firstData)])
    (e2 : ((l.filter fun x => x.2.handleName?.isNone).filter fun x => x.1 == "unicode/utf8.acceptRanges") = [("unicode/utf8.acceptRanges", Lib.acceptData)])
    (c1 : ((l.filter fun x => x.2.handleName?.isNone).filter fun x => x.1 == "internal/strconv.leftcheats") = [("internal/strconv.leftcheats", Go.Pinned.leftcheats)])
    (c2 : ((l.filter fun x => x.2.handleName?.isNone).filter fun x => x.1 == "internal/strconv.powtab") = [("internal/strconv.powtab", .slice (powtabL.map fun x => .lit (.int .i64 ((x : Nat) : Int))) [])])
    (c3 : ((l.filter fun x => x.2.handleName?.isNone).filter fun x => x.1 == "internal/strconv.float64info") = [("internal/strconv.float64info", .agg [.lit (.int .u64 52), .lit (.int .u64 11), .lit (.int .i64 (-1023))])])
    (e3 : ((l.filter fun x => x.2.handleName?.isNone).filter fun x => x.1 == "strconv.ErrSyntax") = [("strconv.ErrSyntax", .iface nm d)])
    (e4 : ((l.filter fun x => x.2.handleName?.isNone).filter fun x => x.1 == "strconv.ErrRange") = [("strconv.ErrRange", .iface nr dr)]) (hv : FV W) (n : Int) (hn : -9223372036854775808 ≤ n ∧ n ≤ 9223372036854775807) (s : ByteArray) (hs : s.size ≤ 140737488351232) (B : Option Addr) (cap : Nat) (fr : Fr)
    (hraw : fr.Raw) (hit : ∃ b off, (0 < fr.len → B = some ⟨b, off, none⟩) ∧ FAt W b off fr) (hc : fr.len ≤ cap ∧ cap ≤ 9223372036854775807) (hnil : B = none → fr.len = 0 ∧ cap = 0) (hsp : ∀ ad, B = some ad → 0 < cap → ad.spot = none) :
    Calls Tryz.prog 4 #[.int .i64 n, .string s, .slice B fr.len cap] W fun e w' => e = .returned (.bool true) ∧ Below W.heap.size W w' := by
  obtain ⟨nmf, hnm⟩ := names_fn W hv (fx_of h c1 c2 c3) (rngcell_of h e4) (sentinel_of h e3)
  exact dmakes_by nmf n hn.1 hn.2 s (by omega) B cap fr W hit hraw hc hnil hsp (fun t => (hnm t).2) fun W2 hW => dalive_any W2 ((sentinel_of h e3).below hW) ((ut_of h e1 e2).keep hW) (hv.below hW).tab

end LM
end Go.Proofs.YtnpmfailpgbggaaGreatDoor
