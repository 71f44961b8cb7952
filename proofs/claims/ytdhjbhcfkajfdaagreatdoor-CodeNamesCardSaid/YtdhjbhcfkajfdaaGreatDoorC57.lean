/- The law CodeNames, of what the row lists. -/
import Derived.Test.YtdhjbhcfkajfdaaGreatDoorC42
import Derived.Test.YtdhjbhcfkajfdaaGreatDoorC56
import Derived.Test.YtdhjbhcfkajfdaaGreatDoorC35
import Derived.Deep.Strs
namespace Go.Proofs.YtdhjbhcfkajfdaaGreatDoor
open Go Go.RowKit
namespace LM
set_option linter.unusedVariables false

/-- the table that counts the low bits, as the row lists it -/
abbrev lowBits : List Int := [0, 1, 56, 2, 57, 49, 28, 3, 61, 58, 42, 50, 38, 29, 17, 4, 62, 47, 59, 36, 45, 43, 51, 22, 53, 39, 33, 30, 24, 18, 12, 5, 63, 55, 48, 27, 60, 41, 37, 16, 46, 35, 44, 21, 52, 32, 23, 11, 54, 26, 40, 15, 34, 20, 31, 10, 25, 14, 19, 9, 13, 8, 7, 6]
theorem db_of {l : List (String × DataW Unit)} {W : World} (h : laidMetH Tryz.prog l W)
    (he : ((l.filter fun x => x.2.handleName?.isNone).filter fun x => x.1 == "math/bits.deBruijn64tab") = [("math/bits.deBruijn64tab", Lib.tabData .u8 lowBits)]) : DB W := by
  have t : Lib.TabIs Tryz.prog W "math/bits.deBruijn64tab" .u8 lowBits :=
    Lib.tabIs_of_head (g := 18) (t := 359) (e := 5) (n := 64) (by kernel_rfl) (by kernel_rfl) Tryz.underlying359 Tryz.underlying5 (by kernel_rfl) (by kernel_rfl) (listed_of h he)
  have hc : W.cell? ⟨18, 15, none⟩ = some (.int .u8 4) := t.cell (by kernel_rfl) 15 (by decide)
  exact ⟨hc, (spot_none hc).2⟩

/-- the table of marks, as the row lists it -/
abbrev marksD : DataW Unit := .agg [.agg [.lit (.string [40]), .lit (.int .i64 0), .lit (.string [])], .agg [.lit (.string [35, 40]), .lit (.int .i64 1), .lit (.string [])], .agg [.lit (.string [41]), .lit (.int .i64 2), .lit (.string [])], .agg [.lit (.string [39]), .lit (.int .i64 3), .lit (.string [113, 117, 111, 116, 101])], .agg [.lit (.string [96]), .lit (.int .i64 3), .lit (.string [113, 117, 97, 115, 105, 113, 117, 111, 116, 101])], .agg [.lit (.string [44, 64]), .lit (.int .i64 3), .lit (.string [117, 110, 113, 117, 111, 116, 101, 45, 115, 112, 108, 105, 99, 105, 110, 103])], .agg [.lit (.string [44]), .lit (.int .i64 3), .lit (.string [117, 110, 113, 117, 111, 116, 101])]]
theorem mark_cells {W : World} {fuel : Nat} {base : Nat} {sp : Nat → Bool} {held : Bool} {H : Type} {enc : TypeId × Value → H} {cs : List Value} {s u : List UInt8} {k : Int} {q : List MemPlace}
    (h : DataW.trod enc Tryz.prog W base sp held fuel 101 cs = some (.agg [.lit (.string s), .lit (.int .i64 k), .lit (.string u)], q)) : cs[0]? = some (.string ⟨s.toArray⟩) ∧ cs[1]? = some (.int .i64 k) ∧ cs[2]? = some (.string ⟨u.toArray⟩) := by
  obtain ⟨y0, y1, y2, n, hx, hl, h0, h1, h2⟩ := Go.Deep.trod_struct3 Tryz.underlying101 h
  have hcs : Tryz.prog.cellsOf 9 = 1 := by kernel_rfl
  have hci : Tryz.prog.cellsOf 3 = 1 := by kernel_rfl
  obtain ⟨s', e0, rfl, _⟩ := DataW.trod_string Tryz.underlying9 h0
  obtain ⟨k', e1, rfl, _⟩ := DataW.trod_int Tryz.underlying3 h1
  obtain ⟨u', e2, rfl, _⟩ := DataW.trod_string Tryz.underlying9 h2
  have hx1 := congrArg Prod.fst hx
  simp only [DataW.agg.injEq, List.cons.injEq, DataW.lit.injEq, Lit.string.injEq, Lit.int.injEq, true_and, and_true] at hx1
  obtain ⟨rfl, rfl, rfl⟩ := hx1
  refine ⟨?_, ?_, ?_⟩
  · have h3 := congrArg (·[0]?) e0
    simpa [List.getElem?_take, List.getElem?_drop, hcs, hci] using h3
  · have h3 := congrArg (·[0]?) e1
    simpa [List.getElem?_take, List.getElem?_drop, hcs, hci] using h3
  · have h3 := congrArg (·[0]?) e2
    simpa [List.getElem?_take, List.getElem?_drop, hcs, hci] using h3
theorem mk_of {l : List (String × DataW Unit)} {W : World} (h : laidMetH Tryz.prog l W)
    (he : ((l.filter fun x => x.2.handleName?.isNone).filter fun x => x.1 == "distaff/reader.marks") = [("distaff/reader.marks", marksD)]) : MK W := fun W' hb => by
  have hl := listed_of h he
  obtain ⟨ps, ⟨g', t', cs, fuel, p, q, hg', ht', hvar, hd, _, _⟩, _⟩ := hl
  obtain rfl := Option.some.inj ((show Tryz.prog.globalNamed "distaff/reader.marks" = some 0 by kernel_rfl).symm.trans hg')
  obtain rfl := Option.some.inj ((show (Tryz.prog.globals[0]?).map (·.type) = some 102 by kernel_rfl).symm.trans ht')
  have hcm : Tryz.prog.cellsOf 101 = 3 := by kernel_rfl
  have hel : ∀ i, i < 7 → ∀ (s u : List UInt8) (k : Int), (match marksD with | .agg ds => ds[i]? | _ => none) = some (.agg [.lit (.string s), .lit (.int .i64 k), .lit (.string u)]) →
      cs[3 * i]? = some (.string ⟨s.toArray⟩) ∧ cs[3 * i + 1]? = some (.int .i64 k) ∧ cs[3 * i + 2]? = some (.string ⟨u.toArray⟩) := fun i hi s u k hds => by
    obtain ⟨fuel', d, q', hdi, hde⟩ := Go.Lib.array_elem Tryz.underlying102 hd i hi
    obtain rfl := Option.some.inj (hdi.symm.trans hds)
    rw [hcm] at hde
    obtain ⟨h0, h1, h2⟩ := mark_cells hde
    rw [Nat.mul_comm i 3, List.getElem?_take, List.getElem?_drop] at h0 h1 h2
    exact ⟨by rw [← Array.getElem?_toList]; exact h0, by rw [← Array.getElem?_toList]; exact h1, by rw [← Array.getElem?_toList]; exact h2⟩
  have hat : ∀ (j : Nat) (v : Value), marksL[j]? = some v → cs[j]? = some v := by
    intro j v hj
    have e0 := hel 0 (by decide) _ _ _ rfl
    have e1 := hel 1 (by decide) _ _ _ rfl
    have e2 := hel 2 (by decide) _ _ _ rfl
    have e3 := hel 3 (by decide) _ _ _ rfl
    have e4 := hel 4 (by decide) _ _ _ rfl
    have e5 := hel 5 (by decide) _ _ _ rfl
    have e6 := hel 6 (by decide) _ _ _ rfl
    have hjl : j < 21 := (List.getElem?_eq_some_iff.1 hj).1
    rcases (by omega : j = 0 ∨ j = 1 ∨ j = 2 ∨ j = 3 ∨ j = 4 ∨ j = 5 ∨ j = 6 ∨ j = 7 ∨ j = 8 ∨ j = 9 ∨ j = 10 ∨ j = 11 ∨ j = 12 ∨ j = 13 ∨ j = 14 ∨ j = 15 ∨ j = 16 ∨ j = 17 ∨ j = 18 ∨ j = 19 ∨ j = 20) with rfl | rfl | rfl | rfl | rfl | rfl | rfl | rfl | rfl | rfl | rfl | rfl | rfl | rfl | rfl | rfl | rfl | rfl | rfl | rfl | rfl
    · exact e0.1.trans hj
    · exact e0.2.1.trans hj
    · exact e0.2.2.trans hj
    · exact e1.1.trans hj
    · exact e1.2.1.trans hj
    · exact e1.2.2.trans hj
    · exact e2.1.trans hj
    · exact e2.2.1.trans hj
    · exact e2.2.2.trans hj
    · exact e3.1.trans hj
    · exact e3.2.1.trans hj
    · exact e3.2.2.trans hj
    · exact e4.1.trans hj
    · exact e4.2.1.trans hj
    · exact e4.2.2.trans hj
    · exact e5.1.trans hj
    · exact e5.2.1.trans hj
    · exact e5.2.2.trans hj
    · exact e6.1.trans hj
    · exact e6.2.1.trans hj
    · exact e6.2.2.trans hj
  have hcell : W.cell? ⟨0, 0, none⟩ = some (.string ⟨#[40]⟩) := (World.var?_cell (by kernel_rfl) hvar 0).trans (hat 0 _ rfl)
  have hlt := (spot_none hcell).2
  intro j v hj
  exact (hb.cell (p := ⟨0, j, none⟩) hlt).trans ((World.var?_cell (by kernel_rfl) hvar j).trans (hat j v hj))

theorem cnames_card {l : List (String × DataW Unit)} {W : World} (h : laidMetH Tryz.prog l W)
    (e0 : ((l.filter fun x => x.2.handleName?.isNone).filter fun x => x.1 == "math/bits.deBruijn64tab") = [("math/bits.deBruijn64tab", Lib.tabData .u8 lowBits)])
    (e1 : ((l.filter fun x => x.2.handleName?.isNone).filter fun x => x.1 == "unicode/utf8.first") = [("unicode/utf8.first", Lib.firstData)])
    (e2 : ((l.filter fun x => x.2.handleName?.isNone).filter fun x => x.1 == "unicode/utf8.acceptRanges") = [("unicode/utf8.acceptRanges", Lib.acceptData)])
    (e3 : ((l.filter fun x => x.2.handleName?.isNone).filter fun x => x.1 == "distaff/reader.marks") = [("distaff/reader.marks", marksD)]) :
    Calls Tryz.prog 3 #[] W fun e w' => e = .returned (.bool true) ∧ Below W.heap.size W w' :=
  cnames_any W (ut_of h e1 e2) (mk_of h e3) (db_of h e0)

end LM
end Go.Proofs.YtdhjbhcfkajfdaaGreatDoor
