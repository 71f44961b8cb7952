/- The walk of the statement LimbNames. -/
import Derived.Test.YtkkogmgboehfdaaDoorLimbLawDigits
namespace Go.Proofs.YtkkogmgboehfdaaDoor
open Go.RowKit
namespace LM

/-- what is listed of the library's sentinel -/
theorem sentinel_of {l : List (String × DataW Unit)} {W : World} {nm : String} {d : DataW Unit} (h : laidMetH Tryd.prog l W)
    (he : ((l.filter fun x => x.2.handleName?.isNone).filter fun x => x.1 == "strconv.ErrSyntax") = [("strconv.ErrSyntax", .iface nm d)]) :
    ∃ ev, W.cell? ⟨0, 0, none⟩ = some ev ∧ 0 < W.heap.size ∧ (ev = .nilIface ∨ ∃ te pe, ev = .iface te pe) := by
  have h1 := (laidMetH_iff.1 h).1.filter fun x => x.1 == "strconv.ErrSyntax"
  rw [he] at h1
  obtain ⟨ps, ⟨g', t', cs, fuel, p, q, hg', ht', hvar, hd, _, _⟩, _⟩ := h1
  obtain rfl := Option.some.inj ((show Tryd.prog.globalNamed "strconv.ErrSyntax" = some 0 by kernel_rfl).symm.trans hg')
  obtain rfl := Option.some.inj ((show (Tryd.prog.globals[0]?).map (·.type) = some 59 by kernel_rfl).symm.trans ht')
  obtain ⟨_, u, v, hcs, _, _⟩ := iface_of_trod Tryd.underlying59 hd
  have hc : W.cell? ⟨0, 0, none⟩ = some (.iface u v) := (World.var?_cell (by kernel_rfl) hvar 0).trans (by rw [← Array.getElem?_toList, hcs]; rfl)
  exact ⟨_, hc, (spot_none hc).2, .inr ⟨_, _, rfl⟩⟩

set_option maxRecDepth 100000 in
set_option maxHeartbeats 2000000 in
theorem names_walk (w : World) (hs : ∃ ev, w.cell? ⟨0, 0, none⟩ = some ev ∧ 0 < w.heap.size ∧ (ev = .nilIface ∨ ∃ te pe, ev = .iface te pe))
    (htab : Lib.TabIs Tryd.prog w "internal/strconv.uint64pow10" .u64 Lib.pow10Tab) :
    Calls Tryd.prog 3 #[] w fun e w' => e = .returned (.bool true) ∧ Below w.heap.size w w' := by
  have HS := Lib.hid hs
  have HTAB := Lib.hid htab
  have nb1 : ¬ BIG 1 := not_big (by decide)
  have nb0 : ¬ BIG 0 := not_big (by decide)
  have N1 := Lib.hid nb1
  have N0 := Lib.hid nb0
  have hnd : ¬ OkText [49, 120] := fun h => by
    have h1 := (h.2.2 120 (by simp)).2
    exact absurd h1 (by decide)
  have HND := Lib.hid hnd
  clear hs htab nb1 nb0 hnd
  go_enter Tryd.func3, Tryd.ntmps3
  go_wp2_with fail
  have B1 : Below w.heap.size w (w.alloc (.cells #[.int .u32 1] 26)) := (Below.refl _ w).alloc (Nat.le_refl _) _
  refine (div_any (some ⟨w.heap.size, 0, none⟩) none 1 0 [1] [] _ (rd_new w [1]) Rd.nil (lm_of (by decide)) Lm.nil (Nat.le_refl _) (Nat.le_refl _) (by decide) (by decide)).mono ?_
  rintro e w2 ⟨q, r, er, rfl, b2, hans⟩
  rcases hans with ⟨hbad, _⟩ | ⟨_, _, _, rfl, rfl, rfl⟩ | ⟨_, _, hbad, _⟩
  · exact (hbad.elim N1.out N0.out).elim
  case inr.inr => exact absurd hbad (by decide)
  have B2 := B1.trans (b2.mono B1.size)
  obtain ⟨ev, hc, hp, hev⟩ := HS.out
  have hc2 : w2.cell? ⟨0, 0, none⟩ = some ev := by rw [← hc]; exact World.cell?_of_block (a := ⟨0, 0, none⟩) (B2.block 0 hp)
  have hpa := parse_any ⟨#[49, 120]⟩ w2 (by decide) (fun _ => ⟨ev, hc2, Nat.lt_of_lt_of_le hp B2.size, hev⟩)
  have HPA := Lib.hid hpa
  clear hpa hc hc2 hp hev b2 B1
  go_wp2_with fail
  refine HPA.out.mono ?_
  rintro e w3 ⟨⟨v, er, rfl, hpe⟩, b3⟩
  rcases hpe with ⟨_, rfl, rfl⟩ | ⟨hbad, _⟩ | ⟨hbad, _⟩
  case inr.inl => exact absurd hbad HND.out
  case inr.inr => exact absurd hbad HND.out
  have B3 := B2.trans (b3.mono B2.size)
  clear b3 HPA
  go_wp2_with fail
  refine (alive_any w3 (tab_below HTAB.out B3)).mono ?_
  rintro e w4 ⟨rfl, b4⟩
  have B4 := B3.trans (b4.mono B3.size)
  clear b4
  go_wp2_with fail
  refine (text_row none 0 [] w4 Rd.nil Lm.nil (Nat.le_refl _) (by decide) (tab_below HTAB.out B4)).mono ?_
  rintro e w5 ⟨⟨l, rfl, ⟨hbad, _⟩ | ⟨_, rfl⟩⟩, b5⟩
  · exact absurd hbad N0.out
  rw [show val [] = 0 from rfl, Lib.decDigits_one (by decide)]
  have B5 := B4.trans (b5.mono B4.size)
  clear b5
  go_wp2
  go_ret
  exact ⟨rfl, B5⟩

end LM
end Go.Proofs.YtkkogmgboehfdaaDoor
