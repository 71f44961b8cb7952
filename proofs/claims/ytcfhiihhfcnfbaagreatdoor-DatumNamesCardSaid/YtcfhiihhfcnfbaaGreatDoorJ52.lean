/- What a row lists of the library's sentinel, as the walk of Parse reads it. -/
import Derived.Test.YtcfhiihhfcnfbaaGreatDoorJ16
import Derived.Test.YtcfhiihhfcnfbaaGreatDoorJ12
namespace Go.Proofs.YtcfhiihhfcnfbaaGreatDoor
open Go.RowKit
namespace LM

/-- what is listed of the library's sentinel -/
theorem sentinel_of {l : List (String × DataW Unit)} {W : World} {nm : String} {d : DataW Unit} (h : laidMetH Tryz.prog l W)
    (he : ((l.filter fun x => x.2.handleName?.isNone).filter fun x => x.1 == "strconv.ErrSyntax") = [("strconv.ErrSyntax", .iface nm d)]) :
    SynCell W := by
  have h1 := (laidMetH_iff.1 h).1.filter fun x => x.1 == "strconv.ErrSyntax"
  rw [he] at h1
  obtain ⟨ps, ⟨g', t', cs, fuel, p, q, hg', ht', hvar, hd, _, _⟩, _⟩ := h1
  obtain rfl := Option.some.inj ((show Tryz.prog.globalNamed "strconv.ErrSyntax" = some 4 by kernel_rfl).symm.trans hg')
  obtain rfl := Option.some.inj ((show (Tryz.prog.globals[4]?).map (·.type) = some 73 by kernel_rfl).symm.trans ht')
  obtain ⟨_, u, v, hcs, _, _⟩ := iface_of_trod Tryz.underlying73 hd
  have hc : W.cell? ⟨4, 0, none⟩ = some (.iface u v) := (World.var?_cell (by kernel_rfl) hvar 0).trans (by rw [← Array.getElem?_toList, hcs]; rfl)
  exact ⟨_, hc, (spot_none hc).2, .inr ⟨_, _, rfl⟩⟩

end LM
end Go.Proofs.YtcfhiihhfcnfbaaGreatDoor
