/- What a row lists of the library's sentinel, as the walk of Parse reads it. -/
import Derived.Test.YtpnjddfnlaonoaaGreatDoorL10
import Derived.Test.YtpnjddfnlaonoaaGreatDoorL07
import Derived.LaidSub
import Derived.Lib.LaidTab
namespace Go.Proofs.YtpnjddfnlaonoaaGreatDoor
open Go.RowKit
namespace LM

theorem div_any (A B : Option Addr) (ca cb : Nat) (xs ys : List Nat) (w : World) (ha : Rd w A xs) (hb : Rd w B ys) (hx : Lm xs) (hy : Lm ys) (hca : xs.length ≤ ca) (hcb : ys.length ≤ cb) (hcam : ca ≤ 9223372036854775807) (hcbm : cb ≤ 9223372036854775807) :
    Calls Tryz.prog 169 #[.slice A xs.length ca, .slice B ys.length cb] w fun e w' => DivE w (val xs) (val ys) e w' := by
  by_cases h1 : BIG (val xs)
  · exact div_small A B ca cb xs ys w ha hb hx hy hca hcb hcam hcbm (.inl h1)
  · by_cases h2 : BIG (val ys)
    · exact div_small A B ca cb xs ys w ha hb hx hy hca hcb hcam hcbm (.inr (.inl h2))
    · rcases Nat.eq_zero_or_pos (val ys) with h3 | h3
      · exact div_small A B ca cb xs ys w ha hb hx hy hca hcb hcam hcbm (.inr (.inr (.inl h3)))
      · rcases Nat.lt_or_ge (trim xs).length (trim ys).length with h4 | h4
        · exact div_small A B ca cb xs ys w ha hb hx hy hca hcb hcam hcbm (.inr (.inr (.inr h4)))
        · exact div_big A B ca cb xs ys w ha hb hx hy hca hcb hcam hcbm h1 h2 h3 h4

/-- what is listed of the table -/
theorem tab_of {l : List (String × DataW Unit)} {W : World} (h : laidMetH Tryz.prog l W)
    (he : ((l.filter fun x => x.2.handleName?.isNone).filter fun x => x.1 == "internal/strconv.uint64pow10") = [("internal/strconv.uint64pow10", Lib.tabData .u64 Lib.pow10Tab)]) : Lib.TabIs Tryz.prog W "internal/strconv.uint64pow10" .u64 Lib.pow10Tab := by
  have h1 := (laidMetH_iff.1 h).1.filter fun x => x.1 == "internal/strconv.uint64pow10"
  rw [he] at h1
  exact Lib.tabIs_of_head (g := 9) (t := 279) (e := 22) (n := 20) (by kernel_rfl) (by kernel_rfl) Tryz.underlying279 Tryz.underlying22 (by kernel_rfl) (by kernel_rfl) h1

theorem spot_none {w : World} {x : Addr} {v : Value} (h : w.cell? x = some v) : x = ⟨x.block, x.off, none⟩ ∧ x.block < w.heap.size := by
  obtain ⟨b, o, s⟩ := x
  unfold World.cell? at h
  dsimp only at h
  cases hb : w.heap[b]? with
  | none => rw [hb] at h; cases h
  | some ob =>
    rw [hb] at h
    have hlt := (Array.getElem?_eq_some_iff.1 hb).1
    cases s with
    | none => exact ⟨rfl, hlt⟩
    | some k =>
      exfalso
      cases ob <;> first | (cases h; done) | simp at h

end LM
end Go.Proofs.YtpnjddfnlaonoaaGreatDoor

namespace Go.Proofs.YtpnjddfnlaonoaaGreatDoor
open Go.RowKit
namespace LM

/-- what is listed of the library's sentinel -/
theorem sentinel_of {l : List (String × DataW Unit)} {W : World} {nm : String} {d : DataW Unit} (h : laidMetH Tryz.prog l W)
    (he : ((l.filter fun x => x.2.handleName?.isNone).filter fun x => x.1 == "strconv.ErrSyntax") = [("strconv.ErrSyntax", .iface nm d)]) :
    SynCell W := by
  have h1 := (laidMetH_iff.1 h).1.filter fun x => x.1 == "strconv.ErrSyntax"
  rw [he] at h1
  obtain ⟨ps, ⟨g', t', cs, fuel, p, q, hg', ht', hvar, hd, _, _⟩, _⟩ := h1
  obtain rfl := Option.some.inj ((show Tryz.prog.globalNamed "strconv.ErrSyntax" = some 3 by kernel_rfl).symm.trans hg')
  obtain rfl := Option.some.inj ((show (Tryz.prog.globals[3]?).map (·.type) = some 66 by kernel_rfl).symm.trans ht')
  obtain ⟨_, u, v, hcs, _, _⟩ := iface_of_trod Tryz.underlying66 hd
  have hc : W.cell? ⟨3, 0, none⟩ = some (.iface u v) := (World.var?_cell (by kernel_rfl) hvar 0).trans (by rw [← Array.getElem?_toList, hcs]; rfl)
  exact ⟨_, hc, (spot_none hc).2, .inr ⟨_, _, rfl⟩⟩

end LM
end Go.Proofs.YtpnjddfnlaonoaaGreatDoor
