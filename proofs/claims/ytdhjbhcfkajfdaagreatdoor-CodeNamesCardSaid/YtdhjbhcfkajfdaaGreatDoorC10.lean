/- Walks of package limb: Parse: the number of decimal digits. -/
import Derived.Sort.AtCallIn
import Derived.Lib.BitFns
import Derived.Test.YtdhjbhcfkajfdaaGreatDoorC07
import Derived.Test.YtdhjbhcfkajfdaaGreatDoorC01
import Derived.Test.YtdhjbhcfkajfdaaGreatDoorC09
import Derived.Deep.OwnRows
import Derived.Laws.CopyOwn
import Derived.Test.YtdhjbhcfkajfdaaGreatDoorC03
import Derived.Deep.RegionWith
import Derived.Maps.AppendAt
import Derived.Test.YtdhjbhcfkajfdaaGreatDoorC06
import Derived.Test.YtdhjbhcfkajfdaaGreatDoorC05
import Derived.Test.YtdhjbhcfkajfdaaGreatDoorC12
import Derived.Test.YtdhjbhcfkajfdaaGreatDoorC13
import Derived.Lib.ParseIntBCases
import Derived.Test.YtdhjbhcfkajfdaaGreatDoorC11
import Derived.Lib.AtoiErrMem
namespace Go.Proofs.YtdhjbhcfkajfdaaGreatDoor
open Go.RowKit Go.Shelf
attribute [local go_sem] Oper.semAt_some
namespace LM
attribute [local go_sem] round_fn wide_fn

theorem lead (y : Nat) (h0 : 0 < y) (h : y < 4294967296) : ∃ s : Nat, s < 32 ∧ 32 - (Lib.bitLen y : Int) = (s : Int) ∧ y * 2 ^ s < 4294967296 := by
  have h1 := Nat.log2_self_le (n := y) (by omega)
  have h2 := Nat.lt_log2_self (n := y)
  have hk : y.log2 < 32 := by
    rcases Nat.lt_or_ge y.log2 32 with h3 | h3
    · exact h3
    · have := Nat.pow_le_pow_right (n := 2) (by decide) h3; omega
  have e : y / 2 ^ y.log2 = 1 := by
    apply Nat.div_eq_of_lt_le
    · omega
    · rw [Nat.pow_succ] at h2; omega
  have hb := Lib.bitLen_shift y.log2 y h1 (by omega)
  rw [e] at hb
  have h5 : Lib.bitLen 1 = 1 := by decide
  rw [h5] at hb
  refine ⟨31 - y.log2, by omega, by rw [hb]; omega, ?_⟩
  have h6 := Nat.mul_lt_mul_of_pos_right h2 (show 0 < 2 ^ (31 - y.log2) from Nat.pow_pos (by decide))
  rw [← Nat.pow_add, show y.log2 + 1 + (31 - y.log2) = 32 from by omega] at h6
  exact h6

end LM
end Go.Proofs.YtdhjbhcfkajfdaaGreatDoor

namespace Go.Proofs.YtdhjbhcfkajfdaaGreatDoor
open Go.RowKit Go.Shelf
attribute [local go_sem] Oper.semAt_some
namespace LM
attribute [local go_sem] round_fn wide_fn

theorem builderAt_kept {T e : TypeId} {B b : Nat} {p : Value} {bs : List Value} {W W' : World} {row : Option Nat} (h : Lib.BuilderAtF T e B b p bs W) (hg : W.grownBy W' row) (hr : ∀ r, row = some r → ∃ o : Obj, W.heap[r]? = some o ∧ o.isCells = false) : Lib.BuilderAtF T e B b p bs W' := by
  obtain ⟨hB, v, hv, hown, hne⟩ := h
  refine ⟨hB, v, heap_kept hv hg hr, hown.kept hg ?_, hne⟩
  rcases hown.2 with ⟨rfl, _⟩ | ⟨g, cap, cur, fz, rfl, _, hgc, _⟩
  · exact .inl rfl
  · refine .inr fun e2 => ?_
    obtain ⟨o, ho, hc⟩ := hr g e2.symm
    rw [hgc] at ho; injection ho with ho; subst ho; cases hc
theorem builder_kept {T e : TypeId} {B b : Nat} {bs : List Value} {W W' : World} {row : Option Nat} (h : Lib.IsBuilderF T e B b bs W) (hg : W.grownBy W' row) (hr : ∀ r, row = some r → ∃ o : Obj, W.heap[r]? = some o ∧ o.isCells = false) : Lib.IsBuilderF T e B b bs W' :=
  h.elim (fun x => .inl (builderAt_kept x hg hr)) (fun x => .inr (builderAt_kept x hg hr))

theorem builder_below {T e : TypeId} {B b : Nat} {bs : List Value} {W W' : World} (h : Lib.IsBuilderF T e B b bs W) (hb : Below W.heap.size W W') : Lib.IsBuilderF T e B b bs W' :=
  builder_kept (row := none) h ⟨hb.os, hb.tape, hb.output, hb.size, fun k hk _ => hb.block k hk⟩ (fun r e => by cases e)

theorem keeps8_below {B : Nat} {W W' : World} (h : Below W.heap.size W W') : Keeps8 B W W' := ⟨h.size, fun k _ _ hk _ => (h.block k (Array.getElem?_eq_some_iff.1 hk).1).trans hk⟩
theorem keeps8_others {B b : Nat} {W W' : World} (h : Lib.OthersKept 5 (some b) W W') (hs : W.heap.size ≤ W'.heap.size) (hb : b < B) : Keeps8 B W W' :=
  ⟨hs, fun k o hB hk ho => h k o hk (fun e => by injection e with e; omega) (fun c fz e => by subst e; cases ho)⟩

end LM
end Go.Proofs.YtdhjbhcfkajfdaaGreatDoor

namespace Go.Proofs.YtdhjbhcfkajfdaaGreatDoor
open Go.RowKit
namespace LM

end LM
end Go.Proofs.YtdhjbhcfkajfdaaGreatDoor

namespace Go.Proofs.YtdhjbhcfkajfdaaGreatDoor
open Go Go.RowKit
namespace LM

end LM
end Go.Proofs.YtdhjbhcfkajfdaaGreatDoor
