/- The library's decimals in memory; trim. -/
import Derived.WalkKit
import Derived.WalkSpells
import Derived.WalkLawsBesides
import Derived.Lib.Hide
import Derived.Deep.QuietTactic
import Derived.Deep.Draws
import Derived.BigQuiet
import Derived.Laws.Rows
import Derived.Laws.OwnMore
import Derived.StillTailTactics
import Derived.Test.YtdhjbhcfkajfdaaGreatDoorC01
namespace Go.Proofs.YtdhjbhcfkajfdaaGreatDoor
open Go.RowKit
namespace LM

/-- a slice with this address reads as these limbs -/
def Rd (w : World) (A : Option Addr) (xs : List Nat) : Prop :=
  0 < xs.length → ∃ b off, A = some ⟨b, off, none⟩ ∧ b < w.heap.size ∧ ∀ k, k < xs.length → w.cell? ⟨b, off + k, none⟩ = some (.int .u32 ((xs[k]?.getD 0 : Nat) : Int))

/-- the address lies in another block -/
def Off (A : Option Addr) (g : Nat) : Prop := ∀ ad, A = some ad → ad.block ≠ g

section
variable {w w' : World} {g : Nat} {cs : List Value} {A : Option Addr} {xs : List Nat}
theorem Rd.keep (h : Rd w A xs) (hs : w.heap.size ≤ w'.heap.size) (hk : ∀ ad : Addr, A = some ad → ad.block < w.heap.size → w'.heap[ad.block]? = w.heap[ad.block]?) : Rd w' A xs := fun hl => by
  obtain ⟨b, off, e, hb, hc⟩ := h hl
  exact ⟨b, off, e, by omega, fun k hk' => (World.cell?_of_block (a := ⟨b, off + k, none⟩) (hk ⟨b, off, none⟩ e hb)).trans (hc k hk')⟩
theorem Rd.below (h : Rd w A xs) (hb : Below w.heap.size w w') : Rd w' A xs := h.keep hb.size fun _ _ hl => hb.block _ hl
theorem Rd.drew (h : Rd w A xs) : Rd w.drew A xs := h
theorem Rd.alloc (h : Rd w A xs) (o : Obj) : Rd (w.alloc o) A xs := h.keep (by simp) fun _ _ hl => Below.heap_alloc w o _ hl
theorem Rd.take (h : Rd w A xs) (n : Nat) : Rd w A (xs.take n) := fun hl => by
  obtain ⟨b, off, e, hb, hc⟩ := h (by simp at hl; omega)
  refine ⟨b, off, e, hb, fun k hk => ?_⟩
  rw [List.length_take] at hk
  rw [hc k (by omega), List.getElem?_take, if_pos (by omega)]
theorem Rd.at_ (h : Rd w A xs) {k : Nat} (hk : k < xs.length) : ∃ b off, A = some ⟨b, off, none⟩ ∧ b < w.heap.size ∧ w.cell? ⟨b, off + k, none⟩ = some (.int .u32 ((xs[k]?.getD 0 : Nat) : Int)) := by
  obtain ⟨b, off, e, hb, hc⟩ := h (by omega)
  exact ⟨b, off, e, hb, hc k hk⟩
theorem below_drewN {B : Nat} {a w : World} (h : Below B a w) (n : Nat) : Below B a (w.drewN n) := ⟨h.os, h.tape, h.output, h.size, h.block⟩
end
end LM
end Go.Proofs.YtdhjbhcfkajfdaaGreatDoor

namespace Go.Proofs.YtdhjbhcfkajfdaaGreatDoor
open Go Go.RowKit
namespace LM
set_option linter.unusedVariables false

/-- a decimal stands in a block of its own -/
def DecR (w : World) (g : Nat) (s : Dec) : Prop := ∃ A : Array Value, w.heap[g]? = some (.cells A 266 (0, 0)) ∧ A.size = 804 ∧ (∀ i, i < 800 → A[i]? = some (.int .u8 ((s.f i : Nat) : Int))) ∧ A[800]? = some (.int .i64 ((s.nd : Nat) : Int)) ∧ A[801]? = some (.int .i64 s.dp) ∧ A[802]? = some (.bool s.neg) ∧ A[803]? = some (.bool s.tr)

section
variable {w w' : World} {g : Nat} {s : Dec}
end
end LM
end Go.Proofs.YtdhjbhcfkajfdaaGreatDoor
