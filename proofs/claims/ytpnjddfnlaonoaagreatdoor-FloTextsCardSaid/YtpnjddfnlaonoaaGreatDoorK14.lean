/- A range over an iterator that makes memory of its own between its rounds, and whose body never leaves the loop early: what the two keep of each other is told by the kind of the blocks: the body turns none of the iterator's that isn't a row of bytes. · The library's slices.Backward over limbs as an iterator that tells everything, in its order. -/
import Derived.RangeFuncNested
import Derived.RangeFuncBound
import Derived.RangeFuncCalls
import Derived.RangeFuncLeaves
import Derived.RangeFuncBox
import Derived.Shelf.Abstract
import Derived.Shelf.RegionOpen
import Derived.OwnWalkIn
import Derived.TacticsInMore
import Derived.LoopNIn
import Derived.LoopIn
import Derived.Test.YtpnjddfnlaonoaaGreatDoorK12
import Derived.Deep.RegionWith
namespace Go.Proofs.YtpnjddfnlaonoaaGreatDoor
open Go.RowKit Go.Shelf
attribute [local go_sem] Oper.semAt_some
namespace LM

/-- the box holds the slice, and the slice can be read -/
def BwOk (Bs : Nat) (A : Option Addr) (n c : Nat) (ok : Nat → Nat → Prop) (W : World) : Prop :=
  W.cell? ⟨Bs, 0, none⟩ = some (.slice A n c) ∧ (0 < n → ∃ b off, A = some ⟨b, off, none⟩ ∧ ∀ k, k < n → ∃ v : Nat, ok k v ∧ W.cell? ⟨b, off + k, none⟩ = some (.int .u32 (v : Int)))

/-- a place of the slice, and what stands there -/
abbrev Plc (n : Nat) (ok : Nat → Nat → Prop) := { x : Nat × Nat // x.1 < n ∧ ok x.1 x.2 }
def plc {n : Nat} {ok : Nat → Nat → Prop} (x : Plc n ok) : Nat := x.1.1

/-- the places that have come when k rounds are over -/
def downs (n k : Nat) : List Nat := (List.range k).map fun j => n - 1 - j
theorem downs_succ (n k : Nat) : downs n (k + 1) = downs n k ++ [n - 1 - k] := by simp [downs, List.range_succ]
theorem downs_len (n k : Nat) : (downs n k).length = k := by simp [downs]

theorem BwOk.kept {Bs : Nat} {A : Option Addr} {n c : Nat} {ok : Nat → Nat → Prop} {W W' : World} {row : Option Nat} (h : BwOk Bs A n c ok W) (hg : W.grownBy W' row)
    (hr : ∀ r, row = some r → ∃ o : Obj, W.heap[r]? = some o ∧ o.isCells = false) : BwOk Bs A n c ok W' :=
  ⟨cell_kept h.1 hg hr, fun hn => by
    obtain ⟨b, off, e, hc⟩ := h.2 hn
    exact ⟨b, off, e, fun k hk => by
      obtain ⟨v, hv, hcv⟩ := hc k hk
      exact ⟨v, hv, cell_kept hcv hg hr⟩⟩⟩
theorem BwOk.below {Bs : Nat} {A : Option Addr} {n c B : Nat} {ok : Nat → Nat → Prop} {W W' : World} (h : BwOk Bs A n c ok W) (hg : Below B W W') (hB : Bs < B) (hA : 0 < n → ∀ ad, A = some ad → ad.block < B) : BwOk Bs A n c ok W' :=
  ⟨(hg.cell (p := ⟨Bs, 0, none⟩) hB).trans h.1, fun hn => by
    obtain ⟨b, off, e, hc⟩ := h.2 hn
    exact ⟨b, off, e, fun k hk => by
      obtain ⟨v, hv, hcv⟩ := hc k hk
      exact ⟨v, hv, (hg.cell (p := ⟨b, off + k, none⟩) (hA hn ⟨b, off, none⟩ e)).trans hcv⟩⟩⟩

end LM
end Go.Proofs.YtpnjddfnlaonoaaGreatDoor

namespace Go.Proofs.YtpnjddfnlaonoaaGreatDoor
open Go.RowKit Go.Shelf
attribute [local go_sem] Oper.semAt_some
namespace LM

def cmpN (x y : Nat) : Int := if x < y then -1 else if y < x then 1 else 0
end LM
end Go.Proofs.YtpnjddfnlaonoaaGreatDoor

namespace Go.Proofs.YtpnjddfnlaonoaaGreatDoor
open Go Go.RowKit
namespace LM

/-- a row of bytes -/
def bytesObj : Obj → Bool
  | .cells _ t _ => t == 5
  | _ => false

/-- from block B on, what is no row of bytes lies as it lay -/
structure Keeps8 (B : Nat) (W W' : World) : Prop where
  size : W.heap.size ≤ W'.heap.size
  same : ∀ (k : Nat) (o : Obj), B ≤ k → W.heap[k]? = some o → bytesObj o = false → W'.heap[k]? = some o

theorem Keeps8.refl (B : Nat) (W : World) : Keeps8 B W W := ⟨Nat.le_refl _, fun _ _ _ h _ => h⟩
theorem Keeps8.trans {B : Nat} {X Y Z : World} (h : Keeps8 B X Y) (k : Keeps8 B Y Z) : Keeps8 B X Z := ⟨Nat.le_trans h.size k.size, fun i o hB hi ho => k.same i o hB (h.same i o hB hi ho) ho⟩
theorem Keeps8.mono {B C : Nat} {X Y : World} (h : Keeps8 B X Y) (hc : B ≤ C) : Keeps8 C X Y := ⟨h.size, fun i o hB hi ho => h.same i o (by omega) hi ho⟩
theorem Keeps8.drew {B : Nat} {X Y : World} (h : Keeps8 B X Y) : Keeps8 B X Y.drew := ⟨h.size, h.same⟩
theorem Keeps8.drewN {B : Nat} {X Y : World} (h : Keeps8 B X Y) (k : Nat) : Keeps8 B X (Y.drewN k) := ⟨h.size, h.same⟩
theorem Keeps8.grown {B : Nat} {X Y Z : World} {row : Option Nat} (h : Keeps8 B X Y) (hg : Y.grownBy Z row) (hr : ∀ j, row = some j → j < B ∨ X.heap.size ≤ j ∨ ∃ o, Y.heap[j]? = some o ∧ bytesObj o = true) : Keeps8 B X Z :=
  ⟨Nat.le_trans h.size hg.size, fun k o hB hk ho => by
    have h1 := h.same k o hB hk ho
    have hk2 := (Array.getElem?_eq_some_iff.1 hk).1
    refine (hg.block k (Array.getElem?_eq_some_iff.1 h1).1 (fun e => ?_)).trans h1
    rcases hr k e.symm with hj | hj | ⟨o', ho', hb⟩
    · omega
    · omega
    · rw [h1] at ho'; injection ho' with ho'; subst ho'; rw [ho] at hb; cases hb⟩
theorem Keeps8.put {B : Nat} {W : World} {l : Nat} (hl : l < B) (o' : Obj) : Keeps8 B W (W.putObj l o') :=
  (Keeps8.refl B W).grown (grownBy_putObj' W l o') (fun j e => by cases e; exact .inl hl)
theorem Keeps8.blk {B : Nat} {W W' : World} {g : Nat} {cs : List Value} (h : Keeps8 B W W') (hb : Blk W g cs) (hB : B ≤ g) : Blk W' g cs := h.same g _ hB hb rfl

end LM
end Go.Proofs.YtpnjddfnlaonoaaGreatDoor

namespace Go.Proofs.YtpnjddfnlaonoaaGreatDoor
open Go.RowKit Go.Shelf
attribute [local go_sem] Oper.semAt_some
namespace LM

end LM
end Go.Proofs.YtpnjddfnlaonoaaGreatDoor
