/- The parts of nine digits, apart from the walk: what stands between two rounds. -/
import Derived.Test.YtkkogmgboehfdaaDoorLimbTextMath
import Derived.Test.YtkkogmgboehfdaaDoorLimbDv
import Derived.Test.YtkkogmgboehfdaaDoorLimbBw
namespace Go.Proofs.YtkkogmgboehfdaaDoor
open Go Go.RowKit
namespace LM

theorem round_any {n m : Nat} {P : Program} {l l2 : Nat} {f : FuncId} {tmps : Array Value} {assign body : Code} {w : World} {R : Ending → World → Prop} (h : RoundIn Fence.wide n P l f tmps assign body w R) :
    RoundIn (Fence.wide.inRound l2) m P l f tmps assign body w R := ⟨h.1, fun c cs _ => h.2 c cs (fun _ h => by cases h)⟩

theorem top_lt : 4294967296 ^ 64 ≤ 1000000000 ^ 69 := by decide +kernel
theorem parts_few {n : Nat} (hn : ¬ BIG n) : (lowP n).length ≤ 69 := lowP_len 69 n (Nat.lt_of_lt_of_le (Nat.lt_of_not_le hn) top_lt)

/-- where the first loop stands: what is left is divided on; the parts that are there are the lowest -/
def PmRel (W0 : World) (n g cap B0 yb : Nat) (yv : Value) (lv rv : Value) (wr : World) : Prop :=
  ∃ (xs post low : List Nat), rv = .slice (some ⟨g, 0, none⟩) xs.length cap ∧ Blk wr g (U (xs ++ post)) ∧ Can xs ∧ xs.length ≤ cap ∧
    wr.ownsRow B0 26 1 lv low.length (U low) ∧ low ++ lowP (val xs) = lowP n ∧
    wr.heap[yb]? = some (.cells #[yv] 87 (0, 0)) ∧ Below W0.heap.size W0 wr

/-- the length of a slice -/
def lenOf : Value → Nat
  | .slice _ n _ => n
  | _ => 0

/-- what has come, by the places -/
theorem downs_take {m : Nat} {low : List Nat} (hm : low.length = m) (ys : List (Plc m fun j v => low[j]? = some v)) (h : Downs ys) : ys.map (fun x => x.1.2) = low.reverse.take ys.length := by
  obtain ⟨h1, h2⟩ := h
  have e : ys.map (fun x => x.1.2) = (ys.map plc).map fun j => low[j]?.getD 0 := by
    rw [List.map_map]
    refine List.map_congr_left fun x _ => ?_
    have := x.2.2
    simp only [Function.comp, plc]
    rw [this]; rfl
  rw [e, h1]
  generalize ys.length = k at *
  clear e h1
  refine List.ext_getElem? fun i => ?_
  rw [List.getElem?_take]
  by_cases hi : i < k
  · rw [if_pos hi]
    simp only [downs, List.map_map, List.getElem?_map, List.getElem?_range hi, Option.map_some, Function.comp]
    rw [List.getElem?_reverse (by omega), hm, List.getElem?_eq_getElem (by omega)]
    rfl
  · rw [if_neg hi]
    rw [List.getElem?_eq_none (by simp [downs]; omega)]

theorem downs_all {m : Nat} {low : List Nat} (hm : low.length = m) (ys : List (Plc m fun j v => low[j]? = some v)) (h : ys.map plc = downs m m) : ys.map (fun x => x.1.2) = low.reverse := by
  have hl : ys.length = m := by
    have h1 := congrArg List.length h
    rwa [List.length_map, downs_len] at h1
  have := downs_take hm ys ⟨by rw [hl]; exact h, by omega⟩
  rw [this, List.take_of_length_le (by simp; omega)]

end LM
end Go.Proofs.YtkkogmgboehfdaaDoor
