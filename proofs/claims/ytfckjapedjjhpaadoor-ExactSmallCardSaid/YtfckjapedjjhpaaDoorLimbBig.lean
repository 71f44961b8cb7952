/- Walks: the document's answers Big and Of. -/
import Derived.Test.YtfckjapedjjhpaaDoorLimbX
namespace Go.Proofs.YtfckjapedjjhpaaDoor
open Go.RowKit
namespace LM

set_option maxHeartbeats 400000 in
theorem rof_any (n : Nat) (w : World) (hn : n < 18446744073709551616) :
    Calls Tryd.prog 46 #[.int .u64 (n : Int)] w fun e w' => (∃ v, e = .returned v ∧ NumR w' v n) ∧ Below w.heap.size w w' := by
  have e1 : (n : Int) % 4294967296 = ((n % 4294967296 : Nat) : Int) := by simp
  have e2 : (n : Int) / 4294967296 = ((n / 4294967296 : Nat) : Int) := by simp
  have l1 : n % 4294967296 < 4294967296 := Nat.mod_lt _ (by decide)
  have l2 : n / 4294967296 < 4294967296 := by omega
  have hv : val [n % 4294967296, n / 4294967296] = n := by simp [val]; omega
  generalize n % 4294967296 = lo at *
  generalize n / 4294967296 = hi at *
  have HV := Lib.hid hv
  clear hv
  have hrd : Rd (w.alloc (.cells #[.int .u32 (lo : Int), .int .u32 (hi : Int)] 51)) (some ⟨w.heap.size, 0, none⟩) [lo, hi] := by
    have h := Rd.of_blk (w := w.alloc (.cells #[.int .u32 (lo : Int), .int .u32 (hi : Int)] 51)) (g := w.heap.size) (pre := []) (xs := [lo, hi]) (post := []) (by simpa [U] using Blk.new w (U [lo, hi]))
    simpa using h
  go_enter Tryd.func46, Tryd.ntmps46
  go_wp2_with fail
  refine (rtrim_any (some ⟨w.heap.size, 0, none⟩) 2 [lo, hi] _ hrd (Lm.cons l1 (Lm.cons l2 Lm.nil)) (by simp) (fun h => by cases h)).mono ?_
  rintro e w1 ⟨⟨v, rfl, hnv⟩, hb⟩
  rw [HV.out] at hnv
  have HN := Lib.hid hnv
  have HB := Lib.hid hb
  clear hnv hb
  go_wp2
  go_ret
  exact ⟨⟨v, rfl, HN.out⟩, ((Below.refl _ _).alloc (Nat.le_refl _) _).trans (HB.out.mono (by simp))⟩

end LM
end Go.Proofs.YtfckjapedjjhpaaDoor
