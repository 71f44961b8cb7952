/- Walks of package limb: Of and Small. -/
import Derived.Test.YtfckjapedjjhpaaGreatDoorLimbQ
namespace Go.Proofs.YtfckjapedjjhpaaGreatDoor
open Go.RowKit
namespace LM

set_option maxHeartbeats 400000 in
theorem of_any (n : Nat) (w : World) (hn : n < 18446744073709551616) :
    Calls Tryz.prog 25 #[.int .u64 (n : Int)] w fun e w' => (∃ v, e = .returned v ∧ NumV w' v n) ∧ Below w.heap.size w w' := by
  have e1 : (n : Int) % 4294967296 = ((n % 4294967296 : Nat) : Int) := by simp
  have e2 : (n : Int) / 4294967296 = ((n / 4294967296 : Nat) : Int) := by simp
  have l1 : n % 4294967296 < 4294967296 := Nat.mod_lt _ (by decide)
  have l2 : n / 4294967296 < 4294967296 := by omega
  have hv : val [n % 4294967296, n / 4294967296] = n := by simp [val]; omega
  generalize n % 4294967296 = lo at *
  generalize n / 4294967296 = hi at *
  have HV := Lib.hid hv
  clear hv
  go_enter Tryz.func25, Tryz.ntmps25
  go_wp2_with fail
  refine (trimmed_num (N := 2) (us := [lo, hi]) (by simpa [U] using Blk.new w (U [lo, hi])) rfl (Lm.cons l1 (Lm.cons l2 Lm.nil)) (by decide)).mono ?_
  rintro e w1 ⟨⟨v, rfl, hnv⟩, rfl⟩
  rw [HV.out] at hnv
  have HN := Lib.hid hnv
  clear hnv
  go_wp2
  go_ret
  exact ⟨⟨v, rfl, HN.out⟩, (Below.refl _ _).alloc (Nat.le_refl _) _⟩

end LM
end Go.Proofs.YtfckjapedjjhpaaGreatDoor
