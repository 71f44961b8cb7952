import Derived.Test.YtihbgghlnppkiaaGreatDoorR07
import Derived.Test.YtihbgghlnppkiaaGreatDoorR03
import Derived.Handy
import Derived.Deep.RegionHeld3
set_option linter.unusedVariables false
set_option linter.unusedSimpArgs false
set_option maxRecDepth 100000
set_option maxHeartbeats 16000000
namespace Go.Proofs.YtihbgghlnppkiaaGreatDoor
open Go.RowKit
namespace LM
theorem signed_any (neg : Bool) (A : Option Addr) (n c : Nat) (w : World) (hn : n ≤ 9223372036854775807) :
    Calls Tryz.prog 134 #[.bool neg,.slice A n c] w fun e w'=>e = .returned (.agg #[.bool (neg && decide (0 < n)),.slice A n c])∧Below w.heap.size w w':=by
  cases neg with
  | false =>
    go_enter Tryz.func134,Tryz.ntmps134
    go_wp2
    go_returns
    exact ⟨by simp,(Below.refl _ _).alloc (Nat.le_refl _) _⟩
  | true =>
    rcases Nat.eq_zero_or_pos n with rfl | h
    · go_enter Tryz.func134,Tryz.ntmps134
      go_wp2
      go_returns
      exact ⟨by simp,(Below.refl _ _).alloc (Nat.le_refl _) _⟩
    · have hd : decide (0 < n) = true:=decide_eq_true h
      go_enter Tryz.func134,Tryz.ntmps134
      go_wp2
      go_returns
      exact ⟨by simp [h],(Below.refl _ _).alloc (Nat.le_refl _) _⟩
def RetI (w : World) (z : Int) (e : Ending) (w' : World) : Prop:=∃ A n c,e = .returned (.agg #[.bool (decide (z < 0)),.slice A n c])∧IntV w' (.agg #[.bool (decide (z < 0)),.slice A n c]) z∧Below w.heap.size w w'
theorem signed_num (neg : Bool) (A : Option Addr) (c : Nat) (r : List Nat) (w : World) (h1 : r.length ≤ c) (h2 : c ≤ 9223372036854775807) (h3 : Rd w A r) (h4 : Can r) :
    Calls Tryz.prog 134 #[.bool neg,.slice A r.length c] w (RetI w (sg neg (val r))) :=
  (signed_any neg A r.length c w (by omega)).mono fun e w' ⟨he,hb⟩=>by
    have hs : (neg && decide (0 < r.length)) = decide (sg neg (val r) < 0):=by rw [sg_neg,decide_eq_decide.2 (can_pos h4)]
    rw [hs] at he
    exact ⟨A,_,c,he,⟨A,c,r,rfl,h1,h2,h3.below hb,h4,(sg_abs _ _).symm⟩,hb⟩
end LM
namespace LM
end LM
end Go.Proofs.YtihbgghlnppkiaaGreatDoor
