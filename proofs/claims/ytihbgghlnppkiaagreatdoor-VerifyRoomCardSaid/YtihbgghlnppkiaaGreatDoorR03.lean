import Derived.Test.YtihbgghlnppkiaaGreatDoorProg
import Derived.Test.YtihbgghlnppkiaaGreatDoorR02
set_option linter.unusedVariables false
set_option linter.unusedSimpArgs false
set_option maxRecDepth 100000
set_option maxHeartbeats 16000000
namespace Go.Proofs.YtihbgghlnppkiaaGreatDoor
open Go.RowKit
namespace LM
theorem isBig_any (A : Option Addr) (n c : Nat) (w : World) (hn : n ≤ maxLen) :
    Calls Tryz.prog 124 #[.slice A n c] w fun e w'=>e = .returned (.bool (decide (64 < n)))∧w = w':=by
  unfold maxLen at hn
  go_enter Tryz.func124,Tryz.ntmps124
  go_wp2
  go_ret
  refine ⟨?_,rfl⟩
  congr 2
  simp
  omega
def lenS : Value → Nat | .slice _ n _=>n | _=>0
theorem trim_take_zero (xs : List Nat) (j : Nat) (h : j < xs.length) (hz : xs[j]?.getD 0 = 0) : trim (xs.take (j + 1)) = trim (xs.take j):=by
  rw [List.take_succ_eq_append_getElem h]
  rw [List.getElem?_eq_getElem h] at hz
  simp only [Option.getD_some] at hz
  rw [hz,trim_snoc_zero]
theorem trim_take_pos (xs : List Nat) (j : Nat) (h : j < xs.length) (hz : xs[j]?.getD 0 ≠ 0) : trim (xs.take (j + 1)) = xs.take (j + 1):=by
  rw [List.take_succ_eq_append_getElem h]
  rw [List.getElem?_eq_getElem h] at hz
  exact trim_snoc_pos _ (by simpa using hz)
theorem trimmed_any (A : Option Addr) (c : Nat) (xs : List Nat) (w : World) (hr : Rd w A xs) (hnc : xs.length ≤ c) (hc : c ≤ maxLen) :
    Calls Tryz.prog 123 #[.slice A xs.length c] w fun e w'=>e = .returned (.slice A (trim xs).length c)∧w = w':=by
  unfold maxLen at hc
  go_enter Tryz.func123,Tryz.ntmps123
  go_wp2
  go_loop [0] (fun v=>∃ k : Nat,k ≤ xs.length∧v = .slice A k c∧trim (xs.take k) = trim xs) (fun v=>lenS v)
  case atStart=>exact ⟨xs.length,Nat.le_refl _,rfl,by rw [List.take_length]⟩
  case round =>
    obtain ⟨k,hk,rfl,ht⟩:=hrel
    have HT:=Lib.hid ht
    clear ht
    rcases k with _ | j
    · go_wp2
      go_ret
      refine ⟨?_,rfl⟩
      have h:=congrArg List.length HT.out
      exact congrArg (fun n=>Ending.returned (Value.slice A n c)) h
    · obtain ⟨b,off,rfl,hb,hcell⟩:=hr.at_ (by omega : j < xs.length)
      by_cases hz : xs[j]?.getD 0 = 0
      · have h1:=trim_take_zero xs j (by omega) hz
        rw [hz] at hcell
        clear hz
        have H1:=Lib.hid h1
        clear h1
        go_wp2
        go_round
        case rel=>exact ⟨j,by omega,by go_num,by rw [← H1.out,HT.out]⟩
        case measure=>simp [lenS]
      · have hzz : (((xs[j]?.getD 0 : Nat) : Int) == 0) = false:=by rw [beq_eq_false_iff_ne]; omega
        have h1:=trim_take_pos xs j (by omega) hz
        clear hz
        have H1:=Lib.hid h1
        clear h1
        go_wp2
        go_ret
        refine ⟨?_,rfl⟩
        have h:=congrArg List.length (H1.out.symm.trans HT.out)
        rw [List.length_take,Nat.min_eq_left hk] at h
        exact congrArg (fun n=>Ending.returned (Value.slice _ n c)) h
end LM
end Go.Proofs.YtihbgghlnppkiaaGreatDoor
