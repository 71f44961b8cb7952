/- Walks: the document's answers Big and Of. -/
import Derived.Laws.AppendOwnNone
import Derived.Test.YtpnjddfnlaonoaaGreatDoorK15
import Derived.Test.YtpnjddfnlaonoaaGreatDoorK12
import Derived.Test.YtpnjddfnlaonoaaGreatDoorK01
namespace Go.Proofs.YtpnjddfnlaonoaaGreatDoor
open Go.RowKit
namespace LM

/-- a slice that reads as this number, without leading zeros, whatever its room -/
def NumR (w : World) (v : Value) (n : Nat) : Prop := ∃ A c r, v = .slice A (List.length r) c ∧ (A = none → List.length r = 0 ∧ c = 0) ∧ Rd w A r ∧ Can r ∧ val r = n

/-- a new row, copied from a slice, cut back to the number's limbs -/
def RtRel (xs : List Nat) (w1 : World) (g cap : Nat) (v : Value) (wr : World) : Prop := ∃ k, k ≤ xs.length ∧ v = .slice (some ⟨g, 0, none⟩) k cap ∧ trim (xs.take k) = trim xs ∧ w1 = wr

set_option maxRecDepth 100000 in
set_option maxHeartbeats 1000000 in
theorem rtrim_any (A : Option Addr) (c : Nat) (xs : List Nat) (w : World) (hr : Rd w A xs) (hx : Lm xs) (hl : xs.length ≤ 1000000) (hnil : A = none → xs.length = 0 ∧ c = 0) :
    Calls Tryz.prog 112 #[.slice A xs.length c] w fun e w' => (∃ v, e = .returned v ∧ NumR w' v (val xs)) ∧ Below w.heap.size w w' := by
  obtain ⟨i0, hi0, hz0, hz1, hz2⟩ := info_parts u32_info
  rcases A with _ | ad
  · obtain ⟨hx0, rfl⟩ := hnil rfl
    obtain rfl : xs = [] := List.eq_nil_of_length_eq_zero hx0
    have hrow : (w.alloc (.cells #[] 99)).ownsRow w.heap.size 99 1 (.slice (some ⟨w.heap.size, 0, none⟩) 0 0) 0 [] :=
      ⟨rfl, .inr ⟨w.heap.size, 0, #[], rfl, Nat.le_refl _, heap_alloc_new w _, Nat.le_refl _, by decide, rfl, rfl⟩⟩
    go_enter Tryz.func112, Tryz.ntmps112
    go_wp2_with (at_builtin; refine wpList_append_own_none _ rfl _ _ 34 rfl w.heap.size 99 i0 1 Tryz.underlying34 hi0 _ _ _ rfl hrow rfl ?_)
    go_loopw [3] (fun v wr => v = .slice (some ⟨w.heap.size, 0, none⟩) 0 0 ∧ w.alloc (.cells #[] 99) = wr) (fun _ _ => 0)
    case atStart => exact ⟨rfl, rfl⟩
    case round =>
      obtain ⟨rfl, rfl⟩ := hrel
      go_wp2
      go_ret
      exact ⟨⟨_, rfl, _, _, [], rfl, (fun h => by cases h), Rd.nil, can_nil, rfl⟩, (Below.refl _ _).alloc (Nat.le_refl _) _⟩
  · have hrow : (w.alloc (.cells #[] 99)).ownsRow w.heap.size 99 1 (.slice (some ⟨w.heap.size, 0, none⟩) 0 0) 0 [] :=
      ⟨rfl, .inr ⟨w.heap.size, 0, #[], rfl, Nat.le_refl _, heap_alloc_new w _, Nat.le_refl _, by decide, rfl, rfl⟩⟩
    have hsrc : ∀ j u, (U xs)[j]? = some u → (w.alloc (.cells #[] 99)).cell? (ad.add j) = some u := by
      intro j u hu
      have hj : j < xs.length := by
        rcases Nat.lt_or_ge j xs.length with h | h
        · exact h
        · rw [List.getElem?_eq_none (by rw [U_len]; exact h)] at hu; cases hu
      obtain ⟨b, off, e, hb, hc⟩ := hr.at_ hj
      injection e with e
      subst e
      rw [U_get _ _ hj] at hu
      rw [← hu, ← hc, addr_add]
      exact World.cell?_of_block (a := ⟨b, off + j, none⟩) (Below.heap_alloc w _ b hb)
    go_enter Tryz.func112, Tryz.ntmps112
    go_wp2_with (at_builtin; refine wpList_append_own _ rfl _ _ 34 rfl w.heap.size 99 i0 (.int .u32 0) 1 4 Tryz.underlying34 hi0 hz0 hz1 hz2 rfl (by decide) _ _ _ rfl hrow ad xs.length c (U xs) rfl (by simp [U_len]) hsrc (u_one xs) (by unfold maxLen; omega) (by omega) (by simp) ?_; intro v1 w1 hown1 hg1 hiff)
    have hb1 : Below w.heap.size w w1 := ((Below.refl _ w).alloc (Nat.le_refl _) _).grown hg1 (by simp) (fun k e => by have e2 : (Value.slice (some ⟨w.heap.size, 0, none⟩) 0 0).ownBlock = some k := e; have e3 : some w.heap.size = some k := e2; injection e3 with e3; omega)
    simp only [Nat.zero_add, List.nil_append] at hown1
    have hfin : ∀ v2, (∃ k cap g, v2 = .slice (some ⟨g, 0, none⟩) k cap ∧ k = (trim xs).length ∧ Rd w1 (some ⟨g, 0, none⟩) xs) → NumR w1 v2 (val xs) := by
      rintro v2 ⟨k, cap, g, rfl, rfl, hrd⟩
      exact ⟨_, _, trim xs, rfl, (fun h => by cases h), hrd.trim, can_trim hx, val_trim xs⟩
    have HFIN := Lib.hid hfin
    clear hfin
    rcases own_cases hown1 with ⟨rfl, rfl⟩ | ⟨g, cap, rest, rfl, hgb, hB1, hcap, hcm, hlen⟩
    · have h := (hiff.1 rfl).1
      have h2 : Value.slice (some ⟨w.heap.size, 0, none⟩) 0 0 = .slice none 0 0 := h
      cases h2
    · clear hiff
      have hrd : Rd w1 (some ⟨g, 0, none⟩) xs := fun hl0 => ⟨g, 0, rfl, hB1.lt, fun k hk => by
        rw [Nat.zero_add, hB1.cell, List.getElem?_append_left (by rw [U_len]; exact hk), U_get _ _ hk]⟩
      have hlen2 := Lib.hid hlen
      have HOWN := Lib.hid hown1
      clear hlen hown1 hg1
      unfold maxLen at hcm
      go_wp2_with fail
      go_loopw [3] (fun v wr => RtRel xs w1 g cap v wr) (fun v _ => lenS v)
      case atStart => exact ⟨xs.length, Nat.le_refl _, rfl, by rw [List.take_length], rfl⟩
      case round =>
        obtain ⟨k, hk, rfl, ht, rfl⟩ := hrel
        have HT := Lib.hid ht
        clear ht
        rcases k with _ | j
        · go_wp2
          go_ret
          refine ⟨⟨_, rfl, HFIN.out _ ⟨0, cap, g, rfl, ?_, hrd⟩⟩, hb1⟩
          exact congrArg List.length HT.out
        · obtain ⟨b, off, e, hb, hcell⟩ := hrd.at_ (by omega : j < xs.length)
          cases e
          rw [Nat.zero_add] at hcell
          by_cases hz : xs[j]?.getD 0 = 0
          · have h1 := trim_take_zero xs j (by omega) hz
            rw [hz] at hcell
            clear hz
            have H1 := Lib.hid h1
            clear h1
            go_wp2
            go_roundw
            case rel => exact ⟨j, by omega, by go_num, by rw [← H1.out, HT.out], rfl⟩
            case measure => simp [lenS]
          · have hzz : (((xs[j]?.getD 0 : Nat) : Int) == 0) = false := by rw [beq_eq_false_iff_ne]; omega
            have h1 := trim_take_pos xs j (by omega) hz
            clear hz
            have H1 := Lib.hid h1
            clear h1
            go_wp2
            go_ret
            refine ⟨⟨_, rfl, HFIN.out _ ⟨j + 1, cap, g, rfl, ?_, hrd⟩⟩, hb1⟩
            have h := congrArg List.length (H1.out.symm.trans HT.out)
            rw [List.length_take, Nat.min_eq_left hk] at h
            exact h

end LM
end Go.Proofs.YtpnjddfnlaonoaaGreatDoor

namespace Go.Proofs.YtpnjddfnlaonoaaGreatDoor
open Go.RowKit
namespace LM

end LM
end Go.Proofs.YtpnjddfnlaonoaaGreatDoor

namespace Go.Proofs.YtpnjddfnlaonoaaGreatDoor
open Go.RowKit
namespace LM

end LM
end Go.Proofs.YtpnjddfnlaonoaaGreatDoor

namespace Go.Proofs.YtpnjddfnlaonoaaGreatDoor
open Go.RowKit
namespace LM

end LM
end Go.Proofs.YtpnjddfnlaonoaaGreatDoor

namespace Go.Proofs.YtpnjddfnlaonoaaGreatDoor
open Go.RowKit
namespace LM

end LM
end Go.Proofs.YtpnjddfnlaonoaaGreatDoor

namespace Go.Proofs.YtpnjddfnlaonoaaGreatDoor
open Go.RowKit
namespace LM

set_option maxHeartbeats 400000 in
theorem rbig_any (A : Option Addr) (c : Nat) (xs : List Nat) (w : World) (hr : Rd w A xs) (hx : Lm xs) (hl : xs.length ≤ 1000000) (hnil : A = none → xs.length = 0 ∧ c = 0) :
    Calls Tryz.prog 149 #[.slice A xs.length c] w fun e w' => (∃ b : Bool, e = .returned (.bool b) ∧ (b = true ↔ BIG (val xs))) ∧ Below w.heap.size w w' := by
  go_enter Tryz.func149, Tryz.ntmps149
  go_wp2_with fail
  refine (rtrim_any A c xs w hr hx hl hnil).mono ?_
  rintro e w1 ⟨⟨v, rfl, A1, c1, r, rfl, _, hr1, hcr, hvr⟩, hb⟩
  have hbi := big_iff hcr
  rw [hvr] at hbi
  have HBI := Lib.hid hbi
  clear hbi hvr
  go_wp2
  go_ret
  refine ⟨⟨decide (64 < r.length), ?_, by rw [decide_eq_true_iff]; exact HBI.out⟩, hb⟩
  congr 2
  simp
  omega

end LM
end Go.Proofs.YtpnjddfnlaonoaaGreatDoor
