/- Walks: the document's answers Trim, Big and at. -/
import Derived.Test.YtpoojlnndgoeoaaGreatDoorExactF
import Derived.Test.YtpoojlnndgoeoaaGreatDoorLimbT
import Derived.Laws.AppendOwnNone
import Derived.Test.YtpoojlnndgoeoaaGreatDoorLimbF
namespace Go.Proofs.YtpoojlnndgoeoaaGreatDoor
open Go.RowKit
namespace LM
set_option linter.unusedVariables false

/-- what Small answers -/
def SmallE (x : Int) (e : Ending) : Prop := (-9223372036854775808 ≤ x ∧ x ≤ 9223372036854775807 ∧ e = .returned (.tuple #[.int .i64 x, .bool true])) ∨ (¬ (-9223372036854775808 ≤ x ∧ x ≤ 9223372036854775807) ∧ e = .returned (.tuple #[.int .i64 0, .bool false]))
theorem wrap_down (n : Nat) (h : n ≤ 9223372036854775808) : wrap64 (IntKind.u64.wrap (-(n : Int))) = -(n : Int) := by
  go_arith

set_option maxRecDepth 100000 in
set_option maxHeartbeats 2000000 in
theorem esmall_p1 (A : Option Addr) (ca : Nat) (xs : List Nat) (w : World) (ha : Rd w A xs) (hx : Can xs) (hca : xs.length ≤ ca) (hcam : ca ≤ 9223372036854775807) (h : val xs ≤ 9223372036854775807) :
    Calls Tryz.prog 87 #[.agg #[.bool false, .slice A xs.length ca]] w fun e w' => e = .returned (.tuple #[.int .i64 ((val xs : Nat) : Int), .bool true]) ∧ Below w.heap.size w w' := by
  have hb0 : Below w.heap.size w (w.alloc (.cells #[.bool false, .slice A xs.length ca] 41)) := (Below.refl _ w).alloc (Nat.le_refl _) _
  have HB0 := Lib.hid hb0
  have H1 := Lib.hid (small_any A ca xs _ (ha.below hb0) hx.1 hca hcam)
  clear hb0 ha hx
  generalize val xs = n at *
  have d1 : decide (n ≤ 9223372036854775807) = true := decide_eq_true (by omega)
  have d2 : decide ((n : Int) ≤ 9223372036854775807) = true := decide_eq_true (by omega)
  go_enter Tryz.func87, Tryz.ntmps87
  go_wp2_with fail
  refine H1.out.mono ?_
  rintro e w1 ⟨⟨h2, rfl⟩ | ⟨h2, rfl⟩, rfl⟩
  · clear h2
    go_wp2
    go_ret2
    exact ⟨rfl, HB0.out⟩
  · exact absurd h2 (by omega)

set_option maxRecDepth 100000 in
set_option maxHeartbeats 2000000 in
theorem esmall_p2 (A : Option Addr) (ca : Nat) (xs : List Nat) (w : World) (ha : Rd w A xs) (hx : Can xs) (hca : xs.length ≤ ca) (hcam : ca ≤ 9223372036854775807) (h : ¬ val xs ≤ 9223372036854775807) :
    Calls Tryz.prog 87 #[.agg #[.bool false, .slice A xs.length ca]] w fun e w' => e = .returned (.tuple #[.int .i64 0, .bool false]) ∧ Below w.heap.size w w' := by
  have hb0 : Below w.heap.size w (w.alloc (.cells #[.bool false, .slice A xs.length ca] 41)) := (Below.refl _ w).alloc (Nat.le_refl _) _
  have HB0 := Lib.hid hb0
  have H1 := Lib.hid (small_any A ca xs _ (ha.below hb0) hx.1 hca hcam)
  clear hb0 ha hx
  generalize val xs = n at *
  have d1 : decide (n ≤ 9223372036854775807) = false := decide_eq_false (by omega)
  have d2 : decide ((n : Int) ≤ 9223372036854775807) = false := decide_eq_false (by omega)
  go_enter Tryz.func87, Tryz.ntmps87
  go_wp2_with fail
  refine H1.out.mono ?_
  rintro e w1 ⟨⟨h2, rfl⟩ | ⟨h2, rfl⟩, rfl⟩
  · clear h2
    go_wp2
    go_ret2
    exact ⟨rfl, HB0.out⟩
  · clear h2
    go_wp2
    go_ret2
    exact ⟨rfl, HB0.out⟩

set_option maxRecDepth 100000 in
set_option maxHeartbeats 2000000 in
theorem esmall_n1 (A : Option Addr) (ca : Nat) (xs : List Nat) (w : World) (ha : Rd w A xs) (hx : Can xs) (hca : xs.length ≤ ca) (hcam : ca ≤ 9223372036854775807) (h : val xs ≤ 9223372036854775808) :
    Calls Tryz.prog 87 #[.agg #[.bool true, .slice A xs.length ca]] w fun e w' => e = .returned (.tuple #[.int .i64 (-((val xs : Nat) : Int)), .bool true]) ∧ Below w.heap.size w w' := by
  have hb0 : Below w.heap.size w (w.alloc (.cells #[.bool true, .slice A xs.length ca] 41)) := (Below.refl _ w).alloc (Nat.le_refl _) _
  have HB0 := Lib.hid hb0
  have H1 := Lib.hid (small_any A ca xs _ (ha.below hb0) hx.1 hca hcam)
  clear hb0 ha hx
  generalize val xs = n at *
  have d1 : decide (n ≤ 9223372036854775808) = true := decide_eq_true (by omega)
  have d2 : decide ((n : Int) ≤ 9223372036854775808) = true := decide_eq_true (by omega)
  have HW := Lib.hid (wrap_down n h)
  go_enter Tryz.func87, Tryz.ntmps87
  go_wp2_with fail
  refine H1.out.mono ?_
  rintro e w1 ⟨⟨h2, rfl⟩ | ⟨h2, rfl⟩, rfl⟩
  · clear h2
    go_wp2
    go_ret2
    exact ⟨by first | rfl | (rw [HW.out]; done) | (rw [HW.out]; rfl), HB0.out⟩
  · exact absurd h2 (by omega)

set_option maxRecDepth 100000 in
set_option maxHeartbeats 2000000 in
theorem esmall_n2 (A : Option Addr) (ca : Nat) (xs : List Nat) (w : World) (ha : Rd w A xs) (hx : Can xs) (hca : xs.length ≤ ca) (hcam : ca ≤ 9223372036854775807) (h : ¬ val xs ≤ 9223372036854775808) :
    Calls Tryz.prog 87 #[.agg #[.bool true, .slice A xs.length ca]] w fun e w' => e = .returned (.tuple #[.int .i64 0, .bool false]) ∧ Below w.heap.size w w' := by
  have hb0 : Below w.heap.size w (w.alloc (.cells #[.bool true, .slice A xs.length ca] 41)) := (Below.refl _ w).alloc (Nat.le_refl _) _
  have HB0 := Lib.hid hb0
  have H1 := Lib.hid (small_any A ca xs _ (ha.below hb0) hx.1 hca hcam)
  clear hb0 ha hx
  generalize val xs = n at *
  have d1 : decide (n ≤ 9223372036854775808) = false := decide_eq_false (by omega)
  have d2 : decide ((n : Int) ≤ 9223372036854775808) = false := decide_eq_false (by omega)
  go_enter Tryz.func87, Tryz.ntmps87
  go_wp2_with fail
  refine H1.out.mono ?_
  rintro e w1 ⟨⟨h2, rfl⟩ | ⟨h2, rfl⟩, rfl⟩
  · clear h2
    go_wp2
    go_ret2
    exact ⟨rfl, HB0.out⟩
  · clear h2
    go_wp2
    go_ret2
    exact ⟨rfl, HB0.out⟩

theorem esmall_int {va : Value} {x : Int} {w : World} (ha : IntV w va x) : Calls Tryz.prog 87 #[va] w fun e w' => SmallE x e ∧ Below w.heap.size w w' := by
  obtain ⟨A, ca, xs, rfl, h1, h2, h3, h4, h5⟩ := ha
  by_cases hn : x < 0
  · rw [decide_eq_true hn]
    by_cases h : val xs ≤ 9223372036854775808
    · exact (esmall_n1 A ca xs w h3 h4 h1 h2 h).mono fun e w' ⟨he, hb⟩ => ⟨.inl ⟨by omega, by omega, by rw [he, show -((val xs : Nat) : Int) = x by omega]⟩, hb⟩
    · exact (esmall_n2 A ca xs w h3 h4 h1 h2 h).mono fun e w' ⟨he, hb⟩ => ⟨.inr ⟨by omega, he⟩, hb⟩
  · rw [decide_eq_false hn]
    by_cases h : val xs ≤ 9223372036854775807
    · exact (esmall_p1 A ca xs w h3 h4 h1 h2 h).mono fun e w' ⟨he, hb⟩ => ⟨.inl ⟨by omega, by omega, by rw [he, show ((val xs : Nat) : Int) = x by omega]⟩, hb⟩
    · exact (esmall_p2 A ca xs w h3 h4 h1 h2 h).mono fun e w' ⟨he, hb⟩ => ⟨.inr ⟨by omega, he⟩, hb⟩

end LM
end Go.Proofs.YtpoojlnndgoeoaaGreatDoor

namespace Go.Proofs.YtpoojlnndgoeoaaGreatDoor
open Go.RowKit
namespace LM

/-- a slice that reads as this number, without leading zeros, whatever its room -/
def NumR (w : World) (v : Value) (n : Nat) : Prop := ∃ A c r, v = .slice A (List.length r) c ∧ (A = none → List.length r = 0 ∧ c = 0) ∧ Rd w A r ∧ Can r ∧ val r = n

set_option maxHeartbeats 400000 in
theorem rat_any (A : Option Addr) (c : Nat) (xs : List Nat) (k y : Nat) (w : World) (hr : Rd w A xs) (_hk : k ≤ 1000000) (_hl : xs.length ≤ 1000000) (hy : xs[k]?.getD 0 = y) (hy2 : y < 4294967296) :
    Calls Tryz.prog 120 #[.slice A xs.length c, .int .i64 (k : Int)] w fun e w' => e = .returned (.int .u64 (y : Int)) ∧ w = w' := by
  by_cases h1 : k < xs.length
  · obtain ⟨b, off, rfl, hb, hc⟩ := hr.at_ h1
    rw [hy] at hc
    clear hy
    go_enter Tryz.func120, Tryz.ntmps120
    go_wp2
    go_ret
    exact ⟨rfl, rfl⟩
  · rw [List.getElem?_eq_none (by omega)] at hy
    obtain rfl : 0 = y := hy
    go_enter Tryz.func120, Tryz.ntmps120
    go_wp2
    go_ret
    exact ⟨rfl, rfl⟩

/-- a new row, copied from a slice, cut back to the number's limbs -/
def RtRel (xs : List Nat) (w1 : World) (g cap : Nat) (v : Value) (wr : World) : Prop := ∃ k, k ≤ xs.length ∧ v = .slice (some ⟨g, 0, none⟩) k cap ∧ trim (xs.take k) = trim xs ∧ w1 = wr

set_option maxRecDepth 100000 in
set_option maxHeartbeats 1000000 in
theorem rtrim_any (A : Option Addr) (c : Nat) (xs : List Nat) (w : World) (hr : Rd w A xs) (hx : Lm xs) (hl : xs.length ≤ 1000000) (hnil : A = none → xs.length = 0 ∧ c = 0) :
    Calls Tryz.prog 50 #[.slice A xs.length c] w fun e w' => (∃ v, e = .returned v ∧ NumR w' v (val xs)) ∧ Below w.heap.size w w' := by
  obtain ⟨i0, hi0, hz0, hz1, hz2⟩ := info_parts u32_info
  rcases A with _ | ad
  · obtain ⟨hx0, rfl⟩ := hnil rfl
    obtain rfl : xs = [] := List.eq_nil_of_length_eq_zero hx0
    have hrow : (w.alloc (.cells #[] 88)).ownsRow w.heap.size 88 1 (.slice (some ⟨w.heap.size, 0, none⟩) 0 0) 0 [] :=
      ⟨rfl, .inr ⟨w.heap.size, 0, #[], rfl, Nat.le_refl _, heap_alloc_new w _, Nat.le_refl _, by decide, rfl, rfl⟩⟩
    go_enter Tryz.func50, Tryz.ntmps50
    go_wp2_with (at_builtin; refine wpList_append_own_none _ rfl _ _ 39 rfl w.heap.size 88 i0 1 Tryz.underlying39 hi0 _ _ _ rfl hrow rfl ?_)
    go_loopw [3] (fun v wr => v = .slice (some ⟨w.heap.size, 0, none⟩) 0 0 ∧ w.alloc (.cells #[] 88) = wr) (fun _ _ => 0)
    case atStart => exact ⟨rfl, rfl⟩
    case round =>
      obtain ⟨rfl, rfl⟩ := hrel
      go_wp2
      go_ret
      exact ⟨⟨_, rfl, _, _, [], rfl, (fun h => by cases h), Rd.nil, can_nil, rfl⟩, (Below.refl _ _).alloc (Nat.le_refl _) _⟩
  · have hrow : (w.alloc (.cells #[] 88)).ownsRow w.heap.size 88 1 (.slice (some ⟨w.heap.size, 0, none⟩) 0 0) 0 [] :=
      ⟨rfl, .inr ⟨w.heap.size, 0, #[], rfl, Nat.le_refl _, heap_alloc_new w _, Nat.le_refl _, by decide, rfl, rfl⟩⟩
    have hsrc : ∀ j u, (U xs)[j]? = some u → (w.alloc (.cells #[] 88)).cell? (ad.add j) = some u := by
      intro j u hu
      have hj : j < xs.length := by
        rcases Nat.lt_or_ge j xs.length with h | h
        · exact h
        · rw [List.getElem?_eq_none (by rw [U_len]; exact h)] at hu; cases hu
      obtain ⟨b, off, e, hb, hc⟩ := hr.at_ hj
      injection e with e
      subst e
      rw [U_get _ _ hj] at hu
      rw [← hu, ← hc, addr_add]
      exact World.cell?_of_block (a := ⟨b, off + j, none⟩) (Below.heap_alloc w _ b hb)
    go_enter Tryz.func50, Tryz.ntmps50
    go_wp2_with (at_builtin; refine wpList_append_own _ rfl _ _ 39 rfl w.heap.size 88 i0 (.int .u32 0) 1 4 Tryz.underlying39 hi0 hz0 hz1 hz2 rfl (by decide) _ _ _ rfl hrow ad xs.length c (U xs) rfl (by simp [U_len]) hsrc (u_one xs) (by unfold maxLen; omega) (by omega) (by simp) ?_; intro v1 w1 hown1 hg1 hiff)
    have hb1 : Below w.heap.size w w1 := ((Below.refl _ w).alloc (Nat.le_refl _) _).grown hg1 (by simp) (fun k e => by have e2 : (Value.slice (some ⟨w.heap.size, 0, none⟩) 0 0).ownBlock = some k := e; have e3 : some w.heap.size = some k := e2; injection e3 with e3; omega)
    simp only [Nat.zero_add, List.nil_append] at hown1
    have hfin : ∀ v2, (∃ k cap g, v2 = .slice (some ⟨g, 0, none⟩) k cap ∧ k = (trim xs).length ∧ Rd w1 (some ⟨g, 0, none⟩) xs) → NumR w1 v2 (val xs) := by
      rintro v2 ⟨k, cap, g, rfl, rfl, hrd⟩
      exact ⟨_, _, trim xs, rfl, (fun h => by cases h), hrd.trim, can_trim hx, val_trim xs⟩
    have HFIN := Lib.hid hfin
    clear hfin
    rcases own_cases hown1 with ⟨rfl, rfl⟩ | ⟨g, cap, rest, rfl, hgb, hB1, hcap, hcm, hlen⟩
    · have h := (hiff.1 rfl).1
      have h2 : Value.slice (some ⟨w.heap.size, 0, none⟩) 0 0 = .slice none 0 0 := h
      cases h2
    · clear hiff
      have hrd : Rd w1 (some ⟨g, 0, none⟩) xs := fun hl0 => ⟨g, 0, rfl, hB1.lt, fun k hk => by
        rw [Nat.zero_add, hB1.cell, List.getElem?_append_left (by rw [U_len]; exact hk), U_get _ _ hk]⟩
      have hlen2 := Lib.hid hlen
      have HOWN := Lib.hid hown1
      clear hlen hown1 hg1
      unfold maxLen at hcm
      go_wp2_with fail
      go_loopw [3] (fun v wr => RtRel xs w1 g cap v wr) (fun v _ => lenS v)
      case atStart => exact ⟨xs.length, Nat.le_refl _, rfl, by rw [List.take_length], rfl⟩
      case round =>
        obtain ⟨k, hk, rfl, ht, rfl⟩ := hrel
        have HT := Lib.hid ht
        clear ht
        rcases k with _ | j
        · go_wp2
          go_ret
          refine ⟨⟨_, rfl, HFIN.out _ ⟨0, cap, g, rfl, ?_, hrd⟩⟩, hb1⟩
          exact congrArg List.length HT.out
        · obtain ⟨b, off, e, hb, hcell⟩ := hrd.at_ (by omega : j < xs.length)
          cases e
          rw [Nat.zero_add] at hcell
          by_cases hz : xs[j]?.getD 0 = 0
          · have h1 := trim_take_zero xs j (by omega) hz
            rw [hz] at hcell
            clear hz
            have H1 := Lib.hid h1
            clear h1
            go_wp2
            go_roundw
            case rel => exact ⟨j, by omega, by go_num, by rw [← H1.out, HT.out], rfl⟩
            case measure => simp [lenS]
          · have hzz : (((xs[j]?.getD 0 : Nat) : Int) == 0) = false := by rw [beq_eq_false_iff_ne]; omega
            have h1 := trim_take_pos xs j (by omega) hz
            clear hz
            have H1 := Lib.hid h1
            clear h1
            go_wp2
            go_ret
            refine ⟨⟨_, rfl, HFIN.out _ ⟨j + 1, cap, g, rfl, ?_, hrd⟩⟩, hb1⟩
            have h := congrArg List.length (H1.out.symm.trans HT.out)
            rw [List.length_take, Nat.min_eq_left hk] at h
            exact h

end LM
end Go.Proofs.YtpoojlnndgoeoaaGreatDoor
