/- Walks of package exact: Of, Text, Quo of whole numbers. -/
import Derived.Test.YtfckjapedjjhpaaDoorExactE
import Derived.Test.YtfckjapedjjhpaaDoorLimbT
import Derived.Test.YtfckjapedjjhpaaDoorLimbTextRow
import Derived.Lib.SmallJoins
namespace Go.Proofs.YtfckjapedjjhpaaDoor
open Go.RowKit
namespace LM

theorem equo_int {va vb : Value} {x y : Int} {w : World} (ha : IntV w va x) (hb : IntV w vb y) (hx : ¬ BigI x) (hy : ¬ BigI y) : Calls Tryd.prog 32 #[va, vb] w (RetQ w x y) := by
  obtain ⟨A, ca, xs, rfl, h1, h2, h3, h4, h5⟩ := ha
  obtain ⟨B, cb, ys, rfl, k1, k2, k3, k4, k5⟩ := hb
  have l1 : xs.length ≤ 64 := len_not_big h4 (by rw [h5]; exact hx)
  have l2 : ys.length ≤ 64 := len_not_big k4 (by rw [k5]; exact hy)
  exact equo_any (decide (x < 0)) (decide (y < 0)) A B ca cb xs ys w h3 k3 h4 k4 h1 k1 h2 k2 l1 l2 x y rfl rfl h5 k5

theorem wrap_neg2 (m : Nat) (h1 : 1 ≤ m) (h2 : m ≤ 9223372036854775808) : IntKind.u64.wrap (-IntKind.u64.wrap (-(m : Int))) = (m : Int) := by
  go_arith
theorem str_cons (a : UInt8) (l : List UInt8) : (⟨#[a]⟩ ++ ⟨l.toArray⟩ : ByteArray) = ⟨(a :: l).toArray⟩ := by
  apply ByteArray.ext
  apply Array.ext'
  rw [Joins.data_append]
  rfl
theorem new1 (w : World) : Below w.heap.size w (w.alloc (.cells #[.bool false, .slice none 0 0] 24)) ∧ Bx (w.alloc (.cells #[.bool false, .slice none 0 0] 24)) w.heap.size false none 0 0 :=
  ⟨(Below.refl _ w).alloc (Nat.le_refl _) _, Bx.new w false none 0 0⟩

set_option maxRecDepth 100000 in
set_option maxHeartbeats 1000000 in
theorem eof_pos (m : Nat) (hm : m ≤ 9223372036854775807) (w : World) :
    Calls Tryd.prog 12 #[.int .i64 (m : Int)] w (RetI w (sg false m)) := by
  obtain ⟨hb0, x0⟩ := new1 w
  have HB0 := Lib.hid hb0
  have X0 := Lib.hid x0
  have H1 := Lib.hid (of_any m (w.alloc (.cells #[.bool false, .slice none 0 0] 24)) (by omega))
  have hneg : decide ((m : Int) < 0) = false := decide_eq_false (by omega)
  clear hb0 x0
  go_enter Tryd.func12, Tryd.ntmps12
  go_wp2_with fail
  refine H1.out.mono ?_
  rintro e w1 ⟨⟨v, rfl, hN⟩, hb1⟩
  obtain ⟨A1, c1, r1, rfl, hr1, hc1, hrd, hcan, hval⟩ := numW_of hN
  have X1 := Lib.hid (X0.out.below hb1)
  have HB1 := Lib.hid (HB0.out.trans (hb1.mono HB0.out.size))
  have HS := Lib.hid (signed_num false A1 c1 r1 w1 hr1 hc1 hrd hcan)
  rw [hval] at HS
  clear hN hrd hcan hb1 hval
  go_wp2_with fail
  refine HS.out.mono ?_
  rintro e w2 ⟨A2, n2, c2, rfl, hv, hb2⟩
  have X2 := Lib.hid (X1.out.below hb2)
  obtain ⟨q0, q1, z0, z1, zl⟩ := X2.out.facts
  have HB2 := Lib.hid (HB1.out.trans (hb2.mono HB1.out.size))
  have HV := Lib.hid hv
  clear hv hb2
  go_wp2
  obtain ⟨W3, hW3, Z, hb3, hv3, -, -, -⟩ := stored_world X2.out HB2.out (by omega) (decide (sg false m < 0)) A2 n2 c2
  rw [hW3]
  have HV3 := Lib.hid (hv3 _ _ HV.out)
  obtain ⟨c0, c1, -, -, -⟩ := Z.facts
  clear q0 q1 z0 z1 zl hW3 hv3
  refine bodyPost_ret (v := .agg #[.bool (decide (sg false m < 0)), .slice A2 n2 c2]) (by simp [results, Tryd.results12, go_sem, c0, c1]) rfl ?_
  exact ⟨_, _, _, rfl, HV3.out, hb3⟩

set_option maxRecDepth 100000 in
set_option maxHeartbeats 1000000 in
theorem eof_neg (m : Nat) (h1 : 1 ≤ m) (hm : m ≤ 9223372036854775808) (w : World) :
    Calls Tryd.prog 12 #[.int .i64 (-(m : Int))] w (RetI w (sg true m)) := by
  obtain ⟨hb0, x0⟩ := new1 w
  have HB0 := Lib.hid hb0
  have X0 := Lib.hid x0
  have H1 := Lib.hid (of_any m (w.alloc (.cells #[.bool false, .slice none 0 0] 24)) (by omega))
  have hneg : decide (-(m : Int) < 0) = true := decide_eq_true (by omega)
  clear hb0 x0
  go_enter Tryd.func12, Tryd.ntmps12
  go_wp2_with fail
  rw [wrap_neg2 m h1 hm]
  refine H1.out.mono ?_
  rintro e w1 ⟨⟨v, rfl, hN⟩, hb1⟩
  obtain ⟨A1, c1, r1, rfl, hr1, hc1, hrd, hcan, hval⟩ := numW_of hN
  have X1 := Lib.hid (X0.out.below hb1)
  have HB1 := Lib.hid (HB0.out.trans (hb1.mono HB0.out.size))
  have HS := Lib.hid (signed_num true A1 c1 r1 w1 hr1 hc1 hrd hcan)
  rw [hval] at HS
  clear hN hrd hcan hb1 hval
  go_wp2_with fail
  refine HS.out.mono ?_
  rintro e w2 ⟨A2, n2, c2, rfl, hv, hb2⟩
  have X2 := Lib.hid (X1.out.below hb2)
  obtain ⟨q0, q1, z0, z1, zl⟩ := X2.out.facts
  have HB2 := Lib.hid (HB1.out.trans (hb2.mono HB1.out.size))
  have HV := Lib.hid hv
  clear hv hb2
  go_wp2
  obtain ⟨W3, hW3, Z, hb3, hv3, -, -, -⟩ := stored_world X2.out HB2.out (by omega) (decide (sg true m < 0)) A2 n2 c2
  rw [hW3]
  have HV3 := Lib.hid (hv3 _ _ HV.out)
  obtain ⟨c0, c1, -, -, -⟩ := Z.facts
  clear q0 q1 z0 z1 zl hW3 hv3
  refine bodyPost_ret (v := .agg #[.bool (decide (sg true m < 0)), .slice A2 n2 c2]) (by simp [results, Tryd.results12, go_sem, c0, c1]) rfl ?_
  exact ⟨_, _, _, rfl, HV3.out, hb3⟩

/-- that of any int -/
theorem eof_int (z : Int) (h1 : -9223372036854775808 ≤ z) (h2 : z ≤ 9223372036854775807) (w : World) : Calls Tryd.prog 12 #[.int .i64 z] w (RetI w z) := by
  by_cases h : z < 0
  · obtain ⟨m, rfl⟩ : ∃ m : Nat, z = -(m : Int) := ⟨z.natAbs, by omega⟩
    have := eof_neg m (by omega) (by omega) w
    rw [show sg true m = -(m : Int) from rfl] at this
    exact this
  · obtain ⟨m, rfl⟩ : ∃ m : Nat, z = (m : Int) := ⟨z.natAbs, by omega⟩
    have := eof_pos m (by omega) w
    rw [show sg false m = (m : Int) from rfl] at this
    exact this

/-- a text: the bytes, and a - ahead of them -/
def decI (z : Int) : List UInt8 := if z < 0 then 45 :: Lib.decDigits z.natAbs else Lib.decDigits z.natAbs

set_option maxRecDepth 100000 in
set_option maxHeartbeats 1000000 in
theorem etext_pos (A : Option Addr) (ca : Nat) (xs : List Nat) (w : World) (ha : Rd w A xs) (hx : Can xs) (hca : xs.length ≤ ca) (hcam : ca ≤ 9223372036854775807) (hxl : xs.length ≤ 64) (htab : Lib.TabIs Tryd.prog w "internal/strconv.uint64pow10" .u64 Lib.pow10Tab) :
    Calls Tryd.prog 14 #[.agg #[.bool false, .slice A xs.length ca]] w fun e w' => e = .returned (.string ⟨(Lib.decDigits (val xs)).toArray⟩) ∧ Below w.heap.size w w' := by
  have hb0 : Below w.heap.size w (w.alloc (.cells #[.bool false, .slice A xs.length ca] 24)) := (Below.refl _ w).alloc (Nat.le_refl _) _
  have HB0 := Lib.hid hb0
  have H1 := Lib.hid (text_row A ca xs _ (ha.below hb0) hx.1 hca hcam (tab_below htab hb0))
  have NX := Lib.hid (not_big_len hx hxl)
  clear hb0 ha hx htab
  go_enter Tryd.func14, Tryd.ntmps14
  go_wp2_with fail
  refine H1.out.mono ?_
  rintro e w1 ⟨⟨l, rfl, hl⟩, hb1⟩
  obtain rfl : l = _ := hl.elim (fun h => absurd h.1 NX.out) fun h => h.2
  have HB1 := Lib.hid (HB0.out.trans (hb1.mono HB0.out.size))
  clear hl hb1
  go_wp2
  go_ret
  exact ⟨rfl, HB1.out⟩

set_option maxRecDepth 100000 in
set_option maxHeartbeats 1000000 in
theorem etext_neg (A : Option Addr) (ca : Nat) (xs : List Nat) (w : World) (ha : Rd w A xs) (hx : Can xs) (hca : xs.length ≤ ca) (hcam : ca ≤ 9223372036854775807) (hxl : xs.length ≤ 64) (htab : Lib.TabIs Tryd.prog w "internal/strconv.uint64pow10" .u64 Lib.pow10Tab) :
    Calls Tryd.prog 14 #[.agg #[.bool true, .slice A xs.length ca]] w fun e w' => e = .returned (.string ⟨(45 :: Lib.decDigits (val xs)).toArray⟩) ∧ Below w.heap.size w w' := by
  have hb0 : Below w.heap.size w (w.alloc (.cells #[.bool true, .slice A xs.length ca] 24)) := (Below.refl _ w).alloc (Nat.le_refl _) _
  have HB0 := Lib.hid hb0
  have H1 := Lib.hid (text_row A ca xs _ (ha.below hb0) hx.1 hca hcam (tab_below htab hb0))
  have NX := Lib.hid (not_big_len hx hxl)
  clear hb0 ha hx htab
  go_enter Tryd.func14, Tryd.ntmps14
  go_wp2_with fail
  refine H1.out.mono ?_
  rintro e w1 ⟨⟨l, rfl, hl⟩, hb1⟩
  obtain rfl : l = _ := hl.elim (fun h => absurd h.1 NX.out) fun h => h.2
  have HB1 := Lib.hid (HB0.out.trans (hb1.mono HB0.out.size))
  have hsz : ¬ 9223372036854775807 < 1 + (Lib.decDigits (val xs)).length := by
    have := (dec_fits NX.out).2
    omega
  have HSC := Lib.hid (str_cons 45 (Lib.decDigits (val xs)))
  clear hl hb1
  go_wp2
  go_ret
  exact ⟨congrArg (fun t => Ending.returned (.string t)) HSC.out, HB1.out⟩

/-- the text of any number that is not too great -/
theorem etext_int {va : Value} {x : Int} {w : World} (ha : IntV w va x) (hx : ¬ BigI x) (htab : Lib.TabIs Tryd.prog w "internal/strconv.uint64pow10" .u64 Lib.pow10Tab) :
    Calls Tryd.prog 14 #[va] w fun e w' => e = .returned (.string ⟨(decI x).toArray⟩) ∧ Below w.heap.size w w' := by
  obtain ⟨A, ca, xs, rfl, h1, h2, h3, h4, h5⟩ := ha
  have l1 : xs.length ≤ 64 := len_not_big h4 (by rw [h5]; exact hx)
  unfold decI
  rw [← h5]
  by_cases hn : x < 0
  · rw [decide_eq_true hn, if_pos hn]
    exact etext_neg A ca xs w h3 h4 h1 h2 l1 htab
  · rw [decide_eq_false hn, if_neg hn]
    exact etext_pos A ca xs w h3 h4 h1 h2 l1 htab

end LM
end Go.Proofs.YtfckjapedjjhpaaDoor
