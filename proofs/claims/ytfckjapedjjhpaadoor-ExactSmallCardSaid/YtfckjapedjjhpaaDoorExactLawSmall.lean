/- The walk of the statement ExactSmall. -/
import Derived.Test.YtfckjapedjjhpaaDoorExactOf
import Derived.Test.YtfckjapedjjhpaaDoorExactZ
import Derived.Deep.RegionHeld3
namespace Go.Proofs.YtfckjapedjjhpaaDoor
open Go.RowKit
namespace LM
set_option linter.unusedVariables false

theorem esame_yes {va vb : Value} {x : Int} {w : World} (ha : IntV w va x) (hb : IntV w vb x) (hx : ¬ BigI x) : Calls Tryd.prog 17 #[va, vb] w fun e w' => e = .returned (.bool true) ∧ Below w.heap.size w w' := by
  have h := esame_int ha hb hx hx
  rw [decide_eq_true (rfl : x = x)] at h
  exact h
theorem SmallE.inn {x : Int} {e : Ending} (h : SmallE x e) (h1 : -9223372036854775808 ≤ x) (h2 : x ≤ 9223372036854775807) : e = .returned (.tuple #[.int .i64 x, .bool true]) := by
  rcases h with ⟨_, _, h3⟩ | ⟨h3, _⟩
  · exact h3
  · exact absurd ⟨h1, h2⟩ h3

set_option maxRecDepth 10000000 in
set_option maxHeartbeats 8000000 in
theorem esmall_a (s : Bool) (A : Option Addr) (ca : Nat) (xs : List Nat) (n : Int) (w : World) (ha : Rd w A xs) (hx : Lm xs) (hca : xs.length ≤ ca) (hcam : ca ≤ 9223372036854775807) (hna : A = none → xs.length = 0 ∧ ca = 0) (lo : -9223372036854775808 ≤ n) (hi : n ≤ 9223372036854775807)
    (htab : Lib.TabIs Tryd.prog w "internal/strconv.uint64pow10" .u64 Lib.pow10Tab) (hl : 100 < xs.length) :
    Calls Tryd.prog 4 #[.agg #[.bool s, .slice A xs.length ca], .int .i64 n] w fun e w' => e = .returned (.bool true) ∧ Below w.heap.size w w' := by
  have dt1 : decide (100 < (xs.length : Int)) = true := decide_eq_true (by omega)
  have dt2 : decide (100 < xs.length) = true := decide_eq_true (by omega)
  have hb0 : Below w.heap.size w (w.alloc (.cells #[.bool s, .slice A xs.length ca] 24)) := (Below.refl _ w).alloc (Nat.le_refl _) _
  have HB0 := Lib.hid hb0
  have XS0 := Lib.hid (Bxs.nil.cons (Bx.new w s A xs.length ca))
  have HAL := Lib.hid (ealive_any _ (tab_below htab hb0))
  have HA0 := Lib.hid (ha.below hb0)
  have HX := Lib.hid hx
  have HNA := Lib.hid hna
  have HL := Lib.hid (show -9223372036854775808 ≤ n ∧ n ≤ 9223372036854775807 from ⟨lo, hi⟩)
  have NN := Lib.hid (show ¬ BigI n from small_not_big (by omega))
  clear hb0 ha hx hna htab lo hi
  go_enter Tryd.func4, Tryd.ntmps4
  go_wp2_with fail
  refine HAL.out.mono ?_
  rintro e w1 ⟨rfl, hb1⟩
  have XS1 := Lib.hid (XS0.out.below hb1)
  have HB1 := Lib.hid (HB0.out.trans (hb1.mono HB0.out.size))
  clear hb1
  obtain ⟨q0, q1, -, -, ql⟩ := XS1.out.hd.facts
  go_wp2
  go_ret
  exact ⟨rfl, HB1.out⟩

set_option maxRecDepth 10000000 in
set_option maxHeartbeats 8000000 in
theorem esmall_b (s : Bool) (A : Option Addr) (ca : Nat) (xs : List Nat) (n : Int) (w : World) (ha : Rd w A xs) (hx : Lm xs) (hca : xs.length ≤ ca) (hcam : ca ≤ 9223372036854775807) (hna : A = none → xs.length = 0 ∧ ca = 0) (lo : -9223372036854775808 ≤ n) (hi : n ≤ 9223372036854775807)
    (htab : Lib.TabIs Tryd.prog w "internal/strconv.uint64pow10" .u64 Lib.pow10Tab) (hl : xs.length ≤ 100) (hrx : rightB s xs = false) :
    Calls Tryd.prog 4 #[.agg #[.bool s, .slice A xs.length ca], .int .i64 n] w fun e w' => e = .returned (.bool true) ∧ Below w.heap.size w w' := by
  have dt1 : decide (100 < (xs.length : Int)) = false := decide_eq_false (by omega)
  have dt2 : decide (100 < xs.length) = false := decide_eq_false (by omega)
  have HRX := Lib.hid hrx
  have hb0 : Below w.heap.size w (w.alloc (.cells #[.bool s, .slice A xs.length ca] 24)) := (Below.refl _ w).alloc (Nat.le_refl _) _
  have HB0 := Lib.hid hb0
  have XS0 := Lib.hid (Bxs.nil.cons (Bx.new w s A xs.length ca))
  have HAL := Lib.hid (ealive_any _ (tab_below htab hb0))
  have HA0 := Lib.hid (ha.below hb0)
  have HX := Lib.hid hx
  have HNA := Lib.hid hna
  have HL := Lib.hid (show -9223372036854775808 ≤ n ∧ n ≤ 9223372036854775807 from ⟨lo, hi⟩)
  have NN := Lib.hid (show ¬ BigI n from small_not_big (by omega))
  clear hb0 ha hx hna htab lo hi hrx
  go_enter Tryd.func4, Tryd.ntmps4
  go_wp2_with fail
  refine HAL.out.mono ?_
  rintro e w1 ⟨rfl, hb1⟩
  have XS1 := Lib.hid (XS0.out.below hb1).drew
  have HB1 := Lib.hid (HB0.out.trans (hb1.mono HB0.out.size)).drew
  have hbd : Below w1.heap.size w1 w1.drew := (Below.refl _ _).drew
  have HA1 := Lib.hid ((HA0.out.below hb1).below hbd)
  have C1 := Lib.hid (eright_any s A ca xs w1.drew HA1.out HX.out (by omega))
  rw [HRX.out] at C1
  have KS : Hid (∀ W, Bxs W [(w.heap.size, s, A, xs.length, ca)] → W.cell? ⟨w.heap.size, 0, none⟩ = some (.bool s) ∧ W.cell? ⟨w.heap.size, 1, none⟩ = some (.slice A xs.length ca)) := Lib.hid (fun W h => ⟨h.hd.c0, h.hd.c1⟩)
  obtain ⟨q0, q1, -, -, ql⟩ := (XS0.out.below hb1).hd.facts
  clear hb1 hbd
  go_wp2
  first
  | go_region_held3 (fun W => W.cell? ⟨w.heap.size, 0, none⟩ = some (.bool s) ∧ W.cell? ⟨w.heap.size, 1, none⟩ = some (.slice A xs.length ca))
      ((exact KS.out _ (Hid.out (by assumption))))
      (first
        | (go_at_call 15; (with_reducible refine C1.out.mono ?_); rintro e w2 ⟨rfl, hb2⟩; have XS2 := Lib.hid (XS1.out.below hb2); have HB2 := Lib.hid (HB1.out.trans (hb2.mono HB1.out.size)); have HA2 := Lib.hid (HA1.out.below hb2); have C2 := Lib.hid (rright_any s A ca xs w2 HA2.out HX.out hca hcam HNA.out); rw [HRX.out] at C2; clear hb2)
        | (go_at_call 16; (with_reducible refine C2.out.mono ?_); rintro e w3 ⟨rfl, hb3⟩; have XS3 := Lib.hid (XS2.out.below hb3); have HB3 := Lib.hid (HB2.out.trans (hb3.mono HB2.out.size)); have HA3 := Lib.hid (HA2.out.below hb3); have C3 := Lib.hid (eof_int n HL.out.1 HL.out.2 w3); clear hb3)
        | (go_at_call 12; (with_reducible refine C3.out.mono ?_); intro e w4 hz4; obtain ⟨s4, A4, n4, c4, rfl, hv4, hb4⟩ := hz4.gen; have XS4 := Lib.hid (XS3.out.below hb4); have HB4 := Lib.hid (HB3.out.trans (hb4.mono HB3.out.size)); have HA4 := Lib.hid (HA3.out.below hb4); have V4 := Lib.hid hv4; have C4 := Lib.hid (rof2c_int n HL.out.1 HL.out.2 w4); clear hz4 hv4 hb4)
        | (go_at_call 18; (with_reducible refine C4.out.mono ?_); rintro e w5 ⟨s5, A5, n5, c5, rfl, hv5, hb5⟩; have XS5 := Lib.hid (XS4.out.below hb5); have HB5 := Lib.hid (HB4.out.trans (hb5.mono HB4.out.size)); have HA5 := Lib.hid (HA4.out.below hb5); have C5 := Lib.hid (esame_yes (V4.out.keep hb5) hv5 NN.out); clear hv5 hb5)
        | (go_at_call 17; (with_reducible refine C5.out.mono ?_); rintro e w6 ⟨rfl, hb6⟩; have XS6 := Lib.hid (XS5.out.below hb6); have HB6 := Lib.hid (HB5.out.trans (hb6.mono HB5.out.size)); have HA6 := Lib.hid (HA5.out.below hb6); have C6 := Lib.hid (eof_int n HL.out.1 HL.out.2 w6); clear hb6))
  | fail "the region"
  all_goals
    clear q0 q1 ql
    go_wp2_with fail
    refine C6.out.mono ?_
    intro e w7 hz7
    obtain ⟨s7, A7, n7, c7, rfl, hv7, hb7⟩ := hz7.gen
    have XS7 := Lib.hid (XS6.out.below hb7)
    have HB7 := Lib.hid (HB6.out.trans (hb7.mono HB6.out.size))
    have HA7 := Lib.hid (HA6.out.below hb7)
    have C7 := Lib.hid (esmall_int hv7)
    clear hz7 hv7 hb7
    go_wp2_with fail
    refine C7.out.mono ?_
    rintro e w8 ⟨he8, hb8⟩
    obtain rfl := he8.inn HL.out.1 HL.out.2
    have XS8 := Lib.hid (XS7.out.below hb8)
    have HB8 := Lib.hid (HB7.out.trans (hb8.mono HB7.out.size))
    have HA8 := Lib.hid (HA7.out.below hb8)
    have C8 := Lib.hid (rright_any s A ca xs w8 HA8.out HX.out hca hcam HNA.out)
    rw [HRX.out] at C8
    clear he8 hb8
    have nn1 : (n != n) = false := bne_self_eq_false n
    have nn2 : (n == n) = true := beq_self_eq_true n
    obtain ⟨q0, q1, -, -, ql⟩ := XS8.out.hd.facts
    go_wp2_with fail
    refine C8.out.mono ?_
    rintro e w9 ⟨rfl, hb9⟩
    have HB9 := Lib.hid (HB8.out.trans (hb9.mono HB8.out.size))
    clear hb9 q0 q1 ql
    go_wp2
    go_ret
    exact ⟨rfl, HB9.out⟩

set_option maxRecDepth 10000000 in
set_option maxHeartbeats 8000000 in
theorem esmall_main (s : Bool) (A : Option Addr) (ca : Nat) (xs : List Nat) (n : Int) (w : World) (ha : Rd w A xs) (hx : Lm xs) (hca : xs.length ≤ ca) (hcam : ca ≤ 9223372036854775807) (hna : A = none → xs.length = 0 ∧ ca = 0) (lo : -9223372036854775808 ≤ n) (hi : n ≤ 9223372036854775807)
    (htab : Lib.TabIs Tryd.prog w "internal/strconv.uint64pow10" .u64 Lib.pow10Tab) (hl : xs.length ≤ 100) (hrx : rightB s xs = true) :
    Calls Tryd.prog 4 #[.agg #[.bool s, .slice A xs.length ca], .int .i64 n] w fun e w' => e = .returned (.bool true) ∧ Below w.heap.size w w' := by
  have dt1 : decide (100 < (xs.length : Int)) = false := decide_eq_false (by omega)
  have dt2 : decide (100 < xs.length) = false := decide_eq_false (by omega)
  have HRX := Lib.hid hrx
  have hb0 : Below w.heap.size w (w.alloc (.cells #[.bool s, .slice A xs.length ca] 24)) := (Below.refl _ w).alloc (Nat.le_refl _) _
  have HB0 := Lib.hid hb0
  have XS0 := Lib.hid (Bxs.nil.cons (Bx.new w s A xs.length ca))
  have HAL := Lib.hid (ealive_any _ (tab_below htab hb0))
  have HA0 := Lib.hid (ha.below hb0)
  have HX := Lib.hid hx
  have HNA := Lib.hid hna
  have HL := Lib.hid (show -9223372036854775808 ≤ n ∧ n ≤ 9223372036854775807 from ⟨lo, hi⟩)
  have NN := Lib.hid (show ¬ BigI n from small_not_big (by omega))
  clear hb0 ha hx hna htab lo hi hrx
  go_enter Tryd.func4, Tryd.ntmps4
  go_wp2_with fail
  refine HAL.out.mono ?_
  rintro e w1 ⟨rfl, hb1⟩
  have XS1 := Lib.hid (XS0.out.below hb1).drew
  have HB1 := Lib.hid (HB0.out.trans (hb1.mono HB0.out.size)).drew
  have hbd : Below w1.heap.size w1 w1.drew := (Below.refl _ _).drew
  have HA1 := Lib.hid ((HA0.out.below hb1).below hbd)
  have C1 := Lib.hid (eright_any s A ca xs w1.drew HA1.out HX.out (by omega))
  rw [HRX.out] at C1
  have KS : Hid (∀ W, Bxs W [(w.heap.size, s, A, xs.length, ca)] → W.cell? ⟨w.heap.size, 0, none⟩ = some (.bool s) ∧ W.cell? ⟨w.heap.size, 1, none⟩ = some (.slice A xs.length ca)) := Lib.hid (fun W h => ⟨h.hd.c0, h.hd.c1⟩)
  obtain ⟨q0, q1, -, -, ql⟩ := (XS0.out.below hb1).hd.facts
  clear hb1 hbd
  go_wp2
  first
  | go_region_held3 (fun W => W.cell? ⟨w.heap.size, 0, none⟩ = some (.bool s) ∧ W.cell? ⟨w.heap.size, 1, none⟩ = some (.slice A xs.length ca))
      ((exact KS.out _ (Hid.out (by assumption))))
      (first
        | (go_at_call 15; (with_reducible refine C1.out.mono ?_); rintro e w2 ⟨rfl, hb2⟩; have XS2 := Lib.hid (XS1.out.below hb2); have HB2 := Lib.hid (HB1.out.trans (hb2.mono HB1.out.size)); have HA2 := Lib.hid (HA1.out.below hb2); have C2 := Lib.hid (rright_any s A ca xs w2 HA2.out HX.out hca hcam HNA.out); rw [HRX.out] at C2; clear hb2)
        | (go_at_call 16; (with_reducible refine C2.out.mono ?_); rintro e w3 ⟨rfl, hb3⟩; have XS3 := Lib.hid (XS2.out.below hb3); have HB3 := Lib.hid (HB2.out.trans (hb3.mono HB2.out.size)); have HA3 := Lib.hid (HA2.out.below hb3); have C3 := Lib.hid (eof_int n HL.out.1 HL.out.2 w3); clear hb3)
        | (go_at_call 12; (with_reducible refine C3.out.mono ?_); intro e w4 hz4; obtain ⟨s4, A4, n4, c4, rfl, hv4, hb4⟩ := hz4.gen; have XS4 := Lib.hid (XS3.out.below hb4); have HB4 := Lib.hid (HB3.out.trans (hb4.mono HB3.out.size)); have HA4 := Lib.hid (HA3.out.below hb4); have V4 := Lib.hid hv4; have C4 := Lib.hid (rof2c_int n HL.out.1 HL.out.2 w4); clear hz4 hv4 hb4)
        | (go_at_call 18; (with_reducible refine C4.out.mono ?_); rintro e w5 ⟨s5, A5, n5, c5, rfl, hv5, hb5⟩; have XS5 := Lib.hid (XS4.out.below hb5); have HB5 := Lib.hid (HB4.out.trans (hb5.mono HB4.out.size)); have HA5 := Lib.hid (HA4.out.below hb5); have C5 := Lib.hid (esame_yes (V4.out.keep hb5) hv5 NN.out); clear hv5 hb5)
        | (go_at_call 17; (with_reducible refine C5.out.mono ?_); rintro e w6 ⟨rfl, hb6⟩; have XS6 := Lib.hid (XS5.out.below hb6); have HB6 := Lib.hid (HB5.out.trans (hb6.mono HB5.out.size)); have HA6 := Lib.hid (HA5.out.below hb6); have C6 := Lib.hid (eof_int n HL.out.1 HL.out.2 w6); clear hb6))
  | fail "the region"
  all_goals
    clear q0 q1 ql
    go_wp2_with fail
    refine C6.out.mono ?_
    intro e w7 hz7
    obtain ⟨s7, A7, n7, c7, rfl, hv7, hb7⟩ := hz7.gen
    have XS7 := Lib.hid (XS6.out.below hb7)
    have HB7 := Lib.hid (HB6.out.trans (hb7.mono HB6.out.size))
    have HA7 := Lib.hid (HA6.out.below hb7)
    have C7 := Lib.hid (esmall_int hv7)
    clear hz7 hv7 hb7
    go_wp2_with fail
    refine C7.out.mono ?_
    rintro e w8 ⟨he8, hb8⟩
    obtain rfl := he8.inn HL.out.1 HL.out.2
    have XS8 := Lib.hid (XS7.out.below hb8)
    have HB8 := Lib.hid (HB7.out.trans (hb8.mono HB7.out.size))
    have HA8 := Lib.hid (HA7.out.below hb8)
    have C8 := Lib.hid (rright_any s A ca xs w8 HA8.out HX.out hca hcam HNA.out)
    rw [HRX.out] at C8
    clear he8 hb8
    have nn1 : (n != n) = false := bne_self_eq_false n
    have nn2 : (n == n) = true := beq_self_eq_true n
    obtain ⟨q0, q1, -, -, ql⟩ := XS8.out.hd.facts
    go_wp2_with fail
    refine C8.out.mono ?_
    rintro e w9 ⟨rfl, hb9⟩
    have HB9 := Lib.hid (HB8.out.trans (hb9.mono HB8.out.size))
    have XS9 := Lib.hid (XS8.out.below hb9)
    have HA9 := Lib.hid (HA8.out.below hb9)
    have C9 := Lib.hid (esmall_int (intV_of HRX.out HA9.out HX.out hca hcam).1)
    clear hb9 q0 q1 ql
    obtain ⟨q0, q1, -, -, ql⟩ := XS9.out.hd.facts
    go_wp2_with fail
    refine C9.out.mono ?_
    rintro e wa ⟨hea, hba⟩
    obtain ⟨ka, ba, rfl, ea⟩ := hea.form
    have XSa := Lib.hid (XS9.out.below hba)
    have HBa := Lib.hid (HB9.out.trans (hba.mono HB9.out.size))
    have HAa := Lib.hid (HA9.out.below hba)
    have Ca := Lib.hid (rsmall_right s A ca xs wa HAa.out HX.out HRX.out)
    have EA := Lib.hid ea
    clear hea ea hba q0 q1 ql
    obtain ⟨q0, q1, -, -, ql⟩ := XSa.out.hd.facts
    go_wp2_with fail
    refine Ca.out.mono ?_
    rintro e wb ⟨heb, hbb⟩
    obtain ⟨kb, bb, rfl, eb⟩ := heb.form
    have hab := EA.out.trans eb.symm
    injection hab with h1 h2
    subst h1 h2
    have HBb := Lib.hid (HBa.out.trans (hbb.mono HBa.out.size))
    clear heb eb hbb q0 q1 ql EA
    have kk1 : (ka == ka) = true := beq_self_eq_true ka
    have kk2 : (ba == ba) = true := beq_self_eq_true ba
    go_wp2
    go_ret
    exact ⟨rfl, HBb.out⟩

theorem esmall_walk (s : Bool) (A : Option Addr) (ca : Nat) (xs : List Nat) (n : Int) (w : World) (ha : Rd w A xs) (hx : Lm xs) (hca : xs.length ≤ ca) (hcam : ca ≤ 9223372036854775807) (hna : A = none → xs.length = 0 ∧ ca = 0) (lo : -9223372036854775808 ≤ n) (hi : n ≤ 9223372036854775807)
    (htab : Lib.TabIs Tryd.prog w "internal/strconv.uint64pow10" .u64 Lib.pow10Tab) :
    Calls Tryd.prog 4 #[.agg #[.bool s, .slice A xs.length ca], .int .i64 n] w fun e w' => e = .returned (.bool true) ∧ Below w.heap.size w w' := by
  by_cases hl : 100 < xs.length
  · exact esmall_a s A ca xs n w ha hx hca hcam hna lo hi htab hl
  · by_cases r1 : rightB s xs = true
    · exact esmall_main s A ca xs n w ha hx hca hcam hna lo hi htab (by omega) r1
    · exact esmall_b s A ca xs n w ha hx hca hcam hna lo hi htab (by omega) (by simpa using r1)

end LM
end Go.Proofs.YtfckjapedjjhpaaDoor
