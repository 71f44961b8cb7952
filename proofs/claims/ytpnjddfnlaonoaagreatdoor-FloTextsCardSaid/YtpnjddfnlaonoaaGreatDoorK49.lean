/- The law FloTexts, of what the row lists. -/
import Derived.Test.YtpnjddfnlaonoaaGreatDoorK40
import Derived.Test.YtpnjddfnlaonoaaGreatDoorK48
import Derived.Test.YtpnjddfnlaonoaaGreatDoorK23
import Derived.Test.YtpnjddfnlaonoaaGreatDoorK37
import Derived.Test.YtpnjddfnlaonoaaGreatDoorK51
namespace Go.Proofs.YtpnjddfnlaonoaaGreatDoor
open Go Go.Shelf Go.RowKit Go.Sort Go.Lib
namespace LM
set_option linter.unusedVariables false

set_option maxRecDepth 100000 in
set_option maxHeartbeats 4000000 in
theorem ftoaF_pzero (b B : Nat) (W0 : World) (v : Value) (w : World) (hbe : b = 0) (hob : OB B W0 0 [] v [] w) :
    Calls Tryz.prog 163 #[v, .float .f64 b, .int .u8 102, .int .i64 (-1)] w fun r w' =>
      ∃ v' g ds, r = .returned v' ∧ OB B W0 g ds v' (fmtF false [] 0) w' := by
  obtain ⟨bq, hbq⟩ : ∃ q, b / 4503599627370496 = q := ⟨_, rfl⟩
  have hbqi : (b : Int) / 4503599627370496 = (bq : Int) := by omega
  have hbql : bq < 4096 := by omega
  have hex2 : bits .and .i64 (bq : Int) 2047 = 0 := by
    have h := i64_and_nat bq 2047 (by omega) (by decide)
    have h2 : bq &&& 2047 = 0 := by rw [nat_mask11]; omega
    rw [h2] at h
    exact h
  have hfr2 : bits .and .u64 (b : Int) 4503599627370495 = 0 := by
    have h := u64_and_nat b 4503599627370495 (by omega) (by decide)
    have h2 : b &&& 4503599627370495 = 0 := by
      rw [show b &&& 4503599627370495 = b % 2 ^ 52 from Nat.and_two_pow_sub_one_eq_mod b 52]
      omega
    rw [h2] at h
    exact h
  have hneg2 : ((b : Int) / 9223372036854775808 != 0) = false := by
    rw [bne_eq_false_iff_eq]; omega
  have RB := run_sbits b
  have FZ := Lib.hid fun k => fmtF_zero B W0 v [] (w.drewN k) false 0 (hob.drewN k) (by decide)
  clear hbe hbq hob
  go_enter Tryz.func163, Tryz.ntmps163
  go_wp2_with (fail)
  go_quiet (fail)
  go_wp2_with (fail)
  refine (FZ.out _).mono ?_
  rintro r w4 ⟨v4, rfl, hob4⟩
  go_wp2
  go_ret
  exact ⟨_, _, _, rfl, hob4⟩


set_option maxRecDepth 100000 in
set_option maxHeartbeats 1000000 in
theorem flotext_pinf (w : World) :
    Calls Tryz.prog 12 #[.float .f64 9218868437227405312] w fun e w' => e = .returned (.string ⟨#[43, 105, 110, 102, 46, 48]⟩) ∧ w = w' := by
  have A1 := Lib.hid fun W => abs_any 9218868437227405312 W (by decide)
  have hN := fun W => isNaN_any 9218868437227405312 W (by decide)
  rw [decide_eq_false (show ¬ nanW 9218868437227405312 by unfold nanW; decide)] at hN
  have N1 := Lib.hid hN
  have P1 := Lib.hid fun W => isInf_pos 9218868437227405312 W true (by decide +kernel)
  clear hN
  go_enter Tryz.func12, Tryz.ntmps12
  go_wp2_with (fail)
  refine (A1.out _).mono ?_
  rintro e w' ⟨rfl, rfl⟩
  go_wp2_with (fail)
  refine (N1.out _).mono ?_
  rintro e w' ⟨rfl, rfl⟩
  go_wp2_with (fail)
  refine (P1.out _).mono ?_
  rintro e w' ⟨rfl, rfl⟩
  go_wp2_with (fail)
  go_ret
  exact ⟨rfl, rfl⟩


set_option maxRecDepth 100000 in
set_option maxHeartbeats 1000000 in
theorem rtext_nan (b : Nat) (w : World) (hb : b < 18446744073709551616) (hn : canW b = 9221120237041090561) :
    Calls Tryz.prog 13 #[.float .f64 b] w fun e w' => e = .returned (.string ⟨#[43, 110, 97, 110, 46, 48]⟩) ∧ w = w' := by
  have hB := fun W => rbits_any b W hb
  rw [hn] at hB
  have B1 := Lib.hid hB
  clear hB hn
  go_enter Tryz.func13, Tryz.ntmps13
  go_wp2_with (fail)
  refine (B1.out _).mono ?_
  rintro e w' ⟨rfl, rfl⟩
  go_wp2_with (fail)
  go_ret
  exact ⟨rfl, rfl⟩
set_option maxRecDepth 100000 in
set_option maxHeartbeats 1000000 in
theorem rtext_pinf (b : Nat) (w : World) (hb : b < 18446744073709551616) (hn : canW b = 9218868437227405312) :
    Calls Tryz.prog 13 #[.float .f64 b] w fun e w' => e = .returned (.string ⟨#[43, 105, 110, 102, 46, 48]⟩) ∧ w = w' := by
  have hB := fun W => rbits_any b W hb
  rw [hn] at hB
  have B1 := Lib.hid hB
  clear hB hn
  go_enter Tryz.func13, Tryz.ntmps13
  go_wp2_with (fail)
  refine (B1.out _).mono ?_
  rintro e w' ⟨rfl, rfl⟩
  go_wp2_with (fail)
  go_ret
  exact ⟨rfl, rfl⟩
set_option maxRecDepth 100000 in
set_option maxHeartbeats 1000000 in
theorem rtext_minf (b : Nat) (w : World) (hb : b < 18446744073709551616) (hn : canW b = 18442240474082181120) :
    Calls Tryz.prog 13 #[.float .f64 b] w fun e w' => e = .returned (.string ⟨#[45, 105, 110, 102, 46, 48]⟩) ∧ w = w' := by
  have hB := fun W => rbits_any b W hb
  rw [hn] at hB
  have B1 := Lib.hid hB
  clear hB hn
  go_enter Tryz.func13, Tryz.ntmps13
  go_wp2_with (fail)
  refine (B1.out _).mono ?_
  rintro e w' ⟨rfl, rfl⟩
  go_wp2_with (fail)
  go_ret
  exact ⟨rfl, rfl⟩

/-- both write the same text -/
def TextBoth (b : Nat) : Prop := ∃ t : ByteArray, (∀ W, FV W → Calls Tryz.prog 12 #[.float .f64 b] W fun e w' => e = .returned (.string t) ∧ Below W.heap.size W w') ∧
  ∀ W, FV W → Calls Tryz.prog 13 #[.float .f64 b] W fun e w' => e = .returned (.string t) ∧ Below W.heap.size W w'
theorem text_both (b : Nat) (hb : b < 18446744073709551616) : TextBoth b := by
  have same : ∀ {f : FuncId} {args : Array Value} {t : ByteArray}, (∀ W, Calls Tryz.prog f args W fun e w' => e = .returned (.string t) ∧ W = w') → ∀ W, FV W → Calls Tryz.prog f args W fun e w' => e = .returned (.string t) ∧ Below W.heap.size W w' := fun h W _ => (h W).mono fun e w' ⟨h1, h2⟩ => ⟨h1, h2 ▸ Below.refl _ _⟩
  obtain ⟨a, ha⟩ : ∃ a, b % 9223372036854775808 = a := ⟨_, rfl⟩
  rcases Nat.lt_trichotomy a 9218868437227405312 with hlt | heq | hgt
  · have hn : ¬ nanW b := by unfold nanW; omega
    have hcw : canW b = b := by unfold canW; rw [if_neg hn]
    obtain ⟨f1, f2, f3, f4⟩ := fin_facts b a hb ha hlt
    by_cases h0 : a = 0
    · have hz : (FloatKind.f64.format.order a 0 == some .eq) = true := by rw [f4, decide_eq_true h0]
      have hbb : b = 0 ∨ b = 9223372036854775808 := by omega
      rcases hbb with rfl | rfl
      · exact ⟨_, fun W hv => flotext_f 0 a (fmtF false [] 0) W hb ha f1 f2 f3 (.inl hz) (by decide +kernel) (by decide +kernel) (fun v w1 hob => ftoaF_pzero _ _ _ v w1 rfl hob),
          fun W hv => rtext_f 0 a 0 (fmtF false [] 0) W hb ha hcw (by decide) (by decide) (by decide) (.inl hz) (by decide +kernel) (by decide +kernel) (fun v w1 hob => ftoaF_pzero _ _ _ v w1 rfl hob)⟩
      · exact ⟨_, fun W hv => flotext_f 9223372036854775808 a (fmtF true [] 0) W hb ha f1 f2 f3 (.inl hz) (by decide +kernel) (by decide +kernel) (fun v w1 hob => ftoaF_mzero _ _ _ v w1 rfl hob),
          fun W hv => rtext_f 9223372036854775808 a 9223372036854775808 (fmtF true [] 0) W hb ha hcw (by decide) (by decide) (by decide) (.inl hz) (by decide +kernel) (by decide +kernel) (fun v w1 hob => ftoaF_mzero _ _ _ v w1 rfl hob)⟩
    · have hz : (FloatKind.f64.format.order a 0 == some .eq) = false := by rw [f4, decide_eq_false h0]
      obtain ⟨neg, hneg⟩ : ∃ neg, decide (9223372036854775808 ≤ b) = neg := ⟨_, rfl⟩
      obtain ⟨D, dp, hf, hE, hF⟩ := ftoa_fin b neg hb hneg (by omega) (by omega)
      have hdp := hf.dp
      rcases form_or a with hz1 | hz1
      · have h52 : 4503599627370496 ≤ b % 9223372036854775808 := by
          rcases Nat.lt_or_ge a 4503599627370496 with h | h
          · obtain ⟨hz2, -⟩ := hz1
            rw [small_facts a h] at hz2
            cases hz2
          · omega
        obtain ⟨p1, p2⟩ := fmtF_len (neg := neg) hf
        exact ⟨_, fun W hv => ftext_f b a neg D dp hf hb ha hlt h0 hz1 (hF h52) W hv,
          fun W hv => rtext_f b a b (fmtF neg D dp) W hb ha hcw (by omega) (by omega) (by omega) (.inr ⟨hz, hz1.1, hz1.2⟩) p1 p2 (hF h52 W hv)⟩
      · obtain ⟨sg, P, T, e1, e2, e3, e4, e5, e6⟩ := exp_itoa (x := dp - 1) (by omega) (by omega)
        obtain ⟨p1, p2⟩ := pre_len (neg := neg) hf
        exact ⟨_, fun W hv => ftext_e b a neg D dp hf hb ha hlt h0 hz1 hE W hv,
          fun W hv => rtext_e b a b (fmtE neg D dp) (preE neg D) (expB (dp - 1)) P T sg (dp - 1) W hb ha hcw (by omega) (by omega) (by omega) hz hz1 (fmtE_split _ _ _) (pre_e hf) p1 e1 e2 e3 e4 e5 e6 (hE W hv)⟩
  · have hn : ¬ nanW b := by unfold nanW; omega
    have hcw : canW b = b := by unfold canW; rw [if_neg hn]
    have hbb : b = 9218868437227405312 ∨ b = 18442240474082181120 := by omega
    rcases hbb with rfl | rfl
    · exact ⟨_, same flotext_pinf, same fun W => rtext_pinf _ W hb hcw⟩
    · exact ⟨_, same flotext_minf, same fun W => rtext_minf _ W hb hcw⟩
  · have hn : nanW b := by unfold nanW; omega
    have hcw : canW b = 9221120237041090561 := by unfold canW; rw [if_pos hn]
    exact ⟨_, same fun W => flotext_nan b W hb hn, same fun W => rtext_nan b W hb hcw⟩

end LM
end Go.Proofs.YtpnjddfnlaonoaaGreatDoor

namespace Go.Proofs.YtpnjddfnlaonoaaGreatDoor
open Go Go.Shelf Go.RowKit Go.Sort Go.Lib
namespace LM
set_option linter.unusedVariables false

set_option maxRecDepth 100000 in
set_option maxHeartbeats 1000000 in
theorem rbits_some (b : Nat) : ∃ k : Nat, ∀ w, Calls Tryz.prog 54 #[.float .f64 b] w fun e w' => e = .returned (.int .u64 (k : Int)) ∧ w = w' := by
  have h1 := run_mbits b
  obtain ⟨q, hq⟩ : ∃ q : Nat, b / 4503599627370496 = q := ⟨_, rfl⟩
  have hqi : (b : Int) / 4503599627370496 = (q : Int) := by omega
  obtain ⟨ex, hex⟩ : ∃ ex : Int, bits .and .u64 (q : Int) 2047 = ex := ⟨_, rfl⟩
  obtain ⟨fr, hfr⟩ : ∃ fr : Int, bits .and .u64 (b : Int) 4503599627370495 = fr := ⟨_, rfl⟩
  by_cases he : ex = 2047
  · by_cases hf : fr = 0
    · have d1 : (ex == 2047) = true := by rw [beq_iff_eq]; exact he
      have d2 : (fr == 0) = true := by rw [beq_iff_eq]; exact hf
      refine ⟨b, fun w => ?_⟩
      clear hq he hf
      go_enter Tryz.func54, Tryz.ntmps54
      go_wp2
      go_ret
      exact ⟨rfl, rfl⟩
    · have d1 : (ex == 2047) = true := by rw [beq_iff_eq]; exact he
      have d2 : (fr == 0) = false := by rw [beq_eq_false_iff_ne]; exact hf
      refine ⟨9221120237041090561, fun w => ?_⟩
      clear hq he hf
      go_enter Tryz.func54, Tryz.ntmps54
      go_wp2
      go_ret
      exact ⟨rfl, rfl⟩
  · have d1 : (ex == 2047) = false := by rw [beq_eq_false_iff_ne]; exact he
    refine ⟨b, fun w => ?_⟩
    clear hq he
    go_enter Tryz.func54, Tryz.ntmps54
    go_wp2
    go_ret
    exact ⟨rfl, rfl⟩
set_option maxHeartbeats 1000000 in
theorem rsame_self (b : Nat) (w : World) : Calls Tryz.prog 14 #[.float .f64 b, .float .f64 b] w fun e w' => e = .returned (.bool true) ∧ w = w' := by
  obtain ⟨k, hk⟩ := rbits_some b
  have B1 := Lib.hid hk
  clear hk
  go_enter Tryz.func14, Tryz.ntmps14
  go_wp2_with (fail)
  refine (B1.out _).mono ?_
  rintro e w' ⟨rfl, rfl⟩
  go_wp2_with (fail)
  refine (B1.out _).mono ?_
  rintro e w' ⟨rfl, rfl⟩
  go_wp2
  go_ret
  exact ⟨by simp, rfl⟩

set_option maxRecDepth 100000 in
set_option maxHeartbeats 8000000 in
theorem ftexts_by (b : Nat) (s : ByteArray) (w : World) (hb : b < 18446744073709551616) (hv : FV w) (hx : FX w) (hr : RngCell w) :
    Calls Tryz.prog 3 #[.int .u64 (b : Int), .string s] w fun e w' => e = .returned (.bool true) ∧ Below w.heap.size w w' := by
  obtain ⟨ff, hf⟩ := reads_some s
  obtain ⟨t, ht1, ht2⟩ := text_both b hb
  have A1 := Lib.hid (falive_any w hv)
  have N1 := Lib.hid fun W (hW : Below w.heap.size w W) (hs : s.size ≤ 1000) => fparse_all s ff hs hf W (hv.below hW) (hx.below hW) (hr.below hW)
  have N2 := Lib.hid fun W (hW : Below w.heap.size w W) (hs : s.size ≤ 1000) => rfparse_any s ff hs hf W (hv.below hW) (hx.below hW) (hr.below hW)
  have T1 := Lib.hid fun W (hW : Below w.heap.size w W) => ht1 W (hv.below hW)
  have T2 := Lib.hid fun W (hW : Below w.heap.size w W) => ht2 W (hv.below hW)
  have S1 := Lib.hid rsame_self
  obtain ⟨pv, hpv⟩ : ∃ pv, parV s.data.toList ff = pv := ⟨_, rfl⟩
  obtain ⟨pf, pe⟩ := pv
  rw [hpv] at N1 N2
  dsimp only at N1 N2
  have hmf := run_mfrom b
  have htt : (t.toList == t.toList) = true := by simp
  clear hv hx hr hf ht1 ht2 hpv
  by_cases h8 : 800 < s.size
  · have d8 : decide (800 < (s.size : Int)) = true := decide_eq_true (by omega)
    have d8n : decide (800 < s.size) = true := decide_eq_true h8
    go_enter Tryz.func3, Tryz.ntmps3
    go_wp2_with (fail)
    refine A1.out.mono ?_
    rintro e w1 ⟨rfl, hb1⟩
    have HB1 := Lib.hid hb1
    clear hb1
    go_wp2_with (fail)
    go_ret
    exact ⟨rfl, HB1.out⟩
  · have d8 : decide (800 < (s.size : Int)) = false := decide_eq_false (by omega)
    have d8n : decide (800 < s.size) = false := decide_eq_false h8
    have hs : s.size ≤ 1000 := by omega
    go_enter Tryz.func3, Tryz.ntmps3
    go_wp2_with (fail)
    refine A1.out.mono ?_
    rintro e w1 ⟨rfl, hb1⟩
    have HB1 := Lib.hid hb1
    clear hb1
    go_wp2_with (fail)
    refine (N1.out _ HB1.out hs).mono ?_
    rintro e w2 ⟨rfl, hb2⟩
    have HB2 := Lib.hid (bel_trans (B := w.heap.size) HB1.out hb2)
    clear hb2
    go_wp2_with (fail)
    refine (N2.out _ HB2.out hs).mono ?_
    rintro e w3 ⟨rfl, hb3⟩
    have HB3 := Lib.hid (bel_trans (B := w.heap.size) HB2.out hb3)
    clear hb3
    go_wp2_with (fail)
    refine (T1.out _ HB3.out).mono ?_
    rintro e w4 ⟨rfl, hb4⟩
    have HB4 := Lib.hid (bel_trans (B := w.heap.size) HB3.out hb4)
    clear hb4
    go_wp2_with (fail)
    refine (T2.out _ HB4.out).mono ?_
    rintro e w5 ⟨rfl, hb5⟩
    have HB5 := Lib.hid (bel_trans (B := w.heap.size) HB4.out hb5)
    clear hb5
    go_wp2_with (fail)
    refine (S1.out _ _).mono ?_
    rintro e w6 ⟨rfl, rfl⟩
    go_wp2_with (fail)
    go_ret
    exact ⟨by simp, HB5.out⟩

end LM
end Go.Proofs.YtpnjddfnlaonoaaGreatDoor

namespace Go.Proofs.YtpnjddfnlaonoaaGreatDoor
open Go Go.RowKit
namespace LM
set_option linter.unusedVariables false

theorem ftexts_card {l : List (String × DataW Unit)} {nr : String} {dr : DataW Unit} {W : World} (h : laidMetH Tryz.prog l W)
    (c1 : ((l.filter fun x => x.2.handleName?.isNone).filter fun x => x.1 == "internal/strconv.leftcheats") = [("internal/strconv.leftcheats", Go.Pinned.leftcheats)])
    (c2 : ((l.filter fun x => x.2.handleName?.isNone).filter fun x => x.1 == "internal/strconv.powtab") = [("internal/strconv.powtab", .slice (powtabL.map fun x => .lit (.int .i64 ((x : Nat) : Int))) [])])
    (c3 : ((l.filter fun x => x.2.handleName?.isNone).filter fun x => x.1 == "internal/strconv.float64info") = [("internal/strconv.float64info", .agg [.lit (.int .u64 52), .lit (.int .u64 11), .lit (.int .i64 (-1023))])])
    (e4 : ((l.filter fun x => x.2.handleName?.isNone).filter fun x => x.1 == "strconv.ErrRange") = [("strconv.ErrRange", .iface nr dr)]) (hv : FV W) (b : Nat) (s : ByteArray) (hb : b < 18446744073709551616) :
    Calls Tryz.prog 3 #[.int .u64 (b : Int), .string s] W fun e w' => e = .returned (.bool true) ∧ Below W.heap.size W w' :=
  ftexts_by b s W hb hv (fx_of h c1 c2 c3) (rngcell_of h e4)

end LM
end Go.Proofs.YtpnjddfnlaonoaaGreatDoor
