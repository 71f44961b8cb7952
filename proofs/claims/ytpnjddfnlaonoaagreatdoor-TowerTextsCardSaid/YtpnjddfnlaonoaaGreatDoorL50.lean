/- The statement TowerTexts, walked. -/
import Derived.Test.YtpnjddfnlaonoaaGreatDoorL49
import Derived.Test.YtpnjddfnlaonoaaGreatDoorL38
import Derived.Test.YtpnjddfnlaonoaaGreatDoorL35
import Derived.Test.YtpnjddfnlaonoaaGreatDoorL42
import Derived.Test.YtpnjddfnlaonoaaGreatDoorL39
import Derived.Test.YtpnjddfnlaonoaaGreatDoorL46
import Derived.Test.YtpnjddfnlaonoaaGreatDoorL14
namespace Go.Proofs.YtpnjddfnlaonoaaGreatDoor
open Go Go.Shelf Go.RowKit Go.Sort Go.Lib
namespace LM
set_option linter.unusedVariables false

set_option maxRecDepth 100000 in
set_option maxHeartbeats 4000000 in
theorem ftoaF_pzero (b B : Nat) (W0 : World) (v : Value) (w : World) (hbe : b = 0) (hob : OB B W0 0 [] v [] w) :
    Calls Tryz.prog 163 #[v, .float .f64 b, .int .u8 102, .int .i64 (-1)] w fun r w' =>
      ∃ v' g ds, r = .returned v' ∧ OB B W0 g ds v' (fmtF false [] 0) w' := by
  obtain ⟨bq, hbq⟩ : ∃ q, b / 4503599627370496 = q := ⟨_, rfl⟩
  have hbqi : (b : Int) / 4503599627370496 = (bq : Int) := by omega
  have hbql : bq < 4096 := by omega
  have hex2 : bits .and .i64 (bq : Int) 2047 = 0 := by
    have h := i64_and_nat bq 2047 (by omega) (by decide)
    have h2 : bq &&& 2047 = 0 := by rw [nat_mask11]; omega
    rw [h2] at h
    exact h
  have hfr2 : bits .and .u64 (b : Int) 4503599627370495 = 0 := by
    have h := u64_and_nat b 4503599627370495 (by omega) (by decide)
    have h2 : b &&& 4503599627370495 = 0 := by
      rw [show b &&& 4503599627370495 = b % 2 ^ 52 from Nat.and_two_pow_sub_one_eq_mod b 52]
      omega
    rw [h2] at h
    exact h
  have hneg2 : ((b : Int) / 9223372036854775808 != 0) = false := by
    rw [bne_eq_false_iff_eq]; omega
  have RB := run_sbits b
  have FZ := Lib.hid fun k => fmtF_zero B W0 v [] (w.drewN k) false 0 (hob.drewN k) (by decide)
  clear hbe hbq hob
  go_enter Tryz.func163, Tryz.ntmps163
  go_wp2_with (fail)
  go_quiet (fail)
  go_wp2_with (fail)
  refine (FZ.out _).mono ?_
  rintro r w4 ⟨v4, rfl, hob4⟩
  go_wp2
  go_ret
  exact ⟨_, _, _, rfl, hob4⟩


set_option maxRecDepth 100000 in
set_option maxHeartbeats 1000000 in
theorem flotext_pinf (w : World) :
    Calls Tryz.prog 12 #[.float .f64 9218868437227405312] w fun e w' => e = .returned (.string ⟨#[43, 105, 110, 102, 46, 48]⟩) ∧ w = w' := by
  have A1 := Lib.hid fun W => abs_any 9218868437227405312 W (by decide)
  have hN := fun W => isNaN_any 9218868437227405312 W (by decide)
  rw [decide_eq_false (show ¬ nanW 9218868437227405312 by unfold nanW; decide)] at hN
  have N1 := Lib.hid hN
  have P1 := Lib.hid fun W => isInf_pos 9218868437227405312 W true (by decide +kernel)
  clear hN
  go_enter Tryz.func12, Tryz.ntmps12
  go_wp2_with (fail)
  refine (A1.out _).mono ?_
  rintro e w' ⟨rfl, rfl⟩
  go_wp2_with (fail)
  refine (N1.out _).mono ?_
  rintro e w' ⟨rfl, rfl⟩
  go_wp2_with (fail)
  refine (P1.out _).mono ?_
  rintro e w' ⟨rfl, rfl⟩
  go_wp2_with (fail)
  go_ret
  exact ⟨rfl, rfl⟩


set_option maxRecDepth 100000 in
set_option maxHeartbeats 1000000 in
theorem rtext_nan (b : Nat) (w : World) (hb : b < 18446744073709551616) (hn : canW b = 9221120237041090561) :
    Calls Tryz.prog 13 #[.float .f64 b] w fun e w' => e = .returned (.string ⟨#[43, 110, 97, 110, 46, 48]⟩) ∧ w = w' := by
  have hB := fun W => rbits_any b W hb
  rw [hn] at hB
  have B1 := Lib.hid hB
  clear hB hn
  go_enter Tryz.func13, Tryz.ntmps13
  go_wp2_with (fail)
  refine (B1.out _).mono ?_
  rintro e w' ⟨rfl, rfl⟩
  go_wp2_with (fail)
  go_ret
  exact ⟨rfl, rfl⟩
set_option maxRecDepth 100000 in
set_option maxHeartbeats 1000000 in
theorem rtext_pinf (b : Nat) (w : World) (hb : b < 18446744073709551616) (hn : canW b = 9218868437227405312) :
    Calls Tryz.prog 13 #[.float .f64 b] w fun e w' => e = .returned (.string ⟨#[43, 105, 110, 102, 46, 48]⟩) ∧ w = w' := by
  have hB := fun W => rbits_any b W hb
  rw [hn] at hB
  have B1 := Lib.hid hB
  clear hB hn
  go_enter Tryz.func13, Tryz.ntmps13
  go_wp2_with (fail)
  refine (B1.out _).mono ?_
  rintro e w' ⟨rfl, rfl⟩
  go_wp2_with (fail)
  go_ret
  exact ⟨rfl, rfl⟩
set_option maxRecDepth 100000 in
set_option maxHeartbeats 1000000 in
theorem rtext_minf (b : Nat) (w : World) (hb : b < 18446744073709551616) (hn : canW b = 18442240474082181120) :
    Calls Tryz.prog 13 #[.float .f64 b] w fun e w' => e = .returned (.string ⟨#[45, 105, 110, 102, 46, 48]⟩) ∧ w = w' := by
  have hB := fun W => rbits_any b W hb
  rw [hn] at hB
  have B1 := Lib.hid hB
  clear hB hn
  go_enter Tryz.func13, Tryz.ntmps13
  go_wp2_with (fail)
  refine (B1.out _).mono ?_
  rintro e w' ⟨rfl, rfl⟩
  go_wp2_with (fail)
  go_ret
  exact ⟨rfl, rfl⟩

/-- both write the same text -/
def TextBoth (b : Nat) : Prop := ∃ t : ByteArray, (∀ W, FV W → Calls Tryz.prog 12 #[.float .f64 b] W fun e w' => e = .returned (.string t) ∧ Below W.heap.size W w') ∧
  ∀ W, FV W → Calls Tryz.prog 13 #[.float .f64 b] W fun e w' => e = .returned (.string t) ∧ Below W.heap.size W w'
theorem text_both (b : Nat) (hb : b < 18446744073709551616) : TextBoth b := by
  have same : ∀ {f : FuncId} {args : Array Value} {t : ByteArray}, (∀ W, Calls Tryz.prog f args W fun e w' => e = .returned (.string t) ∧ W = w') → ∀ W, FV W → Calls Tryz.prog f args W fun e w' => e = .returned (.string t) ∧ Below W.heap.size W w' := fun h W _ => (h W).mono fun e w' ⟨h1, h2⟩ => ⟨h1, h2 ▸ Below.refl _ _⟩
  obtain ⟨a, ha⟩ : ∃ a, b % 9223372036854775808 = a := ⟨_, rfl⟩
  rcases Nat.lt_trichotomy a 9218868437227405312 with hlt | heq | hgt
  · have hn : ¬ nanW b := by unfold nanW; omega
    have hcw : canW b = b := by unfold canW; rw [if_neg hn]
    obtain ⟨f1, f2, f3, f4⟩ := fin_facts b a hb ha hlt
    by_cases h0 : a = 0
    · have hz : (FloatKind.f64.format.order a 0 == some .eq) = true := by rw [f4, decide_eq_true h0]
      have hbb : b = 0 ∨ b = 9223372036854775808 := by omega
      rcases hbb with rfl | rfl
      · exact ⟨_, fun W hv => flotext_f 0 a (fmtF false [] 0) W hb ha f1 f2 f3 (.inl hz) (by decide +kernel) (by decide +kernel) (fun v w1 hob => ftoaF_pzero _ _ _ v w1 rfl hob),
          fun W hv => rtext_f 0 a 0 (fmtF false [] 0) W hb ha hcw (by decide) (by decide) (by decide) (.inl hz) (by decide +kernel) (by decide +kernel) (fun v w1 hob => ftoaF_pzero _ _ _ v w1 rfl hob)⟩
      · exact ⟨_, fun W hv => flotext_f 9223372036854775808 a (fmtF true [] 0) W hb ha f1 f2 f3 (.inl hz) (by decide +kernel) (by decide +kernel) (fun v w1 hob => ftoaF_mzero _ _ _ v w1 rfl hob),
          fun W hv => rtext_f 9223372036854775808 a 9223372036854775808 (fmtF true [] 0) W hb ha hcw (by decide) (by decide) (by decide) (.inl hz) (by decide +kernel) (by decide +kernel) (fun v w1 hob => ftoaF_mzero _ _ _ v w1 rfl hob)⟩
    · have hz : (FloatKind.f64.format.order a 0 == some .eq) = false := by rw [f4, decide_eq_false h0]
      obtain ⟨neg, hneg⟩ : ∃ neg, decide (9223372036854775808 ≤ b) = neg := ⟨_, rfl⟩
      obtain ⟨D, dp, hf, hE, hF⟩ := ftoa_fin b neg hb hneg (by omega) (by omega)
      have hdp := hf.dp
      rcases form_or a with hz1 | hz1
      · have h52 : 4503599627370496 ≤ b % 9223372036854775808 := by
          rcases Nat.lt_or_ge a 4503599627370496 with h | h
          · obtain ⟨hz2, -⟩ := hz1
            rw [small_facts a h] at hz2
            cases hz2
          · omega
        obtain ⟨p1, p2⟩ := fmtF_len (neg := neg) hf
        exact ⟨_, fun W hv => ftext_f b a neg D dp hf hb ha hlt h0 hz1 (hF h52) W hv,
          fun W hv => rtext_f b a b (fmtF neg D dp) W hb ha hcw (by omega) (by omega) (by omega) (.inr ⟨hz, hz1.1, hz1.2⟩) p1 p2 (hF h52 W hv)⟩
      · obtain ⟨sg, P, T, e1, e2, e3, e4, e5, e6⟩ := exp_itoa (x := dp - 1) (by omega) (by omega)
        obtain ⟨p1, p2⟩ := pre_len (neg := neg) hf
        exact ⟨_, fun W hv => ftext_e b a neg D dp hf hb ha hlt h0 hz1 hE W hv,
          fun W hv => rtext_e b a b (fmtE neg D dp) (preE neg D) (expB (dp - 1)) P T sg (dp - 1) W hb ha hcw (by omega) (by omega) (by omega) hz hz1 (fmtE_split _ _ _) (pre_e hf) p1 e1 e2 e3 e4 e5 e6 (hE W hv)⟩
  · have hn : ¬ nanW b := by unfold nanW; omega
    have hcw : canW b = b := by unfold canW; rw [if_neg hn]
    have hbb : b = 9218868437227405312 ∨ b = 18442240474082181120 := by omega
    rcases hbb with rfl | rfl
    · exact ⟨_, same flotext_pinf, same fun W => rtext_pinf _ W hb hcw⟩
    · exact ⟨_, same flotext_minf, same fun W => rtext_minf _ W hb hcw⟩
  · have hn : nanW b := by unfold nanW; omega
    have hcw : canW b = 9221120237041090561 := by unfold canW; rw [if_pos hn]
    exact ⟨_, same fun W => flotext_nan b W hb hn, same fun W => rtext_nan b W hb hcw⟩

end LM
end Go.Proofs.YtpnjddfnlaonoaaGreatDoor

namespace Go.Proofs.YtpnjddfnlaonoaaGreatDoor
open Go Go.Shelf Go.RowKit Go.Sort Go.Lib
namespace LM
set_option linter.unusedVariables false

set_option maxRecDepth 100000 in
set_option maxHeartbeats 1000000 in
theorem rbits_some (b : Nat) : ∃ k : Nat, ∀ w, Calls Tryz.prog 54 #[.float .f64 b] w fun e w' => e = .returned (.int .u64 (k : Int)) ∧ w = w' := by
  have h1 := run_mbits b
  obtain ⟨q, hq⟩ : ∃ q : Nat, b / 4503599627370496 = q := ⟨_, rfl⟩
  have hqi : (b : Int) / 4503599627370496 = (q : Int) := by omega
  obtain ⟨ex, hex⟩ : ∃ ex : Int, bits .and .u64 (q : Int) 2047 = ex := ⟨_, rfl⟩
  obtain ⟨fr, hfr⟩ : ∃ fr : Int, bits .and .u64 (b : Int) 4503599627370495 = fr := ⟨_, rfl⟩
  by_cases he : ex = 2047
  · by_cases hf : fr = 0
    · have d1 : (ex == 2047) = true := by rw [beq_iff_eq]; exact he
      have d2 : (fr == 0) = true := by rw [beq_iff_eq]; exact hf
      refine ⟨b, fun w => ?_⟩
      clear hq he hf
      go_enter Tryz.func54, Tryz.ntmps54
      go_wp2
      go_ret
      exact ⟨rfl, rfl⟩
    · have d1 : (ex == 2047) = true := by rw [beq_iff_eq]; exact he
      have d2 : (fr == 0) = false := by rw [beq_eq_false_iff_ne]; exact hf
      refine ⟨9221120237041090561, fun w => ?_⟩
      clear hq he hf
      go_enter Tryz.func54, Tryz.ntmps54
      go_wp2
      go_ret
      exact ⟨rfl, rfl⟩
  · have d1 : (ex == 2047) = false := by rw [beq_eq_false_iff_ne]; exact he
    refine ⟨b, fun w => ?_⟩
    clear hq he
    go_enter Tryz.func54, Tryz.ntmps54
    go_wp2
    go_ret
    exact ⟨rfl, rfl⟩
set_option maxHeartbeats 1000000 in
theorem rsame_self (b : Nat) (w : World) : Calls Tryz.prog 14 #[.float .f64 b, .float .f64 b] w fun e w' => e = .returned (.bool true) ∧ w = w' := by
  obtain ⟨k, hk⟩ := rbits_some b
  have B1 := Lib.hid hk
  clear hk
  go_enter Tryz.func14, Tryz.ntmps14
  go_wp2_with (fail)
  refine (B1.out _).mono ?_
  rintro e w' ⟨rfl, rfl⟩
  go_wp2_with (fail)
  refine (B1.out _).mono ?_
  rintro e w' ⟨rfl, rfl⟩
  go_wp2
  go_ret
  exact ⟨by simp, rfl⟩

end LM
end Go.Proofs.YtpnjddfnlaonoaaGreatDoor

namespace Go.Proofs.YtpnjddfnlaonoaaGreatDoor
open Go Go.RowKit
namespace LM
set_option linter.unusedVariables false
attribute [local go_sem] run_store_flt

set_option maxRecDepth 100000 in
set_option maxHeartbeats 1000000 in
theorem rttext_f (f : Nat) (t : ByteArray) (s : Bool) (A : Option Addr) (n c : Nat) (w : World)
    (hT : ∀ W, Below w.heap.size w W → Calls Tryz.prog 13 #[.float .f64 f] W fun e w' => e = .returned (.string t) ∧ Below W.heap.size W w') :
    Calls Tryz.prog 20 #[numA true f s A n c] w fun e w' => e = .returned (.string t) ∧ Below w.heap.size w w' := by
  have Y0 := Nx.new w true f s A n c
  have hb0 : Below w.heap.size w (w.alloc (numO true f s A n c)) := (Below.refl _ w).alloc (Nat.le_refl _) _
  obtain ⟨y0, y1, y2, y3, -, -, -, -, yl⟩ := Y0.facts
  have HB0 := Lib.hid hb0
  have HT := Lib.hid (hT _ hb0)
  clear hb0 Y0 hT
  go_enter Tryz.func20, Tryz.ntmps20
  go_wp2_with (fail)
  refine HT.out.mono ?_
  rintro e w1 ⟨rfl, hb1⟩
  go_wp2_with (fail)
  go_ret
  exact ⟨rfl, bel_trans (B := w.heap.size) HB0.out hb1⟩

set_option maxRecDepth 100000 in
set_option maxHeartbeats 1000000 in
theorem rttext_i (f : Nat) (t : ByteArray) (s : Bool) (A : Option Addr) (n c : Nat) (w : World)
    (hT : ∀ W, Below w.heap.size w W → Calls Tryz.prog 40 #[.agg #[.bool s, .slice A n c]] W fun e w' => e = .returned (.string t) ∧ Below W.heap.size W w') :
    Calls Tryz.prog 20 #[numA false f s A n c] w fun e w' => e = .returned (.string t) ∧ Below w.heap.size w w' := by
  have Y0 := Nx.new w false f s A n c
  have hb0 : Below w.heap.size w (w.alloc (numO false f s A n c)) := (Below.refl _ w).alloc (Nat.le_refl _) _
  obtain ⟨y0, y1, y2, y3, -, -, -, -, yl⟩ := Y0.facts
  have HB0 := Lib.hid hb0
  have HT := Lib.hid (hT _ hb0)
  clear hb0 Y0 hT
  go_enter Tryz.func20, Tryz.ntmps20
  go_wp2_with (fail)
  refine HT.out.mono ?_
  rintro e w1 ⟨rfl, hb1⟩
  go_wp2_with (fail)
  go_ret
  exact ⟨rfl, bel_trans (B := w.heap.size) HB0.out hb1⟩

/-- both write the same text of a number that can be -/
theorem ttext_both (fl : Bool) (f : Nat) (s : Bool) (A : Option Addr) (c : Nat) (xs : List Nat) (hr : rightN fl f s xs = true) (hf : f < 18446744073709551616) (hx : Lm xs) (hca : xs.length ≤ c) (hcm : c ≤ 9223372036854775807) (hnil : A = none → xs.length = 0 ∧ c = 0) :
    ∃ t : ByteArray, (∀ W, FV W → Rd W A xs → Calls Tryz.prog 19 #[numA fl f s A xs.length c] W fun e w' => e = .returned (.string t) ∧ Below W.heap.size W w') ∧
      ∀ W, FV W → Rd W A xs → Calls Tryz.prog 20 #[numA fl f s A xs.length c] W fun e w' => e = .returned (.string t) ∧ Below W.heap.size W w' := by
  cases fl
  · unfold rightN at hr
    rw [if_neg (by decide), Bool.and_eq_true, decide_eq_true_eq] at hr
    obtain ⟨rfl, rx⟩ := hr
    refine ⟨⟨(decI (sg s (val xs))).toArray⟩, fun W hv ha => ?_, fun W hv ha => ?_⟩
    · obtain ⟨h1, h2⟩ := intV_of rx ha hx hca hcm
      exact ttext_i 0 _ s A xs.length c W h1 h2 hv.tab
    · exact rttext_i 0 _ s A xs.length c W fun W2 hW2 => rtext2_right s A c xs W2 (ha.below hW2) hx rx hnil
  · obtain ⟨t, h1, h2⟩ := text_both f hf
    exact ⟨t, fun W hv _ => ttext_f f t s A xs.length c W fun W2 hW2 => h1 W2 (hv.below hW2), fun W hv _ => rttext_f f t s A xs.length c W fun W2 hW2 => h2 W2 (hv.below hW2)⟩

/-- what both read of one text: the same error, and numbers that are the same -/
theorem read_same {l : List UInt8} {ff : Nat} {w0 w : World} {fl : Bool} {f : Nat} {s : Bool} {A : Option Addr} {n c : Nat} {er : Int} {fl' : Bool} {f' : Nat} {s' : Bool} {A' : Option Addr} {n' c' : Nat} {er' : Int}
    (hx : TOut l ff w0 fl f s A n c er) (hw : Below w0.heap.size w0 w) (hy : TOutR l ff w fl' f' s' A' n' c' er') :
    er = er' ∧ ∀ W, Below w.heap.size w W → Calls Tryz.prog 21 #[numA fl f s A n c, numA fl' f' s' A' n' c'] W fun e w' => e = .returned (.bool true) ∧ Below W.heap.size W w' := by
  rcases hx with ⟨h1, rfl, rfl, z, hp, hv⟩ | ⟨h1, h2, rfl, rfl, rfl, rfl, rfl, rfl, rfl⟩ | ⟨h1, h2, rfl, rfl, rfl, rfl, rfl, rfl, rfl⟩
  · rcases hy with ⟨k1, rfl, rfl, z', kp, kv⟩ | ⟨k1, -⟩ | ⟨k1, -⟩
    · obtain ⟨rfl, rfl⟩ := hp.same kp
      exact ⟨rfl, fun W hW => rnsame_i 0 0 s A n c s' A' n' c' z W ((hv.keep hw).keep hW).toR (kv.keep hW) hp.fit⟩
    · exact absurd h1 k1
    · exact absurd h1 k1
  · rcases hy with ⟨k1, -⟩ | ⟨k1, k2, rfl, rfl, rfl, rfl, rfl, rfl, rfl⟩ | ⟨k1, k2, -⟩
    · exact absurd k1 h1
    · exact ⟨rfl, fun W hW => rnsame_i 0 0 false none 0 0 false none 0 0 0 W (intR_nil _) (intR_nil _) zero_fits⟩
    · exact absurd k2 h2
  · rcases hy with ⟨k1, -⟩ | ⟨k1, k2, -⟩ | ⟨k1, k2, rfl, rfl, rfl, rfl, rfl, rfl, rfl⟩
    · exact absurd k1 h1
    · exact absurd h2 k2
    · exact ⟨rfl, fun W hW => rtsame_ff _ _ false none 0 0 false none 0 0 W true fun W2 => rsame_self _ W2⟩

end LM
end Go.Proofs.YtpnjddfnlaonoaaGreatDoor

namespace Go.Proofs.YtpnjddfnlaonoaaGreatDoor
open Go Go.RowKit
namespace LM
set_option linter.unusedVariables false
attribute [local go_sem] run_store_flt

set_option maxRecDepth 100000 in
set_option maxHeartbeats 4000000 in
theorem ttexts_no (fl : Bool) (f : Nat) (s : Bool) (A : Option Addr) (n c : Nat) (T : ByteArray) (w : World) (hv : TV w) (q : Bool) (hl : decide (800 < T.size) = q)
    (hR : q = false → ∀ W, Below w.heap.size w W → Calls Tryz.prog 16 #[numA fl f s A n c] W fun e w' => e = .returned (.bool false) ∧ Below W.heap.size W w') :
    Calls Tryz.prog 4 #[numA fl f s A n c, .string T] w fun e w' => e = .returned (.bool true) ∧ Below w.heap.size w w' := by
  have Y0 := Nx.new w fl f s A n c
  have hb0 : Below w.heap.size w (w.alloc (numO fl f s A n c)) := (Below.refl _ w).alloc (Nat.le_refl _) _
  have AL := Lib.hid (talive_any _ (hv.below hb0))
  have HB0 := Lib.hid hb0
  have HY0 := Lib.hid Y0
  have d1 : decide ((800 : Int) < (T.size : Int)) = q := by rw [← hl, decide_eq_decide]; omega
  have HR := Lib.hid hR
  clear hb0 Y0 hv hR
  go_enter Tryz.func4, Tryz.ntmps4
  go_wp2_with (fail)
  refine AL.out.mono ?_
  rintro e w1 ⟨rfl, hb1⟩
  have Y1 := HY0.out.below hb1
  obtain ⟨y0, y1, y2, y3, -, -, -, -, yl⟩ := Y1.facts
  have HB1 := Lib.hid (bel_trans (B := w.heap.size) HB0.out hb1)
  clear hb1 Y1
  cases q
  · go_wp2_with (fail)
    refine (HR.out (by trivial) _ HB1.out).mono ?_
    rintro e w2 ⟨rfl, hb2⟩
    have HB2 := Lib.hid (bel_trans (B := w.heap.size) HB1.out hb2)
    clear hb2 y0 y1 y2 y3 yl
    go_wp2_with (fail)
    go_ret
    exact ⟨rfl, HB2.out⟩
  · go_wp2_with (fail)
    go_ret
    exact ⟨rfl, HB1.out⟩

set_option maxRecDepth 100000 in
set_option maxHeartbeats 8000000 in
theorem ttexts_yes (fl : Bool) (f : Nat) (s : Bool) (A : Option Addr) (n c : Nat) (T t : ByteArray) (ff : Nat) (w : World) (hv : TV w) (hl : ¬ 800 < T.size)
    (hR : ∀ W, Below w.heap.size w W → Calls Tryz.prog 16 #[numA fl f s A n c] W fun e w' => e = .returned (.bool true) ∧ Below W.heap.size W w')
    (hP : ∀ W, Below w.heap.size w W → Calls Tryz.prog 17 #[.string T] W (RetT W T.data.toList ff))
    (hQ : ∀ W, Below w.heap.size w W → Calls Tryz.prog 18 #[.string T] W (RetTR W T.data.toList ff))
    (hT1 : ∀ W, Below w.heap.size w W → Calls Tryz.prog 19 #[numA fl f s A n c] W fun e w' => e = .returned (.string t) ∧ Below W.heap.size W w')
    (hT2 : ∀ W, Below w.heap.size w W → Calls Tryz.prog 20 #[numA fl f s A n c] W fun e w' => e = .returned (.string t) ∧ Below W.heap.size W w') :
    Calls Tryz.prog 4 #[numA fl f s A n c, .string T] w fun e w' => e = .returned (.bool true) ∧ Below w.heap.size w w' := by
  have hO := (Obs.nil.new (w := w) (numO fl f s A n c))
  have hb0 : Below w.heap.size w (w.alloc (numO fl f s A n c)) := (Below.refl _ w).alloc (Nat.le_refl _) _
  have AL := Lib.hid (talive_any _ (hv.below hb0))
  have HB0 := Lib.hid hb0
  have O0 := Lib.hid hO
  have d1 : decide ((800 : Int) < (T.size : Int)) = false := decide_eq_false (by omega)
  have d2 : decide (800 < T.size) = false := decide_eq_false hl
  have htt : (t.toList == t.toList) = true := by simp
  have HR := Lib.hid hR
  have HP := Lib.hid hP
  have HQ := Lib.hid hQ
  have HT1 := Lib.hid hT1
  have HT2 := Lib.hid hT2
  clear hb0 hO hv hR hP hQ hT1 hT2 hl
  go_enter Tryz.func4, Tryz.ntmps4
  go_wp2_with (fail)
  refine AL.out.mono ?_
  rintro e w1 ⟨rfl, hb1⟩
  have O1 := Lib.hid (O0.out.below hb1)
  have HB1 := Lib.hid (bel_trans (B := w.heap.size) HB0.out hb1)
  clear hb1
  obtain ⟨y0, y1, y2, y3, -, -, -, -, yl⟩ := O1.out.nx0.facts
  go_wp2_with (fail)
  refine (HR.out _ HB1.out).mono ?_
  rintro e w2 ⟨rfl, hb2⟩
  have O2 := Lib.hid (O1.out.below hb2)
  have HB2 := Lib.hid (bel_trans (B := w.heap.size) HB1.out hb2)
  clear hb2 y0 y1 y2 y3 yl
  go_wp2_with (fail)
  refine (HP.out _ HB2.out).mono ?_
  rintro e w3 ⟨fl3, f3, s3, A3, n3, c3, er3, rfl, hx3, hb3⟩
  have hbk := bel_trans (B := w.heap.size) HB2.out hb3
  have O3 := Lib.hid ((O2.out.below hb3).new (numO fl3 f3 s3 A3 n3 c3))
  have HB3 := Lib.hid (hbk.alloc hbk.size (numO fl3 f3 s3 A3 n3 c3))
  have HX3 := Lib.hid hx3
  clear hb3 hbk hx3
  go_wp2_with (fail)
  refine (HQ.out _ HB3.out).mono ?_
  rintro e w4 ⟨fl4, f4, s4, A4, n4, c4, er4, rfl, hx4, hb4⟩
  have hbk := bel_trans (B := w.heap.size) HB3.out hb4
  have hrs := read_same HX3.out (((Below.refl _ w3).alloc (Nat.le_refl _) (numO fl3 f3 s3 A3 n3 c3)).trans (hb4.mono (by simp))) hx4
  obtain ⟨rfl, hsm⟩ := hrs
  have O4 := Lib.hid ((O3.out.below hb4).new (numO fl4 f4 s4 A4 n4 c4)).drew
  have HB4 := Lib.hid (hbk.alloc hbk.size (numO fl4 f4 s4 A4 n4 c4)).drew
  have HB44 := Lib.hid ((Below.refl _ w4).alloc (Nat.le_refl _) (numO fl4 f4 s4 A4 n4 c4)).drew
  have HSM := Lib.hid hsm
  have D1 := Lib.hid (HT1.out _ HB4.out)
  have KS : Hid (∀ W, Obs W [(w4.heap.size, numO fl4 f4 s4 A4 n4 c4), (w3.heap.size, numO fl3 f3 s3 A3 n3 c3), (w.heap.size, numO fl f s A n c)] → W.cell? ⟨w4.heap.size, 0, none⟩ = some (.bool fl4) ∧ W.cell? ⟨w4.heap.size, 1, none⟩ = some (.float .f64 f4) ∧ W.cell? ⟨w4.heap.size, 2, none⟩ = some (.bool s4) ∧ W.cell? ⟨w4.heap.size, 3, none⟩ = some (.slice A4 n4 c4) ∧ W.cell? ⟨w3.heap.size, 0, none⟩ = some (.bool fl3) ∧ W.cell? ⟨w3.heap.size, 1, none⟩ = some (.float .f64 f3) ∧ W.cell? ⟨w3.heap.size, 2, none⟩ = some (.bool s3) ∧ W.cell? ⟨w3.heap.size, 3, none⟩ = some (.slice A3 n3 c3) ∧ W.cell? ⟨w.heap.size, 0, none⟩ = some (.bool fl) ∧ W.cell? ⟨w.heap.size, 1, none⟩ = some (.float .f64 f) ∧ W.cell? ⟨w.heap.size, 2, none⟩ = some (.bool s) ∧ W.cell? ⟨w.heap.size, 3, none⟩ = some (.slice A n c)) := Lib.hid fun W h => by
    have h1 := ob_cell h.hd
    have h2 := ob_cell h.tl.hd
    have h3 := ob_cell h.tl.tl.hd
    exact ⟨h1 0, h1 1, h1 2, h1 3, h2 0, h2 1, h2 2, h2 3, h3 0, h3 1, h3 2, h3 3⟩
  clear hb4 hbk hx4 hsm
  go_wp2
  go_region_held3 (fun W => W.cell? ⟨w4.heap.size, 0, none⟩ = some (.bool fl4) ∧ W.cell? ⟨w4.heap.size, 1, none⟩ = some (.float .f64 f4) ∧ W.cell? ⟨w4.heap.size, 2, none⟩ = some (.bool s4) ∧ W.cell? ⟨w4.heap.size, 3, none⟩ = some (.slice A4 n4 c4) ∧ W.cell? ⟨w3.heap.size, 0, none⟩ = some (.bool fl3) ∧ W.cell? ⟨w3.heap.size, 1, none⟩ = some (.float .f64 f3) ∧ W.cell? ⟨w3.heap.size, 2, none⟩ = some (.bool s3) ∧ W.cell? ⟨w3.heap.size, 3, none⟩ = some (.slice A3 n3 c3) ∧ W.cell? ⟨w.heap.size, 0, none⟩ = some (.bool fl) ∧ W.cell? ⟨w.heap.size, 1, none⟩ = some (.float .f64 f) ∧ W.cell? ⟨w.heap.size, 2, none⟩ = some (.bool s) ∧ W.cell? ⟨w.heap.size, 3, none⟩ = some (.slice A n c))
    ((exact KS.out _ (Hid.out (by assumption))))
    (first
      | (go_at_call 19; (with_reducible refine D1.out.mono ?_); rintro e v1 ⟨rfl, hbz⟩; have O5 := Lib.hid (O4.out.below hbz); have HB5 := Lib.hid (bel_trans (B := w.heap.size) HB4.out hbz); have HB55 := Lib.hid (bel_trans (B := w4.heap.size) HB44.out hbz); have D2 := Lib.hid (HT2.out _ HB5.out); clear hbz)
      | (go_at_call 20; (with_reducible refine D2.out.mono ?_); rintro e v2 ⟨rfl, hbz⟩; have O6 := Lib.hid (O5.out.below hbz); have HB6 := Lib.hid (bel_trans (B := w.heap.size) HB5.out hbz); have HB66 := Lib.hid (bel_trans (B := w4.heap.size) HB55.out hbz); have D3 := Lib.hid (HSM.out _ HB66.out); clear hbz)
      | (go_at_call 21; (with_reducible refine D3.out.mono ?_); rintro e v3 ⟨rfl, hbz⟩; have O7 := Lib.hid (O6.out.below hbz); have HB7 := Lib.hid (bel_trans (B := w.heap.size) HB6.out hbz); clear hbz))
  all_goals
    go_wp2
    go_ret
    exact ⟨by simp, HB7.out⟩

theorem ttexts_by (fl : Bool) (f : Nat) (s : Bool) (A : Option Addr) (c : Nat) (xs : List Nat) (T : ByteArray) (w : World) (hf : f < 18446744073709551616) (ha : Rd w A xs) (hx : Lm xs) (hca : xs.length ≤ c) (hcm : c ≤ 9223372036854775807) (hnil : A = none → xs.length = 0 ∧ c = 0)
    (hv : FV w) (hxx : FX w) (hr : RngCell w) (hsy : SynCell w) :
    Calls Tryz.prog 4 #[numA fl f s A xs.length c, .string T] w fun e w' => e = .returned (.bool true) ∧ Below w.heap.size w w' := by
  have hR : ∀ W, Below w.heap.size w W → Calls Tryz.prog 16 #[numA fl f s A xs.length c] W fun e w' => e = .returned (.bool (rightN fl f s xs)) ∧ Below W.heap.size W w' := fun W hW => rnright_any fl f s A c xs W (ha.below hW) hx hca hcm hnil
  by_cases hl : 800 < T.size
  · exact ttexts_no fl f s A xs.length c T w hv.toT true (decide_eq_true hl) (fun h => by cases h)
  · by_cases hrn : rightN fl f s xs = true
    · rw [hrn] at hR
      obtain ⟨ff, hff⟩ := reads_some T
      obtain ⟨t, ht1, ht2⟩ := ttext_both fl f s A c xs hrn hf hx hca hcm hnil
      exact ttexts_yes fl f s A xs.length c T t ff w hv.toT hl hR
        (fun W hW => tparse_all T ff (by omega) hff W (hv.below hW) (hxx.below hW) (hr.below hW) (hsy.below hW))
        (fun W hW => rtparse_any T ff (by omega) hff W (hv.below hW) (hxx.below hW) (hr.below hW))
        (fun W hW => ht1 W (hv.below hW) (ha.below hW)) (fun W hW => ht2 W (hv.below hW) (ha.below hW))
    · have h0 : rightN fl f s xs = false := by simpa using hrn
      rw [h0] at hR
      exact ttexts_no fl f s A xs.length c T w hv.toT false (decide_eq_false hl) (fun _ => hR)

theorem ttexts_card {l : List (String × DataW Unit)} {nm nr : String} {d dr : DataW Unit} {W : World} (h : laidMetH Tryz.prog l W)
    (c1 : ((l.filter fun x => x.2.handleName?.isNone).filter fun x => x.1 == "internal/strconv.leftcheats") = [("internal/strconv.leftcheats", Go.Pinned.leftcheats)])
    (c2 : ((l.filter fun x => x.2.handleName?.isNone).filter fun x => x.1 == "internal/strconv.powtab") = [("internal/strconv.powtab", .slice (powtabL.map fun x => .lit (.int .i64 ((x : Nat) : Int))) [])])
    (c3 : ((l.filter fun x => x.2.handleName?.isNone).filter fun x => x.1 == "internal/strconv.float64info") = [("internal/strconv.float64info", .agg [.lit (.int .u64 52), .lit (.int .u64 11), .lit (.int .i64 (-1023))])])
    (e3 : ((l.filter fun x => x.2.handleName?.isNone).filter fun x => x.1 == "strconv.ErrSyntax") = [("strconv.ErrSyntax", .iface nm d)])
    (e4 : ((l.filter fun x => x.2.handleName?.isNone).filter fun x => x.1 == "strconv.ErrRange") = [("strconv.ErrRange", .iface nr dr)]) (hv : FV W)
    (fl : Bool) (f : Nat) (s : Bool) (A : Option Addr) (c : Nat) (xs : List Nat) (T : ByteArray) (hf : f < 18446744073709551616) (hx : Lm xs) (ha : Rd W A xs) (hca : xs.length ≤ c) (hcm : c ≤ 9223372036854775807) (hnil : A = none → xs.length = 0 ∧ c = 0) :
    Calls Tryz.prog 4 #[numA fl f s A xs.length c, .string T] W fun e w' => e = .returned (.bool true) ∧ Below W.heap.size W w' :=
  ttexts_by fl f s A c xs T W hf ha hx hca hcm hnil hv (fx_of h c1 c2 c3) (rngcell_of h e4) (sentinel_of h e3)

end LM
end Go.Proofs.YtpnjddfnlaonoaaGreatDoor
