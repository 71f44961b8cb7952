/- Walks of package limb: Parse: the number of decimal digits. -/
import Derived.Sort.AtCallIn
import Derived.Lib.BitFns
import Derived.Test.YtpnjddfnlaonoaaGreatDoorL07
import Derived.Test.YtpnjddfnlaonoaaGreatDoorL01
import Derived.Test.YtpnjddfnlaonoaaGreatDoorL09
import Derived.Test.YtpnjddfnlaonoaaGreatDoorL04
import Derived.Test.YtpnjddfnlaonoaaGreatDoorL06
import Derived.Test.YtpnjddfnlaonoaaGreatDoorL05
import Derived.Test.YtpnjddfnlaonoaaGreatDoorL12
import Derived.Test.YtpnjddfnlaonoaaGreatDoorL13
import Derived.Test.YtpnjddfnlaonoaaGreatDoorL16
import Derived.Lib.AtoiErrMem
namespace Go.Proofs.YtpnjddfnlaonoaaGreatDoor
open Go.RowKit Go.Shelf
attribute [local go_sem] Oper.semAt_some
namespace LM
attribute [local go_sem] round_fn wide_fn

/-- behind a piece of code that ends as it should: this of the frame and the world -/
def OnNormal (R : Act → World → Prop) : Exit → Act → World → Prop
  | .normal, a, w => R a w
  | _, _, _ => False

theorem lead (y : Nat) (h0 : 0 < y) (h : y < 4294967296) : ∃ s : Nat, s < 32 ∧ 32 - (Lib.bitLen y : Int) = (s : Int) ∧ y * 2 ^ s < 4294967296 := by
  have h1 := Nat.log2_self_le (n := y) (by omega)
  have h2 := Nat.lt_log2_self (n := y)
  have hk : y.log2 < 32 := by
    rcases Nat.lt_or_ge y.log2 32 with h3 | h3
    · exact h3
    · have := Nat.pow_le_pow_right (n := 2) (by decide) h3; omega
  have e : y / 2 ^ y.log2 = 1 := by
    apply Nat.div_eq_of_lt_le
    · omega
    · rw [Nat.pow_succ] at h2; omega
  have hb := Lib.bitLen_shift y.log2 y h1 (by omega)
  rw [e] at hb
  have h5 : Lib.bitLen 1 = 1 := by decide
  rw [h5] at hb
  refine ⟨31 - y.log2, by omega, by rw [hb]; omega, ?_⟩
  have h6 := Nat.mul_lt_mul_of_pos_right h2 (show 0 < 2 ^ (31 - y.log2) from Nat.pow_pos (by decide))
  rw [← Nat.pow_add, show y.log2 + 1 + (31 - y.log2) = 32 from by omega] at h6
  exact h6

set_option maxRecDepth 100000 in
set_option maxHeartbeats 1000000 in
theorem div_big (A B : Option Addr) (ca cb : Nat) (xs ys : List Nat) (w : World) (ha : Rd w A xs) (hb : Rd w B ys) (hx : Lm xs) (hy : Lm ys) (hca : xs.length ≤ ca) (hcb : ys.length ≤ cb) (hcam : ca ≤ 9223372036854775807) (hcbm : cb ≤ 9223372036854775807)
    (hs1 : ¬ BIG (val xs)) (hs2 : ¬ BIG (val ys)) (hs3 : 0 < val ys) (hs4 : (trim ys).length ≤ (trim xs).length) :
    Calls Tryz.prog 169 #[.slice A xs.length ca, .slice B ys.length cb] w fun e w' => DivE w (val xs) (val ys) e w' := by
  have H1 := Lib.hid (fun W (h : Rd W A xs) => trimmed_any A ca xs W h hca (by unfold maxLen; omega))
  have H2 := Lib.hid (fun W (h : Rd W B ys) => trimmed_any B cb ys W h hcb (by unfold maxLen; omega))
  have hta := ha.trim
  have htb := hb.trim
  have hcx := can_trim hx
  have hcy := can_trim hy
  rw [← val_trim xs] at hs1 ⊢
  rw [← val_trim ys] at hs2 hs3 ⊢
  have hlx := trim_length_le xs
  have hly := trim_length_le ys
  have ha3 := (ha.alloc (.cells #[.slice B ys.length cb] 34)).drew
  have hb3 := (hb.alloc (.cells #[.slice B ys.length cb] 34)).drew
  generalize trim xs = xt at *
  generalize trim ys = yt at *
  have b1 : ¬ 64 < xt.length := fun h => hs1 ((big_iff hcx).1 h)
  have b2 : ¬ 64 < yt.length := fun h => hs2 ((big_iff hcy).1 h)
  have hn : 0 < yt.length := by
    rcases Nat.eq_zero_or_pos yt.length with h | h
    · rw [List.eq_nil_of_length_eq_zero h] at hs3; simp [val] at hs3
    · exact h
  have I1 : ∀ n, n ≤ 9223372036854775807 → ∀ A c W, Calls Tryz.prog 180 #[.slice A n c] W fun e w' => e = .returned (.bool (decide (64 < n))) ∧ W = w' := fun n hn A c W => isBig_any A n c W (by unfold maxLen; omega)
  have HI := Lib.hid I1
  have hd : decide (64 < xt.length) = false := decide_eq_false b1
  have hd2 : decide (64 < yt.length) = false := decide_eq_false b2
  have hn0 : ((yt.length : Int) == 0) = false := by rw [beq_eq_false_iff_ne]; omega
  have htop : yt[yt.length - 1]?.getD 0 ≠ 0 := by
    have hne : yt ≠ [] := by intro e; subst e; simp at hn
    have h := can_last (xs := yt.dropLast) (y := yt.getLast hne) (by rw [List.dropLast_concat_getLast hne]; exact hcy)
    rw [List.getLast_eq_getElem] at h
    rw [List.getElem?_eq_getElem (by omega)]; exact h
  obtain ⟨s, hs, hse, hst⟩ := lead _ (Nat.pos_of_ne_zero htop) (hcy.1.get _)
  have htl := hcy.1.get (yt.length - 1)
  have hlz := fun W => Tryz.bits_LeadingZeros32 ((yt[yt.length - 1]?.getD 0 : Nat) : Int) W (by omega) (by omega)
  simp only [Int.toNat_natCast, hse] at hlz
  have HLZ := Lib.hid hlz
  clear I1 ha hb hlz hse
  refine (callsIn_wide (n := 3)).1 ?_
  refine callsIn_of_wp_marks Tryz.func169 rfl trivial ?_ rfl
  simp only [Tryz.ntmps169, List.size_toArray, List.length_cons, List.length_nil, Nat.reduceAdd, Nat.reduceSub, Array.replicate_succ, Array.replicate_zero, List.push_toArray, List.append_toArray, List.nil_append, List.cons_append]
  gi_wp2_with fail
  refine Code.wpIn_mono (Q := OnNormal fun a' w' => a' = { tmps := #[.slice A xt.length ca, .slice B ys.length cb, undef, .pointer (some ⟨w.heap.size, 0, none⟩), .slice none 0 0, .slice none 0 0, .int .i64 0, undef, undef, undef, undef, undef, .slice A xs.length ca, .slice A xt.length ca, .slice B ys.length cb, .slice B yt.length cb, undef, undef, undef, undef, undef, undef, undef, undef, undef, undef, undef, undef, undef, undef, undef, undef, undef, undef, undef, undef, undef, undef, undef, undef, undef, undef, undef, undef, undef, undef, undef, undef, undef, undef, undef, undef, undef, undef, undef, undef, undef, undef, undef, undef, undef, undef, undef, undef, undef, undef, undef, undef, undef, undef, undef, undef, undef, undef, undef, undef, undef, undef, undef, undef], defers := [] } ∧ w' = (w.alloc (.cells #[.slice B yt.length cb] 34)).drew) ?cont ?reg
  case reg =>
    gi_region_with (first | (gi_at_call_has 152 (Value.slice A xs.length ca); refine (callsIn_wide.2 (H1.out _ ha3)).mono ?_; rintro e w1 ⟨rfl, rfl⟩) | (gi_at_call_has 152 (Value.slice B ys.length cb); refine (callsIn_wide.2 (H2.out _ hb3)).mono ?_; rintro e w1 ⟨rfl, rfl⟩))
    all_goals exact ⟨rfl, rfl⟩
  case cont =>
    intro e a' w' hq
    cases e <;> first | exact hq.elim | skip
    obtain ⟨rfl, rfl⟩ := hq
    have htb1 : Rd (w.alloc (.cells #[.slice B yt.length cb] 34)).drew B yt := (htb.alloc _).drew
    obtain ⟨bb, ob, rfl, _, hct⟩ := htb1.at_ (k := yt.length - 1) (by omega)
    generalize htv : yt[yt.length - 1]?.getD 0 = tv at *
    have HTV := Lib.hid htv
    clear htv
    gi_wp2_with fail
    refine (callsIn_wide.2 (HI.out xt.length (by omega) _ _ _)).mono ?_; rintro e w' ⟨rfl, rfl⟩
    gi_wp2_with fail
    refine (callsIn_wide.2 (HI.out yt.length (by omega) _ _ _)).mono ?_; rintro e w' ⟨rfl, rfl⟩
    gi_wp2_with fail
    refine (callsIn_wide.2 (HLZ.out _)).mono ?_; rintro e w2 ⟨rfl, hw2⟩
    subst hw2
    gi_wp2_with fail
    generalize hW0 : (w.alloc (.cells #[.slice (some ⟨bb, ob, none⟩) yt.length cb] 34)).drew = W0
    have hs0 : W0.heap.size = w.heap.size + 1 := by rw [← hW0]; simp
    have hbw : Below w.heap.size w W0 := by rw [← hW0]; exact ((Below.refl _ _).alloc (Nat.le_refl _) _).drew
    have hb3 : SBox W0 w.heap.size (.slice (some ⟨bb, ob, none⟩) yt.length cb) := by rw [← hW0]; exact (SBox.new w _).drew
    have hta0 : Rd W0 A xt := hta.below hbw
    have htb0 : Rd W0 (some ⟨bb, ob, none⟩) yt := by rw [← hW0]; exact htb1
    clear hW0 htb1 htb hta hct
    have hC0 : ∀ W, Below W0.heap.size W0 W → W.cell? ⟨w.heap.size, 0, none⟩ = some (.slice (some ⟨bb, ob, none⟩) yt.length cb) := fun W hb => (hb3.below hb hb3.lt).cell
    have HC0 := Lib.hid hC0
    clear hC0
    refine Code.wpIn_mono (Q := OnNormal fun a' w' => ∃ v8 v9 v44 v47 v48 : Value, a' = { tmps := #[.slice A xt.length ca, .slice (some ⟨bb, ob, none⟩) ys.length cb, undef, .pointer (some ⟨w.heap.size, 0, none⟩), .slice none 0 0, .slice none 0 0, .int .i64 0, .int .i64 (s : Int), v8, v9, undef, undef, .slice A xs.length ca, .slice A xt.length ca, .slice (some ⟨bb, ob, none⟩) ys.length cb, .slice (some ⟨bb, ob, none⟩) yt.length cb, .bool false, .slice A xt.length ca, .bool false, .bool false, .slice (some ⟨bb, ob, none⟩) yt.length cb, .bool false, .bool false, .bool false, .slice (some ⟨bb, ob, none⟩) yt.length cb, .int .i64 (yt.length : Int), .bool false, .bool false, .slice A xt.length ca, .int .i64 (xt.length : Int), .slice (some ⟨bb, ob, none⟩) yt.length cb, .int .i64 (yt.length : Int), .bool false, undef, undef, .slice (some ⟨bb, ob, none⟩) yt.length cb, .slice (some ⟨bb, ob, none⟩) yt.length cb, .int .i64 (yt.length : Int), .int .i64 ((yt.length : Int) - 1), .pointer (some ⟨bb, ob + (yt.length - 1), none⟩), .int .u32 (tv : Int), .int .i64 (s : Int), .slice A xt.length ca, .int .i64 (s : Int), v44, .slice (some ⟨bb, ob, none⟩) yt.length cb, .int .i64 (s : Int), v47, v48, undef, undef, undef, undef, undef, undef, undef, undef, undef, undef, undef, undef, undef, undef, undef, undef, undef, undef, undef, undef, undef, undef, undef, undef, undef, undef, undef, undef, undef, undef, undef], defers := [] } ∧ R9D W0 xt yt s v8 v9 w') ?cont2 ?reg2
    case reg2 =>
      have hC : (fun W : World => W.cell? ⟨w.heap.size, 0, none⟩ = some (.slice (some ⟨bb, ob, none⟩) yt.length cb)) W0.drew := HC0.out _ (Below.refl _ _).drew
      refine wpIn_region_C (fun _ => false) _ (by kernel_rfl) (?_ : wpC _ _ _ _ _ _ (fun W : World => W.cell? ⟨w.heap.size, 0, none⟩ = some (.slice (some ⟨bb, ob, none⟩) yt.length cb)) _ _ _ _ _)
      refine wpC_take 0 (v := .slice A xt.length ca) (fun _ => trivial) (by kernel_rfl) rfl (by kernel_rfl) (by kernel_rfl) (by kernel_rfl) (by kernel_rfl) (fun _ _ _ h => h) hC ⟨rfl, fun w hw => ?_⟩ ?_
      · go_simp
      refine wpC_take 1 (v := .int .i64 (s : Int)) (fun _ => trivial) (by kernel_rfl) rfl (by kernel_rfl) (by kernel_rfl) (by kernel_rfl) (by kernel_rfl) (fun _ _ _ h => h) hC ⟨rfl, fun w hw => ?_⟩ ?_
      · go_simp
      refine wpC_take 3 (v := .slice (some ⟨bb, ob, none⟩) yt.length cb) (fun _ => trivial) (by kernel_rfl) rfl (by kernel_rfl) (by kernel_rfl) (by kernel_rfl) (by kernel_rfl) (fun _ _ _ h => h) hC ⟨rfl, fun w hw => ?_⟩ ?_
      · go_simp
      refine wpC_take 4 (v := .int .i64 (s : Int)) (fun _ => trivial) (by kernel_rfl) rfl (by kernel_rfl) (by kernel_rfl) (by kernel_rfl) (by kernel_rfl) (fun _ _ _ h => h) hC ⟨rfl, fun w hw => ?_⟩ ?_
      · go_simp
      refine wpC_listed (s9lst (0, false, false)) (by kernel_rfl) ?_
      refine wpC_states s9lst s9rd s9next (fun s => s.1 ≤ 3) s9rank (fun st a W => ∃ v8 v9 v44 v47 v48 : Value, a = { tmps := #[.slice A xt.length ca, .slice (some ⟨bb, ob, none⟩) ys.length cb, undef, .pointer (some ⟨w.heap.size, 0, none⟩), .slice none 0 0, .slice none 0 0, .int .i64 0, .int .i64 (s : Int), v8, v9, undef, undef, .slice A xs.length ca, .slice A xt.length ca, .slice (some ⟨bb, ob, none⟩) ys.length cb, .slice (some ⟨bb, ob, none⟩) yt.length cb, .bool false, .slice A xt.length ca, .bool false, .bool false, .slice (some ⟨bb, ob, none⟩) yt.length cb, .bool false, .bool false, .bool false, .slice (some ⟨bb, ob, none⟩) yt.length cb, .int .i64 (yt.length : Int), .bool false, .bool false, .slice A xt.length ca, .int .i64 (xt.length : Int), .slice (some ⟨bb, ob, none⟩) yt.length cb, .int .i64 (yt.length : Int), .bool false, undef, undef, .slice (some ⟨bb, ob, none⟩) yt.length cb, .slice (some ⟨bb, ob, none⟩) yt.length cb, .int .i64 (yt.length : Int), .int .i64 ((yt.length : Int) - 1), .pointer (some ⟨bb, ob + (yt.length - 1), none⟩), .int .u32 (tv : Int), .int .i64 (s : Int), .slice A xt.length ca, .int .i64 (s : Int), v44, .slice (some ⟨bb, ob, none⟩) yt.length cb, .int .i64 (s : Int), v47, v48, undef, undef, undef, undef, undef, undef, undef, undef, undef, undef, undef, undef, undef, undef, undef, undef, undef, undef, undef, undef, undef, undef, undef, undef, undef, undef, undef, undef, undef, undef, undef], defers := [] } ∧ R9 W0 xt yt s st.1 st.2.1 st.2.2 v8 v9 v44 v47 v48 W) 2 ?hrd (fun _ h1 h2 => s9_ne h1 h2) (fun _ h1 _ i hi => s9_next h1 hi) ?hstep ?hend 5 (0, false, false) _ _ rfl (Nat.zero_le _) ⟨undef, undef, undef, undef, undef, rfl, R9.start _ _ _ _ _ _ _ _ _⟩
      case hrd =>
        rintro ⟨k, b7, b8⟩ hk hr
        have hk2 : k = 0 ∨ k = 1 ∨ k = 2 ∨ k = 3 := by simp at hk; omega
        rcases hk2 with rfl | rfl | rfl | rfl <;> cases b7 <;> cases b8 <;> first | exact absurd hr (by decide) | (show Region.ready _ _ _ = _; kernel_rfl)
      case hstep =>
        rintro ⟨k, b7, b8⟩ a W hk _ ⟨v8, v9, v44, v47, v48, rfl, hR⟩ i hi
        have hbW := hR.below
        rcases s9_mem hi with ⟨rfl, rfl⟩ | ⟨rfl, rfl⟩ | ⟨rfl, rfl⟩ | ⟨rfl, rfl⟩ | ⟨rfl, rfl⟩
        · have HCON := Lib.hid (shiftedUp_any A ca xt s W (hta0.below hbW) hcx.1 hs (by omega))
          clear hi
          refine wpOpIn_step rfl (fun K hK => ?_)
          go_simp
          refine (callsIn_wide.2 HCON.out).mono ?_
          rintro e w' ⟨zs, rfl, z1, z2, z3, z4, z5⟩
          exact hK _ _ ⟨fun _ => HC0.out _ (hbW.trans (z5.mono hbW.size)), v8, v9, _, v47, v48, rfl, hR.c2 z1 z2 z3 z4 z5⟩
        · have HCON := Lib.hid (shiftedUp_any (some ⟨bb, ob, none⟩) cb yt s W (htb0.below hbW) hcy.1 hs (by omega))
          clear hi
          refine wpOpIn_step rfl (fun K hK => ?_)
          go_simp
          refine (callsIn_wide.2 HCON.out).mono ?_
          rintro e w' ⟨zs, rfl, z1, z2, z3, z4, z5⟩
          exact hK _ _ ⟨fun _ => HC0.out _ (hbW.trans (z5.mono hbW.size)), v8, v9, v44, _, v48, rfl, hR.c5 z1 z2 z3 z4 z5⟩
        · obtain ⟨d, ds, rfl, hdl, hrd, hR3⟩ := hR.c6
          have HCON := Lib.hid (trimmed_any (some ⟨d, 0, none⟩) (yt.length + 1) ds W hrd (by omega) (by unfold maxLen; omega))
          have HR3 := Lib.hid hR3
          clear hi hR3 hdl
          refine wpOpIn_step rfl (fun K hK => ?_)
          go_simp
          refine (callsIn_wide.2 HCON.out).mono ?_
          rintro e w' ⟨rfl, rfl⟩
          exact hK _ _ ⟨fun _ => HC0.out _ hbW, v8, v9, v44, _, _, rfl, HR3.out⟩
        · clear hi
          refine wpOpIn_step rfl (fun K hK => ?_)
          go_simp
          exact hK _ _ ⟨fun _ => HC0.out _ (hbW.alloc hbW.size _), _, v9, v44, v47, v48, rfl, hR.a7⟩
        · clear hi
          refine wpOpIn_step rfl (fun K hK => ?_)
          go_simp
          exact hK _ _ ⟨fun _ => HC0.out _ (hbW.alloc hbW.size _), v8, _, v44, v47, v48, rfl, hR.a8⟩
      case hend =>
        rintro st a W hk hr ⟨v8, v9, v44, v47, v48, rfl, hR⟩
        obtain rfl := s9_done hk hr
        have hbW := hR.below
        obtain ⟨p, q, rfl, rfl, hpq, hp, hq, ⟨g, d, nd, rfl, rfl⟩, hD⟩ := hR.stores
        have hpb : W0.heap.size ≤ p := by
          obtain ⟨_, _, p', _, _, _, _, _, _, h1, _, _, h2, _⟩ := hD
          injection h2 with h2; injection h2 with h2; injection h2 with h2; omega
        have HD := Lib.hid hD
        have hpc := hp.cell
        have hpf := hp.frozen
        have hqf := (hq.far (q := ⟨p, 0, none⟩) (Ne.symm hpq) (.slice (some ⟨g, 0, none⟩) (xt.length + 1) (xt.length + 1))).frozen
        have hqc := (hq.far (q := ⟨p, 0, none⟩) (Ne.symm hpq) (.slice (some ⟨g, 0, none⟩) (xt.length + 1) (xt.length + 1))).cell
        have HCW := Lib.hid (HC0.out _ (hbW.setCell (p := ⟨p, 0, none⟩) hpb (.slice (some ⟨g, 0, none⟩) (xt.length + 1) (xt.length + 1))))
        have HBD := Lib.hid (HC0.out _ hD.below)
        clear hD
        refine wpC_only 9 (by kernel_rfl) (wpOpIn_step rfl (fun K hK => ?_))
        go_simp
        refine hK _ _ ⟨fun _ => HCW.out, ?_⟩
        clear hK K
        refine wpC_only 10 (by kernel_rfl) (wpOpIn_step rfl (fun K hK => ?_))
        go_simp
        refine hK _ _ ⟨fun _ => HBD.out, ?_⟩
        clear hK K
        refine wpC_done (by kernel_rfl) ?_
        exact ⟨_, _, _, v47, _, rfl, HD.out⟩
    case cont2 =>
      intro e a' w' hq
      cases e <;> first | exact hq.elim | skip
      obtain ⟨v8, v9, v44, v47, v48, rfl, hR⟩ := hq
      clear HC0 hta0 htb0
      obtain ⟨g, d, p, q, zs, ds, r1, r2, r3, r4, r5, r6, rfl, rfl, r7, r8, r9, r10, r11, r12, r13, r14, r15, r16⟩ := hR
      have b3 := hb3.below r1 hb3.lt
      have b3c := b3.cell
      clear hb3
      have hm0 : ∃ m, m + yt.length = xt.length + 1 ∧ 0 < m ∧ m ≤ 65 := ⟨xt.length - yt.length + 1, by omega, by omega, by omega⟩
      obtain ⟨m, hm1, hm2, hm3⟩ := hm0
      have hmi : (xt.length : Int) - (yt.length : Int) + 1 = (m : Int) := by omega
      have hmk := fun W => run_make_row' (P := Tryz.prog) 34 99 (.int .u32 0) 4 Tryz.underlying34 u32_info rfl .i64 .i64 m (by omega) (by omega) W
      simp only [made_zero] at hmk
      gi_wp2_with fail
      refine (backward_in _ _ _ _ _).mono ?_
      rintro e w2 ⟨rfl, rfl⟩
      clear hmk hmi
      gi_wp2_with fail
      have hdl : (trim ds).length = yt.length := shifted_len hs hcy (can_trim r15) hn (by rw [val_trim]; exact r16) (by rw [HTV.out]; exact hst)
      have hdv : val (trim ds) = val yt * 2 ^ s := by rw [val_trim]; exact r16
      rw [hdl] at r8
      have hdlt : val (trim ds) ≤ 4294967296 ^ yt.length := by rw [← hdl]; exact Nat.le_of_lt (val_lt r15.trim)
      have hstart := div_start hcx.1 r10 r12 hcy hn hs4 hdv
      rw [show xt.length - yt.length + 1 = m from by omega] at hstart
      have HDV := Lib.hid hdv
      have HR12 := Lib.hid r12
      have hrd : ∀ W, Blk W d (U ds) → Rd W (some ⟨d, 0, none⟩) (trim ds) := fun W hb => by
        refine Rd.of_blk (pre := []) (post := ds.drop (trim ds).length) ?_
        have e : [] ++ trim ds ++ ds.drop (trim ds).length = ds := by
          rw [List.nil_append]
          conv => lhs; lhs; rw [trim_take]
          exact List.take_append_drop _ _
        rw [e]; exact hb
      have htop2 := can_top (can_trim r15) (by omega)
      have HTOP2 := Lib.hid htop2
      have HDL := Lib.hid hdl
      have HRD := Lib.hid hrd
      have hwl : w'.heap.size ≥ W0.heap.size := r1.size
      have hgl := r9.lt
      have hdl2 := r13.lt
      generalize hWL : World.alloc _ _ = WL
      have f0 : WL.heap.size = w'.heap.size + 3 := by rw [← hWL]; simp
      have fI : DvI w (some ⟨bb, ob, none⟩) cb xt.length yt.length m (val zs) (val (trim ds)) w.heap.size g d w'.heap.size p q (w'.heap.size + 1) (w'.heap.size + 2) ds [] WL := by
        rw [← hWL]
        refine ⟨zs, List.replicate m 0, r10, r11, by simp, Lm.replicate m, ((r9.alloc _).alloc _).alloc _, ((r13.alloc _).alloc _).alloc _, ?_, ((b3.alloc _).alloc _).alloc _, ((r7.alloc _).alloc _).alloc _, ((r8.alloc _).alloc _).alloc _, ?_, ?_, ?_, DvOrd.start hstart rfl⟩
        · exact ((Blk.new w' _).alloc _).alloc _
        · have h := (SBox.new (w'.alloc (.cells (U (List.replicate m 0)).toArray 99)) (.slice (some ⟨w'.heap.size, 0, none⟩) m m)).alloc (.cells #[.slice (some ⟨w'.heap.size, 0, none⟩) m m] 34)
          rwa [World.size_alloc] at h
        · have h := SBox.new ((w'.alloc (.cells (U (List.replicate m 0)).toArray 99)).alloc (.cells #[.slice (some ⟨w'.heap.size, 0, none⟩) m m] 34)) (.slice (some ⟨w'.heap.size, 0, none⟩) m m)
          rwa [World.size_alloc, World.size_alloc] at h
        · exact (((hbw.trans (r1.mono hbw.size)).alloc (by omega) _).alloc (by simp; omega) _).alloc (by simp; omega) _
      clear hWL hdl hdv hrd htop2 hstart r7 r8 r9 r13 b3c b3 r12 r16
      refine range_all rfl (by decide) (gf := 297) (lb := #[.pointer (some ⟨w'.heap.size + 2, 0, none⟩)]) rfl trivial (enters_of Tryz.func297 (by kernel_rfl) rfl)
        (backward_all 2 (by decide) (w'.heap.size + 2) (some ⟨w'.heap.size, 0, none⟩) m m (by omega) (fun _ _ => True) WL (by omega) (fun _ ad e => by injection e with e; subst e; show w'.heap.size < _; omega) fI.bw)
        (Below.refl _ _) (fun _ => rfl) (DvI w (some ⟨bb, ob, none⟩) cb xt.length yt.length m (val zs) (val (trim ds)) w.heap.size g d w'.heap.size p q (w'.heap.size + 1) (w'.heap.size + 2) ds) (DvI.own (by omega)) (fun _ _ hs => hs.bw) fI
        (fun x => { tmps := #[.slice A xt.length ca, .slice (some ⟨bb, ob, none⟩) ys.length cb, undef, .pointer (some ⟨w.heap.size, 0, none⟩), .slice none 0 0, .slice none 0 0, .int .i64 0, .int .i64 (s : Int), .pointer (some ⟨p, 0, none⟩), .pointer (some ⟨q, 0, none⟩), .pointer (some ⟨w'.heap.size + 1, 0, none⟩), .int .i64 (x.1.1 : Int), .slice A xs.length ca, .slice A xt.length ca, .slice (some ⟨bb, ob, none⟩) ys.length cb, .slice (some ⟨bb, ob, none⟩) yt.length cb, .bool false, .slice A xt.length ca, .bool false, .bool false, .slice (some ⟨bb, ob, none⟩) yt.length cb, .bool false, .bool false, .bool false, .slice (some ⟨bb, ob, none⟩) yt.length cb, .int .i64 (yt.length : Int), .bool false, .bool false, .slice A xt.length ca, .int .i64 (xt.length : Int), .slice (some ⟨bb, ob, none⟩) yt.length cb, .int .i64 (yt.length : Int), .bool false, undef, undef, .slice (some ⟨bb, ob, none⟩) yt.length cb, .slice (some ⟨bb, ob, none⟩) yt.length cb, .int .i64 (yt.length : Int), .int .i64 ((yt.length : Int) - 1), .pointer (some ⟨bb, ob + (yt.length - 1), none⟩), .int .u32 (tv : Int), .int .i64 (s : Int), .slice A xt.length ca, .int .i64 (s : Int), v44, .slice (some ⟨bb, ob, none⟩) yt.length cb, .int .i64 (s : Int), v47, v48, .slice A xt.length ca, .int .i64 (xt.length : Int), .slice (some ⟨bb, ob, none⟩) yt.length cb, .int .i64 (yt.length : Int), .int .i64 ((xt.length : Int) - (yt.length : Int)), .int .i64 (m : Int), .slice (some ⟨w'.heap.size, 0, none⟩) m m, .slice (some ⟨w'.heap.size, 0, none⟩) m m, .func (.func 297) #[] #[.pointer (some ⟨w'.heap.size + 2, 0, none⟩)], .int .i64 (x.1.1 : Int), .int .u32 (x.1.2 : Int), undef, undef, undef, undef, undef, undef, undef, undef, undef, undef, undef, undef, undef, undef, undef, undef, undef, undef, undef, undef], defers := [] }) ?assign ?body ?done
      case assign =>
        intro l2 x W2 K hK
        gi_wp2
        exact hK
      case body =>
        rintro l2 pre x W ⟨cur, qq, a1, a2, a3, a4, a5, a6, a7, a8, a9, a10, a11, a12, a13, a14⟩ _
        have hj : x.1.1 < m := x.2.1
        have hjl : x.1.1 + yt.length + 1 ≤ xt.length + 1 := by omega
        have hl1 : (cur.take x.1.1).length = x.1.1 := by rw [List.length_take]; omega
        have hl2 : ((cur.drop x.1.1).take (yt.length + 1)).length = yt.length + 1 := by rw [List.length_take, List.length_drop]; omega
        have hsplit : cur.take x.1.1 ++ (cur.drop x.1.1).take (yt.length + 1) ++ cur.drop (x.1.1 + yt.length + 1) = cur := by
          have e := List.take_append_drop (yt.length + 1) (cur.drop x.1.1)
          rw [List.drop_drop] at e
          rw [List.append_assoc, Nat.add_assoc, e, List.take_append_drop]
        have hcon := takeOut_any g (xt.length + 1 - x.1.1) (cur.take x.1.1) ((cur.drop x.1.1).take (yt.length + 1)) (cur.drop (x.1.1 + yt.length + 1)) (some ⟨d, 0, none⟩) (yt.length + 1) (trim ds) W.drew (by rw [hsplit]; exact a5.drew) ((HRD.out _ a6).drew) (fun _ ad e => by injection e with e; subst e; exact Ne.symm r6) (by rw [hl2, HDL.out]) ((a2.drop _).take _) r15.trim (by rw [hl2]; omega) (by rw [HDL.out]; exact hn) HTOP2.out
        rw [hl1, hl2, HDL.out] at hcon
        have HCON := Lib.hid hcon
        have hlq : qq.length = m := a3
        have HA1 := Lib.hid a1
        have HA3 := Lib.hid a3
        have HA14 := Lib.hid a14
        clear hcon hl1 hl2 hsplit a1 a3 a14
        generalize hjx : x.1.1 = j at *
        have HJX := Lib.hid hjx
        have HLQ := Lib.hid hlq
        clear hjx hlq
        gi_wp2_with fail
        have hC : (fun W : World => W.cell? ⟨w'.heap.size + 1, 0, none⟩ = some (.slice (some ⟨w'.heap.size, 0, none⟩) m m) ∧ W.cell? ⟨p, 0, none⟩ = some (.slice (some ⟨g, 0, none⟩) (xt.length + 1) (xt.length + 1)) ∧ W.cell? ⟨w.heap.size, 0, none⟩ = some (.slice (some ⟨bb, ob, none⟩) yt.length cb) ∧ W.cell? ⟨q, 0, none⟩ = some (.slice (some ⟨d, 0, none⟩) yt.length (yt.length + 1))) W.drew := ⟨a11.cell, a9.cell, a8.cell, a10.cell⟩
        refine wpIn_region_C (fun _ => false) _ (by kernel_rfl) (?_ : wpC _ _ _ _ _ _ (fun W : World => W.cell? ⟨w'.heap.size + 1, 0, none⟩ = some (.slice (some ⟨w'.heap.size, 0, none⟩) m m) ∧ W.cell? ⟨p, 0, none⟩ = some (.slice (some ⟨g, 0, none⟩) (xt.length + 1) (xt.length + 1)) ∧ W.cell? ⟨w.heap.size, 0, none⟩ = some (.slice (some ⟨bb, ob, none⟩) yt.length cb) ∧ W.cell? ⟨q, 0, none⟩ = some (.slice (some ⟨d, 0, none⟩) yt.length (yt.length + 1))) _ _ _ _ _)
        refine wpC_take 0 (v := .slice (some ⟨w'.heap.size, 0, none⟩) m m) (fun _ => trivial) (by kernel_rfl) rfl (by kernel_rfl) (by kernel_rfl) (by kernel_rfl) (by kernel_rfl) (fun _ _ _ h => h) hC ⟨rfl, fun w hw => ?_⟩ ?_
        · obtain ⟨h0, h1, h2, h3⟩ := hw; go_simp
        refine wpC_take 1 (v := .int .i64 (j : Int)) (fun _ => trivial) (by kernel_rfl) rfl (by kernel_rfl) (by kernel_rfl) (by kernel_rfl) (by kernel_rfl) (fun _ _ _ h => h) hC ⟨rfl, fun w hw => ?_⟩ ?_
        · obtain ⟨h0, h1, h2, h3⟩ := hw; go_simp
        refine wpC_take 2 (v := .slice (some ⟨g, 0, none⟩) (xt.length + 1) (xt.length + 1)) (fun _ => trivial) (by kernel_rfl) rfl (by kernel_rfl) (by kernel_rfl) (by kernel_rfl) (by kernel_rfl) (fun _ _ _ h => h) hC ⟨rfl, fun w hw => ?_⟩ ?_
        · obtain ⟨h0, h1, h2, h3⟩ := hw; go_simp
        refine wpC_take 3 (v := .int .i64 (j : Int)) (fun _ => trivial) (by kernel_rfl) rfl (by kernel_rfl) (by kernel_rfl) (by kernel_rfl) (by kernel_rfl) (fun _ _ _ h => h) hC ⟨rfl, fun w hw => ?_⟩ ?_
        · obtain ⟨h0, h1, h2, h3⟩ := hw; go_simp
        refine wpC_take 4 (v := .int .i64 (j : Int)) (fun _ => trivial) (by kernel_rfl) rfl (by kernel_rfl) (by kernel_rfl) (by kernel_rfl) (by kernel_rfl) (fun _ _ _ h => h) hC ⟨rfl, fun w hw => ?_⟩ ?_
        · obtain ⟨h0, h1, h2, h3⟩ := hw; go_simp
        refine wpC_take 5 (v := .slice (some ⟨bb, ob, none⟩) yt.length cb) (fun _ => trivial) (by kernel_rfl) rfl (by kernel_rfl) (by kernel_rfl) (by kernel_rfl) (by kernel_rfl) (fun _ _ _ h => h) hC ⟨rfl, fun w hw => ?_⟩ ?_
        · obtain ⟨h0, h1, h2, h3⟩ := hw; go_simp
        refine wpC_take 6 (v := .int .i64 (yt.length : Int)) (fun _ => trivial) (by kernel_rfl) rfl (by kernel_rfl) (by kernel_rfl) (by kernel_rfl) (by kernel_rfl) (fun _ _ _ h => h) hC ⟨rfl, fun w hw => ?_⟩ ?_
        · obtain ⟨h0, h1, h2, h3⟩ := hw; go_simp
        refine wpC_take 7 (v := .int .i64 ((j : Int) + (yt.length : Int))) (fun _ => trivial) (by kernel_rfl) rfl (by kernel_rfl) (by kernel_rfl) (by kernel_rfl) (by kernel_rfl) (fun _ _ _ h => h) hC ⟨rfl, fun w hw => ?_⟩ ?_
        · obtain ⟨h0, h1, h2, h3⟩ := hw; go_simp; exact IntWalk.i64_in _ (by omega)
        refine wpC_take 8 (v := .int .i64 ((j : Int) + (yt.length : Int) + 1)) (fun _ => trivial) (by kernel_rfl) rfl (by kernel_rfl) (by kernel_rfl) (by kernel_rfl) (by kernel_rfl) (fun _ _ _ h => h) hC ⟨rfl, fun w hw => ?_⟩ ?_
        · obtain ⟨h0, h1, h2, h3⟩ := hw; go_simp; exact IntWalk.i64_in _ (by omega)
        refine wpC_take 9 (v := .slice (some ⟨g, j, none⟩) (yt.length + 1) (xt.length + 1 - j)) (fun _ => trivial) (by kernel_rfl) rfl (by kernel_rfl) (by kernel_rfl) (by kernel_rfl) (by kernel_rfl) (fun _ _ _ h => h) hC ⟨rfl, fun w hw => ?_⟩ ?_
        · obtain ⟨h0, h1, h2, h3⟩ := hw; go_simp; rw [if_pos (by omega), if_pos (by omega), if_neg (by omega), show ((j : Int) + (yt.length : Int) + 1).toNat - j = yt.length + 1 from by omega]
        refine wpC_take 10 (v := .slice (some ⟨d, 0, none⟩) yt.length (yt.length + 1)) (fun _ => trivial) (by kernel_rfl) rfl (by kernel_rfl) (by kernel_rfl) (by kernel_rfl) (by kernel_rfl) (fun _ _ _ h => h) hC ⟨rfl, fun w hw => ?_⟩ ?_
        · obtain ⟨h0, h1, h2, h3⟩ := hw; go_simp
        refine wpC_only 11 (by kernel_rfl) (wpOpIn_step rfl (fun K hK => ?_))
        go_simp
        refine (CallsIn.inRound l2 (callsIn_wide.2 HCON.out)).mono ?_
        rintro e W2 ⟨us, qd, rfl, hqd, hul, huL, huv, hulow, hB2, hG⟩
        have n1 : ∀ {b : Nat} {v : Value}, SBox W b v → SBox W2 b v := fun hb => hb.drew.grown hG (fun e => by injection e with e; exact hb.ne a5 e)
        have hC2 : (fun W : World => W.cell? ⟨w'.heap.size + 1, 0, none⟩ = some (.slice (some ⟨w'.heap.size, 0, none⟩) m m) ∧ W.cell? ⟨p, 0, none⟩ = some (.slice (some ⟨g, 0, none⟩) (xt.length + 1) (xt.length + 1)) ∧ W.cell? ⟨w.heap.size, 0, none⟩ = some (.slice (some ⟨bb, ob, none⟩) yt.length cb) ∧ W.cell? ⟨q, 0, none⟩ = some (.slice (some ⟨d, 0, none⟩) yt.length (yt.length + 1))) W2 := ⟨(n1 a11).cell, (n1 a9).cell, (n1 a8).cell, (n1 a10).cell⟩
        refine hK _ _ ⟨fun _ => hC2, ?_⟩
        clear hK K
        refine wpC_take 12 (v := .pointer (some ⟨w'.heap.size, j, none⟩)) (fun _ => trivial) (by kernel_rfl) rfl (by kernel_rfl) (by kernel_rfl) (by kernel_rfl) (by kernel_rfl) (fun _ _ _ h => h) hC2 ⟨rfl, fun w hw => ?_⟩ ?_
        · obtain ⟨h0, h1, h2, h3⟩ := hw; go_simp
        have hQ : Blk W2 w'.heap.size (U qq) := a7.drew.grown hG (fun e => by injection e with e; omega)
        have hqc : W2.cell? ⟨w'.heap.size, j, none⟩ = some (.int .u32 ((qq[j]?.getD 0 : Nat) : Int)) := by rw [hQ.cell, U_get _ _ (by rw [HLQ.out]; exact hj)]
        have hqf := hQ.frozen j
        refine wpC_only 13 (by kernel_rfl) (wpOpIn_step rfl (fun K hK => ?_))
        go_simp
        have n2 : ∀ {b : Nat} {v : Value}, SBox W b v → (W2.setCell ⟨w'.heap.size, j, none⟩ (.int .u32 (qd : Int))).cell? ⟨b, 0, none⟩ = some v := fun hb => ((n1 hb).far ((n1 hb).ne hQ) _).cell
        refine hK _ _ ⟨fun _ => ⟨n2 a11, n2 a9, n2 a8, n2 a10⟩, ?_⟩
        clear hK K
        refine wpC_done (by kernel_rfl) ?_
        have hjx := HJX.out
        subst hjx
        gi_wp2
        refine ⟨((Keeps8.refl _ W).drew.grown hG (fun k e => by injection e with e; exact .inl (by omega))).grown (only_setCell (p := ⟨w'.heap.size, _, none⟩) (only_refl W2 (some w'.heap.size)) (.inl rfl) _) (fun k e => by injection e with e; exact .inl (by omega)), ?_⟩
        exact DvI.step HA1.out a2 HA3.out a4 a6.drew a7.drew a8.drew a9.drew a10.drew a11.drew a12.drew a13.drew HA14.out a5.drew r6 (by omega) (by omega) (by omega) (by omega) hm1 hdlt hqd hul huL huv hulow hB2 hG
      case done =>
        rintro D zz W hD hS ⟨cur, qq, a1, a2, a3, a4, a5, a6, a7, a8, a9, a10, a11, a12, a13, a14⟩ hK
        have hend := DvI.done a14 hS
        have HEND := Lib.hid hend
        clear hend hS a14
        have c9 := a9.cell
        have c11 := a11.cell
        have hcon := shiftDown_any g (xt.length + 1) [] cur [] s W (by simpa using a5) a2 hs (by omega)
        rw [a1] at hcon
        simp only [List.length_nil] at hcon
        gi_wp2_with fail
        refine (callsIn_wide.2 hcon).mono ?_
        rintro e w3 ⟨zr, rfl, z1, z2, z3, z4, z5⟩
        have n1 : ∀ {b : Nat} {v : Value}, SBox W b v → SBox w3 b v := fun hb => hb.grown z5 (fun e => by injection e with e; exact hb.ne a5 e)
        have d9 := (n1 a9).cell
        have d11 := (n1 a11).cell
        have hB4 : Blk w3 g (U zr) := by simpa using z4
        have hQ4 : Blk w3 w'.heap.size (U qq) := a7.grown z5 (fun e => by injection e with e; omega)
        have hrz : Rd w3 (some ⟨g, 0, none⟩) zr := Rd.of_blk (pre := []) (post := []) (by simpa using hB4)
        have hrq : Rd w3 (some ⟨w'.heap.size, 0, none⟩) qq := Rd.of_blk (pre := []) (post := []) (by simpa using hQ4)
        have ht1 := trimmed_any (some ⟨g, 0, none⟩) (xt.length + 1) zr w3.drew hrz.drew (by omega) (by unfold maxLen; omega)
        have ht2 := trimmed_any (some ⟨w'.heap.size, 0, none⟩) m qq w3.drew hrq.drew (by omega) (by unfold maxLen; omega)
        rw [z1] at ht1
        rw [a3] at ht2
        have HT1 := Lib.hid ht1
        have HT2 := Lib.hid ht2
        have HZ3 := Lib.hid z3
        have HZ1 := Lib.hid z1
        have HA3 := Lib.hid a3
        clear ht1 ht2 c9 c11 hcon z3 z1 a3
        gi_wp2_with fail
        refine Code.wpIn_mono (Q := OnNormal fun a' w4 => (∃ t : Array Value, a' = { tmps := t, defers := [{ target := Target.collected D, args := #[] }] } ∧ t.getD 4 undef = .slice (some ⟨w'.heap.size, 0, none⟩) (trim qq).length m ∧ t.getD 5 undef = .slice (some ⟨g, 0, none⟩) (trim zr).length (xt.length + 1) ∧ t.getD 6 undef = .int .i64 0) ∧ w4 = w3.drew) ?cont3 ?reg3
        case reg3 =>
          gi_region_with (first | (gi_at_call_has 152 (Value.slice (some ⟨g, 0, none⟩) (xt.length + 1) (xt.length + 1)); refine (callsIn_wide.2 HT1.out).mono ?_; rintro e w1 ⟨rfl, rfl⟩) | (gi_at_call_has 152 (Value.slice (some ⟨w'.heap.size, 0, none⟩) m m); refine (callsIn_wide.2 HT2.out).mono ?_; rintro e w1 ⟨rfl, rfl⟩))
          all_goals exact ⟨⟨_, rfl, rfl, rfl, rfl⟩, rfl⟩
        case cont3 =>
          intro e a' w4 hq
          cases e <;> first | exact hq.elim | skip
          obtain ⟨⟨t, rfl, t4, t5, t6⟩, rfl⟩ := hq
          have hK3 : w3.drew.heap[D]? = some (.deferred (some [])) := (z5.block D (Array.getElem?_eq_some_iff.1 hK).1 (fun e => by injection e with e; omega)).trans hK
          have T4 := Lib.hid t4
          have T5 := Lib.hid t5
          have T6 := Lib.hid t6
          clear t4 t5 t6
          gi_wp2_with fail
          refine ⟨by simp, .inl ⟨_, _, rfl, run_takeDeferred hK3, ?_⟩⟩
          refine ⟨_, results_tmp3 rfl _ _ _, ?_⟩
          show DivE w (val xt) (val yt) (.returned (.tuple #[t.getD 4 undef, t.getD 5 undef, t.getD 6 undef])) _
          rw [T4.out, T5.out, T6.out]
          have e1 := HEND.out
          rw [HDV.out, HR12.out] at e1
          obtain ⟨e2, e3⟩ := div_end e1.2 e1.1 HZ3.out (Nat.mod_lt _ (Nat.pow_pos (by decide)))
          have hgo := grownBy_putObj' w3.drew D (.deferred none)
          refine ⟨_, _, _, rfl, ?_, .inr (.inr ⟨hs1, hs2, hs3, rfl, ?_, ?_⟩)⟩
          · exact ((a13.grown z5 a13.size (fun k e => by injection e with e; omega)).drew).grown hgo (by have := a13.size; have := z5.size; show w.heap.size ≤ w3.heap.size; omega) (fun k e => by injection e with e; omega)
          · refine ⟨_, _, trim qq, rfl, by have := trim_length_le qq; rw [HA3.out] at this; exact this, by omega, ?_, can_trim a4, by rw [val_trim]; exact e2⟩
            exact Rd.grown (row := some D) (hrq.drew.trim) hgo (fun k e ad e2 => by injection e with e; injection e2 with e2; subst e2; show w'.heap.size ≠ k; omega)
          · refine ⟨_, _, trim zr, rfl, by have := trim_length_le zr; rw [HZ1.out] at this; exact this, by omega, ?_, can_trim z2, by rw [val_trim]; exact e3⟩
            exact Rd.grown (row := some D) (hrz.drew.trim) hgo (fun k e ad e2 => by injection e with e; injection e2 with e2; subst e2; show g ≠ k; omega)


end LM
end Go.Proofs.YtpnjddfnlaonoaaGreatDoor

namespace Go.Proofs.YtpnjddfnlaonoaaGreatDoor
open Go.RowKit Go.Shelf
attribute [local go_sem] Oper.semAt_some
namespace LM
attribute [local go_sem] round_fn wide_fn

theorem tab_below {P : Program} {w w' : World} {name : String} {k : IntKind} {zs : List Int} (h : Lib.TabIs P w name k zs) (hb : Below w.heap.size w w') : Lib.TabIs P w' name k zs := by
  unfold Lib.TabIs World.var? at *
  cases hg : P.globalNamed name with
  | none => simp [hg] at h
  | some g =>
    simp only [hg, Option.bind_some] at h ⊢
    rcases Nat.lt_or_ge g w.heap.size with hl | hl
    · rw [hb.block g hl]; exact h
    · rw [Array.getElem?_eq_none hl] at h; simp at h

theorem builderAt_kept {T e : TypeId} {B b : Nat} {p : Value} {bs : List Value} {W W' : World} {row : Option Nat} (h : Lib.BuilderAtF T e B b p bs W) (hg : W.grownBy W' row) (hr : ∀ r, row = some r → ∃ o : Obj, W.heap[r]? = some o ∧ o.isCells = false) : Lib.BuilderAtF T e B b p bs W' := by
  obtain ⟨hB, v, hv, hown, hne⟩ := h
  refine ⟨hB, v, heap_kept hv hg hr, hown.kept hg ?_, hne⟩
  rcases hown.2 with ⟨rfl, _⟩ | ⟨g, cap, cur, fz, rfl, _, hgc, _⟩
  · exact .inl rfl
  · refine .inr fun e2 => ?_
    obtain ⟨o, ho, hc⟩ := hr g e2.symm
    rw [hgc] at ho; injection ho with ho; subst ho; cases hc
theorem builder_kept {T e : TypeId} {B b : Nat} {bs : List Value} {W W' : World} {row : Option Nat} (h : Lib.IsBuilderF T e B b bs W) (hg : W.grownBy W' row) (hr : ∀ r, row = some r → ∃ o : Obj, W.heap[r]? = some o ∧ o.isCells = false) : Lib.IsBuilderF T e B b bs W' :=
  h.elim (fun x => .inl (builderAt_kept x hg hr)) (fun x => .inr (builderAt_kept x hg hr))

theorem builder_below {T e : TypeId} {B b : Nat} {bs : List Value} {W W' : World} (h : Lib.IsBuilderF T e B b bs W) (hb : Below W.heap.size W W') : Lib.IsBuilderF T e B b bs W' :=
  builder_kept (row := none) h ⟨hb.os, hb.tape, hb.output, hb.size, fun k hk _ => hb.block k hk⟩ (fun r e => by cases e)

theorem keeps8_below {B : Nat} {W W' : World} (h : Below W.heap.size W W') : Keeps8 B W W' := ⟨h.size, fun k _ _ hk _ => (h.block k (Array.getElem?_eq_some_iff.1 hk).1).trans hk⟩
theorem keeps8_others {B b : Nat} {W W' : World} (h : Lib.OthersKept 5 (some b) W W') (hs : W.heap.size ≤ W'.heap.size) (hb : b < B) : Keeps8 B W W' :=
  ⟨hs, fun k o hB hk ho => h k o hk (fun e => by injection e with e; omega) (fun c fz e => by subst e; cases ho)⟩

/-- what stands between two rounds -/
def TxI (w : World) (pre : List Nat) (W : World) : Prop :=
  Lib.IsBuilderF 134 5 w.heap.size w.heap.size (Lib.byteCells (tx pre)) W ∧ Below w.heap.size w W
theorem TxI.own {w : World} {B : Nat} (hB : w.heap.size ≤ B) : OwnFrom B (TxI w) := fun _ _ _ _ hs hg hr =>
  ⟨builder_kept hs.1 hg (fun r e => (hr r e).2), hs.2.grown hg hs.2.size (fun r e => Nat.le_trans hB (hr r e).1)⟩

set_option maxRecDepth 100000 in
set_option maxHeartbeats 2000000 in
theorem text_main (A : Option Addr) (cap : Nat) (xs : List Nat) (w : World) (ha : Rd w A xs) (hA : ∀ ad, A = some ad → ad.block < w.heap.size) (hx : Lm xs) (hca : xs.length ≤ cap) (hcam : cap ≤ 9223372036854775807) (hnb : ¬ BIG (val xs)) (h0 : 0 < val xs)
    (htab : Lib.TabIs Tryz.prog w "internal/strconv.uint64pow10" .u64 Lib.pow10Tab) :
    Calls Tryz.prog 119 #[.slice A xs.length cap] w fun e w' => e = .returned (.string ⟨(Lib.decDigits (val xs)).toArray⟩) ∧ Below w.heap.size w w' := by
  have H1 := Lib.hid (trimmed_any A cap xs w ha hca (by unfold maxLen; omega))
  have hta := ha.trim
  have hcx := can_trim hx
  have hlx := trim_length_le xs
  rw [← val_trim xs] at hnb h0 ⊢
  generalize trim xs = xt at *
  have b1 : ¬ 64 < xt.length := fun h => hnb ((big_iff hcx).1 h)
  have hd : decide (64 < xt.length) = false := decide_eq_false b1
  have hpl : 0 < xt.length := by
    rcases Nat.eq_zero_or_pos xt.length with h | h
    · rw [List.eq_nil_of_length_eq_zero h] at h0; cases h0
    · exact h
  have hpz : ((xt.length : Int) == 0) = false := by rw [beq_eq_false_iff_ne]; omega
  have I1 : ∀ W, Calls Tryz.prog 180 #[.slice A xt.length cap] W fun e w' => e = .returned (.bool (decide (64 < xt.length))) ∧ W = w' := fun W => isBig_any A xt.length cap W (by unfold maxLen; omega)
  have HI := Lib.hid I1
  have HTAB := Lib.hid htab
  have H0 := Lib.hid h0
  have HNB := Lib.hid hnb
  clear I1 ha htab h0 hnb
  refine (callsIn_wide (n := 10)).1 ?_
  refine callsIn_of_wp_marks Tryz.func119 rfl trivial ?_ rfl
  simp only [Tryz.ntmps119, List.size_toArray, List.length_cons, List.length_nil, Nat.reduceAdd, Nat.reduceSub, Array.replicate_succ, Array.replicate_zero, List.push_toArray, List.append_toArray, List.nil_append, List.cons_append]
  gi_wp2_with fail
  refine (callsIn_wide.2 H1.out).mono ?_; rintro e w1 ⟨rfl, rfl⟩
  gi_wp2_with fail
  refine (callsIn_wide.2 (HI.out _)).mono ?_; rintro e w1 ⟨rfl, rfl⟩
  gi_wp2_with fail
  refine (callsIn_wide.2 (parts_call A xt.length cap _)).mono ?_; rintro e w1 ⟨rfl, rfl⟩
  gi_wp2_with fail
  generalize hWL : World.alloc _ _ = WL
  have f0 : WL.heap.size = w.heap.size + 2 := by rw [← hWL]; simp
  have fI : TxI w [] WL := by
    rw [← hWL]
    exact ⟨(Lib.IsBuilderF.of (Lib.fresh_isBuilder _ _ w)).alloc _, ((Below.refl _ w).alloc (Nat.le_refl _) _).alloc (by simp) _⟩
  have fB : SBox WL (w.heap.size + 1) (.slice A xt.length cap) := by rw [← hWL]; have h := SBox.new (w.alloc (.cells #[.pointer none, .slice none 0 0] 134)) (.slice A xt.length cap); rwa [World.size_alloc] at h
  have hWb := fI.2
  have hlt : ∀ ad, A = some ad → ad.block < WL.heap.size := fun ad e => by have := hA ad e; omega
  clear hWL
  refine range_all rfl (by decide) (gf := 249) (lb := #[.pointer (some ⟨w.heap.size + 1, 0, none⟩)]) rfl trivial (enters_of Tryz.func249 (by kernel_rfl) rfl)
    (parts_all 9 (by decide) (w.heap.size + 1) A cap xt WL fB (hta.below hWb) hlt hcx H0.out HNB.out (by omega) hcam (by omega))
    (Below.refl _ _) (fun _ => rfl) (TxI w) (TxI.own (by omega)) (fun _ _ _ => trivial) fI
    (fun x => { tmps := #[.slice A xt.length cap, undef, .string ⟨#[]⟩, .pointer (some ⟨w.heap.size, 0, none⟩), .int .u32 (x : Int), undef, .slice A xs.length cap, .slice A xt.length cap, .slice A xt.length cap, .bool false, .slice A xt.length cap, .int .i64 (xt.length : Int), .bool false, .slice A xt.length cap, .func (.func 249) #[] #[.pointer (some ⟨w.heap.size + 1, 0, none⟩)], .int .u32 (x : Int), undef, undef, undef, undef, undef, undef, undef, undef, undef, undef, undef, undef, undef], defers := [] }) ?assign ?body ?done
  case assign =>
    intro l2 x W2 K hK
    gi_wp2
    exact hK
  case body =>
    rintro l2 pre x Wb ⟨j1, j2⟩ ⟨hPr, hPl⟩
    have hx9 : x < 1000000000 := by
      refine parts_lt (val xt) x ?_
      have h1 : x ∈ pre ++ [x] := by simp
      rw [hPr] at h1
      exact List.mem_of_mem_take h1
    have hpre : pre = (partsOf (val xt)).take pre.length := by
      have h1 := congrArg (List.take pre.length) hPr
      rw [List.take_left, List.take_take, Nat.min_eq_left (by simp)] at h1
      exact h1
    have hpos : pre ≠ [] → 0 < vp pre := fun hn => by
      rw [hpre] at hn ⊢
      exact parts_take_pos hn
    have hlen : pre.length ≤ 69 := by
      have h1 := parts_few HNB.out
      unfold partsOf at hPl
      rw [List.length_append, List.length_reverse] at hPl
      omega
    have htl : (tx pre).length ≤ 9 * pre.length := tx_len fun y hy => by rw [hpre] at hy; exact parts_lt _ y (List.mem_of_mem_take hy)
    obtain ⟨ds, hds⟩ : ∃ ds : ByteArray, ds = ⟨(Lib.decDigits x).toArray⟩ := ⟨_, rfl⟩
    have hfm := fmt_any x (by omega) Wb (tab_below HTAB.out j2)
    rw [← hds] at hfm
    have hdsz : ds.size = Lib.nDigits x := by rw [hds, ← Lib.decDigits_length]; simp [ByteArray.size]
    have hd9 : ds.size ≤ 9 := by rw [hdsz]; exact nDigits_le (k := 8) (by simpa using hx9)
    have hdc : Lib.strCells ds = Lib.byteCells (Lib.decDigits x) := by rw [hds]; rfl
    obtain ⟨rs, hrs⟩ : ∃ rs : ByteArray, rs = ⟨(Lib.repeatL [48] (9 - ds.size)).toArray⟩ := ⟨_, rfl⟩
    have hrp : ∀ W, Calls Tryz.prog 185 #[.string ⟨#[48]⟩, .int .i64 ((9 - ds.size : Nat) : Int)] W fun e w' => e = .returned (.string rs) ∧ Below W.heap.size W w' := fun W => by
      rw [hrs]
      exact Tryz.strings_Repeat ⟨#[48]⟩ (9 - ds.size) W (by omega) (by show 1 * (9 - ds.size) ≤ _; omega)
    have hrsz : rs.size ≤ 9 := by
      have e : rs.size = (Lib.repeatL [48] (9 - ds.size)).length := by rw [hrs]; rfl
      rw [Lib.repeatL_length, List.length_singleton] at e
      omega
    have hrc : Lib.strCells rs = Lib.byteCells (Lib.repeatL [48] (9 - ds.size)) := by rw [hrs]; rfl
    have hsub : (9 : Int) - (ds.size : Int) = ((9 - ds.size : Nat) : Int) := by omega
    have HFM := Lib.hid hfm
    have HRP := Lib.hid hrp
    have HPOS := Lib.hid hpos
    have HDC := Lib.hid hdc
    have HRC := Lib.hid hrc
    have HDSZ := Lib.hid hdsz
    obtain ⟨L, hL⟩ : ∃ L, (tx pre).length = L := ⟨_, rfl⟩
    rw [hL] at htl
    have HL := Lib.hid hL
    clear hpre hpos hPr hPl hfm hrp hdc hrc hds hrs hdsz hL
    gi_wp2_with fail
    refine (CallsIn.inRound l2 (callsIn_wide.2 HFM.out)).mono ?_
    rintro e W1 ⟨rfl, hb1⟩
    have k1 := builder_below j1 hb1
    have hln := Tryz.Builder_Len_f _ _ _ _ k1
    rw [Lib.byteCells_length, HL.out] at hln
    have hbw1 : w.heap.size ≤ W1.heap.size := Nat.le_trans j2.size hb1.size
    gi_wp2_with fail
    refine (CallsIn.inRound l2 (callsIn_wide.2 hln)).mono ?_
    rintro e W2 ⟨rfl, rfl⟩
    clear hln
    by_cases hp : pre = []
    · have hL0 : L = 0 := by rw [← HL.out, hp]; rfl
      have hd : decide (0 < L) = false := decide_eq_false (by omega)
      have HP := Lib.hid hp
      clear hL0 hp
      gi_wp2_with fail
      refine (CallsIn.inRound l2 (callsIn_wide.2 (wstr_any _ _ _ ds _ k1 (by rw [Lib.byteCells_length, HL.out]; omega) hbw1))).mono ?_
      rintro e W3 ⟨rfl, h3, b3, k3⟩
      gi_wp2
      refine ⟨(keeps8_below hb1).trans (keeps8_others k3 b3.size (by omega)), ?_, (j2.trans (hb1.mono j2.size)).trans b3⟩
      rw [HDC.out, HP.out, tx_nil, ← Lib.byteCells_append, List.nil_append] at h3
      rw [HP.out, tx_first]
      exact .inr h3
    · have hL0 : 0 < L := by rw [← HL.out]; exact tx_len_pos hp
      have hd : decide (0 < L) = true := decide_eq_true hL0
      have HP := Lib.hid hp
      clear hp
      gi_wp2_with fail
      refine (CallsIn.inRound l2 (callsIn_wide.2 (HRP.out _))).mono ?_
      rintro e W3 ⟨rfl, hb3⟩
      have k4 := builder_below k1 hb3
      have hbw3 : w.heap.size ≤ W3.heap.size := Nat.le_trans hbw1 hb3.size
      gi_wp2_with fail
      refine (CallsIn.inRound l2 (callsIn_wide.2 (wstr_any _ _ _ rs _ k4 (by rw [Lib.byteCells_length, HL.out]; omega) hbw3))).mono ?_
      rintro e W4 ⟨rfl, h4, b4, k5⟩
      have hbw4 : w.heap.size ≤ W4.heap.size := Nat.le_trans hbw3 b4.size
      gi_wp2_with fail
      refine (CallsIn.inRound l2 (callsIn_wide.2 (wstr_any _ _ _ ds _ (.inr h4) (by rw [List.length_append, Lib.byteCells_length, Lib.strCells_length, HL.out]; omega) hbw4))).mono ?_
      rintro e W5 ⟨rfl, h5, b5, k6⟩
      gi_wp2
      refine ⟨(((keeps8_below hb1).trans (keeps8_below hb3)).trans (keeps8_others k5 b4.size (by omega))).trans (keeps8_others k6 b5.size (by omega)), ?_, (((j2.trans (hb1.mono j2.size)).trans (hb3.mono hbw1)).trans b4).trans b5⟩
      rw [HDC.out, HRC.out, ← Lib.byteCells_append, ← Lib.byteCells_append, HDSZ.out, List.append_assoc, ← tx_next HP.out (HPOS.out HP.out) hx9] at h5
      exact .inr h5
  case done =>
    rintro D zs Wd hD hS ⟨j1, j2⟩ hK
    have HS := Lib.hid hS
    clear hS
    gi_wp2_with fail
    refine (callsIn_wide.2 (Tryz.Builder_String_any_k _ _ _ _ j1 j2.size)).mono ?_
    rintro e W3 ⟨rfl, _, b3, k3⟩
    have hK3 := k3 D _ hK (fun e => by injection e with e; omega) (fun _ _ e => by cases e)
    gi_wp2
    refine ⟨by simp, .inl ⟨_, _, rfl, run_takeDeferred hK3, ?_⟩⟩
    refine ⟨_, results_tmp rfl _ _ _, ?_, ?_⟩
    · rw [HS.out, tx_parts H0.out]
      rfl
    · exact (j2.trans b3).grown (grownBy_putObj' W3 D _) (by have := j2.size; have := b3.size; omega) (fun r e => by cases e; omega)

/-- what Text answers -/
def TextE (n : Nat) (e : Ending) : Prop := ∃ l : List UInt8, e = .returned (.string ⟨l.toArray⟩) ∧ ((BIG n ∧ l = []) ∨ (¬ BIG n ∧ l = Lib.decDigits n))

set_option maxRecDepth 100000 in
set_option maxHeartbeats 1000000 in
theorem text_any (A : Option Addr) (cap : Nat) (xs : List Nat) (w : World) (ha : Rd w A xs) (hA : ∀ ad, A = some ad → ad.block < w.heap.size) (hx : Lm xs) (hca : xs.length ≤ cap) (hcam : cap ≤ 9223372036854775807)
    (htab : Lib.TabIs Tryz.prog w "internal/strconv.uint64pow10" .u64 Lib.pow10Tab) :
    Calls Tryz.prog 119 #[.slice A xs.length cap] w fun e w' => TextE (val xs) e ∧ Below w.heap.size w w' := by
  rcases Nat.eq_zero_or_pos (val xs) with h0 | h0
  · have H1 := Lib.hid (trimmed_any A cap xs w ha hca (by unfold maxLen; omega))
    rw [h0]
    have ht := trim_nil_iff.2 h0
    rw [ht] at H1
    have I1 : ∀ W, Calls Tryz.prog 180 #[.slice A ([] : List Nat).length cap] W fun e w' => e = .returned (.bool (decide (64 < ([] : List Nat).length))) ∧ W = w' := fun W => isBig_any A _ cap W (by unfold maxLen; simp)
    have HI := Lib.hid I1
    clear I1 ht h0
    go_enter Tryz.func119, Tryz.ntmps119
    go_wp2_with fail
    refine H1.out.mono ?_; rintro e w1 ⟨rfl, rfl⟩
    go_wp2_with fail
    refine (HI.out _).mono ?_; rintro e w1 ⟨rfl, rfl⟩
    go_wp2
    go_ret
    refine ⟨⟨[48], rfl, .inr ⟨fun h => ?_, by rw [Lib.decDigits_one (by decide)]; rfl⟩⟩, Below.refl _ _⟩
    have := Nat.lt_of_lt_of_le (Nat.pow_pos (show 0 < 4294967296 from by decide)) h
    cases this
  · by_cases hb : BIG (val xs)
    · have H1 := Lib.hid (trimmed_any A cap xs w ha hca (by unfold maxLen; omega))
      have hlx := trim_length_le xs
      have b1 : 64 < (trim xs).length := (big_trim hx).2 hb
      generalize (trim xs).length = m at *
      have hd : decide (64 < m) = true := decide_eq_true b1
      have I1 : ∀ W, Calls Tryz.prog 180 #[.slice A m cap] W fun e w' => e = .returned (.bool (decide (64 < m))) ∧ W = w' := fun W => isBig_any A m cap W (by unfold maxLen; omega)
      have HI := Lib.hid I1
      have HB := Lib.hid hb
      clear I1 hb h0
      go_enter Tryz.func119, Tryz.ntmps119
      go_wp2_with fail
      refine H1.out.mono ?_; rintro e w1 ⟨rfl, rfl⟩
      go_wp2_with fail
      refine (HI.out _).mono ?_; rintro e w1 ⟨rfl, rfl⟩
      go_wp2
      go_ret
      exact ⟨⟨[], rfl, .inl ⟨HB.out, rfl⟩⟩, Below.refl _ _⟩
    · exact (text_main A cap xs w ha hA hx hca hcam hb h0 htab).mono fun e w' ⟨he, hw⟩ => ⟨⟨_, he, .inr ⟨hb, rfl⟩⟩, hw⟩

end LM
end Go.Proofs.YtpnjddfnlaonoaaGreatDoor

namespace Go.Proofs.YtpnjddfnlaonoaaGreatDoor
open Go.RowKit
namespace LM

set_option maxHeartbeats 1000000 in
theorem text_row (A : Option Addr) (cap : Nat) (xs : List Nat) (w : World) (ha : Rd w A xs) (hx : Lm xs) (hca : xs.length ≤ cap) (hcam : cap ≤ 9223372036854775807)
    (htab : Lib.TabIs Tryz.prog w "internal/strconv.uint64pow10" .u64 Lib.pow10Tab) :
    Calls Tryz.prog 119 #[.slice A xs.length cap] w fun e w' => TextE (val xs) e ∧ Below w.heap.size w w' := by
  rcases Nat.eq_zero_or_pos xs.length with h0 | h0
  · obtain rfl := List.eq_nil_of_length_eq_zero h0
    have H1 := Lib.hid (trimmed_any A cap [] w ha hca (by unfold maxLen; omega))
    rw [show trim [] = [] from rfl] at H1
    have I1 : ∀ W, Calls Tryz.prog 180 #[.slice A ([] : List Nat).length cap] W fun e w' => e = .returned (.bool (decide (64 < ([] : List Nat).length))) ∧ W = w' := fun W => isBig_any A _ cap W (by unfold maxLen; simp)
    have HI := Lib.hid I1
    clear I1 h0 htab
    go_enter Tryz.func119, Tryz.ntmps119
    go_wp2_with fail
    refine H1.out.mono ?_; rintro e w1 ⟨rfl, rfl⟩
    go_wp2_with fail
    refine (HI.out _).mono ?_; rintro e w1 ⟨rfl, rfl⟩
    go_wp2
    go_ret
    refine ⟨⟨[48], rfl, .inr ⟨fun h => ?_, by rw [show val [] = 0 from rfl, Lib.decDigits_one (by decide)]; rfl⟩⟩, Below.refl _ _⟩
    have := Nat.lt_of_lt_of_le (Nat.pow_pos (show 0 < 4294967296 from by decide)) h
    cases this
  · refine text_any A cap xs w ha (fun ad e => ?_) hx hca hcam htab
    obtain ⟨b, off, e1, hb, _⟩ := ha h0
    rw [e1] at e
    injection e with e
    subst e
    exact hb

theorem dec_first (u : Nat) (hu : 0 < u) : ∃ c r, Lib.decDigits u = c :: r ∧ c ≠ 48 := by
  induction u using Nat.strongRecOn with
  | ind u ih =>
    by_cases h : u < 10
    · rw [Lib.decDigits_one h]
      refine ⟨_, [], rfl, fun e => ?_⟩
      have e1 : (UInt8.ofNat (48 + u)).toNat = 48 + u := by simp; omega
      rw [e] at e1
      have e2 : (48 : UInt8).toNat = 48 := rfl
      omega
    · rw [dec_big h]
      obtain ⟨c, r, e, hc⟩ := ih (u / 10) (by omega) (by omega)
      rw [e]
      exact ⟨c, r ++ [_], rfl, hc⟩
theorem pow_fits : (4294967296 : Nat) ^ 64 ≤ 10 ^ (616 + 1) := of_decide_eq_true (by kernel_rfl)
theorem dec_fits {u : Nat} (h : ¬ BIG u) : 1 ≤ (Lib.decDigits u).length ∧ (Lib.decDigits u).length ≤ 617 := by
  have h2 : Lib.nDigits u ≤ 616 + 1 := nDigits_le (k := 616) (Nat.lt_of_lt_of_le (Nat.lt_of_not_le h) pow_fits)
  rw [Lib.decDigits_length]
  refine ⟨?_, by omega⟩
  rw [← Lib.decDigits_length]
  rcases Nat.eq_zero_or_pos u with rfl | hp
  · rw [Lib.decDigits_one (by decide)]; simp
  · obtain ⟨c, r, e, _⟩ := dec_first u hp
    rw [e]; simp

end LM
end Go.Proofs.YtpnjddfnlaonoaaGreatDoor

namespace Go.Proofs.YtpnjddfnlaonoaaGreatDoor
open Go Go.RowKit
namespace LM

/-- a slice that reads as this number, without leading zeros, of whatever room -/
def NumW (w : World) (v : Value) (n : Nat) : Prop := ∃ A c r, v = .slice A (List.length r) c ∧ r.length ≤ c ∧ c ≤ 9223372036854775807 ∧ Rd w A r ∧ Can r ∧ val r = n
/-- a text that is a number's -/
def OkText (l : List UInt8) : Prop := 1 ≤ l.length ∧ l.length ≤ 700 ∧ Digs l
/-- what Parse answers -/
def ParseE (l : List UInt8) (e : Ending) (w' : World) : Prop := ∃ v er, e = .returned (.tuple #[v, .int .i64 er]) ∧
  ((¬ OkText l ∧ v = .slice none 0 0 ∧ er = 13) ∨ (OkText l ∧ BIG (dval 0 l) ∧ v = .slice none 0 0 ∧ er = 11) ∨ (OkText l ∧ ¬ BIG (dval 0 l) ∧ er = 0 ∧ NumW w' v (dval 0 l)))

/-- the library's ParseUint at most nine bytes -/
theorem pu_ok (t : ByteArray) (h1 : 1 ≤ t.size) (h2 : t.size ≤ 9) (hd : Digs t.data.toList) (w : World) :
    Calls Tryz.prog 175 #[.string t, .int .i64 10, .int .i64 32] w fun e w' => e = .returned (.tuple #[.int .u64 (dval 0 t.data.toList : Nat), .nilIface]) ∧ Below w.heap.size w w' :=
  (Tryz.strconv_ParseUint_10_at32_ok t (by omega) _ (parseB_ok hd (by rw [← Lib.size_eq]; exact h1) (by rw [← Lib.size_eq]; exact h2)) w).mono fun e w' ⟨he, hw⟩ => ⟨he, by
    rcases hw with rfl | rfl
    · exact Below.refl _ _
    · exact Lib.bytesWorld_below _ _ _⟩
theorem pu_bad (t : ByteArray) (h2 : t.size ≤ 9) (hd : ¬ Digs t.data.toList) (ev : Value) (w : World) (hv : w.cell? ⟨3, 0, none⟩ = some ev) (hev : ev = .nilIface ∨ ∃ te pe, ev = .iface te pe) :
    Calls Tryz.prog 175 #[.string t, .int .i64 10, .int .i64 32] w fun e w' => (∃ T N, e = .returned (.tuple #[.int .u64 0, .iface T (.pointer (some ⟨N, 0, none⟩))])) ∧ Below w.heap.size w w' := by
  obtain ⟨b1, b2⟩ := parseB_bad hd (by rw [← Lib.size_eq]; exact h2)
  cases hp : Lib.parseUintB 32 t.data.toList
  case ok u => exact absurd hp (b1 u)
  case range => exact absurd hp b2
  all_goals
    exact (Any.strconv_ParseUint_10_at32_syntax Tryz.laysPu14 t (by omega) hp ev w hv hev).mono fun e w' ⟨N, he, _, _, hb⟩ => ⟨⟨_, N, he⟩, hb⟩

theorem own_below {B : Nat} {e : TypeId} {k : Nat} {v : Value} {n : Nat} {xs : List Value} {w w' : World} (h : w.ownsRow B e k v n xs) (hb : Below w.heap.size w w') : w'.ownsRow B e k v n xs :=
  h.kept (row := none) ⟨hb.os, hb.tape, hb.output, hb.size, fun j hj _ => hb.block j hj⟩ (by cases hv : v.ownBlock <;> simp)

/-- the library's sentinel lies where it is laid -/
abbrev SynCell (w : World) : Prop := ∃ ev, w.cell? ⟨3, 0, none⟩ = some ev ∧ 3 < w.heap.size ∧ (ev = .nilIface ∨ ∃ te pe, ev = .iface te pe)
theorem SynCell.below {w w' : World} (h : SynCell w) (hb : Below w.heap.size w w') : SynCell w' := by
  obtain ⟨ev, hc, hp, hev⟩ := h
  exact ⟨ev, by rw [← hc]; exact World.cell?_of_block (a := ⟨3, 0, none⟩) (hb.block _ hp), Nat.lt_of_lt_of_le hp hb.size, hev⟩

/-- where the loop stands -/
def PaRel (w : World) (l : List UInt8) (sv nv : Value) (wr : World) : Prop :=
  ∃ (pos : Nat) (t : ByteArray) (xs : List Nat), sv = .string t ∧ t.data.toList = l.drop pos ∧ pos ≤ l.length ∧ (pos = 0 ∨ (l.length - pos) % 9 = 0) ∧ Digs (l.take pos) ∧
    wr.ownsRow w.heap.size 99 1 nv xs.length (U xs) ∧ Lm xs ∧ val xs = dval 0 (l.take pos) ∧ xs.length ≤ pos ∧ Below w.heap.size w wr

set_option maxRecDepth 100000 in
set_option maxHeartbeats 2000000 in
theorem parse_any (s : ByteArray) (w : World) (hs : s.size ≤ 9223372036854775807) (hv : ¬ Digs s.data.toList → SynCell w) :
    Calls Tryz.prog 115 #[.string s] w fun e w' => ParseE s.data.toList e w' ∧ Below w.heap.size w w' := by
  have hsl : s.size = s.data.toList.length := Lib.size_eq s
  rcases Nat.eq_zero_or_pos s.size with h0 | h0
  · have hz : ((s.size : Int) == 0) = true := by rw [h0]; rfl
    have HZ := Lib.hid h0
    have HSL := Lib.hid hsl
    clear h0 hsl
    go_enter Tryz.func115, Tryz.ntmps115
    go_wp2
    go_ret2
    refine ⟨⟨_, _, rfl, .inl ⟨fun h => ?_, rfl, rfl⟩⟩, Below.refl _ _⟩
    have := h.1
    rw [← HSL.out, HZ.out] at this
    omega
  have hz : ((s.size : Int) == 0) = false := by rw [beq_eq_false_iff_ne]; omega
  by_cases h7 : 700 < s.size
  · have hd : decide (700 < (s.size : Int)) = true := decide_eq_true (by omega)
    have HZ := Lib.hid h7
    have HSL := Lib.hid hsl
    clear h0 hsl h7
    go_enter Tryz.func115, Tryz.ntmps115
    go_wp2
    go_ret2
    refine ⟨⟨_, _, rfl, .inl ⟨fun h => ?_, rfl, rfl⟩⟩, Below.refl _ _⟩
    have := h.2.1
    rw [← HSL.out] at this
    have := HZ.out
    omega
  have hd : decide (700 < (s.size : Int)) = false := decide_eq_false (by omega)
  generalize hl : s.data.toList = l at *
  have HL := Lib.hid hl
  have HV := Lib.hid hv
  have HSL := Lib.hid hsl
  clear hl hv hsl
  go_enter Tryz.func115, Tryz.ntmps115
  go_wp2
  go_loopw [0, 4] (fun sv nv wr => PaRel w l sv nv wr) (fun sv _ _ => match sv with | .string t => t.size | _ => 0)
  case atStart => exact ⟨0, s, [], rfl, HL.out, Nat.zero_le _, .inl rfl, (fun c hc => by cases hc), ⟨rfl, .inl ⟨rfl, rfl⟩⟩, Lm.nil, rfl, Nat.le_refl _, Below.refl _ _⟩
  case round =>
    obtain ⟨pos, t, xs, rfl, ht, hpl, h9, hdp, hown, hxL, hxv, hxl, hbe⟩ := hrel
    have htl : t.size = l.length - pos := by rw [Lib.size_eq, ht, List.length_drop]
    have hl7 : l.length ≤ 700 := by have := HSL.out; omega
    have HT := Lib.hid ht
    have HXV := Lib.hid hxv
    have HTL := Lib.hid htl
    have HOWN := Lib.hid hown
    rcases Nat.eq_zero_or_pos t.size with ht0 | ht0
    · have hd0 : decide (0 < (t.size : Int)) = false := decide_eq_false (by omega)
      have hpe : pos = l.length := by omega
      have hpl7 : pos ≤ 700 := by omega
      have HPE := Lib.hid hpe
      have HTZ := Lib.hid ht0
      have hdl : Digs l := by rw [hpe, List.take_length] at hdp; exact hdp
      have hbg : 64 < (trim xs).length ↔ BIG (dval 0 l) := by rw [big_trim hxL, hxv, hpe, List.take_length]
      have hxv2 : val (trim xs) = dval 0 l := by rw [val_trim, hxv, hpe, List.take_length]
      have HBG := Lib.hid hbg
      have HX2 := Lib.hid hxv2
      have hrd : Rd wr none ([] : List Nat) := fun h => by cases h
      have hle := trim_length_le xs
      clear ht hxv htl ht0 hpe hbg hxv2
      have hd1 : decide (0 < t.size) = false := by rw [← hd0]; simp
      rcases own_cases hown with ⟨rfl, rfl⟩ | ⟨g, cap, rest, rfl, hgb, hB, hcap, hcm, hlen⟩
      · have h64 : (trim ([] : List Nat)).length ≤ 64 := Nat.le_trans hle (Nat.zero_le _)
        go_wp2_with fail
        refine (bounded_ok none 0 [] wr hrd (Nat.le_refl _) (Nat.zero_le _) h64).mono ?_; rintro e w1 ⟨rfl, rfl⟩
        go_wp2
        go_ret2
        refine ⟨⟨_, _, rfl, .inr (.inr ⟨⟨by have := HSL.out; omega, hl7, hdl⟩, fun h => ?_, rfl, _, _, _, rfl, hle, Nat.zero_le _, hrd.trim, can_trim hxL, HX2.out⟩)⟩, hbe⟩
        have := HBG.out.2 h
        omega
      · have hrx : Rd wr (some ⟨g, 0, none⟩) xs := by
          exact fun hl => ⟨g, 0, rfl, hB.lt, fun k hk => by rw [Nat.zero_add, hB.cell, List.getElem?_append_left (by rw [U_len]; exact hk), U_get _ _ hk]⟩
        have hcm2 : cap ≤ 9223372036854775807 := by unfold maxLen at hcm; exact hcm
        have HHB := Lib.hid hB
        clear hB hlen
        by_cases hl : 64 < (trim xs).length
        · go_wp2_with fail
          refine (bounded_big (some ⟨g, 0, none⟩) cap xs wr hrx hcap hcm hl).mono ?_; rintro e w1 ⟨rfl, rfl⟩
          go_wp2
          go_ret2
          exact ⟨⟨_, _, rfl, .inr (.inl ⟨⟨by have := HSL.out; omega, hl7, hdl⟩, HBG.out.1 hl, rfl, rfl⟩)⟩, hbe⟩
        · go_wp2_with fail
          refine (bounded_ok (some ⟨g, 0, none⟩) cap xs wr hrx hcap hcm (by omega)).mono ?_; rintro e w1 ⟨rfl, rfl⟩
          go_wp2
          go_ret2
          exact ⟨⟨_, _, rfl, .inr (.inr ⟨⟨by have := HSL.out; omega, hl7, hdl⟩, fun h => hl (HBG.out.2 h), rfl, _, _, _, rfl, by omega, hcm2, hrx.trim, can_trim hxL, HX2.out⟩)⟩, hbe⟩
    · have hts : t.size ≤ 700 := by omega
      have ht1 : (1 : Int) ≤ (t.size : Int) := by omega
      have ht7 : (t.size : Int) ≤ 700 := by omega
      have hd0 : decide (0 < (t.size : Int)) = true := decide_eq_true (by omega)
      obtain ⟨n, hn⟩ : ∃ n, n = (t.size - 1) % 9 + 1 := ⟨_, rfl⟩
      have hn9 : 1 ≤ n ∧ n ≤ 9 ∧ n ≤ t.size := by omega
      have hni : ((t.size : Int) - 1) % 9 + 1 = (n : Int) := by omega
      have hst : n = 9 ∨ pos = 0 := by omega
      have hq9 : (l.length - (pos + n)) % 9 = 0 := by omega
      have hq0 : pos + n ≤ l.length := by omega
      obtain ⟨q, hq⟩ : ∃ q, (l.drop pos).take n = q := ⟨_, rfl⟩
      have hql : q.length = n := by rw [← hq, List.length_take, List.length_drop]; omega
      have hqe : (t.extract 0 n).data.toList = q := by rw [Lib.extract_data, ht, List.drop_zero, Nat.sub_zero, hq]
      have hqs : (t.extract 0 n).size = n := by rw [Lib.size_eq, hqe, hql]
      have htk : l.take (pos + n) = l.take pos ++ q := by rw [← hq, List.take_add]
      have hrest : (t.extract n t.size).data.toList = l.drop (pos + n) := by
        rw [Lib.extract_data, ht, List.drop_drop]
        exact List.take_of_length_le (by rw [List.length_drop]; omega)
      have hrs : (t.extract n t.size).size = t.size - n := by rw [Lib.size_eq, hrest, List.length_drop]; omega
      have HN := Lib.hid hn
      have HQ := Lib.hid hq
      have HQS := Lib.hid hqs
      have HQL := Lib.hid hql
      have HTK := Lib.hid htk
      have HREST := Lib.hid hrest
      have HRS := Lib.hid hrs
      have HST := Lib.hid hst
      have HQ9 := Lib.hid hq9
      have HQE := Lib.hid hqe
      clear ht hxv htl hn hq hqs hql htk hrest hrs hst hq9 hqe
      by_cases hdg : Digs q
      · have hpk := fun W => pu_ok (t.extract 0 n) (by rw [HQS.out]; omega) (by rw [HQS.out]; omega) (by rw [HQE.out]; exact hdg) W
        rw [HQE.out] at hpk
        have hp9 : dval 0 q < 1000000000 := Nat.lt_of_lt_of_le (dval_lt hdg) (by rw [HQL.out]; exact Nat.pow_le_pow_right (n := 10) (by decide) hn9.2.1)
        obtain ⟨p, hp⟩ : ∃ p, dval 0 q = p := ⟨_, rfl⟩
        rw [hp] at hpk hp9
        have HP := Lib.hid hp
        have HPK := Lib.hid hpk
        have HDG := Lib.hid hdg
        clear hp hpk hdg
        go_wp2_with fail
        refine (HPK.out wr).mono ?_; rintro e w1 ⟨rfl, hb1⟩
        have hown1 := own_below hown hb1
        go_wp2_with fail
        refine (timesPlus_any w.heap.size u4 xs 1000000000 p w1 hown1 hxL (by decide) (by omega) (by omega) (Nat.le_trans hbe.size hb1.size)).mono ?_
        rintro e w2 ⟨v, zs, rfl, hown2, hzL, hzv, hzl, hb2⟩
        have HZV := Lib.hid hzv
        have HO2 := Lib.hid hown2
        clear hown hown1 hown2 hzv
        go_wp2
        go_roundw
        case rel =>
          refine ⟨pos + n, _, zs, rfl, HREST.out, hq0, .inr HQ9.out, ?_, HO2.out, hzL, ?_, by omega, ?_⟩
          · rw [HTK.out]; exact hdp.append HDG.out
          · rw [HZV.out, HXV.out, HTK.out, dval_append, dval_shift q (dval 0 (l.take pos)), HP.out, HQL.out]
            rcases HST.out with h | h
            · rw [h]
            · rw [h]; simp [dval_nil]
          · exact (hbe.trans (hb1.mono hbe.size)).trans hb2
        case measure =>
          show (t.extract n t.size).size < t.size
          rw [HRS.out]; omega
      · have hnd : ¬ Digs l := fun h => hdg (by rw [← HQ.out]; exact (h.drop pos).take n)
        obtain ⟨ev, hc, hp, hev⟩ := HV.out hnd
        have hc1 : wr.cell? ⟨3, 0, none⟩ = some ev := by rw [← hc]; exact World.cell?_of_block (a := ⟨3, 0, none⟩) (hbe.block _ hp)
        have hpk := pu_bad (t.extract 0 n) (by rw [HQS.out]; omega) (by rw [HQE.out]; exact hdg) ev wr hc1 hev
        have HPK := Lib.hid hpk
        have HND := Lib.hid hnd
        clear hpk hnd hc hc1 hev hp hdg
        go_wp2_with fail
        refine HPK.out.mono ?_; rintro e w1 ⟨⟨T, N, rfl⟩, hb1⟩
        go_wp2
        go_ret2
        exact ⟨⟨_, _, rfl, .inl ⟨fun h => HND.out h.2.2, rfl, rfl⟩⟩, hbe.trans (hb1.mono hbe.size)⟩

end LM
end Go.Proofs.YtpnjddfnlaonoaaGreatDoor
