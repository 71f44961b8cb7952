/- Walks of package limb: Div: the long division. -/
import Derived.Sort.AtCallIn
import Derived.Lib.BitFns
import Derived.Test.YtfckjapedjjhpaaDoorLimbR
import Derived.Test.YtfckjapedjjhpaaDoorLimbMath
import Derived.Test.YtfckjapedjjhpaaDoorShelf
import Derived.Test.YtfckjapedjjhpaaDoorLimbI
import Derived.Test.YtfckjapedjjhpaaDoorLimbTake
import Derived.Test.YtfckjapedjjhpaaDoorLimbDv
import Derived.Test.YtfckjapedjjhpaaDoorLimbBw
namespace Go.Proofs.YtfckjapedjjhpaaDoor
open Go.RowKit Go.Shelf
attribute [local go_sem] Oper.semAt_some
namespace LM
attribute [local go_sem] round_fn wide_fn

/-- behind a piece of code that ends as it should: this of the frame and the world -/
def OnNormal (R : Act → World → Prop) : Exit → Act → World → Prop
  | .normal, a, w => R a w
  | _, _, _ => False

theorem lead (y : Nat) (h0 : 0 < y) (h : y < 4294967296) : ∃ s : Nat, s < 32 ∧ 32 - (Lib.bitLen y : Int) = (s : Int) ∧ y * 2 ^ s < 4294967296 := by
  have h1 := Nat.log2_self_le (n := y) (by omega)
  have h2 := Nat.lt_log2_self (n := y)
  have hk : y.log2 < 32 := by
    rcases Nat.lt_or_ge y.log2 32 with h3 | h3
    · exact h3
    · have := Nat.pow_le_pow_right (n := 2) (by decide) h3; omega
  have e : y / 2 ^ y.log2 = 1 := by
    apply Nat.div_eq_of_lt_le
    · omega
    · rw [Nat.pow_succ] at h2; omega
  have hb := Lib.bitLen_shift y.log2 y h1 (by omega)
  rw [e] at hb
  have h5 : Lib.bitLen 1 = 1 := by decide
  rw [h5] at hb
  refine ⟨31 - y.log2, by omega, by rw [hb]; omega, ?_⟩
  have h6 := Nat.mul_lt_mul_of_pos_right h2 (show 0 < 2 ^ (31 - y.log2) from Nat.pow_pos (by decide))
  rw [← Nat.pow_add, show y.log2 + 1 + (31 - y.log2) = 32 from by omega] at h6
  exact h6

set_option maxRecDepth 100000 in
set_option maxHeartbeats 1000000 in
theorem div_big (A B : Option Addr) (ca cb : Nat) (xs ys : List Nat) (w : World) (ha : Rd w A xs) (hb : Rd w B ys) (hx : Lm xs) (hy : Lm ys) (hca : xs.length ≤ ca) (hcb : ys.length ≤ cb) (hcam : ca ≤ 9223372036854775807) (hcbm : cb ≤ 9223372036854775807)
    (hs1 : ¬ BIG (val xs)) (hs2 : ¬ BIG (val ys)) (hs3 : 0 < val ys) (hs4 : (trim ys).length ≤ (trim xs).length) :
    Calls Tryd.prog 57 #[.slice A xs.length ca, .slice B ys.length cb] w fun e w' => DivE w (val xs) (val ys) e w' := by
  have H1 := Lib.hid (fun W (h : Rd W A xs) => trimmed_any A ca xs W h hca (by unfold maxLen; omega))
  have H2 := Lib.hid (fun W (h : Rd W B ys) => trimmed_any B cb ys W h hcb (by unfold maxLen; omega))
  have hta := ha.trim
  have htb := hb.trim
  have hcx := can_trim hx
  have hcy := can_trim hy
  rw [← val_trim xs] at hs1 ⊢
  rw [← val_trim ys] at hs2 hs3 ⊢
  have hlx := trim_length_le xs
  have hly := trim_length_le ys
  have ha3 := (ha.alloc (.cells #[.slice B ys.length cb] 22)).drew
  have hb3 := (hb.alloc (.cells #[.slice B ys.length cb] 22)).drew
  generalize trim xs = xt at *
  generalize trim ys = yt at *
  have b1 : ¬ 64 < xt.length := fun h => hs1 ((big_iff hcx).1 h)
  have b2 : ¬ 64 < yt.length := fun h => hs2 ((big_iff hcy).1 h)
  have hn : 0 < yt.length := by
    rcases Nat.eq_zero_or_pos yt.length with h | h
    · rw [List.eq_nil_of_length_eq_zero h] at hs3; simp [val] at hs3
    · exact h
  have I1 : ∀ n, n ≤ 9223372036854775807 → ∀ A c W, Calls Tryd.prog 63 #[.slice A n c] W fun e w' => e = .returned (.bool (decide (64 < n))) ∧ W = w' := fun n hn A c W => isBig_any A n c W (by unfold maxLen; omega)
  have HI := Lib.hid I1
  have hd : decide (64 < xt.length) = false := decide_eq_false b1
  have hd2 : decide (64 < yt.length) = false := decide_eq_false b2
  have hn0 : ((yt.length : Int) == 0) = false := by rw [beq_eq_false_iff_ne]; omega
  have htop : yt[yt.length - 1]?.getD 0 ≠ 0 := by
    have hne : yt ≠ [] := by intro e; subst e; simp at hn
    have h := can_last (xs := yt.dropLast) (y := yt.getLast hne) (by rw [List.dropLast_concat_getLast hne]; exact hcy)
    rw [List.getLast_eq_getElem] at h
    rw [List.getElem?_eq_getElem (by omega)]; exact h
  obtain ⟨s, hs, hse, hst⟩ := lead _ (Nat.pos_of_ne_zero htop) (hcy.1.get _)
  have htl := hcy.1.get (yt.length - 1)
  have hlz := fun W => Tryd.bits_LeadingZeros32 ((yt[yt.length - 1]?.getD 0 : Nat) : Int) W (by omega) (by omega)
  simp only [Int.toNat_natCast, hse] at hlz
  have HLZ := Lib.hid hlz
  clear I1 ha hb hlz hse
  refine (callsIn_wide (n := 3)).1 ?_
  refine callsIn_of_wp_marks Tryd.func57 rfl trivial ?_ rfl
  simp only [Tryd.ntmps57, List.size_toArray, List.length_cons, List.length_nil, Nat.reduceAdd, Nat.reduceSub, Array.replicate_succ, Array.replicate_zero, List.push_toArray, List.append_toArray, List.nil_append, List.cons_append]
  gi_wp2_with fail
  refine Code.wpIn_mono (Q := OnNormal fun a' w' => a' = { tmps := #[.slice A xt.length ca, .slice B ys.length cb, undef, .pointer (some ⟨w.heap.size, 0, none⟩), .slice none 0 0, .slice none 0 0, .int .i64 0, undef, undef, undef, undef, undef, .slice A xs.length ca, .slice A xt.length ca, .slice B ys.length cb, .slice B yt.length cb, undef, undef, undef, undef, undef, undef, undef, undef, undef, undef, undef, undef, undef, undef, undef, undef, undef, undef, undef, undef, undef, undef, undef, undef, undef, undef, undef, undef, undef, undef, undef, undef, undef, undef, undef, undef, undef, undef, undef, undef, undef, undef, undef, undef, undef, undef, undef, undef, undef, undef, undef, undef, undef, undef, undef, undef, undef, undef, undef, undef, undef, undef, undef, undef], defers := [] } ∧ w' = (w.alloc (.cells #[.slice B yt.length cb] 22)).drew) ?cont ?reg
  case reg =>
    gi_region_with (first | (gi_at_call_has 62 (Value.slice A xs.length ca); refine (callsIn_wide.2 (H1.out _ ha3)).mono ?_; rintro e w1 ⟨rfl, rfl⟩) | (gi_at_call_has 62 (Value.slice B ys.length cb); refine (callsIn_wide.2 (H2.out _ hb3)).mono ?_; rintro e w1 ⟨rfl, rfl⟩))
    all_goals exact ⟨rfl, rfl⟩
  case cont =>
    intro e a' w' hq
    cases e <;> first | exact hq.elim | skip
    obtain ⟨rfl, rfl⟩ := hq
    have htb1 : Rd (w.alloc (.cells #[.slice B yt.length cb] 22)).drew B yt := (htb.alloc _).drew
    obtain ⟨bb, ob, rfl, _, hct⟩ := htb1.at_ (k := yt.length - 1) (by omega)
    generalize htv : yt[yt.length - 1]?.getD 0 = tv at *
    have HTV := Lib.hid htv
    clear htv
    gi_wp2_with fail
    refine (callsIn_wide.2 (HI.out xt.length (by omega) _ _ _)).mono ?_; rintro e w' ⟨rfl, rfl⟩
    gi_wp2_with fail
    refine (callsIn_wide.2 (HI.out yt.length (by omega) _ _ _)).mono ?_; rintro e w' ⟨rfl, rfl⟩
    gi_wp2_with fail
    refine (callsIn_wide.2 (HLZ.out _)).mono ?_; rintro e w2 ⟨rfl, hw2⟩
    subst hw2
    gi_wp2_with fail
    generalize hW0 : (w.alloc (.cells #[.slice (some ⟨bb, ob, none⟩) yt.length cb] 22)).drew = W0
    have hs0 : W0.heap.size = w.heap.size + 1 := by rw [← hW0]; simp
    have hbw : Below w.heap.size w W0 := by rw [← hW0]; exact ((Below.refl _ _).alloc (Nat.le_refl _) _).drew
    have hb3 : SBox W0 w.heap.size (.slice (some ⟨bb, ob, none⟩) yt.length cb) := by rw [← hW0]; exact (SBox.new w _).drew
    have hta0 : Rd W0 A xt := hta.below hbw
    have htb0 : Rd W0 (some ⟨bb, ob, none⟩) yt := by rw [← hW0]; exact htb1
    clear hW0 htb1 htb hta hct
    have hC0 : ∀ W, Below W0.heap.size W0 W → W.cell? ⟨w.heap.size, 0, none⟩ = some (.slice (some ⟨bb, ob, none⟩) yt.length cb) := fun W hb => (hb3.below hb hb3.lt).cell
    have HC0 := Lib.hid hC0
    clear hC0
    refine Code.wpIn_mono (Q := OnNormal fun a' w' => ∃ v8 v9 v44 v47 v48 : Value, a' = { tmps := #[.slice A xt.length ca, .slice (some ⟨bb, ob, none⟩) ys.length cb, undef, .pointer (some ⟨w.heap.size, 0, none⟩), .slice none 0 0, .slice none 0 0, .int .i64 0, .int .i64 (s : Int), v8, v9, undef, undef, .slice A xs.length ca, .slice A xt.length ca, .slice (some ⟨bb, ob, none⟩) ys.length cb, .slice (some ⟨bb, ob, none⟩) yt.length cb, .bool false, .slice A xt.length ca, .bool false, .bool false, .slice (some ⟨bb, ob, none⟩) yt.length cb, .bool false, .bool false, .bool false, .slice (some ⟨bb, ob, none⟩) yt.length cb, .int .i64 (yt.length : Int), .bool false, .bool false, .slice A xt.length ca, .int .i64 (xt.length : Int), .slice (some ⟨bb, ob, none⟩) yt.length cb, .int .i64 (yt.length : Int), .bool false, undef, undef, .slice (some ⟨bb, ob, none⟩) yt.length cb, .slice (some ⟨bb, ob, none⟩) yt.length cb, .int .i64 (yt.length : Int), .int .i64 ((yt.length : Int) - 1), .pointer (some ⟨bb, ob + (yt.length - 1), none⟩), .int .u32 (tv : Int), .int .i64 (s : Int), .slice A xt.length ca, .int .i64 (s : Int), v44, .slice (some ⟨bb, ob, none⟩) yt.length cb, .int .i64 (s : Int), v47, v48, undef, undef, undef, undef, undef, undef, undef, undef, undef, undef, undef, undef, undef, undef, undef, undef, undef, undef, undef, undef, undef, undef, undef, undef, undef, undef, undef, undef, undef, undef, undef], defers := [] } ∧ R9D W0 xt yt s v8 v9 w') ?cont2 ?reg2
    case reg2 =>
      have hC : (fun W : World => W.cell? ⟨w.heap.size, 0, none⟩ = some (.slice (some ⟨bb, ob, none⟩) yt.length cb)) W0.drew := HC0.out _ (Below.refl _ _).drew
      refine wpIn_region_C (fun _ => false) _ (by kernel_rfl) (?_ : wpC _ _ _ _ _ _ (fun W : World => W.cell? ⟨w.heap.size, 0, none⟩ = some (.slice (some ⟨bb, ob, none⟩) yt.length cb)) _ _ _ _ _)
      refine wpC_take 0 (v := .slice A xt.length ca) (fun _ => trivial) (by kernel_rfl) rfl (by kernel_rfl) (by kernel_rfl) (by kernel_rfl) (by kernel_rfl) (fun _ _ _ h => h) hC ⟨rfl, fun w hw => ?_⟩ ?_
      · go_simp
      refine wpC_take 1 (v := .int .i64 (s : Int)) (fun _ => trivial) (by kernel_rfl) rfl (by kernel_rfl) (by kernel_rfl) (by kernel_rfl) (by kernel_rfl) (fun _ _ _ h => h) hC ⟨rfl, fun w hw => ?_⟩ ?_
      · go_simp
      refine wpC_take 3 (v := .slice (some ⟨bb, ob, none⟩) yt.length cb) (fun _ => trivial) (by kernel_rfl) rfl (by kernel_rfl) (by kernel_rfl) (by kernel_rfl) (by kernel_rfl) (fun _ _ _ h => h) hC ⟨rfl, fun w hw => ?_⟩ ?_
      · go_simp
      refine wpC_take 4 (v := .int .i64 (s : Int)) (fun _ => trivial) (by kernel_rfl) rfl (by kernel_rfl) (by kernel_rfl) (by kernel_rfl) (by kernel_rfl) (fun _ _ _ h => h) hC ⟨rfl, fun w hw => ?_⟩ ?_
      · go_simp
      refine wpC_listed (s9lst (0, false, false)) (by kernel_rfl) ?_
      refine wpC_states s9lst s9rd s9next (fun s => s.1 ≤ 3) s9rank (fun st a W => ∃ v8 v9 v44 v47 v48 : Value, a = { tmps := #[.slice A xt.length ca, .slice (some ⟨bb, ob, none⟩) ys.length cb, undef, .pointer (some ⟨w.heap.size, 0, none⟩), .slice none 0 0, .slice none 0 0, .int .i64 0, .int .i64 (s : Int), v8, v9, undef, undef, .slice A xs.length ca, .slice A xt.length ca, .slice (some ⟨bb, ob, none⟩) ys.length cb, .slice (some ⟨bb, ob, none⟩) yt.length cb, .bool false, .slice A xt.length ca, .bool false, .bool false, .slice (some ⟨bb, ob, none⟩) yt.length cb, .bool false, .bool false, .bool false, .slice (some ⟨bb, ob, none⟩) yt.length cb, .int .i64 (yt.length : Int), .bool false, .bool false, .slice A xt.length ca, .int .i64 (xt.length : Int), .slice (some ⟨bb, ob, none⟩) yt.length cb, .int .i64 (yt.length : Int), .bool false, undef, undef, .slice (some ⟨bb, ob, none⟩) yt.length cb, .slice (some ⟨bb, ob, none⟩) yt.length cb, .int .i64 (yt.length : Int), .int .i64 ((yt.length : Int) - 1), .pointer (some ⟨bb, ob + (yt.length - 1), none⟩), .int .u32 (tv : Int), .int .i64 (s : Int), .slice A xt.length ca, .int .i64 (s : Int), v44, .slice (some ⟨bb, ob, none⟩) yt.length cb, .int .i64 (s : Int), v47, v48, undef, undef, undef, undef, undef, undef, undef, undef, undef, undef, undef, undef, undef, undef, undef, undef, undef, undef, undef, undef, undef, undef, undef, undef, undef, undef, undef, undef, undef, undef, undef], defers := [] } ∧ R9 W0 xt yt s st.1 st.2.1 st.2.2 v8 v9 v44 v47 v48 W) 2 ?hrd (fun _ h1 h2 => s9_ne h1 h2) (fun _ h1 _ i hi => s9_next h1 hi) ?hstep ?hend 5 (0, false, false) _ _ rfl (Nat.zero_le _) ⟨undef, undef, undef, undef, undef, rfl, R9.start _ _ _ _ _ _ _ _ _⟩
      case hrd =>
        rintro ⟨k, b7, b8⟩ hk hr
        have hk2 : k = 0 ∨ k = 1 ∨ k = 2 ∨ k = 3 := by simp at hk; omega
        rcases hk2 with rfl | rfl | rfl | rfl <;> cases b7 <;> cases b8 <;> first | exact absurd hr (by decide) | (show Region.ready _ _ _ = _; kernel_rfl)
      case hstep =>
        rintro ⟨k, b7, b8⟩ a W hk _ ⟨v8, v9, v44, v47, v48, rfl, hR⟩ i hi
        have hbW := hR.below
        rcases s9_mem hi with ⟨rfl, rfl⟩ | ⟨rfl, rfl⟩ | ⟨rfl, rfl⟩ | ⟨rfl, rfl⟩ | ⟨rfl, rfl⟩
        · have HCON := Lib.hid (shiftedUp_any A ca xt s W (hta0.below hbW) hcx.1 hs (by omega))
          clear hi
          refine wpOpIn_step rfl (fun K hK => ?_)
          go_simp
          refine (callsIn_wide.2 HCON.out).mono ?_
          rintro e w' ⟨zs, rfl, z1, z2, z3, z4, z5⟩
          exact hK _ _ ⟨fun _ => HC0.out _ (hbW.trans (z5.mono hbW.size)), v8, v9, _, v47, v48, rfl, hR.c2 z1 z2 z3 z4 z5⟩
        · have HCON := Lib.hid (shiftedUp_any (some ⟨bb, ob, none⟩) cb yt s W (htb0.below hbW) hcy.1 hs (by omega))
          clear hi
          refine wpOpIn_step rfl (fun K hK => ?_)
          go_simp
          refine (callsIn_wide.2 HCON.out).mono ?_
          rintro e w' ⟨zs, rfl, z1, z2, z3, z4, z5⟩
          exact hK _ _ ⟨fun _ => HC0.out _ (hbW.trans (z5.mono hbW.size)), v8, v9, v44, _, v48, rfl, hR.c5 z1 z2 z3 z4 z5⟩
        · obtain ⟨d, ds, rfl, hdl, hrd, hR3⟩ := hR.c6
          have HCON := Lib.hid (trimmed_any (some ⟨d, 0, none⟩) (yt.length + 1) ds W hrd (by omega) (by unfold maxLen; omega))
          have HR3 := Lib.hid hR3
          clear hi hR3 hdl
          refine wpOpIn_step rfl (fun K hK => ?_)
          go_simp
          refine (callsIn_wide.2 HCON.out).mono ?_
          rintro e w' ⟨rfl, rfl⟩
          exact hK _ _ ⟨fun _ => HC0.out _ hbW, v8, v9, v44, _, _, rfl, HR3.out⟩
        · clear hi
          refine wpOpIn_step rfl (fun K hK => ?_)
          go_simp
          exact hK _ _ ⟨fun _ => HC0.out _ (hbW.alloc hbW.size _), _, v9, v44, v47, v48, rfl, hR.a7⟩
        · clear hi
          refine wpOpIn_step rfl (fun K hK => ?_)
          go_simp
          exact hK _ _ ⟨fun _ => HC0.out _ (hbW.alloc hbW.size _), v8, _, v44, v47, v48, rfl, hR.a8⟩
      case hend =>
        rintro st a W hk hr ⟨v8, v9, v44, v47, v48, rfl, hR⟩
        obtain rfl := s9_done hk hr
        have hbW := hR.below
        obtain ⟨p, q, rfl, rfl, hpq, hp, hq, ⟨g, d, nd, rfl, rfl⟩, hD⟩ := hR.stores
        have hpb : W0.heap.size ≤ p := by
          obtain ⟨_, _, p', _, _, _, _, _, _, h1, _, _, h2, _⟩ := hD
          injection h2 with h2; injection h2 with h2; injection h2 with h2; omega
        have HD := Lib.hid hD
        have hpc := hp.cell
        have hpf := hp.frozen
        have hqf := (hq.far (q := ⟨p, 0, none⟩) (Ne.symm hpq) (.slice (some ⟨g, 0, none⟩) (xt.length + 1) (xt.length + 1))).frozen
        have hqc := (hq.far (q := ⟨p, 0, none⟩) (Ne.symm hpq) (.slice (some ⟨g, 0, none⟩) (xt.length + 1) (xt.length + 1))).cell
        have HCW := Lib.hid (HC0.out _ (hbW.setCell (p := ⟨p, 0, none⟩) hpb (.slice (some ⟨g, 0, none⟩) (xt.length + 1) (xt.length + 1))))
        have HBD := Lib.hid (HC0.out _ hD.below)
        clear hD
        refine wpC_only 9 (by kernel_rfl) (wpOpIn_step rfl (fun K hK => ?_))
        go_simp
        refine hK _ _ ⟨fun _ => HCW.out, ?_⟩
        clear hK K
        refine wpC_only 10 (by kernel_rfl) (wpOpIn_step rfl (fun K hK => ?_))
        go_simp
        refine hK _ _ ⟨fun _ => HBD.out, ?_⟩
        clear hK K
        refine wpC_done (by kernel_rfl) ?_
        exact ⟨_, _, _, v47, _, rfl, HD.out⟩
    case cont2 =>
      intro e a' w' hq
      cases e <;> first | exact hq.elim | skip
      obtain ⟨v8, v9, v44, v47, v48, rfl, hR⟩ := hq
      clear HC0 hta0 htb0
      obtain ⟨g, d, p, q, zs, ds, r1, r2, r3, r4, r5, r6, rfl, rfl, r7, r8, r9, r10, r11, r12, r13, r14, r15, r16⟩ := hR
      have b3 := hb3.below r1 hb3.lt
      have b3c := b3.cell
      clear hb3
      have hm0 : ∃ m, m + yt.length = xt.length + 1 ∧ 0 < m ∧ m ≤ 65 := ⟨xt.length - yt.length + 1, by omega, by omega, by omega⟩
      obtain ⟨m, hm1, hm2, hm3⟩ := hm0
      have hmi : (xt.length : Int) - (yt.length : Int) + 1 = (m : Int) := by omega
      have hmk := fun W => run_make_row' (P := Tryd.prog) 22 51 (.int .u32 0) 4 Tryd.underlying22 u32_info rfl .i64 .i64 m (by omega) (by omega) W
      simp only [made_zero] at hmk
      gi_wp2_with fail
      refine (backward_in _ _ _ _ _).mono ?_
      rintro e w2 ⟨rfl, rfl⟩
      clear hmk hmi
      gi_wp2_with fail
      have hdl : (trim ds).length = yt.length := shifted_len hs hcy (can_trim r15) hn (by rw [val_trim]; exact r16) (by rw [HTV.out]; exact hst)
      have hdv : val (trim ds) = val yt * 2 ^ s := by rw [val_trim]; exact r16
      rw [hdl] at r8
      have hdlt : val (trim ds) ≤ 4294967296 ^ yt.length := by rw [← hdl]; exact Nat.le_of_lt (val_lt r15.trim)
      have hstart := div_start hcx.1 r10 r12 hcy hn hs4 hdv
      rw [show xt.length - yt.length + 1 = m from by omega] at hstart
      have HDV := Lib.hid hdv
      have HR12 := Lib.hid r12
      have hrd : ∀ W, Blk W d (U ds) → Rd W (some ⟨d, 0, none⟩) (trim ds) := fun W hb => by
        refine Rd.of_blk (pre := []) (post := ds.drop (trim ds).length) ?_
        have e : [] ++ trim ds ++ ds.drop (trim ds).length = ds := by
          rw [List.nil_append]
          conv => lhs; lhs; rw [trim_take]
          exact List.take_append_drop _ _
        rw [e]; exact hb
      have htop2 := can_top (can_trim r15) (by omega)
      have HTOP2 := Lib.hid htop2
      have HDL := Lib.hid hdl
      have HRD := Lib.hid hrd
      have hwl : w'.heap.size ≥ W0.heap.size := r1.size
      have hgl := r9.lt
      have hdl2 := r13.lt
      generalize hWL : World.alloc _ _ = WL
      have f0 : WL.heap.size = w'.heap.size + 3 := by rw [← hWL]; simp
      have fI : DvI w (some ⟨bb, ob, none⟩) cb xt.length yt.length m (val zs) (val (trim ds)) w.heap.size g d w'.heap.size p q (w'.heap.size + 1) (w'.heap.size + 2) ds [] WL := by
        rw [← hWL]
        refine ⟨zs, List.replicate m 0, r10, r11, by simp, Lm.replicate m, ((r9.alloc _).alloc _).alloc _, ((r13.alloc _).alloc _).alloc _, ?_, ((b3.alloc _).alloc _).alloc _, ((r7.alloc _).alloc _).alloc _, ((r8.alloc _).alloc _).alloc _, ?_, ?_, ?_, DvOrd.start hstart rfl⟩
        · exact ((Blk.new w' _).alloc _).alloc _
        · have h := (SBox.new (w'.alloc (.cells (U (List.replicate m 0)).toArray 51)) (.slice (some ⟨w'.heap.size, 0, none⟩) m m)).alloc (.cells #[.slice (some ⟨w'.heap.size, 0, none⟩) m m] 22)
          rwa [World.size_alloc] at h
        · have h := SBox.new ((w'.alloc (.cells (U (List.replicate m 0)).toArray 51)).alloc (.cells #[.slice (some ⟨w'.heap.size, 0, none⟩) m m] 22)) (.slice (some ⟨w'.heap.size, 0, none⟩) m m)
          rwa [World.size_alloc, World.size_alloc] at h
        · exact (((hbw.trans (r1.mono hbw.size)).alloc (by omega) _).alloc (by simp; omega) _).alloc (by simp; omega) _
      clear hWL hdl hdv hrd htop2 hstart r7 r8 r9 r13 b3c b3 r12 r16
      refine range_all rfl (by decide) (gf := 100) (lb := #[.pointer (some ⟨w'.heap.size + 2, 0, none⟩)]) rfl trivial (enters_of Tryd.func100 (by kernel_rfl) rfl)
        (backward_all 2 (by decide) (w'.heap.size + 2) (some ⟨w'.heap.size, 0, none⟩) m m (by omega) (fun _ _ => True) WL (by omega) (fun _ ad e => by injection e with e; subst e; show w'.heap.size < _; omega) fI.bw)
        (Below.refl _ _) (fun _ => rfl) (DvI w (some ⟨bb, ob, none⟩) cb xt.length yt.length m (val zs) (val (trim ds)) w.heap.size g d w'.heap.size p q (w'.heap.size + 1) (w'.heap.size + 2) ds) (DvI.own (by omega)) (fun _ _ hs => hs.bw) fI
        (fun x => { tmps := #[.slice A xt.length ca, .slice (some ⟨bb, ob, none⟩) ys.length cb, undef, .pointer (some ⟨w.heap.size, 0, none⟩), .slice none 0 0, .slice none 0 0, .int .i64 0, .int .i64 (s : Int), .pointer (some ⟨p, 0, none⟩), .pointer (some ⟨q, 0, none⟩), .pointer (some ⟨w'.heap.size + 1, 0, none⟩), .int .i64 (x.1.1 : Int), .slice A xs.length ca, .slice A xt.length ca, .slice (some ⟨bb, ob, none⟩) ys.length cb, .slice (some ⟨bb, ob, none⟩) yt.length cb, .bool false, .slice A xt.length ca, .bool false, .bool false, .slice (some ⟨bb, ob, none⟩) yt.length cb, .bool false, .bool false, .bool false, .slice (some ⟨bb, ob, none⟩) yt.length cb, .int .i64 (yt.length : Int), .bool false, .bool false, .slice A xt.length ca, .int .i64 (xt.length : Int), .slice (some ⟨bb, ob, none⟩) yt.length cb, .int .i64 (yt.length : Int), .bool false, undef, undef, .slice (some ⟨bb, ob, none⟩) yt.length cb, .slice (some ⟨bb, ob, none⟩) yt.length cb, .int .i64 (yt.length : Int), .int .i64 ((yt.length : Int) - 1), .pointer (some ⟨bb, ob + (yt.length - 1), none⟩), .int .u32 (tv : Int), .int .i64 (s : Int), .slice A xt.length ca, .int .i64 (s : Int), v44, .slice (some ⟨bb, ob, none⟩) yt.length cb, .int .i64 (s : Int), v47, v48, .slice A xt.length ca, .int .i64 (xt.length : Int), .slice (some ⟨bb, ob, none⟩) yt.length cb, .int .i64 (yt.length : Int), .int .i64 ((xt.length : Int) - (yt.length : Int)), .int .i64 (m : Int), .slice (some ⟨w'.heap.size, 0, none⟩) m m, .slice (some ⟨w'.heap.size, 0, none⟩) m m, .func (.func 100) #[] #[.pointer (some ⟨w'.heap.size + 2, 0, none⟩)], .int .i64 (x.1.1 : Int), .int .u32 (x.1.2 : Int), undef, undef, undef, undef, undef, undef, undef, undef, undef, undef, undef, undef, undef, undef, undef, undef, undef, undef, undef, undef], defers := [] }) ?assign ?body ?done
      case assign =>
        intro l2 x W2 K hK
        gi_wp2
        exact hK
      case body =>
        rintro l2 pre x W ⟨cur, qq, a1, a2, a3, a4, a5, a6, a7, a8, a9, a10, a11, a12, a13, a14⟩ _
        have hj : x.1.1 < m := x.2.1
        have hjl : x.1.1 + yt.length + 1 ≤ xt.length + 1 := by omega
        have hl1 : (cur.take x.1.1).length = x.1.1 := by rw [List.length_take]; omega
        have hl2 : ((cur.drop x.1.1).take (yt.length + 1)).length = yt.length + 1 := by rw [List.length_take, List.length_drop]; omega
        have hsplit : cur.take x.1.1 ++ (cur.drop x.1.1).take (yt.length + 1) ++ cur.drop (x.1.1 + yt.length + 1) = cur := by
          have e := List.take_append_drop (yt.length + 1) (cur.drop x.1.1)
          rw [List.drop_drop] at e
          rw [List.append_assoc, Nat.add_assoc, e, List.take_append_drop]
        have hcon := takeOut_any g (xt.length + 1 - x.1.1) (cur.take x.1.1) ((cur.drop x.1.1).take (yt.length + 1)) (cur.drop (x.1.1 + yt.length + 1)) (some ⟨d, 0, none⟩) (yt.length + 1) (trim ds) W.drew (by rw [hsplit]; exact a5.drew) ((HRD.out _ a6).drew) (fun _ ad e => by injection e with e; subst e; exact Ne.symm r6) (by rw [hl2, HDL.out]) ((a2.drop _).take _) r15.trim (by rw [hl2]; omega) (by rw [HDL.out]; exact hn) HTOP2.out
        rw [hl1, hl2, HDL.out] at hcon
        have HCON := Lib.hid hcon
        have hlq : qq.length = m := a3
        have HA1 := Lib.hid a1
        have HA3 := Lib.hid a3
        have HA14 := Lib.hid a14
        clear hcon hl1 hl2 hsplit a1 a3 a14
        generalize hjx : x.1.1 = j at *
        have HJX := Lib.hid hjx
        have HLQ := Lib.hid hlq
        clear hjx hlq
        gi_wp2_with fail
        have hC : (fun W : World => W.cell? ⟨w'.heap.size + 1, 0, none⟩ = some (.slice (some ⟨w'.heap.size, 0, none⟩) m m) ∧ W.cell? ⟨p, 0, none⟩ = some (.slice (some ⟨g, 0, none⟩) (xt.length + 1) (xt.length + 1)) ∧ W.cell? ⟨w.heap.size, 0, none⟩ = some (.slice (some ⟨bb, ob, none⟩) yt.length cb) ∧ W.cell? ⟨q, 0, none⟩ = some (.slice (some ⟨d, 0, none⟩) yt.length (yt.length + 1))) W.drew := ⟨a11.cell, a9.cell, a8.cell, a10.cell⟩
        refine wpIn_region_C (fun _ => false) _ (by kernel_rfl) (?_ : wpC _ _ _ _ _ _ (fun W : World => W.cell? ⟨w'.heap.size + 1, 0, none⟩ = some (.slice (some ⟨w'.heap.size, 0, none⟩) m m) ∧ W.cell? ⟨p, 0, none⟩ = some (.slice (some ⟨g, 0, none⟩) (xt.length + 1) (xt.length + 1)) ∧ W.cell? ⟨w.heap.size, 0, none⟩ = some (.slice (some ⟨bb, ob, none⟩) yt.length cb) ∧ W.cell? ⟨q, 0, none⟩ = some (.slice (some ⟨d, 0, none⟩) yt.length (yt.length + 1))) _ _ _ _ _)
        refine wpC_take 0 (v := .slice (some ⟨w'.heap.size, 0, none⟩) m m) (fun _ => trivial) (by kernel_rfl) rfl (by kernel_rfl) (by kernel_rfl) (by kernel_rfl) (by kernel_rfl) (fun _ _ _ h => h) hC ⟨rfl, fun w hw => ?_⟩ ?_
        · obtain ⟨h0, h1, h2, h3⟩ := hw; go_simp
        refine wpC_take 1 (v := .int .i64 (j : Int)) (fun _ => trivial) (by kernel_rfl) rfl (by kernel_rfl) (by kernel_rfl) (by kernel_rfl) (by kernel_rfl) (fun _ _ _ h => h) hC ⟨rfl, fun w hw => ?_⟩ ?_
        · obtain ⟨h0, h1, h2, h3⟩ := hw; go_simp
        refine wpC_take 2 (v := .slice (some ⟨g, 0, none⟩) (xt.length + 1) (xt.length + 1)) (fun _ => trivial) (by kernel_rfl) rfl (by kernel_rfl) (by kernel_rfl) (by kernel_rfl) (by kernel_rfl) (fun _ _ _ h => h) hC ⟨rfl, fun w hw => ?_⟩ ?_
        · obtain ⟨h0, h1, h2, h3⟩ := hw; go_simp
        refine wpC_take 3 (v := .int .i64 (j : Int)) (fun _ => trivial) (by kernel_rfl) rfl (by kernel_rfl) (by kernel_rfl) (by kernel_rfl) (by kernel_rfl) (fun _ _ _ h => h) hC ⟨rfl, fun w hw => ?_⟩ ?_
        · obtain ⟨h0, h1, h2, h3⟩ := hw; go_simp
        refine wpC_take 4 (v := .int .i64 (j : Int)) (fun _ => trivial) (by kernel_rfl) rfl (by kernel_rfl) (by kernel_rfl) (by kernel_rfl) (by kernel_rfl) (fun _ _ _ h => h) hC ⟨rfl, fun w hw => ?_⟩ ?_
        · obtain ⟨h0, h1, h2, h3⟩ := hw; go_simp
        refine wpC_take 5 (v := .slice (some ⟨bb, ob, none⟩) yt.length cb) (fun _ => trivial) (by kernel_rfl) rfl (by kernel_rfl) (by kernel_rfl) (by kernel_rfl) (by kernel_rfl) (fun _ _ _ h => h) hC ⟨rfl, fun w hw => ?_⟩ ?_
        · obtain ⟨h0, h1, h2, h3⟩ := hw; go_simp
        refine wpC_take 6 (v := .int .i64 (yt.length : Int)) (fun _ => trivial) (by kernel_rfl) rfl (by kernel_rfl) (by kernel_rfl) (by kernel_rfl) (by kernel_rfl) (fun _ _ _ h => h) hC ⟨rfl, fun w hw => ?_⟩ ?_
        · obtain ⟨h0, h1, h2, h3⟩ := hw; go_simp
        refine wpC_take 7 (v := .int .i64 ((j : Int) + (yt.length : Int))) (fun _ => trivial) (by kernel_rfl) rfl (by kernel_rfl) (by kernel_rfl) (by kernel_rfl) (by kernel_rfl) (fun _ _ _ h => h) hC ⟨rfl, fun w hw => ?_⟩ ?_
        · obtain ⟨h0, h1, h2, h3⟩ := hw; go_simp; exact IntWalk.i64_in _ (by omega)
        refine wpC_take 8 (v := .int .i64 ((j : Int) + (yt.length : Int) + 1)) (fun _ => trivial) (by kernel_rfl) rfl (by kernel_rfl) (by kernel_rfl) (by kernel_rfl) (by kernel_rfl) (fun _ _ _ h => h) hC ⟨rfl, fun w hw => ?_⟩ ?_
        · obtain ⟨h0, h1, h2, h3⟩ := hw; go_simp; exact IntWalk.i64_in _ (by omega)
        refine wpC_take 9 (v := .slice (some ⟨g, j, none⟩) (yt.length + 1) (xt.length + 1 - j)) (fun _ => trivial) (by kernel_rfl) rfl (by kernel_rfl) (by kernel_rfl) (by kernel_rfl) (by kernel_rfl) (fun _ _ _ h => h) hC ⟨rfl, fun w hw => ?_⟩ ?_
        · obtain ⟨h0, h1, h2, h3⟩ := hw; go_simp; rw [if_pos (by omega), if_pos (by omega), if_neg (by omega), show ((j : Int) + (yt.length : Int) + 1).toNat - j = yt.length + 1 from by omega]
        refine wpC_take 10 (v := .slice (some ⟨d, 0, none⟩) yt.length (yt.length + 1)) (fun _ => trivial) (by kernel_rfl) rfl (by kernel_rfl) (by kernel_rfl) (by kernel_rfl) (by kernel_rfl) (fun _ _ _ h => h) hC ⟨rfl, fun w hw => ?_⟩ ?_
        · obtain ⟨h0, h1, h2, h3⟩ := hw; go_simp
        refine wpC_only 11 (by kernel_rfl) (wpOpIn_step rfl (fun K hK => ?_))
        go_simp
        refine (CallsIn.inRound l2 (callsIn_wide.2 HCON.out)).mono ?_
        rintro e W2 ⟨us, qd, rfl, hqd, hul, huL, huv, hulow, hB2, hG⟩
        have n1 : ∀ {b : Nat} {v : Value}, SBox W b v → SBox W2 b v := fun hb => hb.drew.grown hG (fun e => by injection e with e; exact hb.ne a5 e)
        have hC2 : (fun W : World => W.cell? ⟨w'.heap.size + 1, 0, none⟩ = some (.slice (some ⟨w'.heap.size, 0, none⟩) m m) ∧ W.cell? ⟨p, 0, none⟩ = some (.slice (some ⟨g, 0, none⟩) (xt.length + 1) (xt.length + 1)) ∧ W.cell? ⟨w.heap.size, 0, none⟩ = some (.slice (some ⟨bb, ob, none⟩) yt.length cb) ∧ W.cell? ⟨q, 0, none⟩ = some (.slice (some ⟨d, 0, none⟩) yt.length (yt.length + 1))) W2 := ⟨(n1 a11).cell, (n1 a9).cell, (n1 a8).cell, (n1 a10).cell⟩
        refine hK _ _ ⟨fun _ => hC2, ?_⟩
        clear hK K
        refine wpC_take 12 (v := .pointer (some ⟨w'.heap.size, j, none⟩)) (fun _ => trivial) (by kernel_rfl) rfl (by kernel_rfl) (by kernel_rfl) (by kernel_rfl) (by kernel_rfl) (fun _ _ _ h => h) hC2 ⟨rfl, fun w hw => ?_⟩ ?_
        · obtain ⟨h0, h1, h2, h3⟩ := hw; go_simp
        have hQ : Blk W2 w'.heap.size (U qq) := a7.drew.grown hG (fun e => by injection e with e; omega)
        have hqc : W2.cell? ⟨w'.heap.size, j, none⟩ = some (.int .u32 ((qq[j]?.getD 0 : Nat) : Int)) := by rw [hQ.cell, U_get _ _ (by rw [HLQ.out]; exact hj)]
        have hqf := hQ.frozen j
        refine wpC_only 13 (by kernel_rfl) (wpOpIn_step rfl (fun K hK => ?_))
        go_simp
        have n2 : ∀ {b : Nat} {v : Value}, SBox W b v → (W2.setCell ⟨w'.heap.size, j, none⟩ (.int .u32 (qd : Int))).cell? ⟨b, 0, none⟩ = some v := fun hb => ((n1 hb).far ((n1 hb).ne hQ) _).cell
        refine hK _ _ ⟨fun _ => ⟨n2 a11, n2 a9, n2 a8, n2 a10⟩, ?_⟩
        clear hK K
        refine wpC_done (by kernel_rfl) ?_
        have hjx := HJX.out
        subst hjx
        gi_wp2
        refine ⟨((Keeps8.refl _ W).drew.grown hG (fun k e => by injection e with e; exact .inl (by omega))).grown (only_setCell (p := ⟨w'.heap.size, _, none⟩) (only_refl W2 (some w'.heap.size)) (.inl rfl) _) (fun k e => by injection e with e; exact .inl (by omega)), ?_⟩
        exact DvI.step HA1.out a2 HA3.out a4 a6.drew a7.drew a8.drew a9.drew a10.drew a11.drew a12.drew a13.drew HA14.out a5.drew r6 (by omega) (by omega) (by omega) (by omega) hm1 hdlt hqd hul huL huv hulow hB2 hG
      case done =>
        rintro D zz W hD hS ⟨cur, qq, a1, a2, a3, a4, a5, a6, a7, a8, a9, a10, a11, a12, a13, a14⟩ hK
        have hend := DvI.done a14 hS
        have HEND := Lib.hid hend
        clear hend hS a14
        have c9 := a9.cell
        have c11 := a11.cell
        have hcon := shiftDown_any g (xt.length + 1) [] cur [] s W (by simpa using a5) a2 hs (by omega)
        rw [a1] at hcon
        simp only [List.length_nil] at hcon
        gi_wp2_with fail
        refine (callsIn_wide.2 hcon).mono ?_
        rintro e w3 ⟨zr, rfl, z1, z2, z3, z4, z5⟩
        have n1 : ∀ {b : Nat} {v : Value}, SBox W b v → SBox w3 b v := fun hb => hb.grown z5 (fun e => by injection e with e; exact hb.ne a5 e)
        have d9 := (n1 a9).cell
        have d11 := (n1 a11).cell
        have hB4 : Blk w3 g (U zr) := by simpa using z4
        have hQ4 : Blk w3 w'.heap.size (U qq) := a7.grown z5 (fun e => by injection e with e; omega)
        have hrz : Rd w3 (some ⟨g, 0, none⟩) zr := Rd.of_blk (pre := []) (post := []) (by simpa using hB4)
        have hrq : Rd w3 (some ⟨w'.heap.size, 0, none⟩) qq := Rd.of_blk (pre := []) (post := []) (by simpa using hQ4)
        have ht1 := trimmed_any (some ⟨g, 0, none⟩) (xt.length + 1) zr w3.drew hrz.drew (by omega) (by unfold maxLen; omega)
        have ht2 := trimmed_any (some ⟨w'.heap.size, 0, none⟩) m qq w3.drew hrq.drew (by omega) (by unfold maxLen; omega)
        rw [z1] at ht1
        rw [a3] at ht2
        have HT1 := Lib.hid ht1
        have HT2 := Lib.hid ht2
        have HZ3 := Lib.hid z3
        have HZ1 := Lib.hid z1
        have HA3 := Lib.hid a3
        clear ht1 ht2 c9 c11 hcon z3 z1 a3
        gi_wp2_with fail
        refine Code.wpIn_mono (Q := OnNormal fun a' w4 => (∃ t : Array Value, a' = { tmps := t, defers := [{ target := Target.collected D, args := #[] }] } ∧ t.getD 4 undef = .slice (some ⟨w'.heap.size, 0, none⟩) (trim qq).length m ∧ t.getD 5 undef = .slice (some ⟨g, 0, none⟩) (trim zr).length (xt.length + 1) ∧ t.getD 6 undef = .int .i64 0) ∧ w4 = w3.drew) ?cont3 ?reg3
        case reg3 =>
          gi_region_with (first | (gi_at_call_has 62 (Value.slice (some ⟨g, 0, none⟩) (xt.length + 1) (xt.length + 1)); refine (callsIn_wide.2 HT1.out).mono ?_; rintro e w1 ⟨rfl, rfl⟩) | (gi_at_call_has 62 (Value.slice (some ⟨w'.heap.size, 0, none⟩) m m); refine (callsIn_wide.2 HT2.out).mono ?_; rintro e w1 ⟨rfl, rfl⟩))
          all_goals exact ⟨⟨_, rfl, rfl, rfl, rfl⟩, rfl⟩
        case cont3 =>
          intro e a' w4 hq
          cases e <;> first | exact hq.elim | skip
          obtain ⟨⟨t, rfl, t4, t5, t6⟩, rfl⟩ := hq
          have hK3 : w3.drew.heap[D]? = some (.deferred (some [])) := (z5.block D (Array.getElem?_eq_some_iff.1 hK).1 (fun e => by injection e with e; omega)).trans hK
          have T4 := Lib.hid t4
          have T5 := Lib.hid t5
          have T6 := Lib.hid t6
          clear t4 t5 t6
          gi_wp2_with fail
          refine ⟨by simp, .inl ⟨_, _, rfl, run_takeDeferred hK3, ?_⟩⟩
          refine ⟨_, results_tmp3 rfl _ _ _, ?_⟩
          show DivE w (val xt) (val yt) (.returned (.tuple #[t.getD 4 undef, t.getD 5 undef, t.getD 6 undef])) _
          rw [T4.out, T5.out, T6.out]
          have e1 := HEND.out
          rw [HDV.out, HR12.out] at e1
          obtain ⟨e2, e3⟩ := div_end e1.2 e1.1 HZ3.out (Nat.mod_lt _ (Nat.pow_pos (by decide)))
          have hgo := grownBy_putObj' w3.drew D (.deferred none)
          refine ⟨_, _, _, rfl, ?_, .inr (.inr ⟨hs1, hs2, hs3, rfl, ?_, ?_⟩)⟩
          · exact ((a13.grown z5 a13.size (fun k e => by injection e with e; omega)).drew).grown hgo (by have := a13.size; have := z5.size; show w.heap.size ≤ w3.heap.size; omega) (fun k e => by injection e with e; omega)
          · refine ⟨_, _, trim qq, rfl, by have := trim_length_le qq; rw [HA3.out] at this; exact this, by omega, ?_, can_trim a4, by rw [val_trim]; exact e2⟩
            exact Rd.grown (row := some D) (hrq.drew.trim) hgo (fun k e ad e2 => by injection e with e; injection e2 with e2; subst e2; show w'.heap.size ≠ k; omega)
          · refine ⟨_, _, trim zr, rfl, by have := trim_length_le zr; rw [HZ1.out] at this; exact this, by omega, ?_, can_trim z2, by rw [val_trim]; exact e3⟩
            exact Rd.grown (row := some D) (hrz.drew.trim) hgo (fun k e ad e2 => by injection e with e; injection e2 with e2; subst e2; show g ≠ k; omega)


end LM
end Go.Proofs.YtfckjapedjjhpaaDoor
