/- Walks of Gcd: exact's, by jumps, and the document's, by a loop. -/
import Derived.Test.YtfckjapedjjhpaaDoorExactU
import Derived.WalkMore
import Derived.ScopeJumps
import Derived.Deep.LoopGhost
import Derived.Deep.QuietTactic
import Derived.BigQuiet
namespace Go.Proofs.YtfckjapedjjhpaaDoor
open Go.RowKit
namespace LM
set_option linter.unusedVariables false

/-- a scope that is jumped back into, each time with a lesser number -/
theorem scope_ghost {P : Program} {Q : Exit → Act → World → Prop} {a : Act} {w : World} {c rest : Code} (l : Nat) (J : Nat → Act → World → Prop) (hf : findLabel c l = some rest)
    (first : c.wp P (Exit.jump l (fun a' w' => ∃ n, J n a' w') Q) a w)
    (pass : ∀ n a w, J n a w → rest.wp P (Exit.jump l (fun a' w' => ∃ m, m < n ∧ J m a' w') Q) a w) : (Code.scope c).wp P Q a w := by
  refine wp_scope_jumps l (fun a w => ∃ n, J n a w) (fun a w => leastOf fun n => J n a w) hf first ?_
  intro a w hJ
  obtain ⟨h0, -⟩ := leastOf_spec hJ
  refine wp_mono (pass _ a w h0) ?_
  intro e a' w' he
  cases e with
  | goto l' =>
    obtain ⟨rfl, m, hm, hj⟩ := he
    exact ⟨rfl, ⟨m, hj⟩, Nat.lt_of_le_of_lt ((leastOf_spec ⟨m, hj⟩).2 m hj) hm⟩
  | normal => exact he
  | exit id => exact he
  | ret => exact he
  | panic ch => exact he
  | outgrown => exact he

theorem retI_mk {w w' : World} {s : Bool} {A : Option Addr} {n c : Nat} {z : Int} (h : IntV w' (.agg #[.bool s, .slice A n c]) z) (hb : Below w.heap.size w w') : RetI w z (.returned (.agg #[.bool s, .slice A n c])) w' := by
  have hs := h.parts.1
  subst hs
  exact ⟨A, n, c, rfl, h, hb⟩
/-- where the rounds of Gcd stand -/
def Gst (w w' : World) (A1 A2 : Option Addr) (c1 c2 : Nat) (r1 r2 : List Nat) (g : Nat) : Prop :=
  Rd w' A1 r1 ∧ Rd w' A2 r2 ∧ Can r1 ∧ Can r2 ∧ (r1.length ≤ c1 ∧ c1 ≤ 9223372036854775807 ∧ r1.length ≤ 64) ∧ (r2.length ≤ c2 ∧ c2 ≤ 9223372036854775807 ∧ r2.length ≤ 64) ∧ Nat.gcd (val r1) (val r2) = g ∧ Bx w' (w.heap.size + 1 + 1) false none 0 0 ∧ Below w.heap.size w w'

set_option maxRecDepth 100000 in
set_option maxHeartbeats 4000000 in
theorem egcd_any (s t : Bool) (A B : Option Addr) (ca cb : Nat) (xs ys : List Nat) (w : World) (ha : Rd w A xs) (hb : Rd w B ys) (hx : Can xs) (hy : Can ys) (hca : xs.length ≤ ca) (hcb : ys.length ≤ cb) (hcam : ca ≤ 9223372036854775807) (hcbm : cb ≤ 9223372036854775807)
    (hxl : xs.length ≤ 64) (hyl : ys.length ≤ 64) :
    Calls Tryd.prog 36 #[.agg #[.bool s, .slice A xs.length ca], .agg #[.bool t, .slice B ys.length cb]] w (RetI w (sg false (Nat.gcd (val xs) (val ys)))) := by
  obtain ⟨hb0, x0, y0, z0⟩ := new3 w s t A B xs.length ca ys.length cb
  have HB0 := Lib.hid hb0
  have X0 := Lib.hid x0
  have Y0 := Lib.hid y0
  have Z0 := Lib.hid z0
  have HA0 := Lib.hid (ha.below hb0)
  have HBB0 := Lib.hid (hb.below hb0)
  have HX := Lib.hid hx
  have HY := Lib.hid hy
  clear hb0 x0 y0 z0 ha hb hx hy
  go_enter Tryd.func36, Tryd.ntmps36
  go_wp2
  refine scope_ghost 0 (fun n a' w' => ∃ (A1 A2 : Option Addr) (c1 c2 : Nat) (r1 r2 : List Nat) (u7 u8 u9 u10 u11 u12 u13 u14 u15 u16 u17 u18 u19 u20 u21 u22 u23 u24 u25 u26 u27 u28 : Value),
      a' = { tmps := #[.agg #[.bool s, .slice A xs.length ca], .agg #[.bool t, .slice B ys.length cb], .pointer (some ⟨w.heap.size, 0, none⟩), .pointer (some ⟨w.heap.size + 1, 0, none⟩), .pointer (some ⟨w.heap.size + 1 + 1, 0, none⟩), .slice A1 r1.length c1, .slice A2 r2.length c2, u7, u8, u9, u10, u11, u12, u13, u14, u15, u16, u17, u18, u19, u20, u21, u22, u23, u24, u25, u26, u27, u28], defers := [] } ∧
      Gst w w' A1 A2 c1 c2 r1 r2 (Nat.gcd (val xs) (val ys)) ∧ val r2 = n) rfl ?_ ?_
  · go_wp2
    go_quiet (fail)
    have hst : Gst w ((((w.alloc (.cells #[.bool s, .slice A xs.length ca] 24)).alloc (.cells #[.bool t, .slice B ys.length cb] 24)).alloc (.cells #[.bool false, .slice none 0 0] 24)).drewN nq) A B ca cb xs ys (Nat.gcd (val xs) (val ys)) :=
      ⟨HA0.out.drewN nq, HBB0.out.drewN nq, HX.out, HY.out, ⟨hca, hcam, hxl⟩, ⟨hcb, hcbm, hyl⟩, rfl, Z0.out, HB0.out.trans (Joins.below_le (Joins.below_draws _ _ _) HB0.out.size)⟩
    generalize ((((w.alloc (.cells #[.bool s, .slice A xs.length ca] 24)).alloc (.cells #[.bool t, .slice B ys.length cb] 24)).alloc (.cells #[.bool false, .slice none 0 0] 24)).drewN nq) = wr at hst ⊢
    have hst' := Lib.hid hst
    clear hst
    go_wp2_with fail
    go_step3
    have hst := hst'.out
    clear hst'
    obtain ⟨h1, h2, h3, h4, ⟨h5, h6, h7⟩, ⟨h8, h9, h10⟩, h11, h12, h13⟩ := hst
    have H1 := Lib.hid h1
    have H2 := Lib.hid h2
    have H3 := Lib.hid h3
    have H4 := Lib.hid h4
    have H11 := Lib.hid h11
    have H12 := Lib.hid h12
    have H13 := Lib.hid h13
    clear h1 h2 h3 h4 h11 h12 h13
    by_cases h0 : ys.length = 0
    · have hd : decide (0 < ys.length) = false := decide_eq_false (by omega)
      have hvg : val xs = Nat.gcd (val xs) (val ys) := by rw [(can_zero H4.out).1 h0, Nat.gcd_zero_right]
      have HVG := Lib.hid hvg
      have HT := Lib.hid (trimUp_any A ca xs wr H1.out H3.out.1 h5 h6 (by omega))
      clear h0 hvg
      go_wp2_with fail
      refine HT.out.mono ?_
      rintro e w2 ⟨q, rfl, hB, hq, hqv, hql, hb2⟩
      have hq1 : Rd w2 (some ⟨wr.heap.size, 0, none⟩) q := Rd.of_blk (pre := []) (post := []) (by simpa using hB)
      have HS := Lib.hid (signed_num false _ q.length q w2 (Nat.le_refl _) (by omega) hq1 hq)
      rw [hqv, HVG.out] at HS
      have Z2 := Lib.hid (H12.out.below hb2)
      have HB2 := Lib.hid (H13.out.trans (hb2.mono H13.out.size))
      clear hB hq hqv hql hb2 hq1
      go_wp2_with fail
      refine HS.out.mono ?_
      intro e w3 hr
      obtain ⟨s3, A3, n3, c3, rfl, hv3, hb3⟩ := hr.gen
      have Z3 := Lib.hid (Z2.out.below hb3)
      obtain ⟨q0, q1, z0, z1, zl⟩ := Z3.out.facts
      have HB3 := Lib.hid (HB2.out.trans (hb3.mono HB2.out.size))
      have HV3 := Lib.hid hv3
      clear hr hv3 hb3
      go_wp2
      obtain ⟨W4, hW4, Z, hb4, hv4, -, -, -⟩ := stored_world Z3.out HB3.out (by omega) s3 A3 n3 c3
      rw [hW4]
      have HV4 := Lib.hid (hv4 _ _ HV3.out)
      obtain ⟨c0, ca', -, -, -⟩ := Z.facts
      clear q0 q1 z0 z1 zl hW4 hv4
      simp only [Exit.jump]
      refine bodyPost_ret (v := .agg #[.bool s3, .slice A3 n3 c3]) (by simp [results, Tryd.results36, go_sem, c0, ca']) rfl ?_
      exact retI_mk HV4.out hb4
    · have hd : decide (0 < ys.length) = true := decide_eq_true (by omega)
      have HP := Lib.hid ((can_pos H4.out).1 (by omega))
      have HD := Lib.hid (div_any A B ca cb xs ys wr H1.out H2.out H3.out.1 H4.out.1 h5 h8 h6 h9)
      have N1 := Lib.hid (not_big_len H3.out h7)
      have N2 := Lib.hid (not_big_len H4.out h10)
      clear h0
      go_wp2_with fail
      refine HD.out.mono ?_
      intro e w2 hdv
      obtain ⟨A3, c3, r3, A4, c4, r4, er, rfl, -, ⟨b1, b2, b3, b4⟩, hcase, hb2⟩ := div_open hdv N1.out N2.out
      have hv4 : val r4 = val xs % val ys := by
        rcases hcase with ⟨k0, _⟩ | ⟨_, _, _, k⟩
        · exact absurd k0 (by have := HP.out; omega)
        · exact k
      have l4 : r4.length ≤ 64 := len_not_big b4 (by rw [hv4]; exact fun h => N1.out (h.mono (Nat.mod_le _ _)))
      have hst2 : Gst w w2 B A4 cb c4 ys r4 (Nat.gcd (val xs) (val ys)) := ⟨H2.out.below hb2, b3, H4.out, b4, ⟨h8, h9, h10⟩, ⟨b1, b2, l4⟩, by rw [hv4, ← gcd_step], H12.out.below hb2, H13.out.trans (hb2.mono H13.out.size)⟩
      have HST := Lib.hid hst2
      have HLT : Hid (val r4 < val ys) := Lib.hid (by rw [hv4]; exact Nat.mod_lt _ HP.out)
      clear hdv hcase hv4 b3 b4 hst2 hb2
      go_wp2
      go_step3
      refine (show (0 = 0 ∧ ∃ m, _) from ⟨rfl, val r4, B, A4, cb, c4, ys, r4, _, _, _, _, _, _, _, _, _, _, _, _, _, _, _, _, _, _, _, _, _, _, rfl, HST.out, rfl⟩)

  · rintro n a wr ⟨A1, A2, c1, c2, r1, r2, u7, u8, u9, u10, u11, u12, u13, u14, u15, u16, u17, u18, u19, u20, u21, u22, u23, u24, u25, u26, u27, u28, rfl, hst, rfl⟩
    obtain ⟨h1, h2, h3, h4, ⟨h5, h6, h7⟩, ⟨h8, h9, h10⟩, h11, h12, h13⟩ := hst
    have H1 := Lib.hid h1
    have H2 := Lib.hid h2
    have H3 := Lib.hid h3
    have H4 := Lib.hid h4
    have H11 := Lib.hid h11
    have H12 := Lib.hid h12
    have H13 := Lib.hid h13
    clear h1 h2 h3 h4 h11 h12 h13
    by_cases h0 : r2.length = 0
    · have hd : decide (0 < r2.length) = false := decide_eq_false (by omega)
      have hvg : val r1 = Nat.gcd (val xs) (val ys) := by have := H11.out; rw [(can_zero H4.out).1 h0, Nat.gcd_zero_right] at this; exact this
      have HVG := Lib.hid hvg
      have HT := Lib.hid (trimUp_any A1 c1 r1 wr H1.out H3.out.1 h5 h6 (by omega))
      clear h0 hvg
      go_wp2_with fail
      refine HT.out.mono ?_
      rintro e w2 ⟨q, rfl, hB, hq, hqv, hql, hb2⟩
      have hq1 : Rd w2 (some ⟨wr.heap.size, 0, none⟩) q := Rd.of_blk (pre := []) (post := []) (by simpa using hB)
      have HS := Lib.hid (signed_num false _ q.length q w2 (Nat.le_refl _) (by omega) hq1 hq)
      rw [hqv, HVG.out] at HS
      have Z2 := Lib.hid (H12.out.below hb2)
      have HB2 := Lib.hid (H13.out.trans (hb2.mono H13.out.size))
      clear hB hq hqv hql hb2 hq1
      go_wp2_with fail
      refine HS.out.mono ?_
      intro e w3 hr
      obtain ⟨s3, A3, n3, c3, rfl, hv3, hb3⟩ := hr.gen
      have Z3 := Lib.hid (Z2.out.below hb3)
      obtain ⟨q0, q1, z0, z1, zl⟩ := Z3.out.facts
      have HB3 := Lib.hid (HB2.out.trans (hb3.mono HB2.out.size))
      have HV3 := Lib.hid hv3
      clear hr hv3 hb3
      go_wp2
      obtain ⟨W4, hW4, Z, hb4, hv4, -, -, -⟩ := stored_world Z3.out HB3.out (by omega) s3 A3 n3 c3
      rw [hW4]
      have HV4 := Lib.hid (hv4 _ _ HV3.out)
      obtain ⟨c0, c1', -, -, -⟩ := Z.facts
      clear q0 q1 z0 z1 zl hW4 hv4
      simp only [Exit.jump]
      refine bodyPost_ret (v := .agg #[.bool s3, .slice A3 n3 c3]) (by simp [results, Tryd.results36, go_sem, c0, c1']) rfl ?_
      exact retI_mk HV4.out hb4
    · have hd : decide (0 < r2.length) = true := decide_eq_true (by omega)
      have HP := Lib.hid ((can_pos H4.out).1 (by omega))
      have HD := Lib.hid (div_any A1 A2 c1 c2 r1 r2 wr H1.out H2.out H3.out.1 H4.out.1 h5 h8 h6 h9)
      have N1 := Lib.hid (not_big_len H3.out h7)
      have N2 := Lib.hid (not_big_len H4.out h10)
      clear h0
      go_wp2_with fail
      refine HD.out.mono ?_
      intro e w2 hdv
      obtain ⟨A3, c3, r3, A4, c4, r4, er, rfl, -, ⟨b1, b2, b3, b4⟩, hcase, hb2⟩ := div_open hdv N1.out N2.out
      have hv4 : val r4 = val r1 % val r2 := by
        rcases hcase with ⟨k0, _⟩ | ⟨_, _, _, k⟩
        · exact absurd k0 (by have := HP.out; omega)
        · exact k
      have l4 : r4.length ≤ 64 := len_not_big b4 (by rw [hv4]; exact fun h => N1.out (h.mono (Nat.mod_le _ _)))
      have hst2 : Gst w w2 A2 A4 c2 c4 r2 r4 (Nat.gcd (val xs) (val ys)) := ⟨H2.out.below hb2, b3, H4.out, b4, ⟨h8, h9, h10⟩, ⟨b1, b2, l4⟩, by rw [hv4, ← gcd_step]; exact H11.out, H12.out.below hb2, H13.out.trans (hb2.mono H13.out.size)⟩
      have HST := Lib.hid hst2
      have HLT : Hid (val r4 < val r2) := Lib.hid (by rw [hv4]; exact Nat.mod_lt _ HP.out)
      clear hdv hcase hv4 b3 b4 hst2 hb2
      go_wp2
      go_step3
      refine (show (0 = 0 ∧ ∃ m, m < val r2 ∧ _) from ⟨rfl, val r4, HLT.out, A2, A4, c2, c4, r2, r4, _, _, _, _, _, _, _, _, _, _, _, _, _, _, _, _, _, _, _, _, _, _, rfl, HST.out, rfl⟩)

/-- where the rounds of the document's Gcd stand -/
def GstR (w w' : World) (A1 A2 : Option Addr) (r1 r2 : List Nat) (g : Nat) : Prop :=
  Rd w' A1 r1 ∧ Rd w' A2 r2 ∧ Can r1 ∧ Can r2 ∧ r1.length ≤ 64 ∧ r2.length ≤ 64 ∧ Nat.gcd (val r1) (val r2) = g ∧ Bx w' (w.heap.size + 1 + 1) false none 0 0 ∧ Below w.heap.size w w'

set_option maxRecDepth 100000 in
set_option maxHeartbeats 4000000 in
theorem rgcd_any (s t : Bool) (A B : Option Addr) (ca cb : Nat) (xs ys : List Nat) (w : World) (ha : Rd w A xs) (hb : Rd w B ys) (hx : Can xs) (hy : Can ys) (hxl : xs.length ≤ 64) (hyl : ys.length ≤ 64) :
    Calls Tryd.prog 37 #[.agg #[.bool s, .slice A xs.length ca], .agg #[.bool t, .slice B ys.length cb]] w (RetR w (sg false (Nat.gcd (val xs) (val ys)))) := by
  obtain ⟨hb0, x0, y0, z0⟩ := new3 w s t A B xs.length ca ys.length cb
  have HB0 := Lib.hid hb0
  have Z0 := Lib.hid z0
  have HA0 := Lib.hid (ha.below hb0)
  have HBB0 := Lib.hid (hb.below hb0)
  have HX := Lib.hid hx
  have HY := Lib.hid hy
  clear hb0 x0 y0 z0 ha hb hx hy
  go_enter Tryd.func37, Tryd.ntmps37
  go_wp2
  go_quiet (fail)
  have hst : GstR w ((((w.alloc (.cells #[.bool s, .slice A xs.length ca] 24)).alloc (.cells #[.bool t, .slice B ys.length cb] 24)).alloc (.cells #[.bool false, .slice none 0 0] 24)).drewN nq) A B xs ys (Nat.gcd (val xs) (val ys)) :=
    ⟨HA0.out.drewN nq, HBB0.out.drewN nq, HX.out, HY.out, hxl, hyl, rfl, Z0.out, HB0.out.trans (Joins.below_le (Joins.below_draws _ _ _) HB0.out.size)⟩
  generalize ((((w.alloc (.cells #[.bool s, .slice A xs.length ca] 24)).alloc (.cells #[.bool t, .slice B ys.length cb] 24)).alloc (.cells #[.bool false, .slice none 0 0] 24)).drewN nq) = wq at hst ⊢
  have HST := Lib.hid hst
  clear hst
  go_wp2
  go_loopg [5, 6] (val ys) (fun n a b wr => ∃ (A1 A2 : Option Addr) (c1 c2 : Nat) (r1 r2 : List Nat), a = .slice A1 r1.length c1 ∧ b = .slice A2 r2.length c2 ∧ GstR w wr A1 A2 r1 r2 (Nat.gcd (val xs) (val ys)) ∧ val r2 = n)
  case atStart => exact ⟨A, B, ca, cb, xs, ys, rfl, rfl, HST.out, rfl⟩
  case round =>
    obtain ⟨A1, A2, c1, c2, r1, r2, rfl, rfl, hst, hn⟩ := hrel
    obtain ⟨h1, h2, h3, h4, h7, h10, h11, h12, h13⟩ := hst
    have H1 := Lib.hid h1
    have H2 := Lib.hid h2
    have H3 := Lib.hid h3
    have H4 := Lib.hid h4
    have H11 := Lib.hid h11
    have H12 := Lib.hid h12
    have H13 := Lib.hid h13
    have HN := Lib.hid hn
    clear h1 h2 h3 h4 h11 h12 h13 hn
    by_cases h0 : r2.length = 0
    · have hd : decide (0 < r2.length) = false := decide_eq_false (by omega)
      have hvg : val r1 = Nat.gcd (val xs) (val ys) := by have := H11.out; rw [(can_zero H4.out).1 h0, Nat.gcd_zero_right] at this; exact this
      have HM := Lib.hid (rmade_num false A1 c1 r1 wr (by omega) H1.out H3.out)
      rw [hvg] at HM
      clear h0 hvg
      go_wp2_with fail
      refine HM.out.mono ?_
      rintro e w3 ⟨s3, A3, n3, c3, rfl, hv3, hb3⟩
      have Z3 := Lib.hid (H12.out.below hb3)
      obtain ⟨q0, q1, z0, z1, zl⟩ := Z3.out.facts
      have HB3 := Lib.hid (H13.out.trans (hb3.mono H13.out.size))
      have HV3 := Lib.hid hv3
      clear hv3 hb3
      go_wp2
      obtain ⟨W4, hW4, Z, hb4, -, hv4, -, -⟩ := stored_world Z3.out HB3.out (by omega) s3 A3 n3 c3
      rw [hW4]
      have HV4 := Lib.hid (hv4 _ _ HV3.out)
      obtain ⟨c0, c1', -, -, -⟩ := Z.facts
      clear q0 q1 z0 z1 zl hW4 hv4
      refine bodyPost_ret (v := .agg #[.bool s3, .slice A3 n3 c3]) (by simp [results, Tryd.results37, go_sem, c0, c1']) rfl ?_
      exact ⟨_, _, _, _, rfl, HV4.out, hb4⟩
    · have hd : decide (0 < r2.length) = true := decide_eq_true (by omega)
      have HP := Lib.hid ((can_pos H4.out).1 (by omega))
      have HD := Lib.hid (rsplit_any A1 A2 c1 c2 r1 r2 wr H1.out H2.out H3.out.1 H4.out.1 (by omega) (by omega) HP.out)
      have N1 := Lib.hid (not_big_len H3.out h7)
      clear h0
      go_wp2_with fail
      refine HD.out.mono ?_
      rintro e w2 ⟨⟨q, r, rfl, ⟨A3, c3, r3, rfl, -, -, -, -⟩, ⟨A4, c4, r4, rfl, -, b3, b4, b5⟩⟩, hb2⟩
      have l4 : r4.length ≤ 64 := len_not_big b4 (by rw [b5]; exact fun h => N1.out (h.mono (Nat.mod_le _ _)))
      have HST2 : Hid (GstR w w2 A2 A4 r2 r4 (Nat.gcd (val xs) (val ys))) := Lib.hid ⟨H2.out.below hb2, b3, H4.out, b4, h10, l4, by rw [b5, ← gcd_step]; exact H11.out, H12.out.below hb2, H13.out.trans (hb2.mono H13.out.size)⟩
      have HLT : Hid (val r4 < gk) := Lib.hid (by rw [b5, ← HN.out]; exact Nat.mod_lt _ HP.out)
      clear b3 b4 b5 hb2
      go_wp2
      go_roundg (val r4)
      case measure => exact HLT.out
      case rel => exact ⟨A2, A4, c2, c4, r2, r4, rfl, rfl, HST2.out, rfl⟩

theorem egcd_int {va vb : Value} {x y : Int} {w : World} (ha : IntV w va x) (hb : IntV w vb y) (hx : ¬ BigI x) (hy : ¬ BigI y) : Calls Tryd.prog 36 #[va, vb] w (RetI w (Nat.gcd x.natAbs y.natAbs : Nat)) := by
  obtain ⟨A, ca, xs, rfl, h1, h2, h3, h4, h5⟩ := ha
  obtain ⟨B, cb, ys, rfl, k1, k2, k3, k4, k5⟩ := hb
  have l1 : xs.length ≤ 64 := len_not_big h4 (by rw [h5]; exact hx)
  have l2 : ys.length ≤ 64 := len_not_big k4 (by rw [k5]; exact hy)
  have h := egcd_any (decide (x < 0)) (decide (y < 0)) A B ca cb xs ys w h3 k3 h4 k4 h1 k1 h2 k2 l1 l2
  rw [h5, k5] at h
  exact h
theorem rgcd_int {va vb : Value} {x y : Int} {w : World} (ha : IntR w va x) (hb : IntR w vb y) (hx : ¬ BigI x) (hy : ¬ BigI y) : Calls Tryd.prog 37 #[va, vb] w (RetR w (Nat.gcd x.natAbs y.natAbs : Nat)) := by
  obtain ⟨A, ca, xs, rfl, h3, h4, h5⟩ := ha
  obtain ⟨B, cb, ys, rfl, k3, k4, k5⟩ := hb
  have l1 : xs.length ≤ 64 := len_not_big h4 (by rw [h5]; exact hx)
  have l2 : ys.length ≤ 64 := len_not_big k4 (by rw [k5]; exact hy)
  have h := rgcd_any (decide (x < 0)) (decide (y < 0)) A B ca cb xs ys w h3 k3 h4 k4 l1 l2
  rw [h5, k5] at h
  exact h

end LM
end Go.Proofs.YtfckjapedjjhpaaDoor
