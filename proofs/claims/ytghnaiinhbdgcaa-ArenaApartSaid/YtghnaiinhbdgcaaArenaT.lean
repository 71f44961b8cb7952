/- Walks of package arena: the law ArenaApart. Written by genT.py. -/
import Derived.Test.YtghnaiinhbdgcaaArenaS
namespace Go.Proofs.Ytghnaiinhbdgcaa
open Go Go.RowKit
namespace LM
set_option linter.unusedVariables false
set_option linter.unusedSimpArgs false

theorem apart_facts {nb NG n0 m E D E1 q : Nat} (hN : nb * 256 = NG) (h8 : nb ≤ 8) (hm1 : 1 ≤ m) (hm2 : m ≤ 256) (hE : n0 + m = E) (hD : NG - m = D) (hE1 : E - 1 = E1) (hq : n0 / 256 = q) (q2 : E1 / 256 = q) (ht : E ≤ 256 * nb) :
    decide ((m : Int) < 1) = false ∧ decide (m < 1) = false ∧ decide ((256 : Int) < (m : Int)) = false ∧ decide (256 < m) = false ∧ RowKit.wrap64 ((NG : Int) - (m : Int)) = (D : Int) ∧ decide ((D : Int) < (n0 : Int)) = false ∧ decide (D < n0) = false ∧ Int.tdiv (n0 : Int) 256 = (q : Int) ∧ RowKit.wrap64 (q : Int) = (q : Int) ∧ RowKit.wrap64 ((n0 : Int) + (m : Int)) = (E : Int) ∧ RowKit.wrap64 ((E : Int) - 1) = (E1 : Int) ∧ Int.tdiv (E1 : Int) 256 = (q : Int) := by
  refine ⟨decide_eq_false (by omega), decide_eq_false (by omega), decide_eq_false (by omega), decide_eq_false (by omega), ?_, decide_eq_false (by omega), decide_eq_false (by omega), by rw [← hq]; rfl, wrapn (by omega), ?_, ?_, by rw [← q2]; rfl⟩
  · rw [show (NG : Int) - (m : Int) = (D : Int) by omega]; exact wrapn (by omega)
  · rw [show (n0 : Int) + (m : Int) = (E : Int) by omega]; exact wrapn (by omega)
  · rw [show (E : Int) - 1 = (E1 : Int) by omega]; exact wrapn (by omega)
theorem mark_facts {nb NG x0 m E D : Nat} (h8 : nb ≤ 8) (hN : nb * 256 = NG) (m2 : (x0 : Int) < (NG : Int)) (m3 : 0 < (m : Int)) (m4 : (m : Int) ≤ (NG : Int) - (x0 : Int)) (hE : x0 + m = E) (hD : NG - x0 = D) :
    decide ((x0 : Int) < (NG : Int)) = true ∧ decide (x0 < NG) = true ∧ decide ((0 : Int) < (m : Int)) = true ∧ decide (0 < m) = true ∧ RowKit.wrap64 ((NG : Int) - (x0 : Int)) = (D : Int) ∧ decide ((m : Int) ≤ (D : Int)) = true ∧ decide (m ≤ D) = true ∧ RowKit.wrap64 ((x0 : Int) + (m : Int)) = (E : Int) := by
  refine ⟨decide_eq_true m2, decide_eq_true (by omega), decide_eq_true m3, decide_eq_true (by omega), ?_, decide_eq_true (by omega), decide_eq_true (by omega), ?_⟩
  · rw [show (NG : Int) - (x0 : Int) = (D : Int) by omega]; exact wrapn (by omega)
  · rw [show (x0 : Int) + (m : Int) = (E : Int) by omega]; exact wrapn (by omega)

theorem he_bounds {nb NG n0 m E : Nat} (hN : nb * 256 = NG) (ht : E ≤ 256 * nb) (hE : n0 + m = E) : n0 ≤ E ∧ E ≤ NG := by omega
theorem l13 {i E NG nb NK n0 p g : Nat} (hNG : nb * 256 = NG) (hNK : nb * 16 = NK) (h8 : nb ≤ 8) (hE : E ≤ NG) (hi : n0 ≤ i) (hlt : i < E) (hp : i / 16 = p) (hk : g = E - i) :
    i < 256 * nb ∧ p < 16 * nb ∧ p ≤ 4294967296 ∧ i ≤ 4294967295 ∧ (i : Int) < (E : Int) ∧ (i : Int) < (NG : Int) ∧ (p : Int) < (NK : Int) ∧ i < NG ∧ p < NK ∧ (i + 1 ≤ E ∧ E - (i + 1) < g ∧ n0 ≤ i + 1) := by omega
theorem he_mark {NG x0 m E : Nat} (m3 : 0 < (m : Int)) (m4 : (m : Int) ≤ (NG : Int) - (x0 : Int)) (hE : x0 + m = E) : x0 ≤ E ∧ E ≤ NG ∧ x0 + m = E ∧ 1 ≤ m := by omega
theorem sub_eq {x0 m i : Nat} (h : x0 + m = i) : (i : Int) - (x0 : Int) = (m : Int) := by omega
theorem f5l {nb NG : Nat} {xa : Int} (hN : nb * 256 = NG) (h8 : nb ≤ 8) (h1 : 0 ≤ xa) (h2 : xa < (NG : Int)) : -4294967296 ≤ (NG : Int) - xa ∧ (NG : Int) - xa ≤ 4294967296 := by omega

set_option maxRecDepth 100000 in
set_option maxHeartbeats 16000000 in
theorem aapart_yes (nb : Nat) (S : Option Addr) (xs : List Act4) (cap : Nat) (w : World) (h1 : 1 ≤ nb) (h8 : nb ≤ 8) (h200 : xs.length ≤ 200) (hx : ∀ x ∈ xs, ActR x) (hS : ActsAt w S xs) (hc : xs.length ≤ cap ∧ cap ≤ 9223372036854775807) :
    Calls Try.prog 4 #[.int .i64 (nb : Int), .slice S xs.length cap] w fun e w' => e = .returned (.bool true) ∧ Below w.heap.size w w' := by
  obtain ⟨N, hN⟩ : ∃ N, xs.length = N := ⟨_, rfl⟩
  rw [hN] at h200 hc ⊢
  have HM := Lib.hid fun w' (hm : Mv w w' []) => hm.below (B := w.heap.size) (Nat.le_refl _) (fun _ hk => by cases hk)
  have AL := Lib.hid (aalive w)
  have d1 : decide ((nb : Int) < 1) = false := decide_eq_false (by omega)
  have d2 : decide ((8 : Int) < (nb : Int)) = false := decide_eq_false (by omega)
  have d2' : decide (8 < nb) = false := decide_eq_false (by omega)
  have d3 : decide (200 < N) = false := decide_eq_false (by omega)
  have d4 : decide ((200 : Int) < (N : Int)) = false := decide_eq_false (by omega)
  obtain ⟨NG, hNG⟩ : ∃ NG, nb * 256 = NG := ⟨_, rfl⟩
  obtain ⟨NK, hNK⟩ : ∃ NK, nb * 16 = NK := ⟨_, rfl⟩
  have eg : RowKit.wrap64 (256 * (nb : Int)) = (NG : Int) := by rw [show 256 * (nb : Int) = (NG : Int) by omega]; exact wrapn (by omega)
  have ek : RowKit.wrap64 (16 * (nb : Int)) = (NK : Int) := by rw [show 16 * (nb : Int) = (NK : Int) by omega]; exact wrapn (by omega)
  have EG := Lib.hid eg
  have EK := Lib.hid ek
  have EGI := Lib.hid (show IntKind.i64.wrap (256 * (nb : Int)) = (NG : Int) by rw [IntKind.wrap_i64]; omega)
  have EKI := Lib.hid (show IntKind.i64.wrap (16 * (nb : Int)) = (NK : Int) by rw [IntKind.wrap_i64]; omega)
  have HNG := Lib.hid (And.intro hNG (And.intro hNK (And.intro h8 h1)))
  have NW := Lib.hid fun W => anew nb W h1 (Nat.le_trans h8 (by decide))
  have HS := Lib.hid (And.intro hS (And.intro hx hN))
  have HN := Lib.hid h200
  have HC := Lib.hid hc
  clear h1 h8 h200 hx hS hc hN hNG hNK
  go_enter Try.func4, Try.ntmps4
  go_wp2_with (fail)
  refine AL.out.mono ?_
  rintro e w1 ⟨rfl, m1⟩
  have M1 := Lib.hid m1
  clear m1
  go_wp2_with (fail)
  refine (NW.out _).mono ?_
  rintro e w2 ⟨b, wb, tb, mb, rfl, hA, hm, hk⟩
  have K2 := Lib.hid (show Below w.heap.size w w2 ∧ w.heap.size ≤ w2.heap.size ∧ AR w2 (Ar.new nb b wb tb mb) ∧ (∀ k ∈ (Ar.new nb b wb tb mb).blks, w.heap.size ≤ k) from ⟨HM.out _ (M1.out.trans hm), Nat.le_trans M1.out.size hm.size, hA, fun k hkk => Nat.le_trans M1.out.size (hk k hkk)⟩)
  clear hA hm hk d1 d2 d2' d3 d4
  go_upto_region 7 with (refine wpList_make_alloc _ rfl (.tmp 31) 33 rfl 4 (.bool false) 1 1 Try.underlying33 (by kernel_rfl) NG ((NG : Nat) : Int) (by first | rfl | (simp [Act.eval, Act.put, eg, ek]; done) | (simp [Act.eval, Act.put, EGI.out, EKI.out]; done)) rfl (by have := HNG.out; omega) (by have := HNG.out; omega) ?_)
  obtain ⟨V1, hV1⟩ : ∃ V1, w2.alloc (.cells (madeCells #[.bool false] NG) 4) = V1 := ⟨_, rfl⟩
  rw [hV1]
  have HV1 := Lib.hid hV1
  clear hV1
  go_upto_region 8 with (refine wpList_make_alloc _ rfl (.tmp 34) 33 rfl 4 (.bool false) 1 1 Try.underlying33 (by kernel_rfl) NK ((NK : Nat) : Int) (by first | rfl | (simp [Act.eval, Act.put, eg, ek]; done) | (simp [Act.eval, Act.put, EGI.out, EKI.out]; done)) rfl (by have := HNG.out; omega) (by have := HNG.out; omega) ?_)
  obtain ⟨V2, hV2⟩ : ∃ V2, V1.alloc (.cells (madeCells #[.bool false] NK) 4) = V2 := ⟨_, rfl⟩
  rw [hV2]
  have HV2 := Lib.hid hV2
  clear hV2
  go_upto_region 9 with (refine wpList_make_alloc _ rfl (.tmp 37) 33 rfl 4 (.bool false) 1 1 Try.underlying33 (by kernel_rfl) NK ((NK : Nat) : Int) (by first | rfl | (simp [Act.eval, Act.put, eg, ek]; done) | (simp [Act.eval, Act.put, EGI.out, EKI.out]; done)) rfl (by have := HNG.out; omega) (by have := HNG.out; omega) ?_)
  obtain ⟨V3, hV3⟩ : ∃ V3, V2.alloc (.cells (madeCells #[.bool false] NK) 4) = V3 := ⟨_, rfl⟩
  rw [hV3]
  have HV3 := Lib.hid hV3
  clear hV3
  have ST := Lib.hid (ap_start (b := b) (W2 := V1) (W3 := V2) (W4 := V3) K2.out.1 K2.out.2.1 K2.out.2.2.1 K2.out.2.2.2 (by rw [HNG.out.1]; exact HV1.out) (by rw [HNG.out.2.1]; exact HV2.out) (by rw [HNG.out.2.1]; exact HV3.out))
  go_upto_region 10 with (fail)
  try simp only [eg]
  try simp only [ek]
  clear eg ek
  go_loopg [6, 7, 8, 41] N (fun kk gv kv qv jv wr => ∃ j gb kb qb : Nat, gv = .slice (some ⟨gb, 0, none⟩) NG NG ∧ kv = .slice (some ⟨kb, 0, none⟩) NK NK ∧ qv = .slice (some ⟨qb, 0, none⟩) NK NK ∧ jv = .int .i64 (j : Int) ∧ kk = N - j ∧ j ≤ N ∧ Hid (∃ A nx G K Q, ApW w.heap.size nb b w wr gb kb qb A nx G Q G K Q))
  case atStart => exact ⟨0, _, _, _, rfl, rfl, rfl, rfl, rfl, Nat.zero_le _, Lib.hid ⟨_, _, _, _, _, ST.out⟩⟩
  case round =>
    obtain ⟨j, gb, kb, qb, rfl, rfl, rfl, rfl, hk, hj, hh⟩ := hrel
    obtain ⟨A, nx, G, K, Q, hP⟩ := hh.out
    obtain ⟨hS, hx, hN⟩ := HS.out
    by_cases hlt : j < N
    · obtain ⟨x, hxj⟩ : ∃ x, xs[j]? = some x := ⟨_, List.getElem?_eq_getElem (by omega)⟩
      obtain ⟨bb, off, rfl, c0, c1, c2, c3⟩ := acts_cells hS hP.bel (Nat.le_refl _) j hxj
      have hxr := hx x (List.mem_of_getElem? hxj)
      obtain ⟨xk, xn, xa, xv⟩ := x
      dsimp only at c0 c1 c2 c3
      obtain ⟨W3, hW3⟩ : ∃ W3, wr.alloc (.cells #[.int .i64 xk, .int .i64 xn, .int .i64 xa, .int .u64 xv] 35) = W3 := ⟨_, rfl⟩
      obtain ⟨k0, k1, k2, m3⟩ := act_block hW3
      have HW3 := Lib.hid hW3
      have P3 := Lib.hid (hP.mv0 m3)
      have HXB := Lib.hid (show wr.heap.size < W3.heap.size ∧ wr.heap.size ∉ A.blks from ⟨by rw [← hW3]; simp, fun hk => Nat.lt_irrefl _ (hP.ar.lt _ hk)⟩)
      have HXB2 := Lib.hid (show ∀ (w4 : World) {A' : Ar} {nx' : Nat} {Gm Qm G' K' Q' : Nat → Bool}, ApW w.heap.size nb b w w4 gb kb qb A' nx' Gm Qm G' K' Q' → gb ≠ wr.heap.size ∧ qb ≠ wr.heap.size from fun w4 _ _ _ _ _ _ _ _ => ⟨fun e => Nat.lt_irrefl _ (e ▸ hP.g.lt), fun e => Nat.lt_irrefl _ (e ▸ hP.q.lt)⟩)
      have HXR := Lib.hid hxr
      have a1 : (j : Int) < (N : Int) := by omega
      have a2 : (N : Int) ≤ (cap : Int) := by have := HC.out.1; omega
      have a3 : (cap : Int) ≤ 9223372036854775807 := by have := HC.out.2; omega
      have HE1 := Lib.hid (wrap1 (n := j) (by have := HN.out; omega))
      have HI := Lib.hid (show j + 1 ≤ N ∧ N - (j + 1) < gk by omega)
      clear hh hP hS hx hN hxj hxr hW3 m3 hk hj hlt
      go_upto_region 12 with (fail)
      rw [HW3.out]
      clear a1 a2 a3
      generalize wr.heap.size = X at k0 k1 k2 HXB HXB2 ⊢
      by_cases z0 : xk = 0
      · subst z0
        have AL := Lib.hid (ap_alloc xn P3.out)
        clear c0 c1 c2 c3
        go_wp2_with (fail)
        refine AL.out.mono ?_
        rintro e w4 hg
        rcases hg with ⟨rfl, A', nx', hP4⟩ | ⟨n0, m, rfl, hm1, hm2, rfl, ht, hmv, A', nx', hP4⟩
        · have RR := Lib.hid (show ∃ A nx G K Q, ApW w.heap.size nb b w w4 gb kb qb A nx G Q G K Q from ⟨_, _, _, _, _, hP4⟩)
          clear hP4 k0 k1 k2
          go_wp2_with (fail)
          go_roundg (N - (j + 1))
          case measure => exact HI.out.2
          case rel => exact ⟨j + 1, gb, kb, qb, rfl, rfl, rfl, by first | rfl | rw [HE1.out], rfl, HI.out.1, RR⟩
        · have k1' := (hmv.cell (o := 1) HXB.out.1 HXB.out.2).trans k1
          have hxg := HXB2.out w4 hP4
          have hw4 : X < w4.heap.size := Nat.lt_of_lt_of_le HXB.out.1 hmv.size
          obtain ⟨E, hE⟩ : ∃ E, n0 + m = E := ⟨_, rfl⟩
          obtain ⟨D, hD⟩ : ∃ D, NG - m = D := ⟨_, rfl⟩
          obtain ⟨E1, hE1⟩ : ∃ E1, E - 1 = E1 := ⟨_, rfl⟩
          obtain ⟨q, hq⟩ : ∃ q, n0 / 256 = q := ⟨_, rfl⟩
          obtain ⟨t1, t2, t3⟩ := ht
          rw [hE] at t1 t3 hP4
          have q2 : E1 / 256 = q := by rw [← hE1, ← hE, ← hq]; exact t2.symm
          have AF := Lib.hid (apart_facts HNG.out.1 HNG.out.2.2.1 hm1 hm2 hE hD hE1 hq q2 t1)
          obtain ⟨f2, f2', f3, f3', f4, f5, f5', f6, f6', f7, f8, f9⟩ := AF.out
          have eg := EG.out
          have egi := EGI.out
          have HT := Lib.hid t3
          have HE := Lib.hid (he_bounds HNG.out.1 t1 hE)
          have H4 := Lib.hid (And.intro hP4 (And.intro k1' (And.intro hxg hw4)))
          clear hm1 hm2 hE hD hE1 hq t1 t2 t3 q2 hP4 k0 k1 k2 hxg hw4 hmv
          go_upto_region 23 with (fail)
          try simp only [eg]
          try simp only [f4]
          try simp only [f6']
          try simp only [f7]
          try simp only [f8]
          clear eg egi f2 f2' f3 f3' f4 f5 f5' f6 f6' f8 f9 k1'
          go_loopg [13] (E - n0) (fun kk iv wr2 => ∃ i : Nat, iv = .int .i64 (i : Int) ∧ kk = E - i ∧ i ≤ E ∧ Hid (n0 ≤ i ∧ ApW w.heap.size nb b w wr2 gb kb qb A' nx' (tk G n0 i) Q (tk G n0 E) K Q ∧ wr2.cell? ⟨X, 1, none⟩ = some (.int .i64 (m : Int))))
          case atStart => exact ⟨n0, rfl, rfl, HE.out.1, Lib.hid ⟨Nat.le_refl _, by rw [tk_self]; exact H4.out.1, H4.out.2.1⟩⟩
          case round =>
            obtain ⟨i, rfl, hk, hj, hh⟩ := hrel
            obtain ⟨hi, hP, k1⟩ := hh.out
            by_cases hlt : i < E
            · obtain ⟨hg1, hg2⟩ := HT.out i hi hlt
              obtain ⟨p, hp⟩ : ∃ p, i / 16 = p := ⟨_, rfl⟩
              obtain ⟨l1, l2, l3, l4, a1, a2, a3, a6, a7, hj2⟩ := l13 HNG.out.1 HNG.out.2.1 HNG.out.2.2.1 HE.out.2 hi hlt hp hk
              have cg := hP.g.cell (i := i) l1
              rw [show tk G n0 i i = false by unfold tk; rw [hg1]; simp] at cg
              rw [hp] at hg2
              have ck := hP.k.cell (i := p) l2
              rw [hg2] at ck
              have fz := hP.g.free i
              have t1 : Int.tdiv (i : Int) 16 = (p : Int) := by rw [← hp]; rfl
              have wp := wrapn (n := p) l3
              have e1 := wrap1 (n := i) l4
              have a4 : (0 : Int) ≤ (i : Int) := Int.natCast_nonneg i
              have a5 : (0 : Int) ≤ (p : Int) := Int.natCast_nonneg p
              have PN := Lib.hid (show ApW w.heap.size nb b w (wr.setCell ⟨gb, i, none⟩ (.bool true)) gb kb qb A' nx' (tk G n0 (i + 1)) Q (tk G n0 E) K Q by have h9 := hP.setG i; rw [tk_step G hi] at h9; exact h9)
              have KN := Lib.hid ((World.cell?_setCell_other wr ⟨gb, i, none⟩ ⟨X, 1, none⟩ (.bool true) (fun e => H4.out.2.2.1.1 (congrArg Addr.block e))).trans k1)
              have HJ := Lib.hid hj2
              clear hg1 hg2 hp hP hi hh hk hj hlt l1 l2 l3 l4 hj2
              go_wp2_with (fail)
              go_roundg (E - (i + 1))
              case measure => exact HJ.out.2.1
              case rel => exact ⟨i + 1, by first | rfl | rw [e1], rfl, HJ.out.1, Lib.hid ⟨HJ.out.2.2, PN.out, KN.out⟩⟩
            · obtain rfl : i = E := Nat.le_antisymm hj (Nat.le_of_not_lt hlt)
              have a1 : ¬ (i : Int) < (i : Int) := Int.lt_irrefl _
              have RR := Lib.hid (show ∃ A nx G K Q, ApW w.heap.size nb b w wr gb kb qb A nx G Q G K Q from ⟨_, _, _, _, _, hP⟩)
              clear hP hi hh hk hj hlt
              go_wp2_with (fail)
              go_roundg (N - (j + 1))
              case measure => exact HI.out.2
              case rel => exact ⟨j + 1, gb, kb, qb, rfl, rfl, rfl, by first | rfl | rw [HE1.out], rfl, HI.out.1, RR⟩
      by_cases z1 : xk = 1
      · subst z1
        have AL := Lib.hid (ap_fresh xn P3.out)
        clear c0 c1 c2 c3
        go_wp2_with (fail)
        refine AL.out.mono ?_
        rintro e w4 hg
        rcases hg with ⟨rfl, A', nx', hP4⟩ | ⟨n0, m, rfl, hm1, hm2, rfl, ht, hmv, A', nx', hP4⟩
        · have RR := Lib.hid (show ∃ A nx G K Q, ApW w.heap.size nb b w w4 gb kb qb A nx G Q G K Q from ⟨_, _, _, _, _, hP4⟩)
          clear hP4 k0 k1 k2
          go_wp2_with (fail)
          go_roundg (N - (j + 1))
          case measure => exact HI.out.2
          case rel => exact ⟨j + 1, gb, kb, qb, rfl, rfl, rfl, by first | rfl | rw [HE1.out], rfl, HI.out.1, RR⟩
        · have k1' := (hmv.cell (o := 1) HXB.out.1 HXB.out.2).trans k1
          have hxg := HXB2.out w4 hP4
          have hw4 : X < w4.heap.size := Nat.lt_of_lt_of_le HXB.out.1 hmv.size
          obtain ⟨E, hE⟩ : ∃ E, n0 + m = E := ⟨_, rfl⟩
          obtain ⟨D, hD⟩ : ∃ D, NG - m = D := ⟨_, rfl⟩
          obtain ⟨E1, hE1⟩ : ∃ E1, E - 1 = E1 := ⟨_, rfl⟩
          obtain ⟨q, hq⟩ : ∃ q, n0 / 256 = q := ⟨_, rfl⟩
          obtain ⟨t1, t2, t3⟩ := ht
          rw [hE] at t1 t3 hP4
          have q2 : E1 / 256 = q := by rw [← hE1, ← hE, ← hq]; exact t2.symm
          have AF := Lib.hid (apart_facts HNG.out.1 HNG.out.2.2.1 hm1 hm2 hE hD hE1 hq q2 t1)
          obtain ⟨f2, f2', f3, f3', f4, f5, f5', f6, f6', f7, f8, f9⟩ := AF.out
          have eg := EG.out
          have egi := EGI.out
          have HT := Lib.hid t3
          have HE := Lib.hid (he_bounds HNG.out.1 t1 hE)
          have H4 := Lib.hid (And.intro hP4 (And.intro k1' (And.intro hxg hw4)))
          clear hm1 hm2 hE hD hE1 hq t1 t2 t3 q2 hP4 k0 k1 k2 hxg hw4 hmv
          go_upto_region 23 with (fail)
          try simp only [eg]
          try simp only [f4]
          try simp only [f6']
          try simp only [f7]
          try simp only [f8]
          clear eg egi f2 f2' f3 f3' f4 f5 f5' f6 f6' f8 f9 k1'
          go_loopg [13] (E - n0) (fun kk iv wr2 => ∃ i : Nat, iv = .int .i64 (i : Int) ∧ kk = E - i ∧ i ≤ E ∧ Hid (n0 ≤ i ∧ ApW w.heap.size nb b w wr2 gb kb qb A' nx' (tk G n0 i) Q (tk G n0 E) K Q ∧ wr2.cell? ⟨X, 1, none⟩ = some (.int .i64 (m : Int))))
          case atStart => exact ⟨n0, rfl, rfl, HE.out.1, Lib.hid ⟨Nat.le_refl _, by rw [tk_self]; exact H4.out.1, H4.out.2.1⟩⟩
          case round =>
            obtain ⟨i, rfl, hk, hj, hh⟩ := hrel
            obtain ⟨hi, hP, k1⟩ := hh.out
            by_cases hlt : i < E
            · obtain ⟨hg1, hg2⟩ := HT.out i hi hlt
              obtain ⟨p, hp⟩ : ∃ p, i / 16 = p := ⟨_, rfl⟩
              obtain ⟨l1, l2, l3, l4, a1, a2, a3, a6, a7, hj2⟩ := l13 HNG.out.1 HNG.out.2.1 HNG.out.2.2.1 HE.out.2 hi hlt hp hk
              have cg := hP.g.cell (i := i) l1
              rw [show tk G n0 i i = false by unfold tk; rw [hg1]; simp] at cg
              rw [hp] at hg2
              have ck := hP.k.cell (i := p) l2
              rw [hg2] at ck
              have fz := hP.g.free i
              have t1 : Int.tdiv (i : Int) 16 = (p : Int) := by rw [← hp]; rfl
              have wp := wrapn (n := p) l3
              have e1 := wrap1 (n := i) l4
              have a4 : (0 : Int) ≤ (i : Int) := Int.natCast_nonneg i
              have a5 : (0 : Int) ≤ (p : Int) := Int.natCast_nonneg p
              have PN := Lib.hid (show ApW w.heap.size nb b w (wr.setCell ⟨gb, i, none⟩ (.bool true)) gb kb qb A' nx' (tk G n0 (i + 1)) Q (tk G n0 E) K Q by have h9 := hP.setG i; rw [tk_step G hi] at h9; exact h9)
              have KN := Lib.hid ((World.cell?_setCell_other wr ⟨gb, i, none⟩ ⟨X, 1, none⟩ (.bool true) (fun e => H4.out.2.2.1.1 (congrArg Addr.block e))).trans k1)
              have HJ := Lib.hid hj2
              clear hg1 hg2 hp hP hi hh hk hj hlt l1 l2 l3 l4 hj2
              go_wp2_with (fail)
              go_roundg (E - (i + 1))
              case measure => exact HJ.out.2.1
              case rel => exact ⟨i + 1, by first | rfl | rw [e1], rfl, HJ.out.1, Lib.hid ⟨HJ.out.2.2, PN.out, KN.out⟩⟩
            · obtain rfl : i = E := Nat.le_antisymm hj (Nat.le_of_not_lt hlt)
              have a1 : ¬ (i : Int) < (i : Int) := Int.lt_irrefl _
              have RR := Lib.hid (show ∃ A nx G K Q, ApW w.heap.size nb b w wr gb kb qb A nx G Q G K Q from ⟨_, _, _, _, _, hP⟩)
              clear hP hi hh hk hj hlt
              go_wp2_with (fail)
              go_roundg (N - (j + 1))
              case measure => exact HI.out.2
              case rel => exact ⟨j + 1, gb, kb, qb, rfl, rfl, rfl, by first | rfl | rw [HE1.out], rfl, HI.out.1, RR⟩
      by_cases z2 : xk = 2
      · subst z2
        by_cases m1 : 0 ≤ xa
        · by_cases m2 : xa < (NG : Int)
          · by_cases m3 : 0 < xn
            · by_cases m4 : xn ≤ (NG : Int) - xa
              · obtain ⟨x0, rfl⟩ := Int.eq_ofNat_of_zero_le m1
                obtain ⟨m, rfl⟩ := Int.eq_ofNat_of_zero_le (Int.le_of_lt m3)
                have MK := Lib.hid (ap_mark (x0 : Int) (m : Int) P3.out HXR.out.2.2 HXR.out.2.1.2)
                obtain ⟨E, hE⟩ : ∃ E, x0 + m = E := ⟨_, rfl⟩
                obtain ⟨D, hD⟩ : ∃ D, NG - x0 = D := ⟨_, rfl⟩
                have AF := Lib.hid (mark_facts HNG.out.2.2.1 HNG.out.1 m2 m3 m4 hE hD)
                obtain ⟨g1, g1', g2, g2', g3, g4, g4', f7⟩ := AF.out
                have eg := EG.out
                have egi := EGI.out
                have HE := Lib.hid (he_mark m3 m4 hE)
                clear m1 m2 m3 m4 hE hD c0 c1 c2 c3
                go_wp2_with (fail)
                refine MK.out.mono ?_
                rintro e w4 ⟨rfl, A', hP4, hmv⟩
                have k1' := (hmv.cell (o := 1) HXB.out.1 HXB.out.2).trans k1
                have k2' := (hmv.cell (o := 2) HXB.out.1 HXB.out.2).trans k2
                have hxg := HXB2.out w4 hP4
                have H4 := Lib.hid (And.intro hP4 (And.intro k1' (And.intro k2' hxg)))
                clear hP4 k0 k1 k2 hxg hmv
                go_upto_region 32 with (fail)
                try simp only [eg]
                try simp only [g3]
                clear eg egi g1 g1' g2 g2' g3 g4 g4' k1' k2'
                go_loopg [14] (E - x0) (fun kk iv wr2 => ∃ i : Nat, iv = .int .i64 (i : Int) ∧ kk = E - i ∧ i ≤ E ∧ Hid (x0 ≤ i ∧ ApW w.heap.size nb b w wr2 gb kb qb A' nx G (mkM Q (x0 : Int) ((i : Int) - (x0 : Int))) G K (mkM Q (x0 : Int) (m : Int)) ∧ wr2.cell? ⟨X, 1, none⟩ = some (.int .i64 (m : Int)) ∧ wr2.cell? ⟨X, 2, none⟩ = some (.int .i64 (x0 : Int))))
                case atStart => exact ⟨x0, rfl, rfl, HE.out.1, Lib.hid ⟨Nat.le_refl _, by rw [Int.sub_self, mkM_no Q (by decide)]; exact H4.out.1, H4.out.2.1, H4.out.2.2.1⟩⟩
                case round =>
                  obtain ⟨i, rfl, hk, hj, hh⟩ := hrel
                  obtain ⟨hi, hP, k1, k2⟩ := hh.out
                  by_cases hlt : i < E
                  · obtain ⟨p, hp⟩ : ∃ p, i / 16 = p := ⟨_, rfl⟩
                    obtain ⟨l1, l2, l3, l4, a1, a2, a3, a6, a7, hj2⟩ := l13 HNG.out.1 HNG.out.2.1 HNG.out.2.2.1 HE.out.2.1 hi hlt hp hk
                    have cq := hP.q.cell (i := p) l2
                    have fz := hP.q.free p
                    obtain ⟨vq, hvq⟩ : ∃ vq, mkM Q (x0 : Int) ((i : Int) - (x0 : Int)) p = vq := ⟨_, rfl⟩
                    rw [hvq] at cq
                    have t1 : Int.tdiv (i : Int) 16 = (p : Int) := by rw [← hp]; rfl
                    have wp := wrapn (n := p) l3
                    have e1 := wrap1 (n := i) l4
                    have a5 : (0 : Int) ≤ (p : Int) := Int.natCast_nonneg p
                    have PN := Lib.hid (show ApW w.heap.size nb b w (wr.setCell ⟨qb, p, none⟩ (.bool true)) gb kb qb A' nx G (mkM Q (x0 : Int) (((i + 1 : Nat) : Int) - (x0 : Int))) G K (mkM Q (x0 : Int) (m : Int)) by have h9 := hP.setQ p; rw [← hp, mkM_step Q hi] at h9; rw [← hp]; exact h9)
                    have KN := Lib.hid (And.intro ((World.cell?_setCell_other wr ⟨qb, p, none⟩ ⟨X, 1, none⟩ (.bool true) (fun e => H4.out.2.2.2.2 (congrArg Addr.block e))).trans k1) ((World.cell?_setCell_other wr ⟨qb, p, none⟩ ⟨X, 2, none⟩ (.bool true) (fun e => H4.out.2.2.2.2 (congrArg Addr.block e))).trans k2))
                    have HJ := Lib.hid hj2
                    clear hvq hp hP hi hh hk hj hlt l1 l2 l3 l4 hj2 a2 a6
                    go_wp2_with (fail)
                    go_roundg (E - (i + 1))
                    case measure => exact HJ.out.2.1
                    case rel => exact ⟨i + 1, by first | rfl | rw [e1], rfl, HJ.out.1, Lib.hid ⟨HJ.out.2.2, PN.out, KN.out.1, KN.out.2⟩⟩
                  · obtain rfl : i = E := Nat.le_antisymm hj (Nat.le_of_not_lt hlt)
                    have a1 : ¬ (i : Int) < (i : Int) := Int.lt_irrefl _
                    have RR := Lib.hid (show ∃ A nx G K Q, ApW w.heap.size nb b w wr gb kb qb A nx G Q G K Q from ⟨_, _, _, _, _, by
                      have h9 := hP
                      rw [sub_eq HE.out.2.2.1] at h9
                      exact h9⟩)
                    clear hP hi hh hk hj hlt
                    go_wp2_with (fail)
                    go_roundg (N - (j + 1))
                    case measure => exact HI.out.2
                    case rel => exact ⟨j + 1, gb, kb, qb, rfl, rfl, rfl, by first | rfl | rw [HE1.out], rfl, HI.out.1, RR⟩
              · have f1 : decide (0 ≤ xa) = true := decide_eq_true m1
                have f2 : decide (xa < (NG : Int)) = true := decide_eq_true m2
                have f3 : decide (0 < xn) = true := decide_eq_true m3
                have f4 : decide (xn ≤ (NG : Int) - xa) = false := decide_eq_false m4
                have f5 : RowKit.wrap64 ((NG : Int) - xa) = (NG : Int) - xa := wrapi (f5l HNG.out.1 HNG.out.2.2.1 m1 m2)
                clear m1 m2 m3 m4
                have RR := Lib.hid (show ∃ A nx G K Q, ApW w.heap.size nb b w W3 gb kb qb A nx G Q G K Q from ⟨_, _, _, _, _, P3.out⟩)
                have eg := EG.out
                have egi := EGI.out
                clear c0 c1 c2 c3
                go_wp2_with (fail)
                go_roundg (N - (j + 1))
                case measure => exact HI.out.2
                case rel => exact ⟨j + 1, gb, kb, qb, rfl, rfl, rfl, by first | rfl | rw [HE1.out], rfl, HI.out.1, RR⟩
            · have f1 : decide (0 ≤ xa) = true := decide_eq_true m1
              have f2 : decide (xa < (NG : Int)) = true := decide_eq_true m2
              have f3 : decide (0 < xn) = false := decide_eq_false m3
              clear m1 m2 m3
              have RR := Lib.hid (show ∃ A nx G K Q, ApW w.heap.size nb b w W3 gb kb qb A nx G Q G K Q from ⟨_, _, _, _, _, P3.out⟩)
              have eg := EG.out
              have egi := EGI.out
              clear c0 c1 c2 c3
              go_wp2_with (fail)
              go_roundg (N - (j + 1))
              case measure => exact HI.out.2
              case rel => exact ⟨j + 1, gb, kb, qb, rfl, rfl, rfl, by first | rfl | rw [HE1.out], rfl, HI.out.1, RR⟩
          · have f1 : decide (0 ≤ xa) = true := decide_eq_true m1
            have f2 : decide (xa < (NG : Int)) = false := decide_eq_false m2
            clear m1 m2
            have RR := Lib.hid (show ∃ A nx G K Q, ApW w.heap.size nb b w W3 gb kb qb A nx G Q G K Q from ⟨_, _, _, _, _, P3.out⟩)
            have eg := EG.out
            have egi := EGI.out
            clear c0 c1 c2 c3
            go_wp2_with (fail)
            go_roundg (N - (j + 1))
            case measure => exact HI.out.2
            case rel => exact ⟨j + 1, gb, kb, qb, rfl, rfl, rfl, by first | rfl | rw [HE1.out], rfl, HI.out.1, RR⟩
        · have f1 : decide (0 ≤ xa) = false := decide_eq_false m1
          clear m1
          have RR := Lib.hid (show ∃ A nx G K Q, ApW w.heap.size nb b w W3 gb kb qb A nx G Q G K Q from ⟨_, _, _, _, _, P3.out⟩)
          have eg := EG.out
          have egi := EGI.out
          clear c0 c1 c2 c3
          go_wp2_with (fail)
          go_roundg (N - (j + 1))
          case measure => exact HI.out.2
          case rel => exact ⟨j + 1, gb, kb, qb, rfl, rfl, rfl, by first | rfl | rw [HE1.out], rfl, HI.out.1, RR⟩
      by_cases z3 : xk = 3
      · subst z3
        have SW := Lib.hid (ap_sweep P3.out)
        have eg := EG.out
        have ek := EK.out
        clear c0 c1 c2 c3
        go_wp2_with (fail)
        refine SW.out.mono ?_
        rintro e w4 ⟨rfl, hA4, hm4⟩
        have H4 := Lib.hid (And.intro hA4 hm4)
        clear hA4 hm4 k0 k1 k2
        go_upto_region 38 with (refine wpList_make_alloc _ rfl (.tmp 177) 33 rfl 4 (.bool false) 1 1 Try.underlying33 (by kernel_rfl) NG ((NG : Nat) : Int) (by first | rfl | (simp [Act.eval, Act.put, eg, ek]; done) | (simp [Act.eval, Act.put, EGI.out, EKI.out]; done)) rfl (by have := HNG.out; omega) (by have := HNG.out; omega) ?_)
        obtain ⟨V1, hV1⟩ : ∃ V1, w4.alloc (.cells (madeCells #[.bool false] NG) 4) = V1 := ⟨_, rfl⟩
        rw [hV1]
        have HV1 := Lib.hid hV1
        clear hV1
        go_upto_region 40 with (refine wpList_make_alloc _ rfl (.tmp 181) 33 rfl 4 (.bool false) 1 1 Try.underlying33 (by kernel_rfl) NK ((NK : Nat) : Int) (by first | rfl | (simp [Act.eval, Act.put, eg, ek]; done) | (simp [Act.eval, Act.put, EGI.out, EKI.out]; done)) rfl (by have := HNG.out; omega) (by have := HNG.out; omega) ?_)
        obtain ⟨V2, hV2⟩ : ∃ V2, V1.alloc (.cells (madeCells #[.bool false] NK) 4) = V2 := ⟨_, rfl⟩
        rw [hV2]
        have HV2 := Lib.hid hV2
        clear hV2
        have RR := Lib.hid (show ∃ A nx G K Q, ApW w.heap.size nb b w V2 w4.heap.size qb V1.heap.size A nx G Q G K Q from ⟨_, _, _, _, _, ap_swept (W2 := V1) (W3 := V2) P3.out H4.out.1 H4.out.2 (by rw [HNG.out.1]; exact HV1.out) (by rw [HNG.out.2.1]; exact HV2.out)⟩)
        go_wp2_with (fail)
        go_roundg (N - (j + 1))
        case measure => exact HI.out.2
        case rel => exact ⟨j + 1, w4.heap.size, qb, V1.heap.size, rfl, rfl, rfl, by first | rfl | rw [HE1.out], rfl, HI.out.1, RR⟩
      have y0 : (xk == 0) = false := beq_eq_false_iff_ne.2 z0
      have y1 : (xk == 1) = false := beq_eq_false_iff_ne.2 z1
      have y2 : (xk == 2) = false := beq_eq_false_iff_ne.2 z2
      have y3 : (xk == 3) = false := beq_eq_false_iff_ne.2 z3
      clear z0 z1 z2 z3
      have RR := Lib.hid (show ∃ A nx G K Q, ApW w.heap.size nb b w W3 gb kb qb A nx G Q G K Q from ⟨_, _, _, _, _, P3.out⟩)
      have eg := EG.out
      have egi := EGI.out
      clear c0 c1 c2 c3
      go_wp2_with (fail)
      go_roundg (N - (j + 1))
      case measure => exact HI.out.2
      case rel => exact ⟨j + 1, gb, kb, qb, rfl, rfl, rfl, by first | rfl | rw [HE1.out], rfl, HI.out.1, RR⟩
    · obtain rfl : j = N := by omega
      have a1 : ¬ (j : Int) < (j : Int) := by omega
      have HB := Lib.hid hP.bel
      clear hh hP hS hx hN hk hj hlt
      go_wp2_with (fail)
      go_ret
      exact ⟨rfl, HB.out⟩
end LM
end Go.Proofs.Ytghnaiinhbdgcaa
