/- Walk of the library: the shortest digits of a floating number. -/
import Derived.Test.YtpoojlnndgoeoaaGreatDoorFloB
namespace Go.Proofs.YtpoojlnndgoeoaaGreatDoor
open Go.RowKit
namespace LM
set_option linter.unusedVariables false

theorem or_lt64 {a b : Nat} (ha : a < 18446744073709551616) (hb : b < 18446744073709551616) : a ||| b < 18446744073709551616 := by
  have h : (18446744073709551616 : Nat) = 2 ^ 64 := by decide
  rw [h] at ha hb ⊢
  exact Nat.or_lt_two_pow ha hb
theorem uscaleN_lt (x : Nat) (c : Sc) (hx : x < 18446744073709551616) (hc : c.ok) : uscaleN x c < 18446744073709551616 := by
  have hH : x * c.hi / 18446744073709551616 < 18446744073709551616 :=
    Nat.div_lt_of_lt_mul (Nat.lt_of_le_of_lt (Nat.mul_le_mul_right c.hi (Nat.le_of_lt hx)) (Nat.mul_lt_mul_of_pos_left hc.1 (by decide)))
  unfold uscaleN
  dsimp only
  split
  · refine or_lt64 (Nat.lt_of_le_of_lt (Nat.div_le_self _ _) (Nat.mod_lt _ (by decide))) ?_
    split <;> decide
  · exact or_lt64 (Nat.lt_of_le_of_lt (Nat.div_le_self _ _) hH) (by decide)

/-- the digits, and the power of ten, of the shortest number between two -/
def shortT (m : Nat) (e p : Int) (mn mx : Nat) (od : Int) : Nat × Int :=
  if ceilN (nudgeN (uscaleN mn (mkSc e p)) od) ≤ floorN (nudgeN (uscaleN mx (mkSc e p)) (-od)) / 10 * 10 then (floorN (nudgeN (uscaleN mx (mkSc e p)) (-od)) / 10, -(p - 1))
  else if ceilN (nudgeN (uscaleN mn (mkSc e p)) od) < floorN (nudgeN (uscaleN mx (mkSc e p)) (-od)) then (roundN (uscaleN m (mkSc e p)), -p)
  else (ceilN (nudgeN (uscaleN mn (mkSc e p)) od), -p)

theorem ScAt.drewN {w : World} {g : Nat} {c : Sc} (h : ScAt w g c) (n : Nat) : ScAt (w.drewN n) g c := h
theorem PTab.alloc {w : World} (h : PTab w) (hpt : 11 < w.heap.size) (o : Obj) : PTab (w.alloc o) := fun i x hx => by
  obtain ⟨a, b⟩ := h i x hx
  have hb := Below.heap_alloc w o 11 hpt
  exact ⟨(World.cell?_of_block (a := ⟨11, i * 2, none⟩) hb).trans a, (World.cell?_of_block (a := ⟨11, i * 2 + 1, none⟩) hb).trans b⟩
theorem mkSc_ok {e p : Int} (hp0 : -348 ≤ p) (hp1 : p ≤ 347) (hs0 : e + l2I p + 3 ≤ 0) (hs1 : -63 ≤ e + l2I p + 3) : (mkSc e p).ok := by
  obtain ⟨h1, h2⟩ := powRow_lt hp0 hp1
  exact ⟨h1, h2, by show (-(e + l2I p + 3)).toNat < 64; omega⟩
theorem ceilN_lt (u : Nat) : ceilN u < 4611686018427387904 := by unfold ceilN; omega
theorem roundN_lt (u : Nat) : roundN u < 4611686018427387904 := by unfold roundN; omega
theorem floorN_lt {u : Nat} (h : u < 18446744073709551616) : floorN u < 4611686018427387904 := by unfold floorN; omega

set_option maxRecDepth 100000 in
set_option maxHeartbeats 4000000 in
theorem short_mid (m : Nat) (e p : Int) (od : Nat) (w : World) (htab : PTab w) (hpt : 11 < w.heap.size) (hm0 : 9223372036854775808 < m) (hm1 : m + 1024 < 18446744073709551616)
    (he0 : -1085 ≤ e) (he1 : e ≤ 1000) (hp : -(l10I (e + 11)) = p) (hp0 : -348 ≤ p) (hp1 : p ≤ 347) (hs0 : e + l2I p + 3 ≤ 0) (hs1 : -63 ≤ e + l2I p + 3) (hod : m / 2048 % 2 = od) :
    Calls Tryz.prog 149 #[.int .u64 (m : Int), .int .i64 e] w fun r w' => r = .returned (.tuple #[.int .u64 ((shortT m e p (m - 1024) (m + 1024) od).1 : Int), .int .i64 (shortT m e p (m - 1024) (m + 1024) od).2]) ∧ Below w.heap.size w w' := by
  have d1 : ((m : Int) == 9223372036854775808) = false := by rw [beq_eq_false_iff_ne]; omega
  have d2 : decide (-1085 ≤ e) = true := decide_eq_true he0
  obtain ⟨mn, hmn⟩ : ∃ mn, m - 1024 = mn := ⟨_, rfl⟩
  obtain ⟨mx, hmx⟩ : ∃ mx, m + 1024 = mx := ⟨_, rfl⟩
  have hmni : (m : Int) - 1024 = (mn : Int) := by omega
  have hmxi : (m : Int) + 1024 = (mx : Int) := by omega
  rw [hmn, hmx]
  have l1 := fun W => l10_any (e + 11) W (by omega) (by omega)
  obtain ⟨l, hl⟩ : ∃ l, l10I (e + 11) = l := ⟨_, rfl⟩
  rw [hl] at hp l1
  obtain ⟨q, hq⟩ : ∃ q, m / 2048 = q := ⟨_, rfl⟩
  have hqi : (m : Int) / 2048 = (q : Int) := by omega
  have hql : q < 9007199254740992 := by omega
  have hqo : bits .and .i64 (q : Int) 1 = (od : Int) := by
    have h := i64_and_nat q 1 (by omega) (by decide)
    have h2 : q &&& 1 = od := by rw [nat_mask1, ← hod, hq]
    rw [h2] at h
    exact h
  have hod2 : od ≤ 1 := by omega
  have L1 := Lib.hid l1
  have l2 := fun W => l2_any p W (by omega) (by omega)
  have hcok := mkSc_ok hp0 hp1 hs0 hs1
  have hmnl : mn < 18446744073709551616 := by omega
  have hmxl : mx < 18446744073709551616 := by omega
  have hml : m < 18446744073709551616 := by omega
  obtain ⟨c, hc⟩ : ∃ c, mkSc e p = c := ⟨_, rfl⟩
  obtain ⟨u1, hu1⟩ : ∃ u, uscaleN mn c = u := ⟨_, rfl⟩
  obtain ⟨u2, hu2⟩ : ∃ u, uscaleN mx c = u := ⟨_, rfl⟩
  obtain ⟨u3, hu3⟩ : ∃ u, uscaleN m c = u := ⟨_, rfl⟩
  rw [hc] at hcok
  have hu1l : u1 < 18446744073709551616 := hu1 ▸ uscaleN_lt mn c hmnl hcok
  have hu2l : u2 < 18446744073709551616 := hu2 ▸ uscaleN_lt mx c hmxl hcok
  have hu3l : u3 < 18446744073709551616 := hu3 ▸ uscaleN_lt m c hml hcok
  obtain ⟨n1, hn1⟩ : ∃ u, nudgeN u1 od = u := ⟨_, rfl⟩
  obtain ⟨n2, hn2⟩ : ∃ u, nudgeN u2 (-od) = u := ⟨_, rfl⟩
  have hn1l : n1 < 18446744073709551616 := hn1 ▸ nudgeN_lt u1 od
  have hn2l : n2 < 18446744073709551616 := hn2 ▸ nudgeN_lt u2 (-od)
  obtain ⟨a, ha⟩ : ∃ u, ceilN n1 = u := ⟨_, rfl⟩
  obtain ⟨b, hb⟩ : ∃ u, floorN n2 = u := ⟨_, rfl⟩
  obtain ⟨r, hr⟩ : ∃ u, roundN u3 = u := ⟨_, rfl⟩
  obtain ⟨d, hd⟩ : ∃ d, b / 10 = d := ⟨_, rfl⟩
  have hdi : (b : Int) / 10 = (d : Int) := by omega
  have hal : a < 4611686018427387904 := ha ▸ ceilN_lt n1
  have hbl : b < 4611686018427387904 := hb ▸ floorN_lt hn2l
  have hdl : d < 4611686018427387904 / 10 + 1 := by omega
  have hrl : r < 4611686018427387904 := hr ▸ roundN_lt u3
  have HE : Hid (shortT m e p mn mx od = if a ≤ d * 10 then (d, -(p - 1)) else if a < b then (r, -p) else (a, -p)) := Lib.hid (by
    unfold shortT
    rw [hc, hu1, hu2, hu3, hn1, hn2, ha, hb, hr, hd])
  have U1 : Hid (∀ W, ScAt W w.heap.size c → _) := Lib.hid fun W h => uscale_any mn w.heap.size c W hmnl hcok h
  have U2 : Hid (∀ W, ScAt W w.heap.size c → _) := Lib.hid fun W h => uscale_any mx w.heap.size c W hmxl hcok h
  have U3 : Hid (∀ W, ScAt W w.heap.size c → _) := Lib.hid fun W h => uscale_any m w.heap.size c W hml hcok h
  rw [hu1] at U1
  rw [hu2] at U2
  rw [hu3] at U3
  have N1 := Lib.hid fun W => nudge_any u1 od W hu1l (by omega)
  have N2 := Lib.hid fun W => nudge_any u2 (-od) W hu2l (by omega)
  rw [hn1] at N1
  rw [hn2] at N2
  have A1 := Lib.hid fun W => ceil_any n1 W hn1l
  have F1 := Lib.hid fun W => floor_any n2 W hn2l
  have R1 := Lib.hid fun W => round_unr u3 W hu3l
  rw [ha] at A1
  rw [hb] at F1
  rw [hr] at R1
  have PR := Lib.hid (prescale_any w.heap.size e p (.int .u64 0) (.int .u64 0) (.int .i64 0) (w.alloc (.cells #[.int .u64 0, .int .u64 0, .int .i64 0] 190)) (htab.alloc hpt _) (heap_alloc_new w _) (by omega) hp0 hp1 (by omega) (by omega) hs0)
  rw [hc] at PR
  obtain ⟨l0, hl0⟩ : ∃ l, l2I p = l := ⟨_, rfl⟩
  rw [hl0] at l2 PR
  have L2 := Lib.hid l2
  have BA : Hid (∀ w2, World.grownBy (w.alloc (.cells #[.int .u64 0, .int .u64 0, .int .i64 0] 190)) w2 (some w.heap.size) → Below w.heap.size w w2) := Lib.hid fun w2 hg => ((Below.refl _ w).alloc (Nat.le_refl _) _).grown hg (by simp) (fun k e => by injection e with e; omega)
  clear l2 hc hu1 hu2 hu3 hn1 hn2 ha hb hr hd htab hl0 hs0 hs1 hcok
  clear l1 hq hl hod
  go_enter Tryz.func149, Tryz.ntmps149
  go_wp2_with fail
  refine (L1.out _).mono ?_
  rintro e' w' ⟨rfl, rfl⟩
  go_wp2_with fail
  refine (L2.out _).mono ?_
  rintro e' w' ⟨rfl, rfl⟩
  go_wp2_with fail
  refine PR.out.mono ?_
  rintro e' w2 ⟨rfl, hsc, hgr⟩
  have SC := Lib.hid hsc
  have HB := Lib.hid (BA.out w2 hgr)
  clear hsc hgr
  go_wp2_with fail
  refine (U1.out _ SC.out).mono ?_
  rintro e' w3 ⟨rfl, k1, rfl⟩
  go_wp2_with fail
  refine (N1.out _).mono ?_
  rintro e' w3 ⟨rfl, rfl⟩
  go_wp2_with fail
  refine (A1.out _).mono ?_
  rintro e' w3 ⟨rfl, rfl⟩
  go_wp2_with fail
  refine (U2.out _ (SC.out.drewN _)).mono ?_
  rintro e' w3 ⟨rfl, k2, rfl⟩
  go_wp2_with fail
  refine (N2.out _).mono ?_
  rintro e' w3 ⟨rfl, rfl⟩
  go_wp2_with fail
  refine (F1.out _).mono ?_
  rintro e' w3 ⟨rfl, rfl⟩
  by_cases hA : a ≤ d * 10
  · have HE2 := HE.out
    rw [if_pos hA] at HE2
    have HE3 := Lib.hid HE2
    clear HE2
    go_wp2
    go_ret2
    rw [HE3.out]
    exact ⟨rfl, below_drewN HB.out _⟩
  · have HE2 := HE.out
    rw [if_neg hA] at HE2
    by_cases hB : a < b
    · rw [if_pos hB] at HE2
      have HE3 := Lib.hid HE2
      clear HE2
      go_wp2_with fail
      refine (U3.out _ (SC.out.drewN _)).mono ?_
      rintro e' w3 ⟨rfl, k3, rfl⟩
      go_wp2_with fail
      refine (R1.out _).mono ?_
      rintro e' w3 ⟨rfl, rfl⟩
      go_wp2
      go_ret2
      rw [HE3.out]
      exact ⟨rfl, below_drewN HB.out _⟩
    · rw [if_neg hB] at HE2
      have HE3 := Lib.hid HE2
      clear HE2
      go_wp2
      go_ret2
      rw [HE3.out]
      exact ⟨rfl, below_drewN HB.out _⟩

set_option maxRecDepth 100000 in
set_option maxHeartbeats 4000000 in
theorem short_low (m : Nat) (e p : Int) (od : Nat) (w : World) (htab : PTab w) (hpt : 11 < w.heap.size) (hm0 : 9223372036854775808 = m)
    (he0 : -1085 < e) (he1 : e ≤ 1000) (hp : -(skI (e + 11)) = p) (hp0 : -348 ≤ p) (hp1 : p ≤ 347) (hs0 : e + l2I p + 3 ≤ 0) (hs1 : -63 ≤ e + l2I p + 3) (hod : od = 0) :
    Calls Tryz.prog 149 #[.int .u64 (m : Int), .int .i64 e] w fun r w' => r = .returned (.tuple #[.int .u64 ((shortT m e p (m - 512) (m + 1024) od).1 : Int), .int .i64 (shortT m e p (m - 512) (m + 1024) od).2]) ∧ Below w.heap.size w w' := by
  have d1 : ((m : Int) == 9223372036854775808) = true := by rw [beq_iff_eq]; omega
  have d2 : decide (-1085 < e) = true := decide_eq_true he0
  obtain ⟨mn, hmn⟩ : ∃ mn, m - 512 = mn := ⟨_, rfl⟩
  obtain ⟨mx, hmx⟩ : ∃ mx, m + 1024 = mx := ⟨_, rfl⟩
  have hmni : (m : Int) - 512 = (mn : Int) := by omega
  have hmxi : (m : Int) + 1024 = (mx : Int) := by omega
  rw [hmn, hmx]
  have l1 := fun W => skewed_any (e + 11) W (by omega) (by omega)
  obtain ⟨l, hl⟩ : ∃ l, skI (e + 11) = l := ⟨_, rfl⟩
  rw [hl] at hp l1
  obtain ⟨q, hq⟩ : ∃ q, m / 2048 = q := ⟨_, rfl⟩
  have hqi : (m : Int) / 2048 = (q : Int) := by omega
  have hql : q < 9007199254740992 := by omega
  have hqo : bits .and .i64 (q : Int) 1 = (od : Int) := by
    have h := i64_and_nat q 1 (by omega) (by decide)
    have h2 : q &&& 1 = od := by rw [nat_mask1, hod]; omega
    rw [h2] at h
    exact h
  have hod2 : od ≤ 1 := by omega
  have L1 := Lib.hid l1
  have l2 := fun W => l2_any p W (by omega) (by omega)
  have hcok := mkSc_ok hp0 hp1 hs0 hs1
  have hmnl : mn < 18446744073709551616 := by omega
  have hmxl : mx < 18446744073709551616 := by omega
  have hml : m < 18446744073709551616 := by omega
  obtain ⟨c, hc⟩ : ∃ c, mkSc e p = c := ⟨_, rfl⟩
  obtain ⟨u1, hu1⟩ : ∃ u, uscaleN mn c = u := ⟨_, rfl⟩
  obtain ⟨u2, hu2⟩ : ∃ u, uscaleN mx c = u := ⟨_, rfl⟩
  obtain ⟨u3, hu3⟩ : ∃ u, uscaleN m c = u := ⟨_, rfl⟩
  rw [hc] at hcok
  have hu1l : u1 < 18446744073709551616 := hu1 ▸ uscaleN_lt mn c hmnl hcok
  have hu2l : u2 < 18446744073709551616 := hu2 ▸ uscaleN_lt mx c hmxl hcok
  have hu3l : u3 < 18446744073709551616 := hu3 ▸ uscaleN_lt m c hml hcok
  obtain ⟨n1, hn1⟩ : ∃ u, nudgeN u1 od = u := ⟨_, rfl⟩
  obtain ⟨n2, hn2⟩ : ∃ u, nudgeN u2 (-od) = u := ⟨_, rfl⟩
  have hn1l : n1 < 18446744073709551616 := hn1 ▸ nudgeN_lt u1 od
  have hn2l : n2 < 18446744073709551616 := hn2 ▸ nudgeN_lt u2 (-od)
  obtain ⟨a, ha⟩ : ∃ u, ceilN n1 = u := ⟨_, rfl⟩
  obtain ⟨b, hb⟩ : ∃ u, floorN n2 = u := ⟨_, rfl⟩
  obtain ⟨r, hr⟩ : ∃ u, roundN u3 = u := ⟨_, rfl⟩
  obtain ⟨d, hd⟩ : ∃ d, b / 10 = d := ⟨_, rfl⟩
  have hdi : (b : Int) / 10 = (d : Int) := by omega
  have hal : a < 4611686018427387904 := ha ▸ ceilN_lt n1
  have hbl : b < 4611686018427387904 := hb ▸ floorN_lt hn2l
  have hdl : d < 4611686018427387904 / 10 + 1 := by omega
  have hrl : r < 4611686018427387904 := hr ▸ roundN_lt u3
  have HE : Hid (shortT m e p mn mx od = if a ≤ d * 10 then (d, -(p - 1)) else if a < b then (r, -p) else (a, -p)) := Lib.hid (by
    unfold shortT
    rw [hc, hu1, hu2, hu3, hn1, hn2, ha, hb, hr, hd])
  have U1 : Hid (∀ W, ScAt W w.heap.size c → _) := Lib.hid fun W h => uscale_any mn w.heap.size c W hmnl hcok h
  have U2 : Hid (∀ W, ScAt W w.heap.size c → _) := Lib.hid fun W h => uscale_any mx w.heap.size c W hmxl hcok h
  have U3 : Hid (∀ W, ScAt W w.heap.size c → _) := Lib.hid fun W h => uscale_any m w.heap.size c W hml hcok h
  rw [hu1] at U1
  rw [hu2] at U2
  rw [hu3] at U3
  have N1 := Lib.hid fun W => nudge_any u1 od W hu1l (by omega)
  have N2 := Lib.hid fun W => nudge_any u2 (-od) W hu2l (by omega)
  rw [hn1] at N1
  rw [hn2] at N2
  have A1 := Lib.hid fun W => ceil_any n1 W hn1l
  have F1 := Lib.hid fun W => floor_any n2 W hn2l
  have R1 := Lib.hid fun W => round_unr u3 W hu3l
  rw [ha] at A1
  rw [hb] at F1
  rw [hr] at R1
  have PR := Lib.hid (prescale_any w.heap.size e p (.int .u64 0) (.int .u64 0) (.int .i64 0) (w.alloc (.cells #[.int .u64 0, .int .u64 0, .int .i64 0] 190)) (htab.alloc hpt _) (heap_alloc_new w _) (by omega) hp0 hp1 (by omega) (by omega) hs0)
  rw [hc] at PR
  obtain ⟨l0, hl0⟩ : ∃ l, l2I p = l := ⟨_, rfl⟩
  rw [hl0] at l2 PR
  have L2 := Lib.hid l2
  have BA : Hid (∀ w2, World.grownBy (w.alloc (.cells #[.int .u64 0, .int .u64 0, .int .i64 0] 190)) w2 (some w.heap.size) → Below w.heap.size w w2) := Lib.hid fun w2 hg => ((Below.refl _ w).alloc (Nat.le_refl _) _).grown hg (by simp) (fun k e => by injection e with e; omega)
  clear l2 hc hu1 hu2 hu3 hn1 hn2 ha hb hr hd htab hl0 hs0 hs1 hcok
  clear l1 hq hl hod
  go_enter Tryz.func149, Tryz.ntmps149
  go_wp2_with fail
  refine (L1.out _).mono ?_
  rintro e' w' ⟨rfl, rfl⟩
  go_wp2_with fail
  refine (L2.out _).mono ?_
  rintro e' w' ⟨rfl, rfl⟩
  go_wp2_with fail
  refine PR.out.mono ?_
  rintro e' w2 ⟨rfl, hsc, hgr⟩
  have SC := Lib.hid hsc
  have HB := Lib.hid (BA.out w2 hgr)
  clear hsc hgr
  go_wp2_with fail
  refine (U1.out _ SC.out).mono ?_
  rintro e' w3 ⟨rfl, k1, rfl⟩
  go_wp2_with fail
  refine (N1.out _).mono ?_
  rintro e' w3 ⟨rfl, rfl⟩
  go_wp2_with fail
  refine (A1.out _).mono ?_
  rintro e' w3 ⟨rfl, rfl⟩
  go_wp2_with fail
  refine (U2.out _ (SC.out.drewN _)).mono ?_
  rintro e' w3 ⟨rfl, k2, rfl⟩
  go_wp2_with fail
  refine (N2.out _).mono ?_
  rintro e' w3 ⟨rfl, rfl⟩
  go_wp2_with fail
  refine (F1.out _).mono ?_
  rintro e' w3 ⟨rfl, rfl⟩
  by_cases hA : a ≤ d * 10
  · have HE2 := HE.out
    rw [if_pos hA] at HE2
    have HE3 := Lib.hid HE2
    clear HE2
    go_wp2
    go_ret2
    rw [HE3.out]
    exact ⟨rfl, below_drewN HB.out _⟩
  · have HE2 := HE.out
    rw [if_neg hA] at HE2
    by_cases hB : a < b
    · rw [if_pos hB] at HE2
      have HE3 := Lib.hid HE2
      clear HE2
      go_wp2_with fail
      refine (U3.out _ (SC.out.drewN _)).mono ?_
      rintro e' w3 ⟨rfl, k3, rfl⟩
      go_wp2_with fail
      refine (R1.out _).mono ?_
      rintro e' w3 ⟨rfl, rfl⟩
      go_wp2
      go_ret2
      rw [HE3.out]
      exact ⟨rfl, below_drewN HB.out _⟩
    · rw [if_neg hB] at HE2
      have HE3 := Lib.hid HE2
      clear HE2
      go_wp2
      go_ret2
      rw [HE3.out]
      exact ⟨rfl, below_drewN HB.out _⟩

end LM
end Go.Proofs.YtpoojlnndgoeoaaGreatDoor
