/- The law ArenaApart: what is given, kept and marked, in memory. -/
import Derived.Test.YtghnaiinhbdgcaaArenaR
import Derived.Test.YtghnaiinhbdgcaaArenaQ
namespace Go.Proofs.Ytghnaiinhbdgcaa
open Go Go.RowKit
namespace LM
set_option linter.unusedVariables false
set_option linter.unusedSimpArgs false

/-- the law's state: an arena, and its three rows of truths -/
structure ApW (B nb b : Nat) (w0 w : World) (gb kb qb : Nat) (A : Ar) (nx : Nat) (Gm Qm G K Q : Nat → Bool) : Prop where
  bel : Below B w0 w
  ar : AR w A
  en : A.nb = nb
  eb : A.b = b
  lo : ∀ q ∈ A.blks, B ≤ q
  g : RowF w gb (256 * nb) (fun i => .bool (Gm i))
  k : RowF w kb (16 * nb) (fun i => .bool (K i))
  q : RowF w qb (16 * nb) (fun i => .bool (Qm i))
  dg : gb ∉ A.blks
  dk : kb ∉ A.blks
  dq : qb ∉ A.blks
  n1 : gb ≠ kb
  n2 : gb ≠ qb
  n3 : kb ≠ qb
  b1 : B ≤ gb
  b2 : B ≤ kb
  b3 : B ≤ qb
  bs : B ≤ w.heap.size
  ap : Ap A G K Q
  nine : A.F 9 = ((16 * nx : Nat) : Int) ∧ nx ≤ 16 * A.nb
section
variable {B nb b : Nat} {w0 w w' : World} {gb kb qb : Nat} {A : Ar} {nx : Nat} {Gm Qm G K Q : Nat → Bool}
theorem ApW.mv0 (h : ApW B nb b w0 w gb kb qb A nx Gm Qm G K Q) (m : Mv w w' []) : ApW B nb b w0 w' gb kb qb A nx Gm Qm G K Q :=
  ⟨h.bel.trans (m.below h.bs (fun _ hk => by cases hk)), h.ar.mv m (by simp), h.en, h.eb, h.lo, h.g.mv m (by simp), h.k.mv m (by simp), h.q.mv m (by simp), h.dg, h.dk, h.dq, h.n1, h.n2, h.n3, h.b1, h.b2, h.b3, Nat.le_trans h.bs m.size, h.ap, h.nine⟩
theorem ApW.arena (h : ApW B nb b w0 w gb kb qb A nx Gm Qm G K Q) {A' : Ar} {nx' : Nat} {G' Q' : Nat → Bool} (hA : AR w' A') (m : Mv w w' A.blks) (e : A'.blks = A.blks) (en : A'.nb = A.nb) (hp : Ap A' G' K Q') (h9 : A'.F 9 = ((16 * nx' : Nat) : Int) ∧ nx' ≤ 16 * A'.nb) :
    ApW B nb b w0 w' gb kb qb A' nx' Gm Qm G' K Q' := by
  have eb : A'.b = A.b := by injection e
  exact ⟨h.bel.trans (m.below h.bs h.lo), hA, en.trans h.en, eb.trans h.eb, by rw [e]; exact h.lo, h.g.mv m h.dg, h.k.mv m h.dk, h.q.mv m h.dq, by rw [e]; exact h.dg, by rw [e]; exact h.dk, by rw [e]; exact h.dq, h.n1, h.n2, h.n3, h.b1, h.b2, h.b3, Nat.le_trans h.bs m.size, hp, h9⟩
theorem ApW.setG (h : ApW B nb b w0 w gb kb qb A nx Gm Qm G K Q) (i : Nat) : ApW B nb b w0 (w.setCell ⟨gb, i, none⟩ (.bool true)) gb kb qb A nx (upd Gm i true) Qm G K Q :=
  ⟨h.bel.setCell (p := ⟨gb, i, none⟩) h.b1 _, h.ar.keep (fun k hk => Below.heap_setCell w _ _ k (by rintro rfl; exact h.dg hk)), h.en, h.eb, h.lo, (h.g.set (j := i) (.bool true)).eq (fun j _ => by unfold upd; split <;> rfl), h.k.far h.n1.symm _, h.q.far h.n2.symm _, h.dg, h.dk, h.dq, h.n1, h.n2, h.n3, h.b1, h.b2, h.b3, by rw [World.size_setCell]; exact h.bs, h.ap, h.nine⟩
theorem ApW.setQ (h : ApW B nb b w0 w gb kb qb A nx Gm Qm G K Q) (i : Nat) : ApW B nb b w0 (w.setCell ⟨qb, i, none⟩ (.bool true)) gb kb qb A nx Gm (upd Qm i true) G K Q :=
  ⟨h.bel.setCell (p := ⟨qb, i, none⟩) h.b3 _, h.ar.keep (fun k hk => Below.heap_setCell w _ _ k (by rintro rfl; exact h.dq hk)), h.en, h.eb, h.lo, h.g.far h.n2 _, h.k.far h.n3 _, (h.q.set (j := i) (.bool true)).eq (fun j _ => by unfold upd; split <;> rfl), h.dg, h.dk, h.dq, h.n1, h.n2, h.n3, h.b1, h.b2, h.b3, by rw [World.size_setCell]; exact h.bs, h.ap, h.nine⟩
theorem ApW.wf (h : ApW B nb b w0 w gb kb qb A nx Gm Qm G K Q) : Wf A nx := h.ap.wf h.nine h.ar.n2
/-- what Alloc and Fresh come to -/
def Got (B nb b : Nat) (w0 w : World) (L : List Nat) (gb kb qb : Nat) (G K Q : Nat → Bool) (n : Int) (e : Ending) (w' : World) : Prop :=
  (e = .returned (.tuple #[.int .i64 0, .bool false]) ∧ ∃ A' nx', ApW B nb b w0 w' gb kb qb A' nx' G Q G K Q) ∨
  ∃ n0 m : Nat, n = (m : Int) ∧ 1 ≤ m ∧ m ≤ 256 ∧ e = .returned (.tuple #[.int .i64 (n0 : Int), .bool true]) ∧ Told nb G K n0 m ∧ Mv w w' L ∧ ∃ A' nx', ApW B nb b w0 w' gb kb qb A' nx' G Q (tk G n0 (n0 + m)) K Q
theorem Got.of (h : ApW B nb b w0 w gb kb qb A nx G Q G K Q) {m : Nat} (hm : 1 ≤ m) (hm2 : m ≤ 256) {r : Int × Bool} {A' : Ar} {nx' : Nat} (ha : Asked A G K Q m r A') (hA : AR w' A') (mv : Mv w w' A.blks) (h9 : A'.F 9 = ((16 * nx' : Nat) : Int) ∧ nx' ≤ 16 * A'.nb) :
    Got B nb b w0 w A.blks gb kb qb G K Q (m : Int) (.returned (.tuple #[.int .i64 r.1, .bool r.2])) w' := by
  rcases ha with ⟨rfl, rfl⟩ | ⟨n0, rfl, ht, hp, en, eb⟩
  · exact .inl ⟨rfl, _, _, h.arena hA mv rfl rfl h.ap h9⟩
  · exact .inr ⟨n0, m, rfl, hm, hm2, rfl, by rw [← h.en]; exact ht, mv, _, _, h.arena hA mv eb en hp h9⟩
theorem ap_alloc (n : Int) (h : ApW B nb b w0 w gb kb qb A nx G Q G K Q) : Calls Try.prog 12 #[.pointer (some ⟨b, 0, none⟩), .int .i64 n] w fun e w' => Got B nb b w0 w A.blks gb kb qb G K Q n e w' := by
  rw [← h.eb]
  by_cases hn : n < 1 ∨ 256 < n
  · refine (aalloc_no A n w hn).mono ?_
    rintro e w' ⟨rfl, rfl⟩
    exact .inl ⟨rfl, _, _, by rw [h.eb]; exact h⟩
  · obtain ⟨m, rfl⟩ := Int.eq_ofNat_of_zero_le (by omega : 0 ≤ n)
    by_cases h16 : m ≤ 16
    · refine (aallocS A nx m w h.ar h.wf (by omega) h16).mono ?_
      rintro e w' ⟨rfl, hA, hm⟩
      have hw := alcS_wf (n := m) h.wf (by omega)
      rw [h.eb]
      exact Got.of h (by omega) (by omega) (asked_S h.ap (by omega)) hA hm hw.1.n0
    · refine (aallocG A nx m w h.ar h.wf (by omega) (by omega)).mono ?_
      rintro e w' ⟨rfl, hA, hm⟩
      have ha := asked_G (n := m) h.ap (by omega) (by omega)
      rw [h.eb]
      refine Got.of (nx' := nx) h (by omega) (by omega) ha hA hm ⟨by rw [nine_G]; exact h.nine.1, ?_⟩
      rcases ha with ⟨-, e⟩ | ⟨-, -, -, -, e, -⟩
      · rw [e]; exact h.nine.2
      · rw [e]; exact h.nine.2
theorem ap_fresh (n : Int) (h : ApW B nb b w0 w gb kb qb A nx G Q G K Q) : Calls Try.prog 13 #[.pointer (some ⟨b, 0, none⟩), .int .i64 n] w fun e w' => Got B nb b w0 w A.blks gb kb qb G K Q n e w' := by
  rw [← h.eb]
  by_cases hn : n < 1 ∨ 256 < n
  · refine (afresh_no A n w hn).mono ?_
    rintro e w' ⟨rfl, rfl⟩
    exact .inl ⟨rfl, _, _, by rw [h.eb]; exact h⟩
  · obtain ⟨m, rfl⟩ := Int.eq_ofNat_of_zero_le (by omega : 0 ≤ n)
    refine (afresh A nx m w h.ar h.wf (by omega) (by omega)).mono ?_
    rintro e w' ⟨rfl, hA, hm⟩
    have ha := asked_F (n := m) h.ap (by omega) (by omega)
    rw [h.eb]
    refine Got.of (nx' := nx) h (by omega) (by omega) ha hA hm ⟨by rw [nine_F]; exact h.nine.1, ?_⟩
    rcases ha with ⟨-, e⟩ | ⟨-, -, -, -, e, -⟩
    · rw [e]; exact h.nine.2
    · rw [e]; exact h.nine.2
theorem ap_mark (x n : Int) (h : ApW B nb b w0 w gb kb qb A nx G Q G K Q) (hx : -9223372036854775808 ≤ x ∧ x ≤ 9223372036854775807) (hn : n ≤ 9223372036854775807) :
    Calls Try.prog 14 #[.pointer (some ⟨b, 0, none⟩), .int .i64 x, .int .i64 n] w fun e w' => e = .returned (.tuple #[]) ∧ ∃ A', ApW B nb b w0 w' gb kb qb A' nx G Q G K (mkM Q x n) ∧ Mv w w' A.blks := by
  rw [← h.eb]
  refine (amark A x n w h.ar hx hn).mono ?_
  rintro e w' ⟨rfl, hA, hm⟩
  rw [h.eb]
  exact ⟨rfl, _, h.arena hA hm rfl rfl (h.ap.mark x n) h.nine, hm⟩
theorem ap_sweep (h : ApW B nb b w0 w gb kb qb A nx G Q G K Q) :
    Calls Try.prog 15 #[.pointer (some ⟨b, 0, none⟩)] w fun e w' => e = .returned (.tuple #[]) ∧ AR w' A.swept ∧ Mv w w' A.blks := by
  rw [← h.eb]
  exact asweep A w h.ar
/-- behind a sweep: two new rows, the marked lines are kept -/
theorem ap_swept {W1 W2 W3 : World} (h : ApW B nb b w0 w gb kb qb A nx G Q G K Q) (hA : AR W1 A.swept) (m : Mv w W1 A.blks) (e2 : W1.alloc (.cells (madeCells #[.bool false] (nb * 256)) 4) = W2) (e3 : W2.alloc (.cells (madeCells #[.bool false] (nb * 16)) 4) = W3) :
    ApW B nb b w0 W3 W1.heap.size qb W2.heap.size A.swept 0 (fun _ => false) (fun _ => false) (fun _ => false) Q (fun _ => false) := by
  have m2 : Mv W1 W2 [] := by rw [← e2]; exact (Mv.refl _ _).alloc _
  have m3 : Mv W2 W3 [] := by rw [← e3]; exact (Mv.refl _ _).alloc _
  have s2 : W2.heap.size = W1.heap.size + 1 := by rw [← e2]; simp
  have g0 : RowF W2 W1.heap.size (nb * 256) (fun _ => .bool false) := by rw [← e2]; exact RowF.made _ _ _ _ _ (by decide) (by intro j hj; match j, hj with | 0, _ => rfl)
  have q0 : RowF W3 W2.heap.size (nb * 16) (fun _ => .bool false) := by rw [← e3]; exact RowF.made _ _ _ _ _ (by decide) (by intro j hj; match j, hj with | 0, _ => rfl)
  rw [show nb * 256 = 256 * nb by omega] at g0
  rw [show nb * 16 = 16 * nb by omega] at q0
  have hq := h.q.mv m h.dq
  have hql := hq.lt
  have hlo := hA.lt
  have s1 := m.size
  have hb := h.bs
  exact ⟨((h.bel.trans (m.below h.bs h.lo)).trans (m2.below (Nat.le_trans hb s1) (fun _ hk => by cases hk))).trans (m3.below (by omega) (fun _ hk => by cases hk)), (hA.mv m2 (by simp)).mv m3 (by simp), h.en, h.eb, h.lo, g0.mv m3 (by simp), (hq.mv m2 (by simp)).mv m3 (by simp), q0, fun hk => by have := hlo _ hk; omega, h.dq, fun hk => by have := hlo _ hk; omega, by omega, by omega, by omega, by omega, h.b3, by omega, by have := m3.size; omega, h.ap.swept, ⟨rfl, Nat.zero_le _⟩⟩
/-- the beginning -/
theorem ap_start {W1 W2 W3 W4 : World} {wb tb mb : Nat} (hb0 : Below B w0 W1) (hbs : B ≤ W1.heap.size) (hA : AR W1 (Ar.new nb b wb tb mb)) (hlo : ∀ q ∈ (Ar.new nb b wb tb mb).blks, B ≤ q) (e2 : W1.alloc (.cells (madeCells #[.bool false] (nb * 256)) 4) = W2) (e3 : W2.alloc (.cells (madeCells #[.bool false] (nb * 16)) 4) = W3) (e4 : W3.alloc (.cells (madeCells #[.bool false] (nb * 16)) 4) = W4) :
    ApW B nb b w0 W4 W1.heap.size W2.heap.size W3.heap.size (Ar.new nb b wb tb mb) 0 (fun _ => false) (fun _ => false) (fun _ => false) (fun _ => false) (fun _ => false) := by
  have m2 : Mv W1 W2 [] := by rw [← e2]; exact (Mv.refl _ _).alloc _
  have m3 : Mv W2 W3 [] := by rw [← e3]; exact (Mv.refl _ _).alloc _
  have m4 : Mv W3 W4 [] := by rw [← e4]; exact (Mv.refl _ _).alloc _
  have s2 : W2.heap.size = W1.heap.size + 1 := by rw [← e2]; simp
  have s3 : W3.heap.size = W2.heap.size + 1 := by rw [← e3]; simp
  have g0 : RowF W2 W1.heap.size (nb * 256) (fun _ => .bool false) := by rw [← e2]; exact RowF.made _ _ _ _ _ (by decide) (by intro j hj; match j, hj with | 0, _ => rfl)
  have k0 : RowF W3 W2.heap.size (nb * 16) (fun _ => .bool false) := by rw [← e3]; exact RowF.made _ _ _ _ _ (by decide) (by intro j hj; match j, hj with | 0, _ => rfl)
  have q0 : RowF W4 W3.heap.size (nb * 16) (fun _ => .bool false) := by rw [← e4]; exact RowF.made _ _ _ _ _ (by decide) (by intro j hj; match j, hj with | 0, _ => rfl)
  rw [show nb * 256 = 256 * nb by omega] at g0
  rw [show nb * 16 = 16 * nb by omega] at k0 q0
  have hlo' := hA.lt
  exact ⟨((hb0.trans (m2.below hbs (fun _ hk => by cases hk))).trans (m3.below (by omega) (fun _ hk => by cases hk))).trans (m4.below (by omega) (fun _ hk => by cases hk)), ((hA.mv m2 (by simp)).mv m3 (by simp)).mv m4 (by simp), rfl, rfl, hlo, (g0.mv m3 (by simp)).mv m4 (by simp), k0.mv m4 (by simp), q0, fun hk => by have := hlo' _ hk; omega, fun hk => by have := hlo' _ hk; omega, fun hk => by have := hlo' _ hk; omega, by omega, by omega, by omega, by omega, by omega, by omega, by have := m4.size; omega, Ap.start nb b wb tb mb, ⟨rfl, Nat.zero_le _⟩⟩
end
end LM
end Go.Proofs.Ytghnaiinhbdgcaa
