/- Walks of the library: what is unrounded, rounded; the constants of a scaling. -/
import Derived.Test.YtpoojlnndgoeoaaGreatDoorFloA
namespace Go.Proofs.YtpoojlnndgoeoaaGreatDoor
open Go.RowKit
namespace LM
set_option linter.unusedVariables false

def ceilN (u : Nat) : Nat := (u + 3) % 18446744073709551616 / 4
def floorN (u : Nat) : Nat := u / 4
def roundN (u : Nat) : Nat := (u + 1 + u / 4 % 2) % 18446744073709551616 / 4
def nudgeN (u : Nat) (d : Int) : Nat := (((u : Int) + d) % 18446744073709551616).toNat
theorem nudgeN_lt (u : Nat) (d : Int) : nudgeN u d < 18446744073709551616 := by unfold nudgeN; omega

set_option maxHeartbeats 400000 in
theorem ceil_any (u : Nat) (w : World) (hu : u < 18446744073709551616) :
    Calls Tryz.prog 184 #[.int .u64 (u : Int)] w fun e w' => e = .returned (.int .u64 ((ceilN u : Nat) : Int)) ∧ w = w' := by
  obtain ⟨v, hv⟩ : ∃ v, (u + 3) % 18446744073709551616 = v := ⟨_, rfl⟩
  have hvi : IntKind.u64.wrap ((u : Int) + 3) = (v : Int) := by rw [u64w]; omega
  have e : ceilN u = v / 4 := by unfold ceilN; rw [hv]
  rw [e]
  clear hv
  go_enter Tryz.func184, Tryz.ntmps184
  go_wp2
  go_ret
  exact ⟨rfl, rfl⟩
set_option maxHeartbeats 400000 in
theorem floor_any (u : Nat) (w : World) (hu : u < 18446744073709551616) :
    Calls Tryz.prog 185 #[.int .u64 (u : Int)] w fun e w' => e = .returned (.int .u64 ((floorN u : Nat) : Int)) ∧ w = w' := by
  unfold floorN
  go_enter Tryz.func185, Tryz.ntmps185
  go_wp2
  go_ret
  exact ⟨rfl, rfl⟩
set_option maxHeartbeats 400000 in
theorem round_unr (u : Nat) (w : World) (hu : u < 18446744073709551616) :
    Calls Tryz.prog 186 #[.int .u64 (u : Int)] w fun e w' => e = .returned (.int .u64 ((roundN u : Nat) : Int)) ∧ w = w' := by
  obtain ⟨a, ha⟩ : ∃ a, (u + 1) % 18446744073709551616 = a := ⟨_, rfl⟩
  obtain ⟨v, hv⟩ : ∃ v, (u + 1 + u / 4 % 2) % 18446744073709551616 = v := ⟨_, rfl⟩
  obtain ⟨q, hq⟩ : ∃ q, u / 4 = q := ⟨_, rfl⟩
  obtain ⟨b, hb⟩ : ∃ b, q % 2 = b := ⟨_, rfl⟩
  have hqi : (u : Int) / 4 = (q : Int) := by omega
  have hai : IntKind.u64.wrap ((u : Int) + 1) = (a : Int) := by rw [u64w]; omega
  have hbi : bits .and .u64 (q : Int) 1 = (b : Int) := by
    have h := u64_and_nat q 1 (by omega) (by decide)
    have h2 : q &&& 1 = b := by rw [nat_mask1, hb]
    rw [h2] at h
    exact h
  have hvn : (a + b) % 18446744073709551616 = v := by rw [← hv, ← ha, ← hb, ← hq, Nat.mod_add_mod]
  have hvi : IntKind.u64.wrap ((a : Int) + (b : Int)) = (v : Int) := by rw [u64w, ← hvn]; exact (Int.natCast_emod (a + b) 18446744073709551616).symm
  have e : roundN u = v / 4 := by unfold roundN; rw [hv]
  rw [e]
  clear hv hvn ha hb
  go_enter Tryz.func186, Tryz.ntmps186
  go_wp2
  go_ret
  exact ⟨rfl, rfl⟩
set_option maxHeartbeats 400000 in
theorem nudge_any (u : Nat) (d : Int) (w : World) (hu : u < 18446744073709551616) (hd : d = 0 ∨ d = 1 ∨ d = -1) :
    Calls Tryz.prog 183 #[.int .u64 (u : Int), .int .i64 d] w fun e w' => e = .returned (.int .u64 ((nudgeN u d : Nat) : Int)) ∧ w = w' := by
  obtain ⟨v, hv⟩ : ∃ v, nudgeN u d = v := ⟨_, rfl⟩
  have hvl : v < 18446744073709551616 := hv ▸ nudgeN_lt u d
  rw [hv]
  unfold nudgeN at hv
  rcases hd with rfl | rfl | rfl
  · obtain rfl : u = v := by omega
    go_enter Tryz.func183, Tryz.ntmps183
    go_wp2
    go_ret
    exact ⟨rfl, rfl⟩
  · have hvi : IntKind.u64.wrap ((u : Int) + 1) = (v : Int) := by rw [u64w]; omega
    clear hv
    go_enter Tryz.func183, Tryz.ntmps183
    go_wp2
    go_ret
    exact ⟨rfl, rfl⟩
  · have hvi : IntKind.u64.wrap ((u : Int) + IntKind.u64.wrap (-1)) = (v : Int) := by rw [u64w, u64w]; omega
    clear hv
    go_enter Tryz.func183, Tryz.ntmps183
    go_wp2
    go_ret
    exact ⟨rfl, rfl⟩

/-- the library's power of ten -/
def powRow (p : Int) : Nat × Nat := (Go.Pinned.pow10Rows[(p + 348).toNat]?).getD (0, 0)
def mkSc (e p : Int) : Sc := ⟨(powRow p).1, (powRow p).2, (-(e + l2I p + 3)).toNat⟩

set_option maxRecDepth 1000000 in
theorem rows_len : Go.Pinned.pow10Rows.length = 696 := by kernel_rfl
set_option maxRecDepth 1000000 in
theorem rows_lt : (Go.Pinned.pow10Rows.all fun x => decide (x.1 < 18446744073709551616) && decide (x.2 < 18446744073709551616)) = true := by kernel_rfl
theorem powRow_at {p : Int} (h0 : -348 ≤ p) (h1 : p ≤ 347) : Go.Pinned.pow10Rows[(p + 348).toNat]? = some (powRow p) := by
  have h : (p + 348).toNat < Go.Pinned.pow10Rows.length := by rw [rows_len]; omega
  unfold powRow
  rw [List.getElem?_eq_getElem h]
  rfl
theorem powRow_lt {p : Int} (h0 : -348 ≤ p) (h1 : p ≤ 347) : (powRow p).1 < 18446744073709551616 ∧ (powRow p).2 < 18446744073709551616 := by
  have h := List.mem_of_getElem? (powRow_at h0 h1)
  have h2 := List.all_eq_true.1 rows_lt _ h
  simp at h2
  exact h2

theorem sc_set {w : World} {g : Nat} {v0 v1 v2 : Value} (hi lo s : Nat) (hg : w.heap[g]? = some (.cells #[v0, v1, v2] 190 (0, 0))) :
    ScAt (((w.setCell ⟨g, 0, none⟩ (.int .u64 (hi : Int))).setCell ⟨g, 1, none⟩ (.int .u64 (lo : Int))).setCell ⟨g, 2, none⟩ (.int .i64 (s : Int))) g ⟨hi, lo, s⟩ ∧
    w.grownBy (((w.setCell ⟨g, 0, none⟩ (.int .u64 (hi : Int))).setCell ⟨g, 1, none⟩ (.int .u64 (lo : Int))).setCell ⟨g, 2, none⟩ (.int .i64 (s : Int))) (some g) := by
  refine ⟨?_, ?_⟩
  · unfold ScAt Sc.cells
    simp [World.setCell, Array.getElem?_modify, hg]
  · have G1 := only_setCell (only_refl w (some g)) (p := ⟨g, 0, none⟩) (.inl rfl) (.int .u64 (hi : Int))
    have G2 := only_setCell G1 (p := ⟨g, 1, none⟩) (.inl rfl) (.int .u64 (lo : Int))
    exact only_setCell G2 (p := ⟨g, 2, none⟩) (.inl rfl) (.int .i64 (s : Int))

set_option maxRecDepth 100000 in
set_option maxHeartbeats 1000000 in
theorem prescale_at (g k hi lo s : Nat) (e p l : Int) (v0 v1 v2 : Value) (w : World) (hg : w.heap[g]? = some (.cells #[v0, v1, v2] 190 (0, 0))) (hgt : g ≠ 11)
    (t0 : w.cell? ⟨11, k * 2, none⟩ = some (.int .u64 (hi : Int))) (t1 : w.cell? ⟨11, k * 2 + 1, none⟩ = some (.int .u64 (lo : Int)))
    (hkp : p = (k : Int) - 348) (hk : k < 696) (he0 : -3000 ≤ e) (he1 : e ≤ 3000) (hlb : -2000 ≤ l ∧ l ≤ 2000) (hs2 : -(e + l + 3) = (s : Int)) :
    Calls Tryz.prog 180 #[.pointer (some ⟨g, 0, none⟩), .int .i64 e, .int .i64 p, .int .i64 l] w fun r w' => r = .returned (.tuple #[]) ∧ ScAt w' g ⟨hi, lo, s⟩ ∧ w.grownBy w' (some g) := by
  have z0 : w.frozen? ⟨g, 0, none⟩ = false := by simp [World.frozen?, hg]
  have z1 : w.frozen? ⟨g, 1, none⟩ = false := by simp [World.frozen?, hg]
  have z2 : w.frozen? ⟨g, 2, none⟩ = false := by simp [World.frozen?, hg]
  have y0 : w.cell? ⟨g, 0, none⟩ = some v0 := by rw [cell_of_row w g 0 _ _ (0, 0) hg]; rfl
  have y1 : w.cell? ⟨g, 1, none⟩ = some v1 := by rw [cell_of_row w g 1 _ _ (0, 0) hg]; rfl
  have y2 : w.cell? ⟨g, 2, none⟩ = some v2 := by rw [cell_of_row w g 2 _ _ (0, 0) hg]; rfl
  have HS := Lib.hid (sc_set hi lo s hg)
  clear hg
  go_enter Tryz.func180, Tryz.ntmps180
  go_wp2
  go_end0
  exact ⟨rfl, HS.out.1, HS.out.2⟩

theorem prescale_any (g : Nat) (e p : Int) (v0 v1 v2 : Value) (w : World) (htab : PTab w) (hg : w.heap[g]? = some (.cells #[v0, v1, v2] 190 (0, 0))) (hgt : g ≠ 11)
    (h0 : -348 ≤ p) (h1 : p ≤ 347) (he0 : -3000 ≤ e) (he1 : e ≤ 3000) (hs : e + l2I p + 3 ≤ 0) :
    Calls Tryz.prog 180 #[.pointer (some ⟨g, 0, none⟩), .int .i64 e, .int .i64 p, .int .i64 (l2I p)] w fun r w' => r = .returned (.tuple #[]) ∧ ScAt w' g (mkSc e p) ∧ w.grownBy w' (some g) := by
  obtain ⟨t0, t1⟩ := htab _ _ (powRow_at h0 h1)
  exact prescale_at g (p + 348).toNat _ _ _ e p (l2I p) v0 v1 v2 w hg hgt t0 t1 (by omega) (by omega) he0 he1 (by unfold l2I; omega) (by omega)

end LM
end Go.Proofs.YtpoojlnndgoeoaaGreatDoor
