/- Walks: the name a. -/
import Derived.Test.YtcfhiihhfcnfbaaGreatDoorJ47
import Derived.Deep.RegionHeld3
import Derived.Test.YtcfhiihhfcnfbaaGreatDoorJ12
import Derived.Test.YtcfhiihhfcnfbaaGreatDoorJ50
import Derived.Test.YtcfhiihhfcnfbaaGreatDoorJ19
namespace Go.Proofs.YtcfhiihhfcnfbaaGreatDoor
open Go Go.RowKit
namespace LM
set_option linter.unusedVariables false
attribute [local go_sem] run_store_flt

abbrev zeroO : Obj := .cells #[.int .i64 0, .int .i64 0, .bool false, .float .f64 0, .bool false, .slice none 0 0, .string ⟨#[]⟩, .slice none 0 0] 49 (0, 0)
/-- a datum's block, one cell of it stored -/
theorem stored_dat {w W : World} {B g n n' i : Nat} {h h' : Hd} {v : Value} (Y : W.heap[g]? = some (datO h n)) (hb : Below B w W) (hg : B ≤ g) (hv : ((head8 h n).toArray).setIfInBounds i v = (head8 h' n').toArray) :
    ∃ W', W.setCell ⟨g, i, none⟩ v = W' ∧ W'.heap[g]? = some (datO h' n') ∧ Below B w W' ∧ (∀ k, k ≠ g → W'.heap[k]? = W.heap[k]?) ∧ W'.heap.size = W.heap.size := by
  refine ⟨_, rfl, ?_, hb.setCell hg v, fun k hk => Below.heap_setCell W _ v k hk, by simp [World.setCell]⟩
  have h1 := heap_setCell_same W g i (head8 h n).toArray _ v Y
  rw [hv] at h1
  exact h1
/-- what lies elsewhere reads as it did -/
theorem Rd.other {W W' : World} {A : Option Addr} {xs : List Nat} {g : Nat} (h : Rd W A xs) (hs : W'.heap.size = W.heap.size) (hk : ∀ k, k ≠ g → W'.heap[k]? = W.heap[k]?) (ho : 0 < xs.length → Off A g) : Rd W' A xs := fun hx => by
  obtain ⟨b, off, rfl, hb, hc⟩ := h hx
  refine ⟨b, off, rfl, by rw [hs]; exact hb, fun k hkk => ?_⟩
  have : b ≠ g := ho hx _ rfl
  exact (World.cell?_of_block (a := ⟨b, off + k, none⟩) (hk b this)).trans (hc k hkk)
theorem FAt.other {W W' : World} {g : Nat} (hs : W'.heap.size = W.heap.size) (hk : ∀ k, k ≠ g → W'.heap[k]? = W.heap[k]?) : ∀ {fr : Fr} {b off : Nat}, FAt W b off fr → AwayF g fr → b ≠ g → FAt W' b off fr := by
  intro fr
  induction fr with
  | nil => intro b off _ _ _; exact trivial
  | cons h k r ihk ihr =>
    intro b off hf ha hb
    obtain ⟨h1, h2, h3, ⟨b', off', h4, h5⟩, h6⟩ := hf
    have hx : ∀ i, W'.cell? ⟨b, off + i, none⟩ = W.cell? ⟨b, off + i, none⟩ := fun i => World.cell?_of_block (a := ⟨b, off + i, none⟩) (hk b hb)
    refine ⟨by rw [hs]; exact h1, ⟨(hx 0).trans h2.c0, (hx 1).trans h2.c1, (hx 2).trans h2.c2, (hx 3).trans h2.c3, (hx 4).trans h2.c4, (hx 5).trans h2.c5, (hx 6).trans h2.c6, (hx 7).trans h2.c7⟩, h3.other hs hk ha.1.1, ⟨b', off', h4, ?_⟩, ihr h6 ha.2.2 hb⟩
    rcases Nat.eq_zero_or_pos k.len with h0 | hp
    · cases k with
      | nil => exact trivial
      | cons x y z => have h3 : z.len + 1 = 0 := h0; omega
    · exact ihk h5 ha.2.1 (ha.1.2 hp _ (h4 hp))

/-- no row of data, no text, no row of limbs is too long to be copied -/
def FewF : Fr → Prop
  | .nil => True
  | .cons h k r => k.len ≤ 1000000 ∧ FewF k ∧ FewF r
theorem FewF.drop : ∀ (j : Nat) {fr : Fr}, FewF fr → FewF (fr.drop j) := by
  intro j
  induction j with
  | zero => intro fr h; exact h
  | succ j ih =>
    intro fr h
    cases fr with
    | nil => exact trivial
    | cons hh k r => exact ih h.2.2

/-- what a copy is -/
def RetCopy (w : World) (h : Hd) (kids : Fr) (e : Ending) (w' : World) : Prop :=
  ∃ h' kids', e = .returned (datA h' kids'.len) ∧ DatV w' h' kids' ∧ AlikeH h h' ∧ AlikeF kids kids' ∧ h'.Ok kids'.len ∧ kids'.Ok ∧ FreshH w.heap.size h' kids'.len ∧ FreshF w.heap.size kids' ∧ Below w.heap.size w w'

/-- what stands between two rounds -/
structure CopyI (w : World) (h1 : Hd) (kids : Fr) (g j : Nat) (W : World) : Prop where
  bel : Below w.heap.size w W
  blk : W.heap[w.heap.size]? = some (datO h1 kids.len)
  zer : W.heap[w.heap.size + 1]? = some zeroO
  rd : Rd W h1.A h1.xs
  lt : g < W.heap.size
  soft : ∀ i, W.frozen? ⟨g, i, none⟩ = false
  row : ∃ x0 done, kids = x0.app (kids.drop j) ∧ AlikeF x0 done ∧ done.len = j ∧ FAt W g 0 (done.app (kids.drop j)) ∧ AwayF g (done.app (kids.drop j)) ∧ FreshF (w.heap.size + 2) done ∧ done.Ok
theorem heap_lt {W : World} {g : Nat} {o : Obj} (h : W.heap[g]? = some o) : g < W.heap.size := by
  rcases Nat.lt_or_ge g W.heap.size with h2 | h2
  · exact h2
  · rw [Array.getElem?_eq_none h2] at h; cases h
theorem frozen_set {W : World} {p q : Addr} {u : Value} : (W.setCell p u).frozen? q = W.frozen? q := by
  by_cases hb : q.block = p.block
  · unfold World.frozen? World.setCell
    simp only [Array.getElem?_modify, hb, if_pos]
    cases W.heap[p.block]? with
    | none => rfl
    | some o => cases o <;> rfl
  · exact World.frozen?_of_block (Below.heap_setCell W p u _ hb)

theorem set8_below {B g o n : Nat} {w W : World} {h : Hd} (hb : Below B w W) (hg : B ≤ g) : Below B w (set8 W g o h n) :=
  (((((((hb.setCell hg _).setCell hg _).setCell hg _).setCell hg _).setCell hg _).setCell hg _).setCell hg _).setCell hg _
theorem set8_heap {g o n k : Nat} {W : World} {h : Hd} (hk : k ≠ g) : (set8 W g o h n).heap[k]? = W.heap[k]? := by
  unfold set8
  rw [Below.heap_setCell _ _ _ _ hk, Below.heap_setCell _ _ _ _ hk, Below.heap_setCell _ _ _ _ hk, Below.heap_setCell _ _ _ _ hk, Below.heap_setCell _ _ _ _ hk, Below.heap_setCell _ _ _ _ hk, Below.heap_setCell _ _ _ _ hk, Below.heap_setCell _ _ _ _ hk]
theorem set8_frozen {g o n : Nat} {W : World} {h : Hd} {q : Addr} : (set8 W g o h n).frozen? q = W.frozen? q := by
  unfold set8
  rw [frozen_set, frozen_set, frozen_set, frozen_set, frozen_set, frozen_set, frozen_set, frozen_set]
theorem app_snoc (h : Hd) (k y : Fr) : ∀ x : Fr, (x.app (.cons h k .nil)).app y = x.app (.cons h k y) := by
  intro x
  induction x with
  | nil => rfl
  | cons a b c _ ih => show Fr.cons a b ((c.app (.cons h k .nil)).app y) = _; rw [ih]; rfl
theorem alike_snoc {h h' : Hd} {k k' : Fr} (hh : AlikeH h h') (hk : AlikeF k k') : ∀ {x y : Fr}, AlikeF x y → AlikeF (x.app (.cons h k .nil)) (y.app (.cons h' k' .nil)) := by
  intro x
  induction x with
  | nil => intro y hxy; cases y with
    | nil => exact ⟨hh, hk, trivial⟩
    | cons a b c => exact absurd hxy id
  | cons a b c _ ih => intro y hxy; cases y with
    | nil => exact absurd hxy id
    | cons a' b' c' => exact ⟨hxy.1, hxy.2.1, ih hxy.2.2⟩
theorem fresh_snoc {B : Nat} {h : Hd} {k : Fr} (hh : FreshH B h k.len) (hk : FreshF B k) : ∀ {x : Fr}, FreshF B x → FreshF B (x.app (.cons h k .nil)) := by
  intro x
  induction x with
  | nil => intro _; exact ⟨hh, hk, trivial⟩
  | cons a b c _ ih => intro hx; exact ⟨hx.1, hx.2.1, ih hx.2.2⟩
theorem ok_snoc {h : Hd} {k : Fr} (hh : h.Ok k.len) (hk : k.Ok) : ∀ {x : Fr}, x.Ok → (x.app (.cons h k .nil)).Ok := by
  intro x
  induction x with
  | nil => intro _; exact ⟨hh, hk, trivial⟩
  | cons a b c _ ih => intro hx; exact ⟨hx.1, hx.2.1, ih hx.2.2⟩
/-- a round of copying -/
theorem copy_round {w wr v1 : World} {H1 hh hc : Hd} {kids k r kc : Fr} {g j : Nat} (hI : CopyI w H1 kids g j wr) (hd : kids.drop j = .cons hh k r) (hd1 : kids.drop (j + 1) = r) (hg : w.heap.size + 1 < g) (hA : 0 < H1.xs.length → Off H1.A g)
    (dc : DatV v1 hc kc) (ac : AlikeH hh hc) (afc : AlikeF k kc) (okc : hc.Ok kc.len) (okf : kc.Ok) (frc : FreshH wr.drew.heap.size hc kc.len) (frf : FreshF wr.drew.heap.size kc) (bc : Below wr.drew.heap.size wr.drew v1) : CopyI w H1 kids g (j + 1) (set8 v1 g (j * 8) hc kc.len) := by
  obtain ⟨ib, ik, iz, ir, il, ifz, x0, done, ie, ia, idl, iF, iA, iN, iO⟩ := hI
  rw [hd] at iF iA ie
  have hs : wr.drew.heap.size = wr.heap.size := rfl
  have hbd : Below wr.heap.size wr v1 := ⟨bc.os, bc.tape, bc.output, bc.size, bc.block⟩
  have hlz := heap_lt iz
  have e1 : hc.k = hh.k := ac.1
  have awH : AwayH g hc kc.len := ⟨fun hx ad e => by have := frc.1 hx ad e; show ad.block ≠ g; omega, fun hx ad e => by have := frc.2 hx ad e; show ad.block ≠ g; omega⟩
  have hfs := fat_set (FAt.below hbd _ _ _ iF) iA dc awH (FreshF.away (by omega) frf)
  rw [idl, Nat.zero_add] at hfs
  refine ⟨set8_below (bel_trans (B := w.heap.size) ib hbd) (by omega), ?_, ?_, ?_, ?_, fun i => ?_, x0.app (.cons hh k .nil), done.app (.cons hc kc .nil), ?_, alike_snoc ac afc ia, ?_, ?_, ?_, ?_, ok_snoc okc okf iO⟩
  · rw [set8_heap (by omega)]; exact (hbd.block _ (by omega)).trans ik
  · rw [set8_heap (by omega)]; exact (hbd.block _ hlz).trans iz
  · exact (set8_out v1 g (j * 8) hc kc.len).rd (ir.below hbd) hA
  · rw [(set8_out v1 g (j * 8) hc kc.len).size]; have := hbd.size; omega
  · rw [set8_frozen]; exact (hbd.frozen (p := ⟨g, i, none⟩) il).trans (ifz i)
  · rw [hd1, app_snoc]; exact ie
  · rw [app_len]; show done.len + (0 + 1) = j + 1; omega
  · rw [hd1, app_snoc]; exact hfs.1
  · rw [hd1, app_snoc]; exact hfs.2
  · exact fresh_snoc ⟨fun hx ad e => by have := frc.1 hx ad e; omega, fun hx ad e => by have := frc.2 hx ad e; omega⟩ (FreshF.mono (by omega) frf) iN

abbrev zeroHd : Hd := ⟨0, 0, false, 0, false, none, [], 0, ⟨#[]⟩, none, 0⟩
abbrev set8z (w : World) (g : Nat) (h : Hd) (n : Nat) : World :=
  (((((((w.setCell ⟨g, 0, none⟩ (.int .i64 h.k)).setCell ⟨g, 1, none⟩ (.int .i64 h.n)).setCell ⟨g, 2, none⟩ (.bool h.fl)).setCell ⟨g, 3, none⟩ (.float .f64 h.f)).setCell ⟨g, 4, none⟩ (.bool h.s)).setCell ⟨g, 5, none⟩ (.slice h.A h.xs.length h.c)).setCell ⟨g, 6, none⟩ (.string h.t)).setCell ⟨g, 7, none⟩ (.slice h.B n h.cap)
/-- a datum is stored into the variable of a result -/
theorem result_dat {w W : World} {g B : Nat} {h : Hd} {n : Nat} (hz : W.heap[g]? = some zeroO) (hb : Below B w W) (hg : B ≤ g) : ∃ WF, set8z W g h n = WF ∧ C8 WF g 0 h n ∧ Out8 g 0 W WF ∧ Below B w WF := by
  have hc : C8 W g 0 zeroHd 0 := C8.of_block hz
  refine ⟨set8 W g 0 h n, rfl, set8_c8 hc h n, set8_out W g 0 h n, ?_⟩
  exact (((((((hb.setCell hg _).setCell hg _).setCell hg _).setCell hg _).setCell hg _).setCell hg _).setCell hg _).setCell hg _
theorem zero_facts {W : World} {g : Nat} (hz : W.heap[g]? = some zeroO) :
    W.cell? ⟨g, 0, none⟩ = some (.int .i64 0) ∧ W.cell? ⟨g, 1, none⟩ = some (.int .i64 0) ∧ W.cell? ⟨g, 2, none⟩ = some (.bool false) ∧ W.cell? ⟨g, 3, none⟩ = some (.float .f64 0) ∧ W.cell? ⟨g, 4, none⟩ = some (.bool false) ∧ W.cell? ⟨g, 5, none⟩ = some (.slice none 0 0) ∧ W.cell? ⟨g, 6, none⟩ = some (.string ⟨#[]⟩) ∧ W.cell? ⟨g, 7, none⟩ = some (.slice none 0 0) ∧
    W.frozen? ⟨g, 0, none⟩ = false ∧ W.frozen? ⟨g, 1, none⟩ = false ∧ W.frozen? ⟨g, 2, none⟩ = false ∧ W.frozen? ⟨g, 3, none⟩ = false ∧ W.frozen? ⟨g, 4, none⟩ = false ∧ W.frozen? ⟨g, 5, none⟩ = false ∧ W.frozen? ⟨g, 6, none⟩ = false ∧ W.frozen? ⟨g, 7, none⟩ = false ∧ g < W.heap.size := by
  refine ⟨ob_cell hz 0, ob_cell hz 1, ob_cell hz 2, ob_cell hz 3, ob_cell hz 4, ob_cell hz 5, ob_cell hz 6, ob_cell hz 7, ob_free hz 0 (by decide), ob_free hz 1 (by decide), ob_free hz 2 (by decide), ob_free hz 3 (by decide), ob_free hz 4 (by decide), ob_free hz 5 (by decide), ob_free hz 6 (by decide), ob_free hz 7 (by decide), ?_⟩
  rcases Nat.lt_or_ge g W.heap.size with h2 | h2
  · exact h2
  · rw [Array.getElem?_eq_none h2] at hz; cases hz
theorem drop_all (fr : Fr) : fr.drop fr.len = .nil := by
  have h1 := Fr.len_drop fr.len fr
  cases h2 : fr.drop fr.len with
  | nil => rfl
  | cons x y z => rw [h2] at h1; have h3 : z.len + 1 = fr.len - fr.len := h1; omega
theorem app_nil : ∀ (x : Fr), x.app .nil = x := by
  intro x
  induction x with
  | nil => rfl
  | cons h k r _ ih => show Fr.cons h k (r.app .nil) = _; rw [ih]

set_option maxRecDepth 100000 in
set_option maxHeartbeats 8000000 in
theorem dcopied_any : ∀ (m : Nat) (kids : Fr), kids.size < m → kids.Ok → FewF kids → kids.len ≤ 1000000 → ∀ (h : Hd) (w : World), DatV w h kids → h.Ok kids.len → Calls Tryz.prog 83 #[datA h kids.len] w (RetCopy w h kids) := by
  intro m
  induction m with
  | zero => intro kids h; omega
  | succ m ih =>
    intro kids hsz hok hfew hlen h w hd hho
    obtain ⟨W0, hW0⟩ : ∃ W0, (w.alloc (datO h kids.len)).alloc (zeroO) = W0 := ⟨_, rfl⟩
    have hb0 : Below w.heap.size w W0 := by rw [← hW0]; exact ((Below.refl _ w).alloc (Nat.le_refl _) _).alloc (by simp) _
    have hO : Obs W0 [(w.heap.size + 1, zeroO), (w.heap.size, datO h kids.len)] := by
      rw [← hW0]
      have h1 := (Obs.nil.new (w := w) (datO h kids.len)).new (zeroO)
      simp only [World.size_alloc] at h1
      exact h1
    obtain ⟨x0, x1, x2, x3, x4, x5, x6, x7⟩ := C8.of_block hO.tl.hd
    have HW0 := Lib.hid hW0
    have HB0 := Lib.hid hb0
    have O0 := Lib.hid hO
    have HT := Lib.hid fun W => dclone_any h.t W hho.t
    have HL := Lib.hid fun W (hW : Below w.heap.size w W) => dclone_limbs h.xs h.A h.c W (hd.xs.below hW) hho.sA hho.nA (by have := hho.l; omega)
    have HI := Lib.hid fun W (hW : Below w.heap.size w W) => dclone_data kids h.B h.cap W (hd.below hW).items hho.sB hho.nB hlen
    clear hW0 hb0 hO
    go_enter Tryz.func83, Tryz.ntmps83
    go_wp2_with (fail)
    rw [HW0.out]
    refine (HT.out _).mono ?_
    rintro e w1 ⟨rfl, hb1⟩
    have O1 := Lib.hid (O0.out.below hb1)
    have HB1 := Lib.hid (bel_trans (B := w.heap.size) HB0.out hb1)
    clear hb1 x0 x1 x2 x3 x4 x5 x6 x7
    obtain ⟨x0, x1, x2, x3, x4, x5, x6, x7⟩ := C8.of_block O1.out.tl.hd
    have fz := fun i hi => ob_free O1.out.tl.hd i hi
    have hl1 : w.heap.size < w1.heap.size := by
      have h1 := O1.out.tl.hd
      rcases Nat.lt_or_ge w.heap.size w1.heap.size with h2 | h2
      · exact h2
      · rw [Array.getElem?_eq_none h2] at h1; cases h1
    have f6 := fz 6 (by simp)
    clear fz
    obtain ⟨W1, hW1, Y1, hb1, ho1, hz1⟩ := stored_dat O1.out.tl.hd HB1.out (Nat.le_refl _) (i := 6) (v := .string h.t) (h' := h) (n' := kids.len) (by unfold head8; rfl)
    have HW1 := Lib.hid hW1
    have YY1 := Lib.hid Y1
    have HBY1 := Lib.hid hb1
    have Z1 := Lib.hid ((ho1 _ (by omega)).trans O1.out.hd)
    obtain ⟨y0, y1, y2, y3, y4, y5, y6, y7⟩ := C8.of_block Y1
    clear hW1 Y1 hb1 ho1 hz1
    go_wp2_with (fail)
    rw [HW1.out]
    refine (HL.out _ HBY1.out).mono ?_
    rintro e w2 ⟨A2, c2, rfl, hr2, ha2, hc2, hcm2, hn2, hb2⟩
    have HB2 := Lib.hid (bel_trans (B := w.heap.size) HBY1.out hb2)
    have hlw1 : w.heap.size + 1 < W1.heap.size := by
      have h1 := Z1.out
      rcases Nat.lt_or_ge (w.heap.size + 1) W1.heap.size with h2 | h2
      · exact h2
      · rw [Array.getElem?_eq_none h2] at h1; cases h1
    have X2 := Lib.hid ((hb2.block w.heap.size (by omega)).trans YY1.out)
    have Z2 := Lib.hid ((hb2.block (w.heap.size + 1) hlw1).trans Z1.out)
    have f5 := ob_free X2.out 5 (by simp)
    have hl2 : w.heap.size < w2.heap.size := by have := hb2.size; omega
    obtain ⟨W2, hW2, Y2, hb3, ho2, hz2⟩ := stored_dat X2.out HB2.out (Nat.le_refl _) (i := 5) (v := .slice A2 h.xs.length c2) (h' := { h with A := A2, c := c2 }) (n' := kids.len) (by unfold head8; rfl)
    have R2 := Lib.hid (hr2.other hz2 ho2 (fun _ ad e => by have := (ha2 ad e).1; omega))
    have HA2 := Lib.hid ha2
    have HW2 := Lib.hid hW2
    have YY2 := Lib.hid Y2
    have HBY2 := Lib.hid hb3
    have ZZ2 := Lib.hid ((ho2 _ (by omega)).trans Z2.out)
    have HN2 := Lib.hid hn2
    obtain ⟨u0, u1, u2, u3, u4, u5, u6, u7⟩ := C8.of_block X2.out
    clear hW2 Y2 hb3 ho2 hz2 hb2 hr2 ha2 hn2 y0 y1 y2 y3 y4 y5 y6 y7 x0 x1 x2 x3 x4 x5 x6 x7
    go_wp2_with (fail)
    rw [HW2.out]
    refine (HI.out _ HBY2.out).mono ?_
    rintro e w3 ⟨B3, cap3, rfl, hB3, hc3, hcm3, hn3, hb4⟩
    have HB3 := Lib.hid (bel_trans (B := w.heap.size) HBY2.out hb4)
    have hlw2 : w.heap.size + 1 < W2.heap.size := by
      have h1 := ZZ2.out
      rcases Nat.lt_or_ge (w.heap.size + 1) W2.heap.size with h2 | h2
      · exact h2
      · rw [Array.getElem?_eq_none h2] at h1; cases h1
    have X3 := Lib.hid ((hb4.block w.heap.size (by omega)).trans YY2.out)
    have Z3 := Lib.hid ((hb4.block (w.heap.size + 1) hlw2).trans ZZ2.out)
    have R3 := Lib.hid (R2.out.below hb4)
    have f7 := ob_free X3.out 7 (by simp)
    have hl3 : w.heap.size < w3.heap.size := by have := hb4.size; omega
    obtain ⟨W3, hW3, Y3, hb5, ho3, hz3⟩ := stored_dat X3.out HB3.out (Nat.le_refl _) (i := 7) (v := .slice B3 kids.len cap3) (h' := { h with A := A2, c := c2, B := B3, cap := cap3 }) (n' := kids.len) (by unfold head8; rfl)
    have R4 := Lib.hid (R3.out.other hz3 ho3 (fun _ ad e => by have := (HA2.out ad e).1; omega))
    have HW3 := Lib.hid hW3
    have YY3 := Lib.hid Y3
    have HBY3 := Lib.hid hb5
    have ZZ3 := Lib.hid ((ho3 _ (by omega)).trans Z3.out)
    have HN3 := Lib.hid hn3
    obtain ⟨v0, v1, v2, v3, v4, v5, v6, v7⟩ := C8.of_block X3.out
    clear hW3 Y3 hb5 hn3 u0 u1 u2 u3 u4 u5 u6 u7
    go_wp2_with (fail)
    rw [HW3.out]
    cases B3 with
    | none =>
      obtain ⟨h0, rfl⟩ := HN3.out rfl
      have hk0 : kids = .nil := by
        cases kids with
        | nil => rfl
        | cons x y z => have h3 : z.len + 1 = 0 := h0; omega
      subst hk0
      obtain ⟨WF, hWF, CF, OF, hbF⟩ := result_dat (h := { h with A := A2, c := c2, B := none, cap := 0 }) (n := 0) ZZ3.out HBY3.out (Nat.le_succ _)
      dsimp only [set8z] at hWF
      have HWF := Lib.hid hWF
      have RF := Lib.hid (OF.rd R4.out (fun _ ad e => by have := (HA2.out ad e).1; show ad.block ≠ _; omega))
      have HBF := Lib.hid hbF
      obtain ⟨q0, q1, q2, q3, q4, q5, q6, q7⟩ := CF
      dsimp only [Nat.zero_add] at q0 q1 q2 q3 q4 q5 q6 q7
      obtain ⟨t0, t1, t2, t3, t4, t5, t6, t7⟩ := C8.of_block YY3.out
      obtain ⟨z0, z1, z2, z3, z4, z5, z6, z7, e0, e1, e2, e3, e4, e5, e6, e7, el⟩ := zero_facts ZZ3.out
      clear hWF OF hbF
      go_loopg [23] 0 (fun kk i wr => wr = W3 ∧ i = .int .i64 0)
      case atStart => exact ⟨rfl, rfl⟩
      case round =>
        obtain ⟨rfl, rfl⟩ := hrel
        go_wp2_with (fail)
        rw [HWF.out]
        refine bodyPost_ret (v := datA { h with A := A2, c := c2, B := none, cap := 0 } 0) (by simp [results, Tryz.results83, go_sem, q0, q1, q2, q3, q4, q5, q6, q7]) rfl ?_
        exact ⟨{ h with A := A2, c := c2, B := none, cap := 0 }, .nil, rfl, ⟨RF.out, 0, 0, fun h => absurd h (by decide), trivial⟩, ⟨rfl, rfl, rfl, rfl, rfl, rfl, rfl⟩, trivial, ⟨hho.k, hho.n, hho.f, hho.lm, ⟨hc2, hcm2⟩, HN2.out, hho.l, hho.t, ⟨Nat.le_refl _, by show 0 ≤ 9223372036854775807; decide⟩, fun _ => ⟨rfl, rfl⟩, fun ad e => (HA2.out ad e).2, fun ad e => by cases e⟩, trivial,
          ⟨fun _ ad e => by have := (HA2.out ad e).1; have := HBY1.out.size; show w.heap.size ≤ ad.block; omega, fun h => absurd h (by decide)⟩, trivial, HBF.out⟩
    | some ad =>
      obtain ⟨g, rfl, hg1, hg2, hF3, hfz3⟩ := hB3 _ rfl
      have hfz4 : ∀ i, W3.frozen? ⟨g, i, none⟩ = false := fun i => (World.frozen?_of_block (w := w3) (a := ⟨g, i, none⟩) (ho3 g (by omega))).trans (hfz3 i)
      have hgl : w.heap.size + 1 < g := by omega
      have aw3 : AwayF g kids := by
        obtain ⟨b, off, -, hF⟩ := hd.items
        exact away_old (by omega) hF
      have F3 := Lib.hid (FAt.other hz3 ho3 hF3 (by
        obtain ⟨b, off, -, hF⟩ := hd.items
        exact away_old (Nat.le_refl _) hF) (by omega))
      have AW3 := Lib.hid aw3
      have HG3 := Lib.hid hg1
      have HSZ := Lib.hid hsz
      have HOK := Lib.hid hok
      have HFW := Lib.hid hfew
      have IH := Lib.hid ih
      have HHO := Lib.hid hho
      have hgs : g < W3.heap.size := by omega
      obtain ⟨H1, hH1⟩ : ∃ H1 : Hd, H1 = { h with A := A2, c := c2, B := some ⟨g, 0, none⟩, cap := cap3 } := ⟨_, rfl⟩
      have HH1 := Lib.hid hH1
      clear hfz3 hB3 hF3 aw3 hg1 hsz hok hfew ih hho hd ho3 hz3
      have hst : CopyI w H1 kids g 0 W3 := ⟨HBY3.out, by rw [hH1]; exact YY3.out, ZZ3.out, by rw [hH1]; exact R4.out, hgs, hfz4, .nil, .nil, rfl, trivial, rfl, F3.out, AW3.out, trivial, trivial⟩
      have HST := Lib.hid hst
      clear hst
      go_loopg [23] kids.len (fun kk i wr => ∃ j : Nat, j ≤ kids.len ∧ kk = kids.len - j ∧ i = .int .i64 (j : Int) ∧ CopyI w H1 kids g j wr)
      case atStart => exact ⟨0, Nat.zero_le _, rfl, rfl, HST.out⟩
      case round =>
        obtain ⟨j, hj, rfl, rfl, hI⟩ := hrel
        have HI2 := Lib.hid hI
        obtain ⟨ib, ik, iz, ir, il, ifz, x0, done, ie, ia, idl, iF, iA, iN, iO⟩ := hI
        rw [hH1] at ik
        by_cases hjl : j < kids.len
        · obtain ⟨hh, k, r, hdr, hdr1⟩ := Fr.cons_of_lt hjl
          rw [hdr] at iF iA ie
          have f2 := (fat_app.1 iF).2
          rw [idl, Nat.zero_add] at f2
          obtain ⟨-, C, D, -⟩ := f2.hd
          have hks := size_item hdr
          have hko := HOK.out.drop j
          have hkf := HFW.out.drop j
          rw [hdr] at hko hkf
          have CL := Lib.hid (IH.out k (by have := HSZ.out; omega) hko.2.1 hkf.2.1 hkf.1 hh wr.drew (D.below ((Below.refl _ wr).drew)) hko.1)
          have KS : Hid (∀ W, (W.heap[w.heap.size]? = some (datO { h with A := A2, c := c2, B := some ⟨g, 0, none⟩, cap := cap3 } kids.len) ∧ C8 W g (j * 8) hh k.len) → W.cell? ⟨w.heap.size, 7, none⟩ = some (.slice (some ⟨g, 0, none⟩) kids.len cap3) ∧ W.cell? ⟨g, j * 8, none⟩ = some (.int .i64 hh.k) ∧ W.cell? ⟨g, j * 8 + 1, none⟩ = some (.int .i64 hh.n) ∧ W.cell? ⟨g, j * 8 + 2, none⟩ = some (.bool hh.fl) ∧ W.cell? ⟨g, j * 8 + 3, none⟩ = some (.float .f64 hh.f) ∧ W.cell? ⟨g, j * 8 + 4, none⟩ = some (.bool hh.s) ∧ W.cell? ⟨g, j * 8 + 5, none⟩ = some (.slice hh.A hh.xs.length hh.c) ∧ W.cell? ⟨g, j * 8 + 6, none⟩ = some (.string hh.t) ∧ W.cell? ⟨g, j * 8 + 7, none⟩ = some (.slice hh.B k.len hh.cap)) := Lib.hid fun W hP => ⟨ob_cell hP.1 7, hP.2.c0, hP.2.c1, hP.2.c2, hP.2.c3, hP.2.c4, hP.2.c5, hP.2.c6, hP.2.c7⟩
          have P0 : Hid (wr.drew.heap[w.heap.size]? = some (datO { h with A := A2, c := c2, B := some ⟨g, 0, none⟩, cap := cap3 } kids.len) ∧ C8 wr.drew g (j * 8) hh k.len) := Lib.hid ⟨ik, C.keep ((Below.refl wr.heap.size wr).drew) il⟩
          have hlw := heap_lt ik
          have hgw : g ≠ w.heap.size := by omega
          have HDR0 := Lib.hid hdr
          have KP : Hid (∀ W, Below wr.drew.heap.size wr.drew W → W.cell? ⟨w.heap.size, 7, none⟩ = some (.slice (some ⟨g, 0, none⟩) kids.len cap3)) := Lib.hid fun W hW => ob_cell ((hW.block _ hlw).trans ik) 7
          have KF : Hid (∀ W, Below wr.drew.heap.size wr.drew W → ∀ i, W.frozen? ⟨g, i, none⟩ = false) := Lib.hid fun W hW i => (hW.frozen (p := ⟨g, i, none⟩) il).trans (ifz i)
          have KC : Hid (∀ W, Below wr.drew.heap.size wr.drew W → C8 W g (j * 8) hh k.len) := Lib.hid fun W hW => (C.keep ((Below.refl wr.heap.size wr).drew) il).keep hW il
          have HIL := Lib.hid il
          have HIB := Lib.hid ib
          have HD1 := Lib.hid hdr1
          have P0 := Lib.hid (KP.out _ (Below.refl _ _))
          obtain ⟨n0, n1, n2, n3, n4, n5, n6, n7⟩ := KC.out _ (Below.refl _ _)
          clear hlw ifz hfz4 hdr hdr1 C D hks hko hkf ie ia iF iA iN iO ir iz ik ib f2
          go_wp2_with (fail)
          refine wp_region_held_drew (S := fun W => W.cell? ⟨w.heap.size, 7, none⟩ = some (.slice (some ⟨g, 0, none⟩) kids.len cap3)) (by kernel_rfl) P0.out (fun hHeld => ?_)
          refine wpAnyH_take (i := 0) (v := ?v0) rfl (by kernel_rfl) (by kernel_rfl) (by kernel_rfl) (fun _ _ _ h => h) (Or.inl ⟨by rfl, ?y0⟩) hHeld ?r0
          case y0 =>
            intro W hSw
            go_simp
            all_goals (with_reducible rfl)
          change wpAnyH _ _ _ _ _ _ _ (Act.put _ (some 26) _) _
          simp only [Act.put, List.setIfInBounds_toArray, List.set_cons_zero, List.set_cons_succ]
          refine wpAnyH_take (i := 1) (v := ?v1) rfl (by kernel_rfl) (by kernel_rfl) (by kernel_rfl) (fun _ _ _ h => h) (Or.inl ⟨by rfl, ?y1⟩) hHeld ?r1
          case y1 =>
            intro W hSw
            go_simp
            all_goals (with_reducible rfl)
          change wpAnyH _ _ _ _ _ _ _ (Act.put _ (some 27) _) _
          simp only [Act.put, List.setIfInBounds_toArray, List.set_cons_zero, List.set_cons_succ]
          refine wpAnyH_take (i := 2) (v := ?v2) rfl (by kernel_rfl) (by kernel_rfl) (by kernel_rfl) (fun _ _ _ h => h) (Or.inl ⟨by rfl, ?y2⟩) hHeld ?r2
          case y2 =>
            intro W hSw
            go_simp
            all_goals (with_reducible rfl)
          change wpAnyH _ _ _ _ _ _ _ (Act.put _ (some 28) _) _
          simp only [Act.put, List.setIfInBounds_toArray, List.set_cons_zero, List.set_cons_succ]
          refine wpAnyH_take (i := 3) (v := ?v3) rfl (by kernel_rfl) (by kernel_rfl) (by kernel_rfl) (fun _ _ _ h => h) (Or.inl ⟨by rfl, ?y3⟩) hHeld ?r3
          case y3 =>
            intro W hSw
            go_simp
            all_goals (with_reducible rfl)
          change wpAnyH _ _ _ _ _ _ _ (Act.put _ (some 29) _) _
          simp only [Act.put, List.setIfInBounds_toArray, List.set_cons_zero, List.set_cons_succ]
          refine wpAnyH_take (i := 4) (v := ?v4) rfl (by kernel_rfl) (by kernel_rfl) (by kernel_rfl) (fun _ _ _ h => h) (Or.inl ⟨by rfl, ?y4⟩) hHeld ?r4
          case y4 =>
            intro W hSw
            go_simp
            all_goals (with_reducible rfl)
          change wpAnyH _ _ _ _ _ _ _ (Act.put _ (some 30) _) _
          simp only [Act.put, List.setIfInBounds_toArray, List.set_cons_zero, List.set_cons_succ]
          refine wpAnyH_take (i := 5) (v := ?v5) rfl (by kernel_rfl) (by kernel_rfl) (by kernel_rfl) (fun _ _ _ h => h) (Or.inl ⟨by rfl, ?y5⟩) hHeld ?r5
          case y5 =>
            intro W hSw
            go_simp
            all_goals (with_reducible rfl)
          change wpAnyH _ _ _ _ _ _ _ (Act.put _ (some 31) _) _
          simp only [Act.put, List.setIfInBounds_toArray, List.set_cons_zero, List.set_cons_succ]
          refine wpAnyH_take (i := 6) (v := ?v6) rfl (by kernel_rfl) (by kernel_rfl) (by kernel_rfl) (fun _ _ _ h => h) (Or.inl ⟨by rfl, ?y6⟩) hHeld ?r6
          case y6 =>
            intro W hSw
            go_simp
            all_goals (with_reducible rfl)
          change wpAnyH _ _ _ _ _ _ _ (Act.put _ (some 32) _) _
          simp only [Act.put, List.setIfInBounds_toArray, List.set_cons_zero, List.set_cons_succ]
          refine wpAnyH_ready (rs := [7]) (by kernel_rfl) (by simp) ?_
          refine AllReadyH.cons rfl (fun K hK => ?_) AllReadyH.nil
          go_simp
          refine hK.out _ _ P0.out (fun hHeld => ?_)
          clear hK K
          refine wpAnyH_ready (rs := [8]) (by kernel_rfl) (by simp) ?_
          refine AllReadyH.cons rfl (fun K hK => ?_) AllReadyH.nil
          go_simp
          refine CL.out.mono ?_
          rintro e v1 ⟨hc, kc, rfl, dc, ac, afc, okc, okf, frc, frf, bc⟩
          have P1 := Lib.hid (KP.out _ bc)
          have HCI := Lib.hid (copy_round HI2.out HDR0.out HD1.out hgl (by rw [hH1]; exact fun hx => R2.out.off hx HG3.out) dc ac afc okc okf frc frf bc)
          have PZ := Lib.hid (((set8_out v1 g (j * 8) hc kc.len).cell _ 7 (.inl (fun e => hgw e.symm))).trans P1.out)
          have FZ1 := KF.out _ bc
          have fz0 := FZ1 (j * 8)
          have fz1 := FZ1 (j * 8 + 1)
          have fz2 := FZ1 (j * 8 + 2)
          have fz3 := FZ1 (j * 8 + 3)
          have fz4 := FZ1 (j * 8 + 4)
          have fz5 := FZ1 (j * 8 + 5)
          have fz6 := FZ1 (j * 8 + 6)
          have fz7 := FZ1 (j * 8 + 7)
          obtain ⟨m0, m1, m2, m3, m4, m5, m6, m7⟩ := KC.out _ bc
          have DC := Lib.hid dc
          have AC := Lib.hid ac
          have AFC := Lib.hid afc
          have OKC := Lib.hid okc
          have OKF := Lib.hid okf
          have FRC := Lib.hid frc
          have FRF := Lib.hid frf
          have BC := Lib.hid bc
          clear FZ1 dc ac afc okc okf frc frf bc hHeld
          refine hK.out _ _ P1.out (fun hHeld => ?_)
          clear hK K
          refine wpAnyH_take (i := 9) (v := ?v9) rfl (by kernel_rfl) (by kernel_rfl) (by kernel_rfl) (fun _ _ _ h => h) (Or.inl ⟨by rfl, ?y9⟩) hHeld ?r9
          case y9 =>
            intro W hSw
            go_simp
            all_goals (with_reducible rfl)
          change wpAnyH _ _ _ _ _ _ _ (Act.put _ (some 35) _) _
          simp only [Act.put, List.setIfInBounds_toArray, List.set_cons_zero, List.set_cons_succ]
          refine wpAnyH_ready (rs := [10]) (by kernel_rfl) (by simp) ?_
          refine AllReadyH.cons rfl (fun K hK => ?_) AllReadyH.nil
          go_simp
          refine hK.out _ _ PZ.out (fun hHeld => ?_)
          clear hK K
          refine wpAnyH_done (by kernel_rfl) ?_ _
          obtain ⟨WF, hWF⟩ : ∃ W, set8 v1 g (j * 8) hc kc.len = W := ⟨_, rfl⟩
          have hci := HCI.out
          rw [hWF] at hci
          have HCI2 := Lib.hid hci
          dsimp only [set8] at hWF
          rw [hWF]
          clear hci hWF m0 m1 m2 m3 m4 m5 m6 m7 n0 n1 n2 n3 n4 n5 n6 n7 fz0 fz1 fz2 fz3 fz4 fz5 fz6 fz7 hHeld
          go_wp2_with (fail)
          go_roundg (kids.len - (j + 1))
          case measure => omega
          case rel => exact ⟨j + 1, by omega, rfl, by go_num, HCI2.out⟩
        · have hje : j = kids.len := by omega
          subst hje
          rw [drop_all, app_nil] at ie iF iA
          subst ie
          obtain ⟨WF, hWF, CF, OF, hbF⟩ := result_dat (h := { h with A := A2, c := c2, B := some ⟨g, 0, none⟩, cap := cap3 }) (n := kids.len) iz ib (Nat.le_succ _)
          have rf := OF.rd ir (by rw [hH1]; exact fun _ ad e => by have := (HA2.out ad e).1; show ad.block ≠ _; omega)
          have ff := OF.fat iF (FreshF.away (by omega) iN) (.inl (by omega))
          rw [hH1] at rf
          dsimp only [set8z] at hWF
          have HWF := Lib.hid hWF
          have RF := Lib.hid rf
          have FF := Lib.hid ff
          have HBF := Lib.hid hbF
          have HIA := Lib.hid ia
          have HIN := Lib.hid iN
          have HIO := Lib.hid iO
          have hlen2 := ia.len
          obtain ⟨q0, q1, q2, q3, q4, q5, q6, q7⟩ := CF
          dsimp only [Nat.zero_add] at q0 q1 q2 q3 q4 q5 q6 q7
          obtain ⟨t0, t1, t2, t3, t4, t5, t6, t7⟩ := C8.of_block ik
          obtain ⟨z0, z1, z2, z3, z4, z5, z6, z7, e0, e1, e2, e3, e4, e5, e6, e7, el⟩ := zero_facts iz
          clear hWF OF hbF rf ff ia iN iO iF iA ir ik iz ib ifz il
          go_wp2_with (fail)
          rw [HWF.out]
          refine bodyPost_ret (v := datA { h with A := A2, c := c2, B := some ⟨g, 0, none⟩, cap := cap3 } kids.len) (by simp [results, Tryz.results83, go_sem, q0, q1, q2, q3, q4, q5, q6, q7]) rfl ?_
          have hho := HHO.out
          have hs1 := HBY1.out.size
          refine ⟨{ h with A := A2, c := c2, B := some ⟨g, 0, none⟩, cap := cap3 }, done, by rw [hlen2], ⟨RF.out, g, 0, fun _ => rfl, FF.out⟩, ⟨rfl, rfl, rfl, rfl, rfl, rfl, rfl⟩, HIA.out, ?_, HIO.out, ?_, FreshF.mono (by omega) HIN.out, HBF.out⟩
          · rw [hlen2]
            exact ⟨hho.k, hho.n, hho.f, hho.lm, ⟨hc2, hcm2⟩, HN2.out, hho.l, hho.t, ⟨hc3, hcm3⟩, fun e => (by cases e), fun ad e => (HA2.out ad e).2, fun ad e => (by injection e with e; subst e; rfl)⟩
          · exact ⟨fun _ ad e => by have := (HA2.out ad e).1; show w.heap.size ≤ ad.block; omega, fun _ ad e => by injection e with e; subst e; show w.heap.size ≤ g; omega⟩
end LM
end Go.Proofs.YtcfhiihhfcnfbaaGreatDoor

namespace Go.Proofs.YtcfhiihhfcnfbaaGreatDoor
open Go Go.RowKit
namespace LM
set_option linter.unusedVariables false
attribute [local go_sem] run_store_flt

set_option maxRecDepth 100000 in
set_option maxHeartbeats 4000000 in
theorem dbounded_any (kids : Fr) (hok : kids.Ok) (h : Hd) (w : World) (hd : DatV w h kids) (hho : h.Ok kids.len) :
    Calls Tryz.prog 82 #[datA h kids.len] w fun e w' => e = .returned (.bool (decide (cnt 65536 1 kids < 65536))) ∧ Below w.heap.size w w' := by
  obtain ⟨W0, hW0, hb0, ho, hs0⟩ := dat_block w h kids.len
  have HC := Lib.hid (counted_any (kids.size + 1) kids (by omega) hok h 65536 W0 (hd.below hb0) hho.cap.1 hho.cap.2 (by decide) (by decide))
  have HW0 := Lib.hid hW0
  have HB0 := Lib.hid hb0
  clear hW0 hb0 ho hd hho hok hs0
  go_enter Tryz.func82, Tryz.ntmps82
  go_wp2_with (fail)
  rw [HW0.out]
  refine HC.out.mono ?_
  rintro e w1 ⟨rfl, hb1⟩
  have HB1 := Lib.hid (bel_trans (B := w.heap.size) HB0.out hb1)
  clear hb1
  go_wp2_with (fail)
  go_ret
  exact ⟨rfl, HB1.out⟩
set_option maxRecDepth 100000 in
set_option maxHeartbeats 4000000 in
theorem dnodes_any (kids : Fr) (hok : kids.Ok) (h : Hd) (w : World) (hd : DatV w h kids) (hho : h.Ok kids.len) :
    Calls Tryz.prog 70 #[datA h kids.len] w fun e w' => e = .returned (.int .i64 (cnt 65536 1 kids)) ∧ Below w.heap.size w w' := by
  obtain ⟨W0, hW0, hb0, ho, hs0⟩ := dat_block w h kids.len
  have HC := Lib.hid (counted_any (kids.size + 1) kids (by omega) hok h 65536 W0 (hd.below hb0) hho.cap.1 hho.cap.2 (by decide) (by decide))
  have HW0 := Lib.hid hW0
  have HB0 := Lib.hid hb0
  clear hW0 hb0 ho hd hho hok hs0
  go_enter Tryz.func70, Tryz.ntmps70
  go_wp2_with (fail)
  rw [HW0.out]
  refine HC.out.mono ?_
  rintro e w1 ⟨rfl, hb1⟩
  have HB1 := Lib.hid (bel_trans (B := w.heap.size) HB0.out hb1)
  clear hb1
  go_wp2_with (fail)
  go_ret
  exact ⟨rfl, HB1.out⟩

set_option maxRecDepth 100000 in
set_option maxHeartbeats 4000000 in
theorem dSame_any (kids kids' : Fr) (hok : kids.Ok) (hok' : kids'.Ok) (hn : NumsR kids) (hn' : NumsR kids') (hbd : cnt 65536 1 kids < 65536) (h h' : Hd) (w : World) (hd : DatV w h kids) (hd' : DatV w h' kids') (hho : h.Ok kids.len) (hho' : h'.Ok kids'.len) (hr : rightN h.fl h.f h.s h.xs = true) (hr' : rightN h'.fl h'.f h'.s h'.xs = true) :
    Calls Tryz.prog 39 #[datA h kids.len, datA h' kids'.len] w fun e w' => e = .returned (.bool (headS h h' && sameF kids kids')) ∧ Below w.heap.size w w' := by
  obtain ⟨W0, hW0⟩ : ∃ W0, (w.alloc (datO h kids.len)).alloc (datO h' kids'.len) = W0 := ⟨_, rfl⟩
  have hb0 : Below w.heap.size w W0 := by rw [← hW0]; exact ((Below.refl _ w).alloc (Nat.le_refl _) _).alloc (by simp) _
  have hO : Obs W0 [(w.heap.size + 1, datO h' kids'.len), (w.heap.size, datO h kids.len)] := by
    rw [← hW0]
    have h1 := (Obs.nil.new (w := w) (datO h kids.len)).new (datO h' kids'.len)
    simp only [World.size_alloc] at h1
    exact h1
  have HC := Lib.hid (dbounded_any kids hok h W0 (hd.below hb0) hho)
  rw [decide_eq_true hbd] at HC
  have HS := Lib.hid fun W (hW : Below w.heap.size w W) => dsame_any (kids.size + 1) kids kids' (by omega) hok hok' hn hn' h h' W (hd.below hW) (hd'.below hW) hho hho' hr hr'
  have HW0 := Lib.hid hW0
  have HB0 := Lib.hid hb0
  have O0 := Lib.hid hO
  clear hW0 hb0 hO hd hd' hho hho' hok hok' hn hn' hbd hr hr'
  go_enter Tryz.func39, Tryz.ntmps39
  go_wp2_with (fail)
  rw [HW0.out]
  refine HC.out.mono ?_
  rintro e w1 ⟨rfl, hb1⟩
  have HB1 := Lib.hid (bel_trans (B := w.heap.size) HB0.out hb1)
  obtain ⟨x0, x1, x2, x3, x4, x5, x6, x7⟩ := C8.of_block (O0.out.below hb1).tl.hd
  obtain ⟨y0, y1, y2, y3, y4, y5, y6, y7⟩ := C8.of_block (O0.out.below hb1).hd
  clear hb1
  go_wp2_with (fail)
  refine (HS.out _ HB1.out).mono ?_
  rintro e w2 ⟨rfl, hb2⟩
  have HB2 := Lib.hid (bel_trans (B := w.heap.size) HB1.out hb2)
  clear hb2
  go_wp2_with (fail)
  go_ret
  exact ⟨rfl, HB2.out⟩

set_option maxRecDepth 100000 in
set_option maxHeartbeats 4000000 in
theorem dCopy_any (kids : Fr) (hok : kids.Ok) (hfew : FewF kids) (hl : kids.len ≤ 1000000) (hbd : cnt 65536 1 kids < 65536) (h : Hd) (w : World) (hd : DatV w h kids) (hho : h.Ok kids.len) :
    Calls Tryz.prog 38 #[datA h kids.len] w (RetCopy w h kids) := by
  obtain ⟨W0, hW0⟩ : ∃ W0, (w.alloc (datO h kids.len)).alloc zeroO = W0 := ⟨_, rfl⟩
  have hb0 : Below w.heap.size w W0 := by rw [← hW0]; exact ((Below.refl _ w).alloc (Nat.le_refl _) _).alloc (by simp) _
  have hO : Obs W0 [(w.heap.size + 1, zeroO), (w.heap.size, datO h kids.len)] := by
    rw [← hW0]
    have h1 := (Obs.nil.new (w := w) (datO h kids.len)).new zeroO
    simp only [World.size_alloc] at h1
    exact h1
  have HC := Lib.hid (dbounded_any kids hok h W0 (hd.below hb0) hho)
  rw [decide_eq_true hbd] at HC
  have HS := Lib.hid fun W (hW : Below w.heap.size w W) => dcopied_any (kids.size + 1) kids (by omega) hok hfew hl h W (hd.below hW) hho
  have HW0 := Lib.hid hW0
  have HB0 := Lib.hid hb0
  have O0 := Lib.hid hO
  clear hW0 hb0 hO hd hho hok hbd hfew hl
  go_enter Tryz.func38, Tryz.ntmps38
  go_wp2_with (fail)
  rw [HW0.out]
  refine HC.out.mono ?_
  rintro e w1 ⟨rfl, hb1⟩
  have HB1 := Lib.hid (bel_trans (B := w.heap.size) HB0.out hb1)
  have O1 := Lib.hid (O0.out.below hb1)
  obtain ⟨x0, x1, x2, x3, x4, x5, x6, x7⟩ := C8.of_block (O0.out.below hb1).tl.hd
  clear hb1
  go_wp2_with (fail)
  refine (HS.out _ HB1.out).mono ?_
  rintro e w2 ⟨hc, kc, rfl, dc, ac, afc, okc, okf, frc, frf, bc⟩
  have iz := (O1.out.below bc).hd
  have hlz := heap_lt O1.out.hd
  have ib := bel_trans (B := w.heap.size) HB1.out bc
  obtain ⟨WF, hWF, CF, OF, hbF⟩ := result_dat (h := hc) (n := kc.len) iz ib (Nat.le_succ _)
  have dF := OF.dat dc ⟨fun hx ad e => by have := frc.1 hx ad e; show ad.block ≠ _; omega, fun hx ad e => by have := frc.2 hx ad e; show ad.block ≠ _; omega⟩ (FreshF.away (by omega) frf)
  have hs1 := HB1.out.size
  have FRC := Lib.hid (show FreshH w.heap.size hc kc.len from ⟨fun hx ad e => by have := frc.1 hx ad e; omega, fun hx ad e => by have := frc.2 hx ad e; omega⟩)
  have FRF := Lib.hid (FreshF.mono hs1 frf)
  dsimp only [set8z] at hWF
  have HWF := Lib.hid hWF
  have DF := Lib.hid dF
  have HBF := Lib.hid hbF
  have AC := Lib.hid ac
  have AFC := Lib.hid afc
  have OKC := Lib.hid okc
  have OKF := Lib.hid okf
  obtain ⟨q0, q1, q2, q3, q4, q5, q6, q7⟩ := CF
  try dsimp only [Nat.zero_add] at q0 q1 q2 q3 q4 q5 q6 q7
  obtain ⟨z0, z1, z2, z3, z4, z5, z6, z7, e0, e1, e2, e3, e4, e5, e6, e7, el⟩ := zero_facts iz
  clear hWF OF hbF dF dc ac afc okc okf frc frf bc iz ib hs1 hlz
  go_wp2_with (fail)
  rw [HWF.out]
  refine bodyPost_ret (v := datA hc kc.len) (by simp [results, Tryz.results38, go_sem, q0, q1, q2, q3, q4, q5, q6, q7]) rfl ?_
  exact ⟨hc, kc, rfl, DF.out, AC.out, AFC.out, OKC.out, OKF.out, FRC.out, FRF.out, HBF.out⟩

end LM
end Go.Proofs.YtcfhiihhfcnfbaaGreatDoor

namespace Go.Proofs.YtcfhiihhfcnfbaaGreatDoor
open Go Go.RowKit
namespace LM
set_option linter.unusedVariables false
attribute [local go_sem] run_store_flt

/-- a builder that holds these bytes; it is block b -/
def WR (b : Nat) (bs : List UInt8) (W : World) : Prop := Lib.IsBuilderF 97 5 b b (Lib.byteCells bs) W ∧ b < W.heap.size
/-- these bytes were written, too -/
def Wrote (b : Nat) (bs add : List UInt8) (W : World) (e : Ending) (W' : World) : Prop := (∃ v, e = .returned v) ∧ WR b (bs ++ add) W' ∧ Below b W W' ∧ Keeps8 (b + 1) W W'
theorem strCells_eq (s : ByteArray) : Lib.strCells s = Lib.byteCells s.data.toList := rfl
theorem wrstr_any (b : Nat) (bs : List UInt8) (s : ByteArray) (w : World) (h : WR b bs w) (hl : bs.length + s.size ≤ 140737488355328) :
    Calls Tryz.prog 122 #[.pointer (some ⟨b, 0, none⟩), .string s] w (Wrote b bs s.data.toList w) := by
  refine (wstr_any b b (Lib.byteCells bs) s w h.1 (by rw [Lib.byteCells_length]; exact hl) (Nat.le_of_lt h.2)).mono ?_
  rintro e w' ⟨rfl, h1, h2, h3⟩
  refine ⟨⟨_, rfl⟩, ⟨?_, Nat.lt_of_lt_of_le h.2 h2.size⟩, h2, keeps8_others h3 h2.size (Nat.lt_succ_self _)⟩
  rw [Lib.byteCells_append]
  rw [strCells_eq] at h1
  exact .inr h1
theorem WR.below {b : Nat} {bs : List UInt8} {w w' : World} (h : WR b bs w) (hb : Below w.heap.size w w') : WR b bs w' := ⟨builder_below h.1 hb, Nat.lt_of_lt_of_le h.2 hb.size⟩

/-- a leaf -/
def leafK (k : Int) : Prop := k ≠ 5 ∧ k ≠ 6 ∧ k ≠ 7
instance (k : Int) : Decidable (leafK k) := by unfold leafK; infer_instance
def Fr.isNil : Fr → Bool
  | .nil => true
  | .cons _ _ _ => false
/-- the text of data one behind the other: is the last one a tail, is it the first one -/
def txF (lf : Hd → List UInt8) : Bool → Bool → Fr → List UInt8
  | _, _, .nil => []
  | dot, fst, .cons h k r => (if dot && r.isNil then [32, 46, 32] else if fst then [] else [32]) ++
      (if h.k = 5 then [40] ++ txF lf false true k ++ [41] else if h.k = 6 then [40] ++ txF lf true true k ++ [41] else if h.k = 7 then [35, 40] ++ txF lf false true k ++ [41] else lf h) ++ txF lf dot false r
def txD (lf : Hd → List UInt8) (h : Hd) (k : Fr) : List UInt8 :=
  if h.k = 5 then [40] ++ txF lf false true k ++ [41] else if h.k = 6 then [40] ++ txF lf true true k ++ [41] else if h.k = 7 then [35, 40] ++ txF lf false true k ++ [41] else lf h

set_option maxRecDepth 100000 in
set_option maxHeartbeats 8000000 in
/-- Items with blanks between; n of them: all, or all but the last -/
theorem dwitems_any (lf : Hd → List UInt8) (kids : Fr) (n : Nat) (hn : n ≤ kids.len) (o : ByteArray) (B : Option Addr) (cap bb off b : Nat) (bs : List UInt8) (w0 w : World) (h0 : Below b w0 w) (hw0 : b = w0.heap.size) (hB : 0 < n → B = some ⟨bb, off, none⟩) (hF : FAt w0 bb off kids) (hc1 : n ≤ cap) (hc2 : cap ≤ 9223372036854775807)
    (tx : Nat → List UInt8) (ht0 : tx 0 = []) (hts : ∀ hh k j r, j < n → kids.drop j = .cons hh k r → tx (j + 1) = tx j ++ ((if j = 0 then [] else [32]) ++ txD lf hh k)) (htl : ∀ j, j ≤ n → (tx j).length ≤ (tx n).length)
    (hW : WR b bs w) (hl : bs.length + o.size + (tx n).length ≤ 100000000000)
    (hcl : ∀ hh k j r, j < n → kids.drop j = .cons hh k r → ∀ W cs, Below b w0 W → WR b cs W → cs.length + (txD lf hh k).length ≤ 100000000000 → Calls Tryz.prog 68 #[.pointer (some ⟨b, 0, none⟩), datA hh k.len] W (Wrote b cs (txD lf hh k) W)) :
    Calls Tryz.prog 126 #[.pointer (some ⟨b, 0, none⟩), .string o, .slice B n cap] w (Wrote b bs (o.data.toList ++ tx n) w) := by
  rcases Nat.eq_zero_or_pos n with hn0 | hpos
  · subst hn0
    have H1 := Lib.hid (wrstr_any b bs o w hW (by omega))
    have HT := Lib.hid ht0
    clear hw0 hcl hts htl h0 hF hB ht0 hW
    go_enter Tryz.func126, Tryz.ntmps126
    go_wp2_with (fail)
    refine H1.out.mono ?_
    rintro e w1 ⟨⟨v, rfl⟩, hr⟩
    have HR := Lib.hid hr
    clear hr
    go_wp2_with (fail)
    go_loopg [13] 0 (fun kk i wr => wr = w1 ∧ i = .int .i64 0)
    case atStart => exact ⟨rfl, rfl⟩
    case round =>
      obtain ⟨rfl, rfl⟩ := hrel
      go_wp2_with (fail)
      go_end0
      refine ⟨⟨_, rfl⟩, ?_, HR.out.2.1, HR.out.2.2⟩
      show WR b (bs ++ (o.data.toList ++ tx 0)) _
      rw [HT.out, List.append_nil]
      exact HR.out.1
  · obtain rfl := hB hpos
    have H1 := Lib.hid (wrstr_any b bs o w hW (by omega))
    have HF := Lib.hid hF
    have HCL := Lib.hid hcl
    have HTS := Lib.hid hts
    have HTL := Lib.hid htl
    have H0 := Lib.hid h0
    have HT := Lib.hid ht0
    have HWB := Lib.hid hW.2
    have HW0 := Lib.hid hw0
    clear hw0 hcl hts htl h0 hF hB ht0 hW
    go_enter Tryz.func126, Tryz.ntmps126
    go_wp2_with (fail)
    refine H1.out.mono ?_
    rintro e w1 ⟨⟨v, rfl⟩, hr⟩
    have HR := Lib.hid hr
    clear hr
    go_wp2_with (fail)
    go_loopg [13] n (fun kk i wr => ∃ j : Nat, j ≤ n ∧ kk = n - j ∧ i = .int .i64 (j : Int) ∧ WR b (bs ++ (o.data.toList ++ tx j)) wr ∧ Below b w wr ∧ Keeps8 (b + 1) w wr)
    case atStart => exact ⟨0, Nat.zero_le _, rfl, rfl, by rw [HT.out, List.append_nil]; exact HR.out.1, HR.out.2.1, HR.out.2.2⟩
    case round =>
      obtain ⟨j, hj, rfl, rfl, hI1, hI2, hI3⟩ := hrel
      have J1 := Lib.hid hI1
      have J2 := Lib.hid hI2
      have J3 := Lib.hid hI3
      clear hI1 hI2 hI3
      by_cases hjl : j < n
      · obtain ⟨hh, k, r, hdr, hdr1⟩ := Fr.cons_of_lt (show j < kids.len by omega)
        have hbel : Below b w0 wr := H0.out.trans J2.out
        obtain ⟨hbl, ⟨x0, x1, x2, x3, x4, x5, x6, x7⟩, -⟩ := counted_item (FAt.below (HW0.out ▸ hbel) _ _ _ HF.out) hdr
        obtain ⟨W2, hW2⟩ : ∃ W2, wr.alloc (datO hh k.len) = W2 := ⟨_, rfl⟩
        have hba : Below wr.heap.size wr W2 := by rw [← hW2]; exact (Below.refl _ wr).alloc (Nat.le_refl _) _
        have hbo : W2.heap[wr.heap.size]? = some (datO hh k.len) := by rw [← hW2]; unfold World.alloc; simp
        have hwb := J1.out.2
        have A1 := Lib.hid (J1.out.below hba)
        have A2 := Lib.hid (bel_trans (B := b) J2.out hba (by have := HWB.out; omega))
        have A3 := Lib.hid (J3.out.trans (keeps8_below hba))
        have A0 := Lib.hid (bel_trans (B := b) hbel hba (by have := HW0.out; omega))
        have BO := Lib.hid hbo
        have HW2 := Lib.hid hW2
        have ts := HTS.out hh k j r hjl hdr
        have tl := HTL.out (j + 1) (by omega)
        rw [ts, List.length_append, List.length_append] at tl
        obtain ⟨u0, u1, u2, u3, u4, u5, u6, u7⟩ := C8.of_block hbo
        have CL := Lib.hid fun (W : World) (cs : List UInt8) (h1 : Below b w0 W) (h2 : WR b cs W) (h3 : cs.length + (txD lf hh k).length ≤ 100000000000) => HCL.out hh k j r hjl hdr W cs h1 h2 h3
        have TS := Lib.hid ts
        have TL := Lib.hid tl
        have HJ := Lib.hid hjl
        clear hdr hdr1 ts tl hbel hba hbo hW2 hwb
        by_cases hj0 : j = 0
        · have dj : decide (0 < j) = false := decide_eq_false (by omega)
          have HJ0 := Lib.hid hj0
          have ET := Lib.hid (show tx (j + 1) = tx j ++ txD lf hh k by rw [TS.out, if_pos hj0, List.nil_append])
          clear hj0
          go_wp2_with (fail)
          rw [HW2.out]
          refine (CL.out W2 _ A0.out A1.out (by have := TL.out; rw [List.length_append, List.length_append, ← Lib.size_eq]; omega)).mono ?_
          rintro e w3 ⟨⟨v3, rfl⟩, h31, h32, h33⟩
          have B1 := Lib.hid h31
          have B2 := Lib.hid (A2.out.trans h32)
          have B3 := Lib.hid (A3.out.trans h33)
          clear h31 h32 h33
          go_wp2_with (fail)
          go_roundg (n - (j + 1))
          case measure => omega
          case rel => exact ⟨j + 1, by omega, rfl, by go_num, by rw [ET.out]; have := B1.out; rw [List.append_assoc, List.append_assoc] at this; exact this, B2.out, B3.out⟩
        · have dj : decide (0 < j) = true := decide_eq_true (by omega)
          have ET := Lib.hid (show tx (j + 1) = tx j ++ ([32] ++ txD lf hh k) by rw [TS.out, if_neg hj0])
          have H2 := Lib.hid (wrstr_any b _ ⟨#[32]⟩ W2 A1.out (by have := TL.out; rw [if_neg hj0] at this; have t2 : ([32] : List UInt8).length = 1 := rfl; rw [List.length_append, List.length_append, ← Lib.size_eq]; show _ + 1 ≤ _; omega))
          have TL2 := Lib.hid (show (tx j).length + (1 + (txD lf hh k).length) ≤ (tx n).length by have := TL.out; rw [if_neg hj0] at this; exact this)
          clear hj0
          go_wp2_with (fail)
          rw [HW2.out]
          refine H2.out.mono ?_
          rintro e w3 ⟨⟨v3, rfl⟩, h31, h32, h33⟩
          have B1 := Lib.hid h31
          have B2 := Lib.hid (A2.out.trans h32)
          have B3 := Lib.hid (A3.out.trans h33)
          have B0 := Lib.hid (A0.out.trans h32)
          have hbo3 := h33.same wr.heap.size _ (by have := J1.out.2; omega) BO.out rfl
          obtain ⟨q0, q1, q2, q3, q4, q5, q6, q7⟩ := C8.of_block hbo3
          clear h31 h32 h33 hbo3 u0 u1 u2 u3 u4 u5 u6 u7
          go_wp2_with (fail)
          refine (CL.out w3 _ B0.out B1.out (by have := TL2.out; rw [List.length_append, List.length_append, List.length_append, ← Lib.size_eq]; show _ + 1 + _ ≤ _; omega)).mono ?_
          rintro e w4 ⟨⟨v4, rfl⟩, h31, h32, h33⟩
          have C1 := Lib.hid h31
          have C2 := Lib.hid (B2.out.trans h32)
          have C3 := Lib.hid (B3.out.trans h33)
          clear h31 h32 h33
          go_wp2_with (fail)
          go_roundg (n - (j + 1))
          case measure => omega
          case rel => exact ⟨j + 1, by omega, rfl, by go_num, by rw [ET.out]; have := C1.out; simp only [List.append_assoc] at this ⊢; exact this, C2.out, C3.out⟩
      · obtain rfl : j = n := by omega
        go_wp2_with (fail)
        go_end0
        exact ⟨⟨_, rfl⟩, J1.out, J2.out, J3.out⟩

end LM
end Go.Proofs.YtcfhiihhfcnfbaaGreatDoor

namespace Go.Proofs.YtcfhiihhfcnfbaaGreatDoor
open Go Go.RowKit
namespace LM
set_option linter.unusedVariables false
attribute [local go_sem] run_store_flt

/-- the texts of the first j Items -/
def txI (lf : Hd → List UInt8) : Nat → Bool → Fr → List UInt8
  | 0, _, _ => []
  | _ + 1, _, .nil => []
  | j + 1, fst, .cons h k r => (if fst then [] else [32]) ++ txD lf h k ++ txI lf j false r
theorem txI_step (lf : Hd → List UInt8) : ∀ (j : Nat) (fst : Bool) (fr : Fr) (hh : Hd) (k r : Fr), fr.drop j = .cons hh k r → txI lf (j + 1) fst fr = txI lf j fst fr ++ ((if (j = 0 ∧ fst = true) then [] else [32]) ++ txD lf hh k) := by
  intro j
  induction j with
  | zero =>
    intro fst fr hh k r hd
    cases fr with
    | nil => cases hd
    | cons a b c =>
      obtain ⟨rfl, rfl, rfl⟩ : a = hh ∧ b = k ∧ c = r := by cases hd; exact ⟨rfl, rfl, rfl⟩
      show (if fst then [] else [32]) ++ txD lf a b ++ [] = [] ++ _
      cases fst <;> simp
  | succ j ih =>
    intro fst fr hh k r hd
    cases fr with
    | nil => cases hd
    | cons a b c =>
      have h1 := ih false c hh k r hd
      show (if fst then [] else [32]) ++ txD lf a b ++ txI lf (j + 1) false c = ((if fst then [] else [32]) ++ txD lf a b ++ txI lf j false c) ++ _
      rw [h1]
      simp
theorem txI_all (lf : Hd → List UInt8) : ∀ (fr : Fr) (fst : Bool), txI lf fr.len fst fr = txF lf false fst fr := by
  intro fr
  induction fr with
  | nil => intro fst; rfl
  | cons h k r _ ih =>
    intro fst
    show (if fst then [] else [32]) ++ txD lf h k ++ txI lf r.len false r = _
    rw [ih]
    unfold txD
    show _ = (if (false && r.isNil) then [32, 46, 32] else if fst then [] else [32]) ++ _ ++ txF lf false false r
    rw [Bool.false_and]
    cases fst <;> rfl
theorem txI_dot (lf : Hd → List UInt8) : ∀ (fr : Fr) (fst : Bool) (hh : Hd) (k : Fr), 0 < fr.len → fr.drop (fr.len - 1) = .cons hh k .nil → txF lf true fst fr = txI lf (fr.len - 1) fst fr ++ [32, 46, 32] ++ txD lf hh k := by
  intro fr
  induction fr with
  | nil => intro fst hh k h; exact absurd h (by show ¬ 0 < 0; omega)
  | cons a b c _ ih =>
    intro fst hh k _ hd
    cases c with
    | nil =>
      obtain ⟨rfl, rfl⟩ : a = hh ∧ b = k := by cases hd; exact ⟨rfl, rfl⟩
      show [32, 46, 32] ++ _ ++ [] = [] ++ [32, 46, 32] ++ txD lf a b
      unfold txD
      simp
    | cons a2 b2 c2 =>
      have hl : (Fr.cons a2 b2 c2).len = c2.len + 1 := rfl
      have hl2 : (Fr.cons a b (Fr.cons a2 b2 c2)).len - 1 = c2.len + 1 := by show c2.len + 1 + 1 - 1 = _; omega
      rw [hl2] at hd ⊢
      have h1 := ih false hh k (by rw [hl]; omega) (by rw [hl]; exact hd)
      rw [hl, Nat.add_sub_cancel] at h1
      show (if fst then [] else [32]) ++ _ ++ txF lf true false (Fr.cons a2 b2 c2) = ((if fst then [] else [32]) ++ txD lf a b ++ txI lf c2.len false (Fr.cons a2 b2 c2)) ++ _ ++ _
      rw [h1]
      unfold txD
      simp

end LM
end Go.Proofs.YtcfhiihhfcnfbaaGreatDoor

namespace Go.Proofs.YtcfhiihhfcnfbaaGreatDoor
open Go Go.RowKit
namespace LM
set_option linter.unusedVariables false
attribute [local go_sem] run_store_flt

/-- what must be known of a datum that is printed: P of its leaves -/
def WH (P : Hd → Prop) (h : Hd) (k : Fr) : Prop := (leafK h.k → k = .nil ∧ P h) ∧ (h.k = 6 → 2 ≤ k.len)
def WOk (P : Hd → Prop) : Fr → Prop
  | .nil => True
  | .cons h k r => WH P h k ∧ WOk P k ∧ WOk P r
theorem WOk.drop {P : Hd → Prop} : ∀ (j : Nat) {fr : Fr}, WOk P fr → WOk P (fr.drop j) := by
  intro j
  induction j with
  | zero => intro fr h; exact h
  | succ j ih =>
    intro fr h
    cases fr with
    | nil => exact trivial
    | cons hh k r => exact ih h.2.2
theorem txI_mono (lf : Hd → List UInt8) : ∀ (j n : Nat) (fst : Bool) (fr : Fr), j ≤ n → (txI lf j fst fr).length ≤ (txI lf n fst fr).length := by
  intro j
  induction j with
  | zero => intro n fst fr _; show 0 ≤ _; omega
  | succ j ih =>
    intro n fst fr hn
    obtain ⟨m, rfl⟩ : ∃ m, n = m + 1 := ⟨n - 1, by omega⟩
    cases fr with
    | nil => exact Nat.le_refl _
    | cons a b c =>
      have := ih m false c (by omega)
      show ((if fst then [] else [32]) ++ txD lf a b ++ txI lf j false c).length ≤ ((if fst then [] else [32]) ++ txD lf a b ++ txI lf m false c).length
      simp only [List.length_append]
      omega

abbrev WriteC (b : Nat) (w0 : World) (h : Hd) (n : Nat) (t : List UInt8) : Prop := ∀ W cs, Below b w0 W → WR b cs W → cs.length + t.length ≤ 100000000000 → Calls Tryz.prog 68 #[.pointer (some ⟨b, 0, none⟩), datA h n] W (Wrote b cs t W)

set_option maxRecDepth 100000 in
set_option maxHeartbeats 8000000 in
/-- a list or a vector -/
theorem dwrite_row (b : Nat) (w0 : World) (h : Hd) (kids : Fr) (t : List UInt8) (o : ByteArray) (ho : (h.k = 5 ∧ o = ⟨#[40]⟩) ∨ (h.k = 7 ∧ o = ⟨#[35, 40]⟩)) (W : World) (cs : List UInt8) (hb : Below b w0 W) (hr : WR b cs W)
    (hI : ∀ W, Below b w0 W → WR b cs W → Calls Tryz.prog 126 #[.pointer (some ⟨b, 0, none⟩), .string o, .slice h.B kids.len h.cap] W (Wrote b cs (o.data.toList ++ t) W)) (hl : cs.length + (o.data.toList ++ t ++ [41]).length ≤ 100000000000) :
    Calls Tryz.prog 68 #[.pointer (some ⟨b, 0, none⟩), datA h kids.len] W (Wrote b cs (o.data.toList ++ t ++ [41]) W) := by
  obtain ⟨W0, hW0, hb0, hO, hs0⟩ := dat_block W h kids.len
  have hbw := hr.2
  have A1 := Lib.hid (hr.below hb0)
  have A2 := Lib.hid (hb0.mono (Nat.le_of_lt hbw))
  have A3 := Lib.hid (keeps8_below (B := b + 1) hb0)
  have HI := Lib.hid (hI W0 (hb.trans (hb0.mono (Nat.le_of_lt hbw))) (hr.below hb0))
  have HW0 := Lib.hid hW0
  have HL := Lib.hid hl
  clear hW0 hb0 hO hI hb hr hl hs0
  rcases ho with ⟨hk, rfl⟩ | ⟨hk, rfl⟩
  all_goals
    have f0 : (h.k == 0) = false := by rw [hk]; rfl
    have f1 : (h.k == 1) = false := by rw [hk]; rfl
    have f2 : (h.k == 2) = false := by rw [hk]; rfl
    have f3 : (h.k == 3) = false := by rw [hk]; rfl
    have f4 : (h.k == 4) = false := by rw [hk]; rfl
    have f5 : (h.k == 5) = decide (h.k = 5) := by rw [hk]; rfl
    have f6 : (h.k == 6) = false := by rw [hk]; rfl
    have f7 : (h.k == 7) = decide (h.k = 7) := by rw [hk]; rfl
  · have g5 : decide (h.k = 5) = true := decide_eq_true hk
    rw [g5] at f5
    clear hk g5 f7
    go_enter Tryz.func68, Tryz.ntmps68
    go_wp2_with (fail)
    rw [HW0.out]
    refine HI.out.mono ?_
    rintro e w1 ⟨⟨v, rfl⟩, h1, h2, h3⟩
    have H2 := Lib.hid (wrstr_any b _ ⟨#[41]⟩ w1 h1 (by have := HL.out; simp only [List.length_append] at this ⊢; show _ + 1 ≤ _; omega))
    have B2 := Lib.hid (A2.out.trans h2)
    have B3 := Lib.hid (A3.out.trans h3)
    clear h1 h2 h3
    go_wp2_with (fail)
    refine H2.out.mono ?_
    rintro e w2 ⟨⟨v2, rfl⟩, h1, h2, h3⟩
    have C1 := Lib.hid h1
    have C2 := Lib.hid (B2.out.trans h2)
    have C3 := Lib.hid (B3.out.trans h3)
    clear h1 h2 h3
    go_wp2_with (fail)
    go_end0
    exact ⟨⟨_, rfl⟩, by have := C1.out; rw [List.append_assoc] at this; exact this, C2.out, C3.out⟩
  · have g5 : decide (h.k = 5) = false := decide_eq_false (by omega)
    have g7 : decide (h.k = 7) = true := decide_eq_true hk
    rw [g5] at f5
    rw [g7] at f7
    clear hk g5 g7
    go_enter Tryz.func68, Tryz.ntmps68
    go_wp2_with (fail)
    rw [HW0.out]
    refine HI.out.mono ?_
    rintro e w1 ⟨⟨v, rfl⟩, h1, h2, h3⟩
    have H2 := Lib.hid (wrstr_any b _ ⟨#[41]⟩ w1 h1 (by have := HL.out; simp only [List.length_append] at this ⊢; show _ + 1 ≤ _; omega))
    have B2 := Lib.hid (A2.out.trans h2)
    have B3 := Lib.hid (A3.out.trans h3)
    clear h1 h2 h3
    go_wp2_with (fail)
    refine H2.out.mono ?_
    rintro e w2 ⟨⟨v2, rfl⟩, h1, h2, h3⟩
    have C1 := Lib.hid h1
    have C2 := Lib.hid (B2.out.trans h2)
    have C3 := Lib.hid (B3.out.trans h3)
    clear h1 h2 h3
    go_wp2_with (fail)
    go_end0
    exact ⟨⟨_, rfl⟩, by have := C1.out; rw [List.append_assoc] at this; exact this, C2.out, C3.out⟩

set_option maxRecDepth 100000 in
set_option maxHeartbeats 8000000 in
/-- a list with a tail -/
theorem dwrite_dot (b : Nat) (w0 : World) (h : Hd) (kids : Fr) (t : List UInt8) (bb off : Nat) (hk : h.k = 6) (hB : h.B = some ⟨bb, off, none⟩) (hn2 : 2 ≤ kids.len) (hcap : kids.len ≤ h.cap) (hcap2 : h.cap ≤ 9223372036854775807) (hh : Hd) (k : Fr) (hC : ∀ W, Below b w0 W → C8 W bb (off + (kids.len - 1) * 8) hh k.len)
    (tl : List UInt8) (W : World) (cs : List UInt8) (hb : Below b w0 W) (hr : WR b cs W)
    (hI : ∀ W, Below b w0 W → WR b cs W → Calls Tryz.prog 126 #[.pointer (some ⟨b, 0, none⟩), .string ⟨#[40]⟩, .slice (some ⟨bb, off, none⟩) ((kids.len - 1 : Nat) : Nat) h.cap] W (Wrote b cs ([40] ++ t) W))
    (hw : WriteC b w0 hh k.len tl) (hl : cs.length + ([40] ++ (t ++ [32, 46, 32] ++ tl) ++ [41]).length ≤ 100000000000) :
    Calls Tryz.prog 68 #[.pointer (some ⟨b, 0, none⟩), datA h kids.len] W (Wrote b cs ([40] ++ (t ++ [32, 46, 32] ++ tl) ++ [41]) W) := by
  obtain ⟨W0, hW0, hb0, hO, hs0⟩ := dat_block W h kids.len
  have hbw := hr.2
  have A0 := Lib.hid (hb.trans (hb0.mono (Nat.le_of_lt hbw)))
  have A1 := Lib.hid (hr.below hb0)
  have A2 := Lib.hid (hb0.mono (Nat.le_of_lt hbw))
  have A3 := Lib.hid (keeps8_below (B := b + 1) hb0)
  have HI := Lib.hid (hI W0 (hb.trans (hb0.mono (Nat.le_of_lt hbw))) (hr.below hb0))
  have HC := Lib.hid hC
  have HW := Lib.hid hw
  have HO := Lib.hid hO
  have HW0 := Lib.hid hW0
  have HL := Lib.hid hl
  have HBW := Lib.hid hbw
  have f0 : (h.k == 0) = false := by rw [hk]; rfl
  have f1 : (h.k == 1) = false := by rw [hk]; rfl
  have f2 : (h.k == 2) = false := by rw [hk]; rfl
  have f3 : (h.k == 3) = false := by rw [hk]; rfl
  have f4 : (h.k == 4) = false := by rw [hk]; rfl
  have f5 : (h.k == 5) = false := by rw [hk]; rfl
  have f6 : (h.k == 6) = true := by rw [hk]; rfl
  have w1 : IntKind.i64.wrap ((kids.len : Int) - 1) = ((kids.len - 1 : Nat) : Int) := by rw [IntKind.wrap_i64]; omega
  obtain ⟨q, hq⟩ : ∃ q, kids.len - 1 = q := ⟨_, rfl⟩
  rw [hq] at w1 HI HC
  have hqn : q < kids.len := by omega
  have hqc : q ≤ h.cap := by omega
  obtain ⟨k0, n0, fl0, ff0, s0, AA0, xs0, c0, t0, B0, cap0⟩ := h
  dsimp only at hB hcap hcap2 hqc HI HO HW0 f0 f1 f2 f3 f4 f5 f6 ⊢
  subst hB
  obtain ⟨u0, u1, u2, u3, u4, u5, u6, u7⟩ := C8.of_block HO.out
  clear hW0 hb0 hO hI hb hr hl hs0 hC hw hk hbw hq hn2
  go_enter Tryz.func68, Tryz.ntmps68
  go_wp2_with (fail)
  rw [HW0.out]
  go_wp2_with (fail)
  refine HI.out.mono ?_
  rintro e w1 ⟨⟨v, rfl⟩, h1, h2, h3⟩
  have H2 := Lib.hid (wrstr_any b _ ⟨#[32, 46, 32]⟩ w1 h1 (by have := HL.out; simp only [List.length_append] at this ⊢; have t3 : ([32, 46, 32] : List UInt8).length = 3 := rfl; show _ + 3 ≤ _; omega))
  have B0 := Lib.hid (A0.out.trans h2)
  have B2 := Lib.hid (A2.out.trans h2)
  have B3 := Lib.hid (A3.out.trans h3)
  have BO := Lib.hid (h3.same W.heap.size _ (by have := HBW.out; omega) HO.out rfl)
  clear h1 h2 h3 u0 u1 u2 u3 u4 u5 u6 u7
  go_wp2_with (fail)
  refine H2.out.mono ?_
  rintro e w2 ⟨⟨v2, rfl⟩, h1, h2, h3⟩
  have C0 := Lib.hid (B0.out.trans h2)
  have C1 := Lib.hid h1
  have C2 := Lib.hid (B2.out.trans h2)
  have C3 := Lib.hid (B3.out.trans h3)
  have H3 := Lib.hid (HW.out w2 _ C0.out h1 (by have := HL.out; simp only [List.length_append] at this ⊢; have t3 : ([32, 46, 32] : List UInt8).length = 3 := rfl; omega))
  have hbo := h3.same W.heap.size _ (by have := HBW.out; omega) BO.out rfl
  obtain ⟨u0, u1, u2, u3, u4, u5, u6, u7⟩ := C8.of_block hbo
  obtain ⟨x0, x1, x2, x3, x4, x5, x6, x7⟩ := HC.out w2 C0.out
  clear h1 h2 h3 hbo
  go_wp2_with (fail)
  refine H3.out.mono ?_
  rintro e w3 ⟨⟨v3, rfl⟩, h1, h2, h3⟩
  have H4 := Lib.hid (wrstr_any b _ ⟨#[41]⟩ w3 h1 (by have := HL.out; simp only [List.length_append] at this ⊢; have t3 : ([32, 46, 32] : List UInt8).length = 3 := rfl; show _ + 1 ≤ _; omega))
  have D2 := Lib.hid (C2.out.trans h2)
  have D3 := Lib.hid (C3.out.trans h3)
  clear h1 h2 h3 u0 u1 u2 u3 u4 u5 u6 u7 x0 x1 x2 x3 x4 x5 x6 x7
  go_wp2_with (fail)
  refine H4.out.mono ?_
  rintro e w4 ⟨⟨v4, rfl⟩, h1, h2, h3⟩
  have E1 := Lib.hid h1
  have E2 := Lib.hid (D2.out.trans h2)
  have E3 := Lib.hid (D3.out.trans h3)
  clear h1 h2 h3
  go_wp2_with (fail)
  go_end0
  exact ⟨⟨_, rfl⟩, by have := E1.out; simp only [List.append_assoc] at this ⊢; exact this, E2.out, E3.out⟩

end LM
end Go.Proofs.YtcfhiihhfcnfbaaGreatDoor

namespace Go.Proofs.YtcfhiihhfcnfbaaGreatDoor
open Go Go.Shelf Go.RowKit Go.Sort Go.Lib
namespace LM
set_option linter.unusedVariables false
attribute [local go_sem] run_store_flt

set_option maxRecDepth 100000 in
set_option maxHeartbeats 2000000 in
theorem cutAtE_a (s : ByteArray) (w : World) (h : s.data.toList = [97]) :
    Calls Tryz.prog 98 #[.string s] w fun e w' => e = .returned (.tuple #[.string s, .string ⟨#[]⟩, .bool false]) ∧ Below w.heap.size w w' := by
  have hz : s.size = 1 := by rw [Lib.size_eq, h]; rfl
  have hI := fun W => Tryz.strings_IndexAny_short s ⟨#[101, 69]⟩ W (by decide) (by omega) (fun j b hb => by
    rw [h] at hb
    have := List.mem_of_getElem? hb
    simp at this
    rcases this with rfl; decide)
  rw [show indexAny s.data.toList (⟨#[101, 69]⟩ : ByteArray).data.toList = -1 from by rw [h]; decide] at hI
  have I1 := Lib.hid hI
  clear hI h
  go_enter Tryz.func98, Tryz.ntmps98
  go_wp2_with (fail)
  refine (I1.out _).mono ?_
  rintro e w' ⟨rfl, pos, rfl⟩
  have HB := Lib.hid (below_iter w s pos)
  go_wp2_with (fail)
  go_returns
  exact ⟨rfl, HB.out⟩

set_option maxRecDepth 100000 in
set_option maxHeartbeats 1000000 in
theorem isNumeral_a (s : ByteArray) (w : World) (h : s.data.toList = [97]) :
    Calls Tryz.prog 47 #[.string s] w fun e w' => e = .returned (.bool false) ∧ Below w.heap.size w w' := by
  have hz : s.size = 1 := by rw [Lib.size_eq, h]; rfl
  have U1 := Lib.hid fun W => unsigned_any s W (by omega)
  have CE := Lib.hid fun t W (ht : t.data.toList = [97]) => cutAtE_a t W ht
  have CU := Lib.hid fun t W (ht : t.data.toList = [97]) => scut_no t 46 W (by rw [Lib.size_eq, ht]; decide) (by rw [ht]; decide)
  have HH := Lib.hid h
  clear h hz
  go_enter Tryz.func47, Tryz.ntmps47
  go_wp2_with (fail)
  refine (U1.out _).mono ?_
  rintro e w1 ⟨⟨t, rfl, ht, _⟩, k1, rfl⟩
  have ht2 := ht.trans (show unsigB s.data.toList = [97] from by rw [HH.out]; decide)
  have CE2 := Lib.hid fun W => CE.out t W ht2
  have CU2 := Lib.hid fun W => CU.out t W ht2
  clear ht ht2
  go_wp2_with (fail)
  refine (CE2.out _).mono ?_
  rintro e w2 ⟨rfl, hb2⟩
  have HB2 := Lib.hid ((below_drewN (Below.refl _ w) k1).trans hb2)
  clear hb2
  go_wp2_with (fail)
  refine (CU2.out _).mono ?_
  rintro e w' ⟨rfl, rfl⟩
  go_wp2_with (fail)
  go_ret
  exact ⟨rfl, HB2.out⟩

set_option maxRecDepth 100000 in
set_option maxHeartbeats 1000000 in
theorem floparse_a (w : World) :
    Calls Tryz.prog 12 #[.string ⟨#[97]⟩] w fun e w' => e = .returned (.tuple #[.float .f64 0, .int .i64 31]) ∧ Below w.heap.size w w' := by
  obtain ⟨s, hs⟩ : ∃ s, (⟨#[97]⟩ : ByteArray) = s := ⟨_, rfl⟩
  have c1 : (s.toList == [43, 110, 97, 110, 46, 48]) = false := by rw [← hs, Go.ByteArray.toList_eq]; rfl
  have c2 : (s.toList == [43, 105, 110, 102, 46, 48]) = false := by rw [← hs, Go.ByteArray.toList_eq]; rfl
  have c3 : (s.toList == [45, 105, 110, 102, 46, 48]) = false := by rw [← hs, Go.ByteArray.toList_eq]; rfl
  have hl : s.data.toList = [97] := by rw [← hs]
  have hz : s.size = 1 := by rw [Lib.size_eq, hl]; rfl
  rw [hs]
  have N1 := Lib.hid (isNumeral_a s w hl)
  clear hs hl
  go_enter Tryz.func12, Tryz.ntmps12
  go_wp2_with (fail)
  refine N1.out.mono ?_
  rintro e w1 ⟨rfl, hb1⟩
  go_wp2_with (fail)
  go_returns
  exact ⟨rfl, hb1⟩

set_option maxRecDepth 100000 in
set_option maxHeartbeats 4000000 in
theorem tparse_a (w : World) (hs : SynCell w) :
    Calls Tryz.prog 74 #[.string ⟨#[97]⟩] w fun e w' => e = .returned (.tuple #[numA false 0 false none 0 0, .int .i64 13]) ∧ Below w.heap.size w w' := by
  have hp := fun W (hW : Below w.heap.size w W) => eparse_any ⟨#[97]⟩ W (by decide) (fun W2 hW2 _ => (hs.below hW).below hW2)
  have hnd : ¬ OkText (signOf [97]).2 := by
    rintro ⟨_, _, h⟩
    have := h 97 (by unfold signOf; decide)
    exact absurd this.2 (by decide)
  have EP : Hid (∀ W, Below w.heap.size w W → Calls Tryz.prog 136 #[.string ⟨#[97]⟩] W fun e w' => (∃ s A n c, e = .returned (.tuple #[.agg #[.bool s, .slice A n c], .int .i64 13])) ∧ Below W.heap.size W w') := Lib.hid fun W hW => (hp W hW).mono (by
    rintro e w' ⟨s, A, n, c, er, z, rfl, -, hpo, hb⟩
    rcases hpo with ⟨_, _, rfl⟩ | ⟨h, _⟩ | ⟨h, _⟩
    · exact ⟨⟨s, A, n, c, rfl⟩, hb⟩
    · exact absurd h hnd
    · exact absurd h hnd)
  have FP := Lib.hid floparse_a
  have hb0 : Below w.heap.size w (w.alloc (numO false 0 false none 0 0)) := (Below.refl _ w).alloc (Nat.le_refl _) _
  have Y0 := Nx.new w false 0 false none 0 0
  have HB0 := Lib.hid hb0
  have HY0 := Lib.hid Y0
  clear hp hs hb0 Y0
  go_enter Tryz.func74, Tryz.ntmps74
  go_wp2_with (fail)
  refine (EP.out _ HB0.out).mono ?_
  rintro e w1 ⟨⟨s, A, n, c, rfl⟩, hb1⟩
  have HY1 := Lib.hid (HY0.out.below hb1)
  have HB1 := Lib.hid (bel_trans (B := w.heap.size) HB0.out hb1)
  clear hb1
  go_wp2_with (fail)
  refine (FP.out _).mono ?_
  rintro e w2 ⟨rfl, hb2⟩
  have hba : Below w1.heap.size w1 (w1.alloc (.cells #[.bool s, .slice A n c] 36)) := (Below.refl _ w1).alloc (Nat.le_refl _) _
  have HY2 := Lib.hid ((HY1.out.below hba).below hb2)
  have HB2 := Lib.hid (bel_trans (B := w.heap.size) (bel_trans (B := w.heap.size) HB1.out hba) hb2)
  obtain ⟨y0, y1, y2, y3, y4, y5, y6, y7, yl⟩ := HY2.out.facts
  obtain ⟨W, hW, ZR, hbW, -, -⟩ := stored_num HY2.out HB2.out (Nat.le_refl _) false 0 false none 0 0
  obtain ⟨z0, z1, z2, z3, -, -, -, -, zl⟩ := ZR.facts
  have HW := Lib.hid hW
  have HBW := Lib.hid hbW
  clear hb2 hba hW hbW ZR
  go_wp2_with (fail)
  rw [HW.out]
  refine bodyPost_ret (v := .tuple #[numA false 0 false none 0 0, .int .i64 13]) (by simp [results, Tryz.results74, go_sem, z0, z1, z2, z3]) rfl ?_
  exact ⟨rfl, HBW.out⟩

set_option maxRecDepth 100000 in
set_option maxHeartbeats 2000000 in
theorem dnamebyte_a (w : World) : Calls Tryz.prog 73 #[.int .u8 97] w fun e w' => e = .returned (.bool true) ∧ w' = w := by
  go_enter Tryz.func73, Tryz.ntmps73
  go_wp2_with (fail)
  go_ret
  exact ⟨rfl, rfl⟩

set_option maxRecDepth 100000 in
set_option maxHeartbeats 4000000 in
theorem dname_a (w : World) (hs : SynCell w) :
    Calls Tryz.prog 27 #[.string ⟨#[97]⟩] w fun e w' => e = .returned (.bool true) ∧ Below w.heap.size w w' := by
  have TP := Lib.hid (tparse_a w hs)
  have NB := Lib.hid dnamebyte_a
  obtain ⟨s, hse⟩ : ∃ s, (⟨#[97]⟩ : ByteArray) = s := ⟨_, rfl⟩
  have c1 : (s.toList == [46]) = false := by rw [← hse, Go.ByteArray.toList_eq]; rfl
  have hl : s.data.toList = [97] := by rw [← hse]
  have hz : s.size = 1 := by rw [Lib.size_eq, hl]; rfl
  have b0 : (s[0]'(by omega)).toNat = 97 := byte_at hl 0 (by omega) 97 rfl
  rw [hse] at TP ⊢
  clear hs hse hl
  go_enter Tryz.func27, Tryz.ntmps27
  go_wp2_with (fail)
  go_loopg [20] 1 (fun kk i wr => wr = w ∧ ((kk = 1 ∧ i = .int .i64 0) ∨ (kk = 0 ∧ i = .int .i64 1)))
  case atStart => exact ⟨rfl, .inl ⟨rfl, rfl⟩⟩
  case round =>
    obtain ⟨rfl, ⟨rfl, rfl⟩ | ⟨rfl, rfl⟩⟩ := hrel
    · go_wp2_with (fail)
      refine (NB.out _).mono ?_
      rintro e w1 ⟨rfl, rfl⟩
      go_wp2_with (fail)
      go_roundg 0
      case measure => omega
      case rel => exact ⟨rfl, .inr ⟨rfl, rfl⟩⟩
    · go_wp2_with (fail)
      refine TP.out.mono ?_
      rintro e w1 ⟨rfl, hb1⟩
      have HB1 := Lib.hid (hb1.alloc hb1.size (numO false 0 false none 0 0))
      clear hb1
      go_wp2_with (fail)
      go_ret
      exact ⟨rfl, HB1.out⟩

end LM
end Go.Proofs.YtcfhiihhfcnfbaaGreatDoor
