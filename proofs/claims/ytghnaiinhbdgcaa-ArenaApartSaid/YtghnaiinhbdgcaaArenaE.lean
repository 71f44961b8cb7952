/- Walks of package arena: untaken. -/
import Derived.Test.YtghnaiinhbdgcaaArenaD
import Derived.Deep.Cut
import Derived.Deep.MidRow
import Derived.Laws.Tables
import Derived.Laws.StructEq
namespace Go.Proofs.Ytghnaiinhbdgcaa
open Go Go.RowKit
namespace LM
set_option linter.unusedVariables false

/-- a block's lines, as values -/
def blV (T : Nat → Bool) (j : Nat) : List Value := (List.range 16).map fun i => .bool (T (16 * j + i))
theorem blV_len (T : Nat → Bool) (j : Nat) : (blV T j).length = 16 := by simp [blV]
theorem blV_at (T : Nat → Bool) (j i : Nat) (h : i < 16) : (blV T j)[i]? = some (.bool (T (16 * j + i))) := by simp [blV, h]
theorem blV_one (T : Nat → Bool) (j : Nat) : ∀ v ∈ blV T j, v.oneCell' = true := by
  intro v hv
  unfold blV at hv
  obtain ⟨i, -, rfl⟩ := List.mem_map.1 hv
  rfl
theorem blV_all (T : Nat → Bool) (j : Nat) : (blV T j).toArray.all (·.oneCell') = true := all_oneCell_toArray (blV_one T j)
theorem RowF.blk {w : World} {g N : Nat} {T : Nat → Bool} (h : RowF w g (16 * N) (fun i => .bool (T i))) {j : Nat} (hj : j < N) : w.rangeAt g (j * 16) (blV T j) := by
  intro i v hv
  have hi : i < 16 := by
    have := (List.getElem?_eq_some_iff.1 hv).1
    rwa [blV_len] at this
  rw [blV_at T j i hi] at hv
  rw [← hv, h.cell (i := j * 16 + i) (by omega)]
  congr 3
  omega
theorem there_new (w : World) (cs : Array Value) (T : TypeId) (n : Nat) (h : n ≤ cs.size) : (w.alloc (.cells cs T)).there w.heap.size 0 n := by
  intro j hj
  have hb := heap_alloc_new w (.cells cs T)
  rw [cell_of_row _ _ _ cs T (0, 0) hb]
  refine ⟨by rw [Nat.zero_add, Array.getElem?_eq_getElem (by omega)]; rfl, ?_⟩
  simp only [World.frozen?, hb]
  simp
/-- a block of cells written whole -/
theorem RowF.of_sets {w : World} {g n : Nat} {f : Nat → Value} {cs : Array Value} {T : TypeId} (hb : w.heap[g]? = some (.cells cs T (0, 0))) (hs : cs.size = n) (vs : List Value) (hl : vs.length = n) (hf : ∀ i, i < n → vs[i]? = some (f i)) : RowF (w.setCells g 0 vs) g n f := by
  have key : ∀ (vs : List Value) (o : Nat) (w : World) (cs : Array Value), w.heap[g]? = some (.cells cs T (0, 0)) → ∃ cs', (w.setCells g o vs).heap[g]? = some (.cells cs' T (0, 0)) ∧ cs'.size = cs.size := by
    intro vs
    induction vs with
    | nil => intro o w cs h; exact ⟨cs, h, rfl⟩
    | cons v r ih =>
      intro o w cs h
      obtain ⟨cs', h1, h2⟩ := ih (o + 1) (w.setCell ⟨g, o, none⟩ v) _ (Go.Lib.heap_setCell_same (i := o) h v)
      exact ⟨cs', h1, by rw [h2]; simp⟩
  obtain ⟨cs', h1, h2⟩ := key vs 0 w cs hb
  refine ⟨cs', T, h1, h2.trans hs, fun i hi => ?_⟩
  have h3 := World.cell?_setCells_in g vs 0 w (fun j hj => by
    rw [cell_of_row w g (0 + j) cs T (0, 0) hb, Nat.zero_add, Array.getElem?_eq_getElem (by omega)]; rfl) i (by omega)
  rw [cell_of_row _ g (0 + i) cs' T (0, 0) h1, Nat.zero_add] at h3
  rw [h3, ← hf i hi, List.getElem?_eq_getElem (by omega)]
theorem Mv.setCells {w : World} {L : List Nat} {g : Nat} (hg : g ∈ L ∨ w.heap.size ≤ g) : ∀ (vs : List Value) (o : Nat) {w' : World}, Mv w w' L → Mv w (w'.setCells g o vs) L
  | [], _, _, h => h
  | v :: r, o, w', h => Mv.setCells hg r (o + 1) (by
    rcases hg with hg | hg
    · exact h.setCell hg v
    · exact h.setNew hg v)
theorem Mv.behind {w w1 w2 : World} {L L' : List Nat} (h : Mv w w1 L) (h' : Mv w1 w2 L') (hn : ∀ k ∈ L', w.heap.size ≤ k) : Mv w w2 L :=
  ⟨h'.os.trans h.os, h'.tape.trans h.tape, h'.output.trans h.output, Nat.le_trans h.size h'.size, fun k hk hn' => (h'.keep k (Nat.lt_of_lt_of_le hk h.size) (fun e => absurd (hn k e) (by omega))).trans (h.keep k hk hn')⟩
theorem arr_info : (Try.prog.info? 50).map (·.size) = some 16 := by kernel_rfl
theorem arr_zero : Try.prog.underlying 50 = some (.array 16 4) := by kernel_rfl
theorem arr_row : (TypeDesc.array 16 4).isRow = true := rfl
theorem blV_info (T : Nat → Bool) (j : Nat) : (Try.prog.info? 50).map (·.size) = some (blV T j).length := by rw [blV_len]; exact arr_info
theorem blV_info2 (T : Nat → Bool) (j : Nat) : (Try.prog.info? 50).map (·.size) = some (blV T j).toArray.size := by rw [List.size_toArray, blV_len]; exact arr_info
theorem blV_size (T : Nat → Bool) (j : Nat) : (blV T j).toArray.size = 16 := by rw [List.size_toArray, blV_len]
theorem e_bound {q i nb E : Nat} (h : q < nb) (h2 : nb ≤ 4096) (h3 : i ≤ 16) (hE : E = 16 * (16 * q + i)) : E ≤ 4294967280 := by omega
theorem h_next {T : Nat → Bool} {x q i E : Nat} (hE : E = 16 * (16 * q + i)) (hh : hend T x = 16 * q + i + hlen T (16 * q + i) (16 - i)) (hi : i < 16) (hv : T (16 * q + i) = false) :
    i + 1 ≤ 16 ∧ E + 16 = 16 * (16 * q + (i + 1)) ∧ hend T x = 16 * q + (i + 1) + hlen T (16 * q + (i + 1)) (16 - (i + 1)) := by
  refine ⟨hi, by omega, ?_⟩
  rw [hh, show 16 - i = (16 - (i + 1)) + 1 by omega, hlen, hv, if_neg (by decide)]
  rw [show 16 * q + i + 1 = 16 * q + (i + 1) by omega]
  omega
theorem h_stop {T : Nat → Bool} {x q i E : Nat} (hE : E = 16 * (16 * q + i)) (hh : hend T x = 16 * q + i + hlen T (16 * q + i) (16 - i)) (hi : i < 16) (hv : T (16 * q + i) = true) : E = 16 * hend T x := by
  rw [hh, show 16 - i = (16 - (i + 1)) + 1 by omega, hlen, hv, if_pos rfl]
  omega
theorem h_end {T : Nat → Bool} {x q E : Nat} (hE : E = 16 * (16 * q + 16)) (hh : hend T x = 16 * q + 16 + hlen T (16 * q + 16) (16 - 16)) : E = 16 * hend T x := by
  rw [hh, Nat.sub_self, hlen]
  omega
theorem h_start {T : Nat → Bool} {x q r a : Nat} (h1 : a = 16 * x) (h3 : x % 16 = r) (h4 : x / 16 = q) (h5 : r < 16) : r ≤ 16 ∧ a = 16 * (16 * q + r) ∧ hend T x = 16 * q + r + hlen T (16 * q + r) (16 - r) := by
  refine ⟨by omega, by omega, ?_⟩
  unfold hend
  rw [h3, show 16 * q + r = x by omega]
theorem line16 {x a nb : Nat} (ha : a = 16 * x) (hx : x < 16 * nb) : ∃ q s r, a / 256 = q ∧ a % 256 = s ∧ s / 16 = r ∧ x % 16 = r ∧ x / 16 = q ∧ q < nb ∧ s < 256 ∧ r < 16 := by
  subst ha
  refine ⟨_, _, _, rfl, rfl, rfl, ?_, ?_, ?_, Nat.mod_lt _ (by decide), Nat.div_lt_of_lt_mul (Nat.lt_of_lt_of_le (Nat.mod_lt _ (by decide)) (by decide))⟩
  · omega
  · omega
  · omega

set_option maxRecDepth 100000 in
set_option maxHeartbeats 4000000 in
theorem auntaken (A : Ar) (x a : Nat) (w : World) (h : AR w A) (ha : a = 16 * x) (hx : x < 16 * A.nb) :
    Calls Try.prog 26 #[.pointer (some ⟨A.b, 0, none⟩), .int .i64 (a : Int)] w fun e w' => e = .returned (.agg #[.int .i64 (a : Int), .int .i64 ((16 * hend A.T x : Nat) : Int)]) ∧ Mv w w' [] := by
  obtain ⟨W0, hW0⟩ : ∃ W0, w.alloc (.cells #[.int .i64 0, .int .i64 0] 44) = W0 := ⟨_, rfl⟩
  have h0 : AR W0 A := by rw [← hW0]; exact h.alloc _
  have hs0 : W0.heap.size = w.heap.size + 1 := by rw [← hW0]; simp
  have hm0 : Mv w W0 [] := by rw [← hW0]; exact (Mv.refl _ _).alloc _
  have hr0 : RowF W0 w.heap.size 2 (fun _ => .int .i64 0) := by
    rw [← hW0]
    refine RowF.new w _ _ rfl fun i hi => ?_
    match i, hi with
    | 0, _ => rfl
    | 1, _ => rfl
  obtain ⟨q, s, r, hq, hs, hr, x1, x2, b1, b3, b2⟩ := line16 ha hx
  have t1 : Int.tdiv (a : Int) 256 = (q : Int) := by rw [← hq]; rfl
  have t2 : Int.tmod (a : Int) 256 = (s : Int) := by rw [← hs]; rfl
  have t3 : Int.tdiv (s : Int) 16 = (r : Int) := by rw [← hr]; rfl
  have hn2 := h.n2
  have a1 : (q : Int) < (A.nb : Int) := Int.ofNat_lt.2 b1
  have a2 : (0 : Int) ≤ (q : Int) := Int.natCast_nonneg q
  have w1 : RowKit.wrap64 (q : Int) = (q : Int) := wrapn (Nat.le_trans (Nat.le_of_lt b1) (Nat.le_trans hn2 (by decide)))
  have w2 : RowKit.wrap64 (s : Int) = (s : Int) := wrapn (Nat.le_trans (Nat.le_of_lt b3) (by decide))
  have w3 : RowKit.wrap64 (r : Int) = (r : Int) := wrapn (Nat.le_trans (Nat.le_of_lt b2) (by decide))
  have c1 := h0.c1
  have R0 := Lib.hid (h0.rt.blk b1)
  have HW0 := Lib.hid hW0
  have HS0 := Lib.hid hs0
  have HH0 := Lib.hid (And.intro h0 (And.intro hm0 hr0))
  have HX := Lib.hid (And.intro ha (And.intro hx (And.intro x1 (And.intro x2 b2))))
  have HN2 := Lib.hid hn2
  clear h hW0 h0 hs0 hm0 hr0 hq hs hr ha hx hn2 x1 x2 b3 b2
  go_enter Try.func26, Try.ntmps26
  go_upto_region 1 with (fail)
  rw [HW0.out]
  go_upto_region 2 with (first
    | (refine wpList_load_mid rfl 50 (.tmp 14) rfl A.tb (q * 16) (by simp [Act.eval]) (blV A.T q) _ R0.out arr_zero arr_row (blV_info _ _) ?_)
    | (refine wpList_store_mid rfl 50 (.tmp 5) (.tmp 15) rfl W0.heap.size 0 (blV A.T q).toArray (by simp [Act.eval]) (by simp [Act.eval]) (there_new _ _ _ _ (by rw [blV_size]; decide)) (blV_info2 _ _) (blV_all _ _) ?_))
  generalize hW1 : World.setCells _ _ _ _ = W1
  have r1 : RowF W1 W0.heap.size 16 (fun i => .bool (A.T (16 * q + i))) := by
    rw [← hW1]
    exact RowF.of_sets (heap_alloc_new _ _) rfl _ (blV_len _ _) (fun i hi => blV_at _ _ i hi)
  have m1 : Mv W0 W1 [] := by
    rw [← hW1]
    exact Mv.setCells (.inr (Nat.le_refl _)) _ _ ((Mv.refl _ _).alloc _)
  have R1 := Lib.hid r1
  have M1 := Lib.hid m1
  clear r1 m1 hW1 c1 R0
  go_upto_region 3 with (fail)
  obtain ⟨W2, hW2⟩ : ∃ W2, W1.alloc (.cells #[.int .i64 (a : Int), .int .i64 (a : Int)] 44) = W2 := ⟨_, rfl⟩
  rw [hW2]
  have r2 : RowF W2 W1.heap.size 2 (fun j => if j = 0 then .int .i64 (a : Int) else .int .i64 (a : Int)) := by
    rw [← hW2]
    refine RowF.new W1 _ _ rfl fun i hi => ?_
    match i, hi with
    | 0, _ => rfl
    | 1, _ => rfl
  have m2 : Mv W1 W2 [] := by rw [← hW2]; exact (Mv.refl _ _).alloc _
  have R2 := Lib.hid r2
  have M2 := Lib.hid m2
  clear hW2 r2 m2
  go_upto_region 4 with (fail)
  go_loopg [7] (16 - r) (fun kk lv wr => ∃ i E : Nat, lv = .int .i64 (i : Int) ∧ kk = 16 - i ∧ Hid (i ≤ 16 ∧ E = 16 * (16 * q + i) ∧ hend A.T x = 16 * q + i + hlen A.T (16 * q + i) (16 - i) ∧ RowF wr W1.heap.size 2 (fun j => if j = 0 then .int .i64 (a : Int) else .int .i64 (E : Int)) ∧ Mv W2 wr [W1.heap.size]))
  case atStart =>
    obtain ⟨h1, h2, h3, h4, h5⟩ := HX.out
    exact ⟨r, a, by first | rfl | rw [w3], rfl, Lib.hid ⟨(h_start (T := A.T) h1 h3 h4 h5).1, (h_start (T := A.T) h1 h3 h4 h5).2.1, (h_start h1 h3 h4 h5).2.2, R2.out, Mv.refl _ _⟩⟩
  case round =>
    obtain ⟨i, E, rfl, hk, hh⟩ := hrel
    obtain ⟨hi, hE, hhe, hrr, hmv⟩ := hh.out
    obtain ⟨h1, h2, h3, h4, h5⟩ := HX.out
    have hn2 := HN2.out
    have s0 := HS0.out
    have s1 := M1.out.size
    have l1 := R1.out.lt
    have n2 : W0.heap.size ∉ [W1.heap.size] := fun e => Nat.ne_of_lt l1 (List.mem_singleton.1 e)
    have n0 : w.heap.size ≤ W1.heap.size := Nat.le_trans (Nat.le_of_lt (s0 ▸ Nat.lt_succ_self _)) s1
    have n1 : w.heap.size ∉ [W1.heap.size] := fun e => Nat.ne_of_lt (Nat.lt_of_lt_of_le (s0 ▸ Nat.lt_succ_self _) s1) (List.mem_singleton.1 e)
    have k0 := (((HH0.out.2.2.mv M1.out (by simp)).mv M2.out (by simp)).mv hmv n1)
    have k1 := ((R1.out.mv M2.out (by simp)).mv hmv n2)
    have d0 := hrr.cell (i := 0) (by decide)
    have d1 := hrr.cell (i := 1) (by decide)
    have g1 := hrr.free 1
    rw [if_pos rfl] at d0
    rw [if_neg (by decide)] at d1
    have e0 := k0.cell (i := 0) (by decide)
    have e1 := k0.cell (i := 1) (by decide)
    have f0 := k0.free 0
    have f1 := k0.free 1
    have z0 := ((k0.set (j := 0) (.int .i64 (a : Int))).set (j := 1) (.int .i64 (E : Int))).cell (i := 0) (by decide)
    have z1 := ((k0.set (j := 0) (.int .i64 (a : Int))).set (j := 1) (.int .i64 (E : Int))).cell (i := 1) (by decide)
    rw [if_neg (by decide), if_pos rfl] at z0
    rw [if_pos rfl] at z1
    have Z := Lib.hid (And.intro z0 z1)
    clear z0 z1
    have FIN := Lib.hid (show Mv w ((wr.setCell ⟨w.heap.size, 0, none⟩ (.int .i64 (a : Int))).setCell ⟨w.heap.size, 1, none⟩ (.int .i64 (E : Int))) [] from (((((HH0.out.2.1.trans M1.out).trans M2.out).behind hmv (by intro k hk; rw [List.mem_singleton.1 hk]; exact n0)).setNew (Nat.le_refl _) _).setNew (Nat.le_refl _) _))
    have HK := Lib.hid hk
    by_cases hlt : i < 16
    · have c1 := k1.cell hlt
      obtain ⟨v, hv⟩ : ∃ v, A.T (16 * q + i) = v := ⟨_, rfl⟩
      rw [hv] at c1
      have a3 : (i : Int) < 16 := by omega
      have a4 : (0 : Int) ≤ (i : Int) := by omega
      cases v
      · have HN := Lib.hid (h_next hE hhe hlt hv)
        have e2 := wrap16 (e_bound b1 hn2 hi hE)
        have e3 : RowKit.wrap64 ((i : Int) + 1) = ((i + 1 : Nat) : Int) := wrap1 (Nat.le_trans hi (by decide))
        have NR := Lib.hid (show RowF (wr.setCell ⟨W1.heap.size, 1, none⟩ (.int .i64 ((E + 16 : Nat) : Int))) W1.heap.size 2 (fun j => if j = 0 then .int .i64 (a : Int) else .int .i64 ((E + 16 : Nat) : Int)) from (hrr.set (j := 1) _).eq fun j hj => by
          match j, hj with
          | 0, _ => rfl
          | 1, _ => rfl)
        have NM := Lib.hid (show Mv W2 (wr.setCell ⟨W1.heap.size, 1, none⟩ (.int .i64 ((E + 16 : Nat) : Int))) [W1.heap.size] from hmv.setCell (by simp) _)
        have HL := Lib.hid (show 16 - (i + 1) < gk from hk ▸ Nat.sub_lt_sub_left hlt (Nat.lt_succ_self i))
        clear hE hhe hrr hmv h1 h2 h3 h4 h5 hn2 s0 s1 l1 n0 n1 n2 k0 k1 hk hh hv hlt hi e0 e1 f0 f1 d0 Z
        go_wp2_with (fail)
        go_roundg (16 - (i + 1))
        case measure => exact HL.out
        case rel => exact ⟨i + 1, E + 16, by first | rfl | rw [e3], rfl, Lib.hid ⟨HN.out.1, HN.out.2.1, HN.out.2.2, by first | exact NR.out | (rw [e2]; exact NR.out), by first | exact NM.out | (rw [e2]; exact NM.out)⟩⟩
      · have HE := Lib.hid (h_stop hE hhe hlt hv)
        clear hE hhe hrr hmv h1 h2 h3 h4 h5 hn2 s0 s1 l1 n0 n1 n2 k0 k1 hk hh hv hlt hi
        go_wp2_with (fail)
        obtain ⟨z0, z1⟩ := Z.out
        refine bodyPost_ret (v := .agg #[.int .i64 (a : Int), .int .i64 (E : Int)]) (by simp [results, Try.results26, go_sem, z0, z1]) rfl ⟨by rw [HE.out], FIN.out⟩
    · obtain rfl : i = 16 := by omega
      have HE := Lib.hid (h_end hE hhe)
      clear hE hhe hrr hmv h1 h2 h3 h4 h5 hn2 s0 s1 l1 n0 n1 n2 k0 k1 hk hh hlt hi
      go_wp2_with (fail)
      obtain ⟨z0, z1⟩ := Z.out
      refine bodyPost_ret (v := .agg #[.int .i64 (a : Int), .int .i64 (E : Int)]) (by simp [results, Try.results26, go_sem, z0, z1]) rfl ⟨by rw [HE.out], FIN.out⟩
end LM
end Go.Proofs.Ytghnaiinhbdgcaa
