/- Walks of the statements' own functions: Div whole; what every statement asks first; the table of powers of ten. · A slice of limbs that came in, as the walks of package limb read it. -/
import Derived.Test.YtkkogmgboehfdaaDoorLimbW
import Derived.Test.YtkkogmgboehfdaaDoorLimbText
import Derived.Test.YtkkogmgboehfdaaDoorLimbN
import Derived.Test.YtkkogmgboehfdaaDoorLimbQ
import Derived.LaidSub
import Derived.Lib.LaidTab
namespace Go.Proofs.YtkkogmgboehfdaaDoor
open Go.RowKit
namespace LM

theorem div_any (A B : Option Addr) (ca cb : Nat) (xs ys : List Nat) (w : World) (ha : Rd w A xs) (hb : Rd w B ys) (hx : Lm xs) (hy : Lm ys) (hca : xs.length ≤ ca) (hcb : ys.length ≤ cb) (hcam : ca ≤ 9223372036854775807) (hcbm : cb ≤ 9223372036854775807) :
    Calls Tryd.prog 12 #[.slice A xs.length ca, .slice B ys.length cb] w fun e w' => DivE w (val xs) (val ys) e w' := by
  by_cases h1 : BIG (val xs)
  · exact div_small A B ca cb xs ys w ha hb hx hy hca hcb hcam hcbm (.inl h1)
  · by_cases h2 : BIG (val ys)
    · exact div_small A B ca cb xs ys w ha hb hx hy hca hcb hcam hcbm (.inr (.inl h2))
    · rcases Nat.eq_zero_or_pos (val ys) with h3 | h3
      · exact div_small A B ca cb xs ys w ha hb hx hy hca hcb hcam hcbm (.inr (.inr (.inl h3)))
      · rcases Nat.lt_or_ge (trim xs).length (trim ys).length with h4 | h4
        · exact div_small A B ca cb xs ys w ha hb hx hy hca hcb hcam hcbm (.inr (.inr (.inr h4)))
        · exact div_big A B ca cb xs ys w ha hb hx hy hca hcb hcam hcbm h1 h2 h3 h4

/-- what is listed of the table -/
theorem tab_of {l : List (String × DataW Unit)} {W : World} (h : laidMetH Tryd.prog l W)
    (he : ((l.filter fun x => x.2.handleName?.isNone).filter fun x => x.1 == "internal/strconv.uint64pow10") = [("internal/strconv.uint64pow10", Lib.tabData .u64 Lib.pow10Tab)]) : Lib.TabIs Tryd.prog W "internal/strconv.uint64pow10" .u64 Lib.pow10Tab := by
  have h1 := (laidMetH_iff.1 h).1.filter fun x => x.1 == "internal/strconv.uint64pow10"
  rw [he] at h1
  exact Lib.tabIs_of_head (g := 3) (t := 118) (e := 31) (n := 20) (by kernel_rfl) (by kernel_rfl) Tryd.underlying118 Tryd.underlying31 (by kernel_rfl) (by kernel_rfl) h1

theorem numV_list {w : World} {v : Value} {n : Nat} (h : NumV w v n) (l : List Nat) (k : Nat) (hk : l.length = k) (hl : Can l) (hv : val l = n) : ∃ A c, v = .slice A k c ∧ k ≤ c ∧ c ≤ 1000000 ∧ Rd w A l := by
  obtain ⟨A, c, r, rfl, h1, h2, h3, h4, h5⟩ := h
  have e := can_ext h4 hl (h5.trans hv.symm)
  subst e
  subst hk
  exact ⟨A, c, rfl, h1, h2, h3⟩
theorem sameB_self (xs : List Nat) : sameB xs xs = true := by simp [sameB]
theorem dec_alive : Lib.decDigits 4294967296 = [52, 50, 57, 52, 57, 54, 55, 50, 57, 54] := by
  rw [dec_big (by decide), dec_big (by decide), dec_big (by decide), dec_big (by decide), dec_big (by decide), dec_big (by decide), dec_big (by decide), dec_big (by decide), dec_big (by decide), Lib.decDigits_one (by decide)]
  rfl
theorem rd_new (w : World) (l : List Nat) : Rd (w.alloc (.cells (U l).toArray 26)) (some ⟨w.heap.size, 0, none⟩) l := Rd.of_blk (pre := []) (post := []) (by simpa using Blk.new w (U l))
theorem not_big {n : Nat} (h : n < 18446744073709551616 * 4294967296) : ¬ BIG n := by
  intro hb
  have h1 : 4294967296 ^ 3 ≤ 4294967296 ^ 64 := Nat.pow_le_pow_right (by decide) (by decide)
  have h2 : (4294967296 : Nat) ^ 3 = 18446744073709551616 * 4294967296 := by decide
  unfold BIG at hb
  omega
theorem lm_of {l : List Nat} (h : (l.all fun x => decide (x < 4294967296)) = true) : Lm l := fun x hx => of_decide_eq_true (List.all_eq_true.1 h x hx)

set_option maxRecDepth 100000 in
set_option maxHeartbeats 1000000 in
theorem alive_any (w : World) (htab : Lib.TabIs Tryd.prog w "internal/strconv.uint64pow10" .u64 Lib.pow10Tab) :
    Calls Tryd.prog 14 #[] w fun e w' => e = .returned (.bool true) ∧ Below w.heap.size w w' := by
  have HTAB := Lib.hid htab
  have l1 : Lm [4294967295] := lm_of (by decide)
  have l2 : Lm [1, 1] := lm_of (by decide)
  have l3 : Lm [7] := lm_of (by decide)
  have l4 : Lm [0, 1] := lm_of (by decide)
  have c1 : Can [1, 4294967294] := ⟨lm_of (by decide), by decide⟩
  have c2 : Can [613566756] := ⟨lm_of (by decide), by decide⟩
  have c3 : Can [5] := ⟨lm_of (by decide), by decide⟩
  have N1 : val [4294967295] = 4294967295 := by decide
  have N2 : val [1, 1] = 4294967297 := by decide
  have N3 : val [7] = 7 := by decide
  have N4 : val [0, 1] = 4294967296 := by decide
  have n1 : ∀ k, 18446744073709551616 * 4294967296 > k → ¬ BIG k := fun k h => not_big h
  have NB := Lib.hid n1
  have H1 := Lib.hid N1
  have H2 := Lib.hid N2
  have H3 := Lib.hid N3
  have H4 := Lib.hid N4
  clear htab N1 N2 N3 N4 n1
  go_enter Tryd.func14, Tryd.ntmps14
  go_wp2_with fail
  have hw1 : Below w.heap.size w ((w.alloc (.cells #[.int .u32 4294967295] 26)).alloc (.cells #[.int .u32 4294967295] 26)) := ((Below.refl _ w).alloc (Nat.le_refl _) _).alloc (by simp) _
  have r1 : Rd ((w.alloc (.cells #[.int .u32 4294967295] 26)).alloc (.cells #[.int .u32 4294967295] 26)) (some ⟨w.heap.size, 0, none⟩) [4294967295] := (rd_new w [4294967295]).alloc _
  have r2 : Rd ((w.alloc (.cells #[.int .u32 4294967295] 26)).alloc (.cells #[.int .u32 4294967295] 26)) (some ⟨w.heap.size + 1, 0, none⟩) [4294967295] := by
    have h := rd_new (w.alloc (.cells #[.int .u32 4294967295] 26)) [4294967295]
    rw [World.size_alloc] at h
    exact h
  refine (mul_any (some ⟨w.heap.size, 0, none⟩) (some ⟨w.heap.size + 1, 0, none⟩) 1 1 [4294967295] [4294967295] _ r1 r2 l1 l1 (Nat.le_refl _) (Nat.le_refl _) (by decide) (by decide)).mono ?_
  rintro e w1 ⟨v, er, rfl, hans, hb1⟩
  have hw2 := hw1.trans (hb1.mono hw1.size)
  rw [H1.out] at hans
  rcases hans with ⟨hbad, _⟩ | ⟨_, rfl, hN⟩
  · exact absurd hbad (by rintro (h | h | h) <;> exact NB.out _ (by decide) h)
  obtain ⟨A1, k1, rfl, hk1, hk1m, hr1⟩ := numV_list hN [1, 4294967294] 2 rfl c1 (by decide)
  clear r1 r2 hw1 hb1 hN
  go_wp2_with fail
  have hw3 : Below w.heap.size w ((w1.alloc (.cells #[.int .u32 1, .int .u32 1] 26)).alloc (.cells #[.int .u32 7] 26)) := (hw2.alloc hw2.size _).alloc (by have := hw2.size; simp; omega) _
  have hr1' : Rd ((w1.alloc (.cells #[.int .u32 1, .int .u32 1] 26)).alloc (.cells #[.int .u32 7] 26)) A1 [1, 4294967294] := (hr1.alloc _).alloc _
  have r1 : Rd ((w1.alloc (.cells #[.int .u32 1, .int .u32 1] 26)).alloc (.cells #[.int .u32 7] 26)) (some ⟨w1.heap.size, 0, none⟩) [1, 1] := (rd_new w1 [1, 1]).alloc _
  have r2 : Rd ((w1.alloc (.cells #[.int .u32 1, .int .u32 1] 26)).alloc (.cells #[.int .u32 7] 26)) (some ⟨w1.heap.size + 1, 0, none⟩) [7] := by
    have h := rd_new (w1.alloc (.cells #[.int .u32 1, .int .u32 1] 26)) [7]
    rw [World.size_alloc] at h
    exact h
  refine (div_any (some ⟨w1.heap.size, 0, none⟩) (some ⟨w1.heap.size + 1, 0, none⟩) 2 1 [1, 1] [7] _ r1 r2 l2 l3 (Nat.le_refl _) (Nat.le_refl _) (by decide) (by decide)).mono ?_
  rintro e w2 ⟨q, r, er, rfl, hb2, hans⟩
  have hw4 := hw3.trans (hb2.mono hw3.size)
  have hr2 := hr1'.below hb2
  rw [H2.out, H3.out] at hans
  rcases hans with ⟨hbad, _⟩ | ⟨_, _, h0, _⟩ | ⟨_, _, _, rfl, hq, hr⟩
  · exact absurd hbad (by rintro (h | h) <;> exact NB.out _ (by decide) h)
  · exact absurd h0 (by decide)
  obtain ⟨A2, k2, rfl, hk2, hk2m, hrq⟩ := numV_list hq [613566756] 1 rfl c2 (by decide)
  obtain ⟨A3, k3, rfl, hk3, hk3m, hrr⟩ := numV_list hr [5] 1 rfl c3 (by decide)
  clear r1 r2 hw3 hw2 hb2 hq hr hr1 hr1'
  go_wp2_with fail
  have w5 : Below w.heap.size w (w2.alloc (.cells #[.int .u32 1, .int .u32 4294967294] 26)) := hw4.alloc hw4.size _
  have sm1 := same_any A1 (some ⟨w2.heap.size, 0, none⟩) k1 2 [1, 4294967294] [1, 4294967294] (w2.alloc (.cells #[.int .u32 1, .int .u32 4294967294] 26)) (hr2.alloc _) (rd_new w2 [1, 4294967294]) (by decide)
  rw [sameB_self] at sm1
  refine sm1.mono ?_
  rintro e w3 ⟨rfl, hb3⟩
  have hw6 := w5.trans (hb3.mono w5.size)
  have hrq3 := (hrq.alloc (.cells #[.int .u32 1, .int .u32 4294967294] 26)).below hb3
  have hrr3 := (hrr.alloc (.cells #[.int .u32 1, .int .u32 4294967294] 26)).below hb3
  clear sm1 hb3 hrq hrr hr2 w5 hw4
  go_wp2_with fail
  have w7 : Below w.heap.size w (w3.alloc (.cells #[.int .u32 613566756] 26)) := hw6.alloc hw6.size _
  have sm2 := same_any A2 (some ⟨w3.heap.size, 0, none⟩) k2 1 [613566756] [613566756] (w3.alloc (.cells #[.int .u32 613566756] 26)) (hrq3.alloc _) (rd_new w3 [613566756]) (by decide)
  rw [sameB_self] at sm2
  refine sm2.mono ?_
  rintro e w4 ⟨rfl, hb4⟩
  have hw8 := w7.trans (hb4.mono w7.size)
  have hrr4 := (hrr3.alloc (.cells #[.int .u32 613566756] 26)).below hb4
  clear sm2 hb4 hrq3 hrr3 w7 hw6
  go_wp2_with fail
  have w9 : Below w.heap.size w (w4.alloc (.cells #[.int .u32 5] 26)) := hw8.alloc hw8.size _
  have sm3 := same_any A3 (some ⟨w4.heap.size, 0, none⟩) k3 1 [5] [5] (w4.alloc (.cells #[.int .u32 5] 26)) (hrr4.alloc _) (rd_new w4 [5]) (by decide)
  rw [sameB_self] at sm3
  refine sm3.mono ?_
  rintro e w5 ⟨rfl, hb5⟩
  have hw10 := w9.trans (hb5.mono w9.size)
  clear sm3 hb5 hrr4 w9 hw8
  go_wp2_with fail
  have w11 : Below w.heap.size w (w5.alloc (.cells #[.int .u32 0, .int .u32 1] 26)) := hw10.alloc hw10.size _
  have tx := text_any (some ⟨w5.heap.size, 0, none⟩) 2 [0, 1] (w5.alloc (.cells #[.int .u32 0, .int .u32 1] 26)) (rd_new w5 [0, 1]) (fun ad e => by injection e with e; subst e; simp) l4 (by decide) (by decide) (tab_below HTAB.out w11)
  rw [H4.out] at tx
  refine tx.mono ?_
  rintro e w6 ⟨⟨l, rfl, ⟨hbad, _⟩ | ⟨_, rfl⟩⟩, hb6⟩
  · exact absurd hbad (NB.out _ (by decide))
  rw [dec_alive]
  have hw12 := w11.trans (hb6.mono w11.size)
  clear tx hb6 w11 hw10
  go_wp2
  go_ret
  exact ⟨rfl, hw12⟩

end LM
end Go.Proofs.YtkkogmgboehfdaaDoor

namespace Go.Proofs.YtkkogmgboehfdaaDoor
open Go.RowKit
namespace LM

theorem spot_none {w : World} {x : Addr} {v : Value} (h : w.cell? x = some v) : x = ⟨x.block, x.off, none⟩ ∧ x.block < w.heap.size := by
  obtain ⟨b, o, s⟩ := x
  unfold World.cell? at h
  dsimp only at h
  cases hb : w.heap[b]? with
  | none => rw [hb] at h; cases h
  | some ob =>
    rw [hb] at h
    have hlt := (Array.getElem?_eq_some_iff.1 hb).1
    cases s with
    | none => exact ⟨rfl, hlt⟩
    | some k =>
      exfalso
      cases ob <;> first | (cases h; done) | simp at h

theorem open_row {w : World} {a : Option Addr} {len cap : Nat} {zs : List Int}
    (h : (a = none ∧ len = 0 ∧ cap = 0 ∧ zs = []) ∨ ∃ x, a = some x ∧ len ≤ cap ∧ cap ≤ maxLen ∧ zs.length = cap ∧ (∀ i, i < zs.length → w.cell? (x.add i) = some (.int .u32 (zs.getD i 0))) ∧ ∀ n ∈ zs, (Lit.int .u32 n).wf = true) :
    ∃ xs : List Nat, xs.length = len ∧ Lm xs ∧ Rd w a xs ∧ len ≤ cap ∧ cap ≤ 9223372036854775807 ∧ (a = none → len = 0 ∧ cap = 0) := by
  rcases h with ⟨rfl, rfl, rfl, rfl⟩ | ⟨x, rfl, h1, h2, h3, h4, h5⟩
  · exact ⟨[], rfl, Lm.nil, Rd.nil, Nat.le_refl _, by omega, fun _ => ⟨rfl, rfl⟩⟩
  · have hwf : ∀ n ∈ zs, 0 ≤ n ∧ n < 4294967296 := fun n hn => by
      have h := h5 n hn
      simp [Lit.wf, IntKind.min, IntKind.max, IntKind.signed, IntKind.bits] at h
      omega
    have hget : ∀ i, i < zs.length → 0 ≤ zs.getD i 0 ∧ zs.getD i 0 < 4294967296 := fun i hi => by
      rw [List.getD_eq_getElem?_getD, List.getElem?_eq_getElem hi]
      exact hwf _ (List.getElem_mem hi)
    refine ⟨(zs.take len).map Int.toNat, by simp; omega, ?_, ?_, h1, by unfold maxLen at h2; omega, fun e => by cases e⟩
    · intro y hy
      obtain ⟨z, hz, rfl⟩ := List.mem_map.1 hy
      have := hwf z (List.mem_of_mem_take hz)
      omega
    · intro hl
      have hl' : 0 < len := by simp at hl; omega
      have h0 := h4 0 (by omega)
      have hx0 : x.add 0 = x := by simp [Addr.add]
      rw [hx0] at h0
      obtain ⟨e1, e2⟩ := spot_none h0
      refine ⟨x.block, x.off, by rw [← e1], e2, fun k hk => ?_⟩
      have hk' : k < len := by simp at hk; omega
      have hc := h4 k (by omega)
      have hxk : x.add k = ⟨x.block, x.off + k, none⟩ := by
        unfold Addr.add
        split
        · rename_i hk0; subst hk0; rw [Nat.add_zero]; exact e1
        · rfl
      rw [hxk] at hc
      rw [hc]
      have hg := hget k (by omega)
      congr 2
      rw [List.getElem?_map, List.getElem?_take, if_pos hk', List.getElem?_eq_getElem (by omega)]
      rw [List.getD_eq_getElem?_getD, List.getElem?_eq_getElem (by omega)] at hg ⊢
      simp only [Option.map_some, Option.getD_some] at hg ⊢
      omega

end LM
end Go.Proofs.YtkkogmgboehfdaaDoor
