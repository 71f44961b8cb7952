/- Div whole; the table of powers of ten; a slice of limbs that came in, as the walks of package limb read it. -/
import Derived.Test.YtcfhiihhfcnfbaaGreatDoorJ12
import Derived.Test.YtcfhiihhfcnfbaaGreatDoorJ07
import Derived.LaidSub
import Derived.Lib.LaidTab
namespace Go.Proofs.YtcfhiihhfcnfbaaGreatDoor
open Go.RowKit
namespace LM

theorem div_any (A B : Option Addr) (ca cb : Nat) (xs ys : List Nat) (w : World) (ha : Rd w A xs) (hb : Rd w B ys) (hx : Lm xs) (hy : Lm ys) (hca : xs.length ≤ ca) (hcb : ys.length ≤ cb) (hcam : ca ≤ 9223372036854775807) (hcbm : cb ≤ 9223372036854775807) :
    Calls Tryz.prog 188 #[.slice A xs.length ca, .slice B ys.length cb] w fun e w' => DivE w (val xs) (val ys) e w' := by
  by_cases h1 : BIG (val xs)
  · exact div_small A B ca cb xs ys w ha hb hx hy hca hcb hcam hcbm (.inl h1)
  · by_cases h2 : BIG (val ys)
    · exact div_small A B ca cb xs ys w ha hb hx hy hca hcb hcam hcbm (.inr (.inl h2))
    · rcases Nat.eq_zero_or_pos (val ys) with h3 | h3
      · exact div_small A B ca cb xs ys w ha hb hx hy hca hcb hcam hcbm (.inr (.inr (.inl h3)))
      · rcases Nat.lt_or_ge (trim xs).length (trim ys).length with h4 | h4
        · exact div_small A B ca cb xs ys w ha hb hx hy hca hcb hcam hcbm (.inr (.inr (.inr h4)))
        · exact div_big A B ca cb xs ys w ha hb hx hy hca hcb hcam hcbm h1 h2 h3 h4

/-- what is listed of the table -/
theorem tab_of {l : List (String × DataW Unit)} {W : World} (h : laidMetH Tryz.prog l W)
    (he : ((l.filter fun x => x.2.handleName?.isNone).filter fun x => x.1 == "internal/strconv.uint64pow10") = [("internal/strconv.uint64pow10", Lib.tabData .u64 Lib.pow10Tab)]) : Lib.TabIs Tryz.prog W "internal/strconv.uint64pow10" .u64 Lib.pow10Tab := by
  have h1 := (laidMetH_iff.1 h).1.filter fun x => x.1 == "internal/strconv.uint64pow10"
  rw [he] at h1
  exact Lib.tabIs_of_head (g := 10) (t := 319) (e := 22) (n := 20) (by kernel_rfl) (by kernel_rfl) Tryz.underlying319 Tryz.underlying22 (by kernel_rfl) (by kernel_rfl) h1

theorem numV_list {w : World} {v : Value} {n : Nat} (h : NumV w v n) (l : List Nat) (k : Nat) (hk : l.length = k) (hl : Can l) (hv : val l = n) : ∃ A c, v = .slice A k c ∧ k ≤ c ∧ c ≤ 1000000 ∧ Rd w A l := by
  obtain ⟨A, c, r, rfl, h1, h2, h3, h4, h5⟩ := h
  have e := can_ext h4 hl (h5.trans hv.symm)
  subst e
  subst hk
  exact ⟨A, c, rfl, h1, h2, h3⟩
theorem sameB_self (xs : List Nat) : sameB xs xs = true := by simp [sameB]
theorem rd_new (w : World) (l : List Nat) : Rd (w.alloc (.cells (U l).toArray 108)) (some ⟨w.heap.size, 0, none⟩) l := Rd.of_blk (pre := []) (post := []) (by simpa using Blk.new w (U l))
theorem not_big {n : Nat} (h : n < 18446744073709551616 * 4294967296) : ¬ BIG n := by
  intro hb
  have h1 : 4294967296 ^ 3 ≤ 4294967296 ^ 64 := Nat.pow_le_pow_right (by decide) (by decide)
  have h2 : (4294967296 : Nat) ^ 3 = 18446744073709551616 * 4294967296 := by decide
  unfold BIG at hb
  omega
theorem lm_of {l : List Nat} (h : (l.all fun x => decide (x < 4294967296)) = true) : Lm l := fun x hx => of_decide_eq_true (List.all_eq_true.1 h x hx)

theorem spot_none {w : World} {x : Addr} {v : Value} (h : w.cell? x = some v) : x = ⟨x.block, x.off, none⟩ ∧ x.block < w.heap.size := by
  obtain ⟨b, o, s⟩ := x
  unfold World.cell? at h
  dsimp only at h
  cases hb : w.heap[b]? with
  | none => rw [hb] at h; cases h
  | some ob =>
    rw [hb] at h
    have hlt := (Array.getElem?_eq_some_iff.1 hb).1
    cases s with
    | none => exact ⟨rfl, hlt⟩
    | some k =>
      exfalso
      cases ob <;> first | (cases h; done) | simp at h

theorem open_row {w : World} {a : Option Addr} {len cap : Nat} {zs : List Int}
    (h : (a = none ∧ len = 0 ∧ cap = 0 ∧ zs = []) ∨ ∃ x, a = some x ∧ len ≤ cap ∧ cap ≤ maxLen ∧ zs.length = cap ∧ (∀ i, i < zs.length → w.cell? (x.add i) = some (.int .u32 (zs.getD i 0))) ∧ ∀ n ∈ zs, (Lit.int .u32 n).wf = true) :
    ∃ xs : List Nat, xs.length = len ∧ Lm xs ∧ Rd w a xs ∧ len ≤ cap ∧ cap ≤ 9223372036854775807 ∧ (a = none → len = 0 ∧ cap = 0) := by
  rcases h with ⟨rfl, rfl, rfl, rfl⟩ | ⟨x, rfl, h1, h2, h3, h4, h5⟩
  · exact ⟨[], rfl, Lm.nil, Rd.nil, Nat.le_refl _, by omega, fun _ => ⟨rfl, rfl⟩⟩
  · have hwf : ∀ n ∈ zs, 0 ≤ n ∧ n < 4294967296 := fun n hn => by
      have h := h5 n hn
      simp [Lit.wf, IntKind.min, IntKind.max, IntKind.signed, IntKind.bits] at h
      omega
    have hget : ∀ i, i < zs.length → 0 ≤ zs.getD i 0 ∧ zs.getD i 0 < 4294967296 := fun i hi => by
      rw [List.getD_eq_getElem?_getD, List.getElem?_eq_getElem hi]
      exact hwf _ (List.getElem_mem hi)
    refine ⟨(zs.take len).map Int.toNat, by simp; omega, ?_, ?_, h1, by unfold maxLen at h2; omega, fun e => by cases e⟩
    · intro y hy
      obtain ⟨z, hz, rfl⟩ := List.mem_map.1 hy
      have := hwf z (List.mem_of_mem_take hz)
      omega
    · intro hl
      have hl' : 0 < len := by simp at hl; omega
      have h0 := h4 0 (by omega)
      have hx0 : x.add 0 = x := by simp [Addr.add]
      rw [hx0] at h0
      obtain ⟨e1, e2⟩ := spot_none h0
      refine ⟨x.block, x.off, by rw [← e1], e2, fun k hk => ?_⟩
      have hk' : k < len := by simp at hk; omega
      have hc := h4 k (by omega)
      have hxk : x.add k = ⟨x.block, x.off + k, none⟩ := by
        unfold Addr.add
        split
        · rename_i hk0; subst hk0; rw [Nat.add_zero]; exact e1
        · rfl
      rw [hxk] at hc
      rw [hc]
      have hg := hget k (by omega)
      congr 2
      rw [List.getElem?_map, List.getElem?_take, if_pos hk', List.getElem?_eq_getElem (by omega)]
      rw [List.getD_eq_getElem?_getD, List.getElem?_eq_getElem (by omega)] at hg ⊢
      simp only [Option.map_some, Option.getD_some] at hg ⊢
      omega

end LM
end Go.Proofs.YtcfhiihhfcnfbaaGreatDoor
