/- How a number that came in is read. -/
import Derived.Test.YtpnjddfnlaonoaaGreatDoorL50
import Derived.Deep.Strs
import Derived.LaidSub
import Derived.Lib.LaidTab
import Derived.Lib.SmallJoins
import Derived.OpenShut
import Derived.ShutString
namespace Go.Proofs.YtpnjddfnlaonoaaGreatDoor
open Go Go.RowKit Go.ChangeShapes Go.WideShapes Go.ChangeAt
namespace LM
set_option linter.unusedVariables false

theorem open_row {w : World} {a : Option Addr} {len cap : Nat} {zs : List Int}
    (h : (a = none ∧ len = 0 ∧ cap = 0 ∧ zs = []) ∨ ∃ x, a = some x ∧ len ≤ cap ∧ cap ≤ maxLen ∧ zs.length = cap ∧ (∀ i, i < zs.length → w.cell? (x.add i) = some (.int .u32 (zs.getD i 0))) ∧ ∀ n ∈ zs, (Lit.int .u32 n).wf = true) :
    ∃ xs : List Nat, xs.length = len ∧ Lm xs ∧ Rd w a xs ∧ len ≤ cap ∧ cap ≤ 9223372036854775807 ∧ (a = none → len = 0 ∧ cap = 0) := by
  rcases h with ⟨rfl, rfl, rfl, rfl⟩ | ⟨x, rfl, h1, h2, h3, h4, h5⟩
  · exact ⟨[], rfl, Lm.nil, Rd.nil, Nat.le_refl _, by omega, fun _ => ⟨rfl, rfl⟩⟩
  · have hwf : ∀ n ∈ zs, 0 ≤ n ∧ n < 4294967296 := fun n hn => by
      have h := h5 n hn
      simp [Lit.wf, IntKind.min, IntKind.max, IntKind.signed, IntKind.bits] at h
      omega
    have hget : ∀ i, i < zs.length → 0 ≤ zs.getD i 0 ∧ zs.getD i 0 < 4294967296 := fun i hi => by
      rw [List.getD_eq_getElem?_getD, List.getElem?_eq_getElem hi]
      exact hwf _ (List.getElem_mem hi)
    refine ⟨(zs.take len).map Int.toNat, by simp; omega, ?_, ?_, h1, by unfold maxLen at h2; omega, fun e => by cases e⟩
    · intro y hy
      obtain ⟨z, hz, rfl⟩ := List.mem_map.1 hy
      have := hwf z (List.mem_of_mem_take hz)
      omega
    · intro hl
      have hl' : 0 < len := by simp at hl; omega
      have h0 := h4 0 (by omega)
      have hx0 : x.add 0 = x := by simp [Addr.add]
      rw [hx0] at h0
      obtain ⟨e1, e2⟩ := spot_none h0
      refine ⟨x.block, x.off, by rw [← e1], e2, fun k hk => ?_⟩
      have hk' : k < len := by simp at hk; omega
      have hc := h4 k (by omega)
      have hxk : x.add k = ⟨x.block, x.off + k, none⟩ := by
        unfold Addr.add
        split
        · rename_i hk0; subst hk0; rw [Nat.add_zero]; exact e1
        · rfl
      rw [hxk] at hc
      rw [hc]
      have hg := hget k (by omega)
      congr 2
      rw [List.getElem?_map, List.getElem?_take, if_pos hk', List.getElem?_eq_getElem (by omega)]
      rw [List.getD_eq_getElem?_getD, List.getElem?_eq_getElem (by omega)] at hg ⊢
      simp only [Option.map_some, Option.getD_some] at hg ⊢
      omega

theorem trod_flt {H : Type} {enc : TypeId × Value → H} {P : Program} {w : World} {base : Nat} {spare : Nat → Bool} {held : Bool} {fuel : Nat} {t : TypeId} {cs : List Value} {x : DataW H × List MemPlace} (ht : P.underlying t = some (.float .f64)) (h : DataW.trod enc P w base spare held fuel t cs = some x) : ∃ n, cs = [.float .f64 n] ∧ n < 18446744073709551616 := by
  cases fuel with
  | zero => simp [DataW.trod] at h
  | succ n =>
    unfold DataW.trod at h
    rw [ht] at h
    split at h <;> simp_all
    rename_i hk
    subst hk
    have h3 := h.1.2
    unfold Lit.wf at h3
    simpa using h3

set_option maxRecDepth 1000000 in
theorem open_num {H : Type} {enc : TypeId × Value → H} {w : World} {base b0 : Nat} {held : Bool} {r : Reach} {v : Value} {d : DataW H} {p : List MemPlace}
    (hv : Value.okWide Tryz.prog w r b0 38 v) (h : DataW.Trod enc Tryz.prog w base (fun _ => true) held 38 v d p) :
    ∃ fl f s A c xs, v = numA fl f s A (List.length xs) c ∧ f < 18446744073709551616 ∧ Lm xs ∧ Rd w A xs ∧ xs.length ≤ c ∧ c ≤ 9223372036854775807 ∧ (A = none → xs.length = 0 ∧ c = 0) := by
  obtain ⟨cs, rfl, hsz⟩ := okWide_struct Tryz.underlying38 hv
  obtain ⟨c0, c1, c2, c3, rfl⟩ := Joins.array4 (hsz.trans (by kernel_rfl))
  obtain ⟨fuel, hf⟩ := h
  obtain ⟨y0, y1, y2, n, hx, _, h0, h1, h2⟩ := Go.Deep.trod_struct3 Tryz.underlying38 hf
  have g0 : DataW.trod enc Tryz.prog w base (fun _ => true) held n 4 [c0] = some y0 := h0
  have g1 : DataW.trod enc Tryz.prog w base (fun _ => true) held n 24 [c1] = some y1 := h1
  have g2 : DataW.trod enc Tryz.prog w base (fun _ => true) held n 36 [c2, c3] = some y2 := h2
  obtain ⟨fl, hb, -⟩ := DataW.trod_bool Tryz.underlying4 g0
  obtain ⟨f, hff, hfl⟩ := trod_flt Tryz.underlying24 g1
  obtain ⟨z0, z1, n', -, -, k0, k1⟩ := trod_struct2 Tryz.underlying36 g2
  have e0 : DataW.trod enc Tryz.prog w base (fun _ => true) held n' 4 [c2] = some z0 := k0
  have e1 : DataW.trod enc Tryz.prog w base (fun _ => true) held n' 34 [c3] = some z1 := k1
  obtain ⟨s, hs, -⟩ := DataW.trod_bool Tryz.underlying4 e0
  obtain rfl : c0 = .bool fl := by simpa using hb
  obtain rfl : c1 = .float .f64 f := by simpa using hff
  obtain rfl : c2 = .bool s := by simpa using hs
  rcases open_ints Tryz.underlying34 Tryz.underlying99 (by kernel_rfl) e1 with ⟨hcs, _⟩ | ⟨x, l, c, zs, hcs, _, hl, hm, hz, _, hcell, hwz⟩
  · obtain rfl : c3 = .slice none 0 0 := by simpa using hcs
    exact ⟨fl, f, s, none, 0, [], rfl, hfl, Lm.nil, Rd.nil, Nat.le_refl _, by decide, fun _ => ⟨rfl, rfl⟩⟩
  · obtain rfl : c3 = .slice (some x) l c := by simpa using hcs
    obtain ⟨xs, rfl, hx, ha, hca, hcm, hn⟩ := open_row (w := w) (a := some x) (len := l) (cap := c) (zs := zs) (.inr ⟨_, rfl, hl, hm, by simpa using hz, hcell, hwz⟩)
    exact ⟨fl, f, s, some x, c, xs, rfl, hfl, hx, ha, hca, hcm, hn⟩

end LM
end Go.Proofs.YtpnjddfnlaonoaaGreatDoor
