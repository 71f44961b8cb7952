/- Walks: the document's answer Text. -/
import Derived.Test.YtnpmfailpgbggaaGreatDoorK18
import Derived.Test.YtnpmfailpgbggaaGreatDoorK14
import Derived.Test.YtnpmfailpgbggaaGreatDoorK10
import Derived.Laws.IdiomStrings
namespace Go.Proofs.YtnpmfailpgbggaaGreatDoor
open Go.RowKit
namespace LM

end LM
end Go.Proofs.YtnpmfailpgbggaaGreatDoor

namespace Go.Proofs.YtnpmfailpgbggaaGreatDoor
open Go Go.RowKit
namespace LM

set_option maxRecDepth 100000 in
theorem wp_copy {ops : Array Oper} {rest : List Oper} {o : Oper} {a : Act} {Q : Exit → Act → World → Prop} (hgd : o.guard = none) (s x : Operand)
    (ho : o.op = .call { callee := .builtin .append, args := #[s, x], argTypes := #[23, 23] }) (w : World) (A : Option Addr) (c : Nat) (xs : List Nat) (hr : Rd w A xs) (hl : xs.length ≤ 1000000) (hnil : A = none → xs.length = 0 ∧ c = 0)
    (hs : a.eval s = .slice (some ⟨w.heap.size, 0, none⟩) 0 0) (hx : a.eval x = .slice A xs.length c)
    (h : ∀ g cap w1, xs.length ≤ cap → cap ≤ 9223372036854775807 → w.heap.size ≤ g → g < w1.heap.size → Rd w1 (some ⟨g, 0, none⟩) xs → Below w.heap.size w w1 → wpList Tryz.prog ops Q rest (a.put o.dst (.slice (some ⟨g, 0, none⟩) xs.length cap)) w1) :
    wpList Tryz.prog ops Q (o :: rest) a (w.alloc (.cells #[] 60)) := by
  obtain ⟨i0, hi0, hz0, hz1, hz2⟩ := info_parts u32_info
  have hrow : (w.alloc (.cells #[] 60)).ownsRow w.heap.size 60 1 (.slice (some ⟨w.heap.size, 0, none⟩) 0 0) 0 [] :=
    ⟨rfl, .inr ⟨w.heap.size, 0, #[], rfl, Nat.le_refl _, heap_alloc_new w _, Nat.le_refl _, by decide, rfl, rfl⟩⟩
  have hba : Below w.heap.size w (w.alloc (.cells #[] 60)) := (Below.refl _ w).alloc (Nat.le_refl _) _
  rcases A with _ | ad
  · obtain ⟨hx0, rfl⟩ := hnil rfl
    obtain rfl : xs = [] := List.eq_nil_of_length_eq_zero hx0
    exact wpList_append_own_none hgd s x _ ho w.heap.size _ i0 1 Tryz.underlying23 hi0 _ _ _ hs hrow hx (h w.heap.size 0 _ (Nat.le_refl _) (by decide) (Nat.le_refl _) (by simp) Rd.nil hba)
  · have hsrc : ∀ j u, (U xs)[j]? = some u → (w.alloc (.cells #[] 60)).cell? (ad.add j) = some u := by
      intro j u hu
      have hj : j < xs.length := by
        rcases Nat.lt_or_ge j xs.length with h | h
        · exact h
        · rw [List.getElem?_eq_none (by rw [U_len]; exact h)] at hu; cases hu
      obtain ⟨b, off, e, hb, hc⟩ := hr.at_ hj
      injection e with e
      subst e
      rw [U_get _ _ hj] at hu
      rw [← hu, ← hc, addr_add]
      exact World.cell?_of_block (a := ⟨b, off + j, none⟩) (Below.heap_alloc w _ b hb)
    refine wpList_append_own _ hgd s x 23 ho w.heap.size 60 i0 (.int .u32 0) 1 4 Tryz.underlying23 hi0 hz0 hz1 hz2 rfl (by decide) _ _ _ hs hrow ad xs.length c (U xs) hx (by simp [U_len]) hsrc (u_one xs) (by unfold maxLen; omega) (by omega) (by simp) ?_
    intro v1 w1 hown1 hg1 hiff
    have hb1 : Below w.heap.size w w1 := hba.grown hg1 (by simp) (fun k e => by have e2 : (Value.slice (some ⟨w.heap.size, 0, none⟩) 0 0).ownBlock = some k := e; have e3 : some w.heap.size = some k := e2; injection e3 with e3; omega)
    rw [Nat.zero_add, List.nil_append] at hown1
    rcases own_cases hown1 with ⟨rfl, rfl⟩ | ⟨g, cap, rest', rfl, hgb, hB1, hcap, hcm, hlen⟩
    · have h2 : Value.slice (some ⟨w.heap.size, 0, none⟩) 0 0 = .slice none 0 0 := (hiff.1 rfl).1
      cases h2
    · exact h g cap w1 hcap (by unfold maxLen at hcm; omega) hgb hB1.lt (fun hl0 => ⟨g, 0, rfl, hB1.lt, fun k hk => by
        rw [Nat.zero_add, hB1.cell, List.getElem?_append_left (by rw [U_len]; exact hk), U_get _ _ hk]⟩) hb1

end LM
end Go.Proofs.YtnpmfailpgbggaaGreatDoor

namespace Go.Proofs.YtnpmfailpgbggaaGreatDoor
open Go Go.RowKit
namespace LM

end LM
end Go.Proofs.YtnpmfailpgbggaaGreatDoor
