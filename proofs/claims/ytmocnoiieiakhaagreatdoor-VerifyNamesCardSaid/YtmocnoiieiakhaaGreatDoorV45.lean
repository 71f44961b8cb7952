/- The law VerifyNames, of what the row lists. -/
import Derived.Test.YtmocnoiieiakhaaGreatDoorV26
import Derived.Test.YtmocnoiieiakhaaGreatDoorV44
import Derived.Test.YtmocnoiieiakhaaGreatDoorV43
import Derived.Test.YtmocnoiieiakhaaGreatDoorV41
import Derived.Lib.LaidTab
import Derived.Lib.AppendIntMem
namespace Go.Proofs.YtmocnoiieiakhaaGreatDoor
open Go Go.RowKit
namespace LM
set_option linter.unusedVariables false

/-- how many words an instruction takes, and puts -/
def tkC (ps : List Prh) (x : Ins) : Int := effK x.op x.a.toNat (frV ps x.a.toNat)
def puC (x : Ins) : Int := effM x.op
theorem insN_mem {l : List Prh} {p : Prh} (h : p ∈ l) : p.code.length ≤ insN l := by
  induction l with
  | nil => cases h
  | cons q l ih =>
    rw [insN_cons]
    rcases List.mem_cons.1 h with rfl | h
    · omega
    · have := ih h; omega
theorem numB_iff {n : Int} (h : numB n = true) : 0 ≤ n ∧ n ≤ 16777215 := by
  unfold numB at h
  simpa using h
theorem frV_bd {ps : List Prh} (h : ∀ p ∈ ps, prB p = true) (n : Nat) : 0 ≤ frV ps n ∧ frV ps n ≤ 16777215 := by
  unfold frV
  cases hp : ps[n]? with
  | none => decide
  | some p =>
    have h1 := h p (List.mem_of_getElem? hp)
    unfold prB at h1
    simp only [Bool.and_eq_true, List.all_cons, List.all_nil] at h1
    exact numB_iff h1.2.1.2.2.2.1
theorem effK_bd {op : Int} {n : Nat} {f : Int} (hn : n ≤ 16777215) (hf : 0 ≤ f ∧ f ≤ 16777215) : 0 ≤ effK op n f ∧ effK op n f ≤ 100000000 := by
  unfold effK
  split
  · omega
  split
  · omega
  split
  · omega
  split
  · omega
  split <;> omega
theorem effM_bd (op : Int) : 0 ≤ effM op ∧ effM op ≤ 1 := by
  unfold effM
  split <;> omega
/-- is a program RIGHT, its constants' part apart -/
def rightP (c : Cod) (b : Bool) : Bool := fewB c && (c.ps.all prB && (c.gs.all (fun s => decide (s.size ≤ 100)) && b))
theorem right_tell {c : Cod} {b : Bool} (h : rightP c b = true) : (∀ p ∈ c.ps, prB p = true) ∧ insN c.ps ≤ 40000 ∧ c.ps.length ≤ 4000 ∧ b = true := by
  unfold rightP fewB at h
  simp only [Bool.and_eq_true, decide_eq_true_eq, List.all_eq_true] at h
  exact ⟨h.2.1, h.1.2.2.2, h.1.1, h.2.2.2⟩
theorem prB_tell {p : Prh} (h : prB p = true) : PrN p ∧ ∀ x ∈ p.code, (0 ≤ x.op ∧ x.op ≤ 16777215) ∧ (0 ≤ x.a ∧ x.a ≤ 16777215) ∧ (0 ≤ x.b ∧ x.b ≤ 16777215) := by
  unfold prB at h
  simp only [Bool.and_eq_true, List.all_cons, List.all_nil, List.all_eq_true] at h
  obtain ⟨-, ⟨h1, h2, h3, h4, -⟩, h5⟩ := h
  refine ⟨⟨numB_iff h1, numB_iff h2, numB_iff h3, numB_iff h4⟩, fun x hx => ?_⟩
  have h6 := h5 x hx
  unfold insB at h6
  simp only [Bool.and_eq_true, List.all_cons, List.all_nil] at h6
  exact ⟨numB_iff h6.1, numB_iff h6.2.1, numB_iff h6.2.2.1⟩
theorem rightC_of {c : Cod} {b : Bool} {w : World} (hv : CodV w c) (hok : c.Ok) (h : rightP c b = true) : RightC (tkC c.ps) puC w c := by
  obtain ⟨h1, h2, h3, -⟩ := right_tell h
  refine ⟨fun p hp => ?_, fun p hp x hx W hW => ?_⟩
  · obtain ⟨k1, k2⟩ := prB_tell (h1 p hp)
    refine ⟨k1, Nat.le_trans (insN_mem hp) h2, fun x hx => ?_⟩
    obtain ⟨-, a2, -⟩ := k2 x hx
    exact ⟨effK_bd (by omega) (frV_bd h1 _), effM_bd _, a2.1⟩
  · obtain ⟨-, a2, -⟩ := (prB_tell (h1 p hp)).2 x hx
    have e := ceffect_any x.op x.a.toNat (by omega) x.b c W (hv.below hW) hok
    rw [Int.toNat_of_nonneg a2.1] at e
    exact e

/-- Check of any program, whatever is known of its constants -/
theorem vcheck_c (q : Hd → Fr → Bool) (c : Cod) (k : Nat) (w : World) (hv : CodV w c) (hok : c.Ok) (hc40 : c.ps.length ≤ 140737488355328)
    (hq : ∀ W1, Below w.heap.size w W1 → ∀ hh k j r, c.kids.drop j = .cons hh k r → ∀ W, Below W1.heap.size W1 W → DatV W hh k → Calls Tryz.prog 24 #[datA hh k.len] W fun e w' => e = .returned (.bool (q hh k)) ∧ Below W.heap.size W w')
    (hF : ∀ W, Below w.heap.size w W → Calls Tryz.prog 14 #[.string primS] W fun e w' => (∃ A cap, e = .returned (.slice A k cap)) ∧ Below W.heap.size W w')
    (hM : ∀ (n : Nat) W, n ≤ 40000 → Calls Tryz.prog 47 #[.int .u64 1, .int .u64 (n : Int)] W fun e w' => e = .returned (.tuple #[.int .u64 0, .int .u64 (n : Int)]) ∧ W = w') :
    CheckW (CheckP (tkC c.ps) puC c k (rightP c (allF q c.kids))) c w :=
  vcheck_any (tkC c.ps) puC c k _ w hv hok hc40 (fun W hW => cright_by q c W (hv.below hW) hok (hq W hW)) (fun h => rightC_of hv hok h) hF hM

/-- one place is looked at -/
theorem run_first {tk pu : Ins → Int} {code : List Ins} {de : Int} {ds : List Int} {o : List Int ⊕ Int × Nat} (h : RunW tk pu code de ds [0] o) :
    ∃ x d, code[0]? = some x ∧ ds[0]? = some d ∧ ((o = .inr ((lookS tk pu code de 0 x d ds).1, 0) ∧ (lookS tk pu code de 0 x d ds).1 ≠ 0) ∨ (lookS tk pu code de 0 x d ds).1 = 0) := by
  generalize hq : ([0] : List Int) = q at h
  cases h with
  | done => cases hq
  | stop h1 h2 h3 h4 h5 =>
    subst hq
    have hm := h1.mem_iff.2 (List.mem_cons_self ..)
    simp only [List.mem_singleton] at hm
    rename_i r i x d e
    have hi : i = 0 := by omega
    subst hi
    exact ⟨x, d, h2, h3, .inl ⟨by rw [h4], by rw [h4]; exact h5⟩⟩
  | step h1 h2 h3 h4 h5 h6 =>
    subst hq
    have hm := h1.mem_iff.2 (List.mem_cons_self ..)
    simp only [List.mem_singleton] at hm
    rename_i i x d
    have hi : i = 0 := by omega
    subst hi
    exact ⟨x, d, h2, h3, .inr h4⟩
theorem look_a0 (ps : List Prh) : (lookS (tkC ps) puC [⟨15, 0, 0⟩] 1 0 ⟨15, 0, 0⟩ 0 [0]).1 = 113 := by
  rw [lookS_a (.inl (by simp [tkC, effK]))]
theorem look_c0 (ps : List Prh) : (lookS (tkC ps) puC [⟨19, 0, 0⟩] 1 0 ⟨19, 0, 0⟩ 0 [0]).1 = 114 := by
  rw [lookS_b (by simp [tkC, effK, puC, effM]) (by decide) rfl]

section
variable (g ib io cap k : Nat)
theorem one_num (d : Int) (l : List Ins) (h0 : 0 ≤ d ∧ d ≤ 180) (hl : 0 < l.length) : numE (oneP d ib io cap l) = 0 := by
  unfold numE nmV
  simp only [Bool.false_eq_true, if_false]
  rw [if_neg (by omega), if_neg (by omega), if_neg (by omega), if_neg (by omega)]
/-- the flaw of the only procedure is the program's -/
theorem one_check {tk pu : Ins → Int} {d : Int} {l : List Ins} {r : Bool} {z m : Int} {i : Nat} (hr : r = true) (h : CheckP tk pu (oneC g d ib io cap l) k r z m i) : FlawP tk pu (oneC g d ib io cap l) k (oneP d ib io cap l) z i := by
  cases h with
  | code h => rw [hr] at h; cases h
  | begin h1 h2 => cases h2
  | flaw j i p e h1 h2 h3 h4 h5 h6 =>
    rcases j with _ | j
    · obtain rfl : oneP d ib io cap l = p := by simpa using h3
      exact h6
    · simp at h3
  | none h1 h2 h3 => exact h3 _ (List.mem_singleton_self _)
theorem one_a {z m : Int} {i : Nat} {ps : List Prh} {r : Bool} (hr : r = true) (h : CheckP (tkC ps) puC (oneC g 1 ib io cap [⟨15, 0, 0⟩]) k r z m i) : z = 113 ∧ i = 0 := by
  have e0 := one_num ib io cap 1 [⟨15, 0, 0⟩] (by decide) (by decide)
  have ins0 : ∀ y ∈ [(⟨15, 0, 0⟩ : Ins)], insE (oneC g 1 ib io cap [⟨15, 0, 0⟩]) (oneP 1 ib io cap [⟨15, 0, 0⟩]) k y = 0 := by
    intro y hy
    simp only [List.mem_singleton] at hy
    subst hy
    simp [insE, boundV]
  have hf := one_check g ib io cap k hr h
  cases hf with
  | num h9 => exact absurd e0 h9
  | ins i x h1 h2 h3 h4 => exact absurd (ins0 x (List.mem_of_getElem? h2)) h4
  | run i e h1 h2 h3 h4 =>
    obtain ⟨x, d, hx, hd, ⟨ho, hn⟩ | ho⟩ := run_first h4
    · obtain rfl : (⟨15, 0, 0⟩ : Ins) = x := by simpa using hx
      obtain rfl : (0 : Int) = d := by simpa using hd
      have hl := look_a0 ps
      injection ho with ho
      injection ho with ho1 ho2
      exact ⟨ho1.trans hl, ho2⟩
    · obtain rfl : (⟨15, 0, 0⟩ : Ins) = x := by simpa using hx
      obtain rfl : (0 : Int) = d := by simpa using hd
      have hl := look_a0 ps
      exact absurd (hl.symm.trans ho) (by decide)
  | none ds h1 h2 h4 =>
    obtain ⟨x, d, hx, hd, ⟨ho, hn⟩ | ho⟩ := run_first h4
    · cases ho
    · obtain rfl : (⟨15, 0, 0⟩ : Ins) = x := by simpa using hx
      obtain rfl : (0 : Int) = d := by simpa using hd
      have hl := look_a0 ps
      exact absurd (hl.symm.trans ho) (by decide)
theorem one_c {z m : Int} {i : Nat} {ps : List Prh} {r : Bool} (hr : r = true) (h : CheckP (tkC ps) puC (oneC g 1 ib io cap [⟨19, 0, 0⟩]) k r z m i) : z = 114 := by
  have e0 := one_num ib io cap 1 [⟨19, 0, 0⟩] (by decide) (by decide)
  have ins0 : ∀ y ∈ [(⟨19, 0, 0⟩ : Ins)], insE (oneC g 1 ib io cap [⟨19, 0, 0⟩]) (oneP 1 ib io cap [⟨19, 0, 0⟩]) k y = 0 := by
    intro y hy
    simp only [List.mem_singleton] at hy
    subst hy
    simp [insE, boundV]
  have hf := one_check g ib io cap k hr h
  cases hf with
  | num h9 => exact absurd e0 h9
  | ins i x h1 h2 h3 h4 => exact absurd (ins0 x (List.mem_of_getElem? h2)) h4
  | run i e h1 h2 h3 h4 =>
    obtain ⟨x, d, hx, hd, ⟨ho, hn⟩ | ho⟩ := run_first h4
    · obtain rfl : (⟨19, 0, 0⟩ : Ins) = x := by simpa using hx
      obtain rfl : (0 : Int) = d := by simpa using hd
      have hl := look_c0 ps
      exact (congrArg Prod.fst (Sum.inr.inj ho)).trans hl
    · obtain rfl : (⟨19, 0, 0⟩ : Ins) = x := by simpa using hx
      obtain rfl : (0 : Int) = d := by simpa using hd
      exact absurd ((look_c0 ps).symm.trans ho) (by decide)
  | none ds h1 h2 h4 =>
    obtain ⟨x, d, hx, hd, ⟨ho, hn⟩ | ho⟩ := run_first h4
    · cases ho
    · obtain rfl : (⟨19, 0, 0⟩ : Ins) = x := by simpa using hx
      obtain rfl : (0 : Int) = d := by simpa using hd
      exact absurd ((look_c0 ps).symm.trans ho) (by decide)
theorem one_d {z m : Int} {i : Nat} {ps : List Prh} {r : Bool} (hr : r = true) (h : CheckP (tkC ps) puC (oneC g 9 ib io cap [⟨22, 0, 0⟩]) k r z m i) : z = 111 := by
  have e0 := one_num ib io cap 9 [⟨22, 0, 0⟩] (by decide) (by decide)
  have ins0 : ∀ y ∈ [(⟨22, 0, 0⟩ : Ins)], insE (oneC g 9 ib io cap [⟨22, 0, 0⟩]) (oneP 9 ib io cap [⟨22, 0, 0⟩]) k y = 111 := by
    intro y hy
    simp only [List.mem_singleton] at hy
    subst hy
    simp [insE]
  have hf := one_check g ib io cap k hr h
  cases hf with
  | num h9 => exact absurd e0 h9
  | ins i x h1 h2 h3 h4 => exact ins0 x (List.mem_of_getElem? h2)
  | run i e h1 h2 h3 h4 => exact absurd ((ins0 _ (List.mem_singleton_self _)).symm.trans (h2 _ (List.mem_singleton_self _))) (by decide)
  | none ds h1 h2 h4 => exact absurd ((ins0 _ (List.mem_singleton_self _)).symm.trans (h2 _ (List.mem_singleton_self _))) (by decide)
theorem one_b {z m : Int} {i : Nat} {ps : List Prh} {r : Bool} (hr : r = true) (h : CheckP (tkC ps) puC (oneC g 1 ib io cap [⟨19, 0, 0⟩, ⟨15, 0, 0⟩]) k r z m i) : z = 0 := by
  have e0 := one_num ib io cap 1 [⟨19, 0, 0⟩, ⟨15, 0, 0⟩] (by decide) (by decide)
  have ins0 : ∀ y ∈ [(⟨19, 0, 0⟩ : Ins), ⟨15, 0, 0⟩], insE (oneC g 1 ib io cap [⟨19, 0, 0⟩, ⟨15, 0, 0⟩]) (oneP 1 ib io cap [⟨19, 0, 0⟩, ⟨15, 0, 0⟩]) k y = 0 := by
    intro y hy
    simp only [List.mem_cons, List.not_mem_nil, or_false] at hy
    rcases hy with rfl | rfl <;> simp [insE, boundV]
  have hE : ClosedW (tkC ps) puC [⟨19, 0, 0⟩, ⟨15, 0, 0⟩] 1 [0, 1] := by
    refine ⟨rfl, fun i d hi hd x d' hx hd' => ?_⟩
    rcases i with _ | _ | i
    · obtain rfl : (⟨19, 0, 0⟩ : Ins) = x := by simpa using hx
      obtain rfl : (0 : Int) = d' := by simpa using hd'
      simp [tkC, effK, puC, effM, goesB, jumpB]
    · obtain rfl : (⟨15, 0, 0⟩ : Ins) = x := by simpa using hx
      obtain rfl : (1 : Int) = d' := by simpa using hd'
      simp [tkC, effK, puC, effM, goesB, jumpB]
    · simp at hx
  have hf := one_check g ib io cap k hr h
  cases hf with
  | num h9 => exact absurd e0 h9
  | ins i x h1 h2 h3 h4 => exact absurd (ins0 x (List.mem_of_getElem? h2)) h4
  | run i e h1 h2 h3 h4 =>
    obtain ⟨D, hD, -⟩ := run_none (fun x _ => (effM_bd x.op).1) (fun x hx hj => by
      simp only [List.mem_cons, List.not_mem_nil, or_false] at hx
      rcases hx with rfl | rfl <;> decide) (by decide) rfl hE rfl h4
    cases hD
  | none ds h1 h2 h4 => rfl
end

end LM
end Go.Proofs.YtmocnoiieiakhaaGreatDoor

namespace Go.Proofs.YtmocnoiieiakhaaGreatDoor
open Go Go.RowKit
namespace LM
set_option linter.unusedVariables false

/-- how many primitives there are -/
def primK : Nat := (Lib.fields primL).length
theorem prim_list : primS.data.toList = primL := by unfold primS; simp
theorem prim_size : primS.size < 4294967281 := of_decide_eq_true (by kernel_rfl)
theorem prim_ascii : ∀ (j : Nat) b, primS.data.toList[j]? = some b → b.toNat < 128 := by
  have h : (primL.all fun b => decide (b.toNat < 128)) = true := by kernel_rfl
  intro j b hb
  rw [prim_list] at hb
  exact of_decide_eq_true (List.all_eq_true.1 h b (List.mem_of_getElem? hb))
/-- the table of blanks, in memory -/
abbrev SPT (w : World) : Prop := Lib.TabIs Tryz.prog w "strings.asciiSpace" .u8 Lib.asciiSpaceTab
theorem vfields (w : World) (h : ∀ W, Below w.heap.size w W → SPT W) : ∀ W, Below w.heap.size w W → Calls Tryz.prog 14 #[.string primS] W fun e w' => (∃ A cap, e = .returned (.slice A primK cap)) ∧ Below W.heap.size W w' := by
  intro W hW
  refine (Tryz.strings_Fields primS W prim_size prim_ascii (h W hW)).mono ?_
  rintro e w' ⟨rfl, rfl⟩
  rw [prim_list]
  exact ⟨⟨_, _, rfl⟩, (Below.refl _ W).alloc (Nat.le_refl _) _⟩
theorem vmul : ∀ (n : Nat) (W : World), n ≤ 40000 → Calls Tryz.prog 47 #[.int .u64 1, .int .u64 (n : Int)] W fun e w' => e = .returned (.tuple #[.int .u64 0, .int .u64 (n : Int)]) ∧ W = w' := by
  intro n W hn
  have h := Tryz.bits_Mul 1 n (by decide) (by omega) W
  refine h.mono ?_
  rintro e w' ⟨rfl, hw⟩
  have e1 : 1 * n / 18446744073709551616 = 0 := by omega
  have e2 : 1 * n % 18446744073709551616 = n := by omega
  rw [e1, e2]
  first | exact ⟨rfl, hw.symm⟩ | exact ⟨rfl, hw⟩

theorem one_ck (Q : Int → Int → Nat → Prop) (d : Int) (l : List Ins) (w : World) (hl : l.length ≤ 1000) (h : ∀ W, Below w.heap.size w W → SPT W) (hr : ∀ g ib io cap, rightP (oneC g d ib io cap l) true = true)
    (hQ : ∀ g ib io cap z m i, CheckP (tkC (oneC g d ib io cap l).ps) puC (oneC g d ib io cap l) primK (rightP (oneC g d ib io cap l) true) z m i → Q z m i) : OneCk w Q d l := by
  intro W g ib io cap hW hg hI hc hc2
  have hv : CodV W (oneC g d ib io cap l) := by
    refine ⟨⟨g, 0, fun _ => rfl, fun j p hj => ?_⟩, fun p hp => ?_, ⟨0, 0, fun h => absurd h (Nat.lt_irrefl 0), trivial⟩, ⟨0, 0, fun h => absurd h (Nat.lt_irrefl 0), fun j x hx => by simp at hx⟩⟩
    · rcases j with _ | j
      · obtain rfl : oneP d ib io cap l = p := by simpa using hj
        exact ⟨hlt_of hg, P7.of_block hg⟩
      · simp at hj
    · obtain rfl : p = oneP d ib io cap l := by simpa using hp
      exact ⟨ib, io, fun _ => rfl, hI⟩
  have hok : (oneC g d ib io cap l).Ok := ⟨⟨Nat.le_refl 1, (by decide : (1 : Nat) ≤ 9223372036854775807)⟩, ⟨Nat.le_refl 0, Nat.zero_le _⟩, ⟨Nat.le_refl 0, Nat.zero_le _⟩, fun p hp => by
    obtain rfl : p = oneP d ib io cap l := by simpa using hp
    exact ⟨⟨hc, hc2⟩, by show l.length ≤ _; omega⟩⟩
  have ck := vcheck_c (fun _ _ => true) (oneC g d ib io cap l) primK W hv hok (by show 1 ≤ _; decide) (fun W1 _ hh k j r hdr => by cases j <;> cases hdr) (fun W2 hW2 => vfields w h W2 (bel_trans (B := w.heap.size) hW hW2)) vmul
  refine ck.mono ?_
  rintro e w' ⟨z, m, i, hz, rfl, hb⟩
  exact ⟨z, m, i, hQ g ib io cap z m i hz, rfl, hb⟩
theorem none_ck (w : World) (h : ∀ W, Below w.heap.size w W → SPT W) : CheckW (fun z m i => z = 112) ⟨none, 0, [], none, 0, .nil, none, 0, []⟩ w := by
  have hv : CodV w ⟨none, 0, [], none, 0, .nil, none, 0, []⟩ := ⟨⟨0, 0, fun h => absurd h (Nat.lt_irrefl 0), fun j x hx => by simp at hx⟩, fun p hp => (by cases hp), ⟨0, 0, fun h => absurd h (Nat.lt_irrefl 0), trivial⟩, ⟨0, 0, fun h => absurd h (Nat.lt_irrefl 0), fun j x hx => by simp at hx⟩⟩
  have hok : Cod.Ok ⟨none, 0, [], none, 0, .nil, none, 0, []⟩ := ⟨by decide, by decide, by decide, fun p hp => by cases hp⟩
  have ck := vcheck_c (fun _ _ => true) ⟨none, 0, [], none, 0, .nil, none, 0, []⟩ primK w hv hok (by show 0 ≤ _; decide) (fun W1 _ hh k j r hdr => by cases j <;> cases hdr) (vfields w h) vmul
  refine ck.mono ?_
  rintro e w' ⟨z, m, i, hz, rfl, hb⟩
  refine ⟨z, m, i, ?_, rfl, hb⟩
  have hr : rightP ⟨none, 0, [], none, 0, .nil, none, 0, []⟩ (allF (fun _ _ => true) .nil) = true := rfl
  generalize rightP ⟨none, 0, [], none, 0, .nil, none, 0, []⟩ (allF (fun _ _ => true) .nil) = r at hz hr
  cases hz with
  | code h => rw [hr] at h; cases h
  | begin => rfl
  | flaw j i p e h1 h2 => cases h2
  | none h1 h2 => cases h2

theorem vnames_w (w : World) (h : ∀ W, Below w.heap.size w W → SPT W) : Calls Tryz.prog 3 #[] w fun e w' => e = .returned (.bool true) ∧ Below w.heap.size w w' :=
  vnamesL_any w (one_ck _ 1 _ w (by decide) h (fun g ib io cap => rfl) (fun g ib io cap z m i hz => one_a g ib io cap primK rfl hz)) (one_ck _ 1 _ w (by decide) h (fun g ib io cap => rfl) (fun g ib io cap z m i hz => one_b g ib io cap primK rfl hz))
    (one_ck _ 1 _ w (by decide) h (fun g ib io cap => rfl) (fun g ib io cap z m i hz => one_c g ib io cap primK rfl hz)) (one_ck _ 9 _ w (by decide) h (fun g ib io cap => rfl) (fun g ib io cap z m i hz => one_d g ib io cap primK rfl hz)) (none_ck w h)

/-- the table of blanks, of what the row lists -/
theorem spt_of {l : List (String × DataW Unit)} {W : World} (h : laidMetH Tryz.prog l W)
    (he : ((l.filter fun x => x.2.handleName?.isNone).filter fun x => x.1 == "strings.asciiSpace") = [("strings.asciiSpace", Lib.tabData .u8 Lib.asciiSpaceTab)]) : ∀ W', Below W.heap.size W W' → SPT W' := by
  have t : SPT W := Lib.tabIs_of_head (g := 0) (t := 69) (e := 5) (n := 256) (by kernel_rfl) (by kernel_rfl) Tryz.underlying69 Tryz.underlying5 (by kernel_rfl) (by kernel_rfl) (listed_of h he)
  exact fun W' hb => Lib.tabBelow_of_tabIs t W' hb
theorem verifyNames_card {l : List (String × DataW Unit)} {W : World} (h : laidMetH Tryz.prog l W)
    (e0 : ((l.filter fun x => x.2.handleName?.isNone).filter fun x => x.1 == "strings.asciiSpace") = [("strings.asciiSpace", Lib.tabData .u8 Lib.asciiSpaceTab)]) :
    Calls Tryz.prog 3 #[] W fun e w' => e = .returned (.bool true) ∧ Below W.heap.size W w' :=
  vnames_w W (spt_of h e0)

end LM
end Go.Proofs.YtmocnoiieiakhaaGreatDoor
