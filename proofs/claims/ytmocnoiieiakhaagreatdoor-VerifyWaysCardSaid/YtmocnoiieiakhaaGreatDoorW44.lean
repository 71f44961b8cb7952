/- The law VerifyNames, of what the row lists. -/
import Derived.Test.YtmocnoiieiakhaaGreatDoorW26
import Derived.Test.YtmocnoiieiakhaaGreatDoorW43
import Derived.Test.YtmocnoiieiakhaaGreatDoorW42
import Derived.Test.YtmocnoiieiakhaaGreatDoorW40
import Derived.Lib.LaidTab
import Derived.Lib.AppendIntMem
namespace Go.Proofs.YtmocnoiieiakhaaGreatDoor
open Go Go.RowKit
namespace LM
set_option linter.unusedVariables false

/-- how many words an instruction takes, and puts -/
def tkC (ps : List Prh) (x : Ins) : Int := effK x.op x.a.toNat (frV ps x.a.toNat)
def puC (x : Ins) : Int := effM x.op
theorem insN_mem {l : List Prh} {p : Prh} (h : p ∈ l) : p.code.length ≤ insN l := by
  induction l with
  | nil => cases h
  | cons q l ih =>
    rw [insN_cons]
    rcases List.mem_cons.1 h with rfl | h
    · omega
    · have := ih h; omega
theorem numB_iff {n : Int} (h : numB n = true) : 0 ≤ n ∧ n ≤ 16777215 := by
  unfold numB at h
  simpa using h
theorem frV_bd {ps : List Prh} (h : ∀ p ∈ ps, prB p = true) (n : Nat) : 0 ≤ frV ps n ∧ frV ps n ≤ 16777215 := by
  unfold frV
  cases hp : ps[n]? with
  | none => decide
  | some p =>
    have h1 := h p (List.mem_of_getElem? hp)
    unfold prB at h1
    simp only [Bool.and_eq_true, List.all_cons, List.all_nil] at h1
    exact numB_iff h1.2.1.2.2.2.1
theorem effK_bd {op : Int} {n : Nat} {f : Int} (hn : n ≤ 16777215) (hf : 0 ≤ f ∧ f ≤ 16777215) : 0 ≤ effK op n f ∧ effK op n f ≤ 100000000 := by
  unfold effK
  split
  · omega
  split
  · omega
  split
  · omega
  split
  · omega
  split <;> omega
theorem effM_bd (op : Int) : 0 ≤ effM op ∧ effM op ≤ 1 := by
  unfold effM
  split <;> omega
/-- is a program RIGHT, its constants' part apart -/
def rightP (c : Cod) (b : Bool) : Bool := fewB c && (c.ps.all prB && (c.gs.all (fun s => decide (s.size ≤ 100)) && b))
theorem right_tell {c : Cod} {b : Bool} (h : rightP c b = true) : (∀ p ∈ c.ps, prB p = true) ∧ insN c.ps ≤ 40000 ∧ c.ps.length ≤ 4000 ∧ b = true := by
  unfold rightP fewB at h
  simp only [Bool.and_eq_true, decide_eq_true_eq, List.all_eq_true] at h
  exact ⟨h.2.1, h.1.2.2.2, h.1.1, h.2.2.2⟩
theorem prB_tell {p : Prh} (h : prB p = true) : PrN p ∧ ∀ x ∈ p.code, (0 ≤ x.op ∧ x.op ≤ 16777215) ∧ (0 ≤ x.a ∧ x.a ≤ 16777215) ∧ (0 ≤ x.b ∧ x.b ≤ 16777215) := by
  unfold prB at h
  simp only [Bool.and_eq_true, List.all_cons, List.all_nil, List.all_eq_true] at h
  obtain ⟨-, ⟨h1, h2, h3, h4, -⟩, h5⟩ := h
  refine ⟨⟨numB_iff h1, numB_iff h2, numB_iff h3, numB_iff h4⟩, fun x hx => ?_⟩
  have h6 := h5 x hx
  unfold insB at h6
  simp only [Bool.and_eq_true, List.all_cons, List.all_nil] at h6
  exact ⟨numB_iff h6.1, numB_iff h6.2.1, numB_iff h6.2.2.1⟩
theorem rightC_of {c : Cod} {b : Bool} {w : World} (hv : CodV w c) (hok : c.Ok) (h : rightP c b = true) : RightC (tkC c.ps) puC w c := by
  obtain ⟨h1, h2, h3, -⟩ := right_tell h
  refine ⟨fun p hp => ?_, fun p hp x hx W hW => ?_⟩
  · obtain ⟨k1, k2⟩ := prB_tell (h1 p hp)
    refine ⟨k1, Nat.le_trans (insN_mem hp) h2, fun x hx => ?_⟩
    obtain ⟨-, a2, -⟩ := k2 x hx
    exact ⟨effK_bd (by omega) (frV_bd h1 _), effM_bd _, a2.1⟩
  · obtain ⟨-, a2, -⟩ := (prB_tell (h1 p hp)).2 x hx
    have e := ceffect_any x.op x.a.toNat (by omega) x.b c W (hv.below hW) hok
    rw [Int.toNat_of_nonneg a2.1] at e
    exact e

/-- Check of any program, whatever is known of its constants -/
theorem vcheck_c (q : Hd → Fr → Bool) (c : Cod) (k : Nat) (w : World) (hv : CodV w c) (hok : c.Ok) (hc40 : c.ps.length ≤ 140737488355328)
    (hq : ∀ W1, Below w.heap.size w W1 → ∀ hh k j r, c.kids.drop j = .cons hh k r → ∀ W, Below W1.heap.size W1 W → DatV W hh k → Calls Tryz.prog 24 #[datA hh k.len] W fun e w' => e = .returned (.bool (q hh k)) ∧ Below W.heap.size W w')
    (hF : ∀ W, Below w.heap.size w W → Calls Tryz.prog 14 #[.string primS] W fun e w' => (∃ A cap, e = .returned (.slice A k cap)) ∧ Below W.heap.size W w')
    (hM : ∀ (n : Nat) W, n ≤ 40000 → Calls Tryz.prog 47 #[.int .u64 1, .int .u64 (n : Int)] W fun e w' => e = .returned (.tuple #[.int .u64 0, .int .u64 (n : Int)]) ∧ W = w') :
    CheckW (CheckP (tkC c.ps) puC c k (rightP c (allF q c.kids))) c w :=
  vcheck_any (tkC c.ps) puC c k _ w hv hok hc40 (fun W hW => cright_by q c W (hv.below hW) hok (hq W hW)) (fun h => rightC_of hv hok h) hF hM

/-- one place is looked at -/
theorem run_first {tk pu : Ins → Int} {code : List Ins} {de : Int} {ds : List Int} {o : List Int ⊕ Int × Nat} (h : RunW tk pu code de ds [0] o) :
    ∃ x d, code[0]? = some x ∧ ds[0]? = some d ∧ ((o = .inr ((lookS tk pu code de 0 x d ds).1, 0) ∧ (lookS tk pu code de 0 x d ds).1 ≠ 0) ∨ (lookS tk pu code de 0 x d ds).1 = 0) := by
  generalize hq : ([0] : List Int) = q at h
  cases h with
  | done => cases hq
  | stop h1 h2 h3 h4 h5 =>
    subst hq
    have hm := h1.mem_iff.2 (List.mem_cons_self ..)
    simp only [List.mem_singleton] at hm
    rename_i r i x d e
    have hi : i = 0 := by omega
    subst hi
    exact ⟨x, d, h2, h3, .inl ⟨by rw [h4], by rw [h4]; exact h5⟩⟩
  | step h1 h2 h3 h4 h5 h6 =>
    subst hq
    have hm := h1.mem_iff.2 (List.mem_cons_self ..)
    simp only [List.mem_singleton] at hm
    rename_i i x d
    have hi : i = 0 := by omega
    subst hi
    exact ⟨x, d, h2, h3, .inr h4⟩
theorem look_a0 (ps : List Prh) : (lookS (tkC ps) puC [⟨15, 0, 0⟩] 1 0 ⟨15, 0, 0⟩ 0 [0]).1 = 113 := by
  rw [lookS_a (.inl (by simp [tkC, effK]))]
theorem look_c0 (ps : List Prh) : (lookS (tkC ps) puC [⟨19, 0, 0⟩] 1 0 ⟨19, 0, 0⟩ 0 [0]).1 = 114 := by
  rw [lookS_b (by simp [tkC, effK, puC, effM]) (by decide) rfl]

section
variable (g ib io cap k : Nat)
theorem one_num (d : Int) (l : List Ins) (h0 : 0 ≤ d ∧ d ≤ 180) (hl : 0 < l.length) : numE (oneP d ib io cap l) = 0 := by
  unfold numE nmV
  simp only [Bool.false_eq_true, if_false]
  rw [if_neg (by omega), if_neg (by omega), if_neg (by omega), if_neg (by omega)]
/-- the flaw of the only procedure is the program's -/
theorem one_check {tk pu : Ins → Int} {d : Int} {l : List Ins} {r : Bool} {z m : Int} {i : Nat} (hr : r = true) (h : CheckP tk pu (oneC g d ib io cap l) k r z m i) : FlawP tk pu (oneC g d ib io cap l) k (oneP d ib io cap l) z i := by
  cases h with
  | code h => rw [hr] at h; cases h
  | begin h1 h2 => cases h2
  | flaw j i p e h1 h2 h3 h4 h5 h6 =>
    rcases j with _ | j
    · obtain rfl : oneP d ib io cap l = p := by simpa using h3
      exact h6
    · simp at h3
  | none h1 h2 h3 => exact h3 _ (List.mem_singleton_self _)
theorem one_a {z m : Int} {i : Nat} {ps : List Prh} {r : Bool} (hr : r = true) (h : CheckP (tkC ps) puC (oneC g 1 ib io cap [⟨15, 0, 0⟩]) k r z m i) : z = 113 ∧ i = 0 := by
  have e0 := one_num ib io cap 1 [⟨15, 0, 0⟩] (by decide) (by decide)
  have ins0 : ∀ y ∈ [(⟨15, 0, 0⟩ : Ins)], insE (oneC g 1 ib io cap [⟨15, 0, 0⟩]) (oneP 1 ib io cap [⟨15, 0, 0⟩]) k y = 0 := by
    intro y hy
    simp only [List.mem_singleton] at hy
    subst hy
    simp [insE, boundV]
  have hf := one_check g ib io cap k hr h
  cases hf with
  | num h9 => exact absurd e0 h9
  | ins i x h1 h2 h3 h4 => exact absurd (ins0 x (List.mem_of_getElem? h2)) h4
  | run i e h1 h2 h3 h4 =>
    obtain ⟨x, d, hx, hd, ⟨ho, hn⟩ | ho⟩ := run_first h4
    · obtain rfl : (⟨15, 0, 0⟩ : Ins) = x := by simpa using hx
      obtain rfl : (0 : Int) = d := by simpa using hd
      have hl := look_a0 ps
      injection ho with ho
      injection ho with ho1 ho2
      exact ⟨ho1.trans hl, ho2⟩
    · obtain rfl : (⟨15, 0, 0⟩ : Ins) = x := by simpa using hx
      obtain rfl : (0 : Int) = d := by simpa using hd
      have hl := look_a0 ps
      exact absurd (hl.symm.trans ho) (by decide)
  | none ds h1 h2 h4 =>
    obtain ⟨x, d, hx, hd, ⟨ho, hn⟩ | ho⟩ := run_first h4
    · cases ho
    · obtain rfl : (⟨15, 0, 0⟩ : Ins) = x := by simpa using hx
      obtain rfl : (0 : Int) = d := by simpa using hd
      have hl := look_a0 ps
      exact absurd (hl.symm.trans ho) (by decide)
theorem one_c {z m : Int} {i : Nat} {ps : List Prh} {r : Bool} (hr : r = true) (h : CheckP (tkC ps) puC (oneC g 1 ib io cap [⟨19, 0, 0⟩]) k r z m i) : z = 114 := by
  have e0 := one_num ib io cap 1 [⟨19, 0, 0⟩] (by decide) (by decide)
  have ins0 : ∀ y ∈ [(⟨19, 0, 0⟩ : Ins)], insE (oneC g 1 ib io cap [⟨19, 0, 0⟩]) (oneP 1 ib io cap [⟨19, 0, 0⟩]) k y = 0 := by
    intro y hy
    simp only [List.mem_singleton] at hy
    subst hy
    simp [insE, boundV]
  have hf := one_check g ib io cap k hr h
  cases hf with
  | num h9 => exact absurd e0 h9
  | ins i x h1 h2 h3 h4 => exact absurd (ins0 x (List.mem_of_getElem? h2)) h4
  | run i e h1 h2 h3 h4 =>
    obtain ⟨x, d, hx, hd, ⟨ho, hn⟩ | ho⟩ := run_first h4
    · obtain rfl : (⟨19, 0, 0⟩ : Ins) = x := by simpa using hx
      obtain rfl : (0 : Int) = d := by simpa using hd
      have hl := look_c0 ps
      exact (congrArg Prod.fst (Sum.inr.inj ho)).trans hl
    · obtain rfl : (⟨19, 0, 0⟩ : Ins) = x := by simpa using hx
      obtain rfl : (0 : Int) = d := by simpa using hd
      exact absurd ((look_c0 ps).symm.trans ho) (by decide)
  | none ds h1 h2 h4 =>
    obtain ⟨x, d, hx, hd, ⟨ho, hn⟩ | ho⟩ := run_first h4
    · cases ho
    · obtain rfl : (⟨19, 0, 0⟩ : Ins) = x := by simpa using hx
      obtain rfl : (0 : Int) = d := by simpa using hd
      exact absurd ((look_c0 ps).symm.trans ho) (by decide)
theorem one_b {z m : Int} {i : Nat} {ps : List Prh} {r : Bool} (hr : r = true) (h : CheckP (tkC ps) puC (oneC g 1 ib io cap [⟨19, 0, 0⟩, ⟨15, 0, 0⟩]) k r z m i) : z = 0 := by
  have e0 := one_num ib io cap 1 [⟨19, 0, 0⟩, ⟨15, 0, 0⟩] (by decide) (by decide)
  have ins0 : ∀ y ∈ [(⟨19, 0, 0⟩ : Ins), ⟨15, 0, 0⟩], insE (oneC g 1 ib io cap [⟨19, 0, 0⟩, ⟨15, 0, 0⟩]) (oneP 1 ib io cap [⟨19, 0, 0⟩, ⟨15, 0, 0⟩]) k y = 0 := by
    intro y hy
    simp only [List.mem_cons, List.not_mem_nil, or_false] at hy
    rcases hy with rfl | rfl <;> simp [insE, boundV]
  have hE : ClosedW (tkC ps) puC [⟨19, 0, 0⟩, ⟨15, 0, 0⟩] 1 [0, 1] := by
    refine ⟨rfl, fun i d hi hd x d' hx hd' => ?_⟩
    rcases i with _ | _ | i
    · obtain rfl : (⟨19, 0, 0⟩ : Ins) = x := by simpa using hx
      obtain rfl : (0 : Int) = d' := by simpa using hd'
      simp [tkC, effK, puC, effM, goesB, jumpB]
    · obtain rfl : (⟨15, 0, 0⟩ : Ins) = x := by simpa using hx
      obtain rfl : (1 : Int) = d' := by simpa using hd'
      simp [tkC, effK, puC, effM, goesB, jumpB]
    · simp at hx
  have hf := one_check g ib io cap k hr h
  cases hf with
  | num h9 => exact absurd e0 h9
  | ins i x h1 h2 h3 h4 => exact absurd (ins0 x (List.mem_of_getElem? h2)) h4
  | run i e h1 h2 h3 h4 =>
    obtain ⟨D, hD, -⟩ := run_none (fun x _ => (effM_bd x.op).1) (fun x hx hj => by
      simp only [List.mem_cons, List.not_mem_nil, or_false] at hx
      rcases hx with rfl | rfl <;> decide) (by decide) rfl hE rfl h4
    cases hD
  | none ds h1 h2 h4 => rfl
end

end LM
end Go.Proofs.YtmocnoiieiakhaaGreatDoor

namespace Go.Proofs.YtmocnoiieiakhaaGreatDoor
open Go Go.RowKit
namespace LM
set_option linter.unusedVariables false

/-- a program without a flaw has none, whatever order its places are looked at in -/
theorem flaw_same {c : Cod} {k : Int} {p : Prh} {tk pu : Ins → Int} (hp : ∀ x ∈ p.code, 0 ≤ pu x) (hj : ∀ x ∈ p.code, 0 ≤ x.a) (hn : PrN p) (h : FlawP tk pu c k p 0 0) {e : Int} {i : Nat} (h2 : FlawP tk pu c k p e i) : e = 0 := by
  generalize hz : (0 : Int) = z at h
  generalize hi0 : (0 : Nat) = i0 at h
  cases h with
  | num h => exact absurd hz.symm h
  | ins i x a1 a2 a3 a4 => exact absurd hz.symm a4
  | run i e a1 a2 a3 a4 => exact absurd hz.symm a3
  | none ds a1 a2 a4 =>
    cases h2 with
    | num b => exact absurd a1 b
    | ins i x b1 b2 b3 b4 => exact absurd (a2 x (List.mem_of_getElem? b2)) b4
    | run i e b1 b2 b3 b4 =>
      have hpos := (numE_ok hn a1).2.2.2.1
      obtain ⟨k1, k2⟩ := run_good hp (fun x hx _ => hj x hx) hpos rfl a4
      obtain ⟨D, hD, -⟩ := run_none hp (fun x hx _ => hj x hx) hpos rfl k1 k2 b4
      cases hD
    | none ds b1 b2 b4 => rfl
/-- what is known of a program without a flaw -/
structure NoFlaw (tk pu : Ins → Int) (c : Cod) (k : Int) : Prop where
  bg : beginB c.ps = true
  pr : ∀ p ∈ c.ps, FlawP tk pu c k p 0 0
theorem check_none {tk pu : Ins → Int} {c : Cod} {k : Int} {r : Bool} {m : Int} {i : Nat} (h : CheckP tk pu c k r 0 m i) : r = true ∧ NoFlaw tk pu c k := by
  generalize hz : (0 : Int) = z at h
  cases h with
  | code h => cases hz
  | begin => cases hz
  | flaw j i p e a1 a2 a3 a4 a5 a6 => exact absurd hz.symm a5
  | none a1 a2 a3 => exact ⟨a1, a2, a3⟩
theorem check_same {tk pu : Ins → Int} {c : Cod} {k : Int} {r : Bool} {z m : Int} {i : Nat} (hR : ∀ p ∈ c.ps, PrN p ∧ p.code.length ≤ 40000 ∧ (∀ x ∈ p.code, (0 ≤ tk x ∧ tk x ≤ 100000000) ∧ (0 ≤ pu x ∧ pu x ≤ 1) ∧ 0 ≤ x.a))
    (hr : r = true) (h0 : NoFlaw tk pu c k) (h : CheckP tk pu c k r z m i) : z = 0 ∧ m = 0 ∧ i = 0 := by
  cases h with
  | code h => rw [hr] at h; cases h
  | begin h1 h2 => rw [h0.bg] at h2; cases h2
  | flaw j i p e a1 a2 a3 a4 a5 a6 =>
    have hm := List.mem_of_getElem? a3
    obtain ⟨k1, -, k3⟩ := hR p hm
    exact absurd (flaw_same (fun x hx => (k3 x hx).2.1.1) (fun x hx => (k3 x hx).2.2) k1 (h0.pr p hm) a6) a5
  | none a1 a2 a3 => exact ⟨rfl, rfl, rfl⟩

set_option maxRecDepth 100000 in
set_option maxHeartbeats 32000000 in
theorem vdepthsF_any (tk pu : Ins → Int) (c : Cod) (p : Prh) (k : Int) (pn n pb po ib io : Nat) (w : World) (hPB : c.PB = some ⟨pb, po, none⟩) (hpn : pn < c.ps.length) (hcap : c.ps.length ≤ c.pc ∧ c.pc ≤ 9223372036854775807)
    (hp : PK w w.heap.size pb (po + pn * 7) ib io p) (hn : p.code.length = n) (hnn : n ≤ 40000) (hpr : PrN p)
    (hE : ∀ x ∈ p.code, ∀ W, Below w.heap.size w W → Calls Tryz.prog 11 #[insA x, codA c] W fun e w' => e = .returned (.tuple #[.int .i64 (tk x), .int .i64 (pu x)]) ∧ Below W.heap.size W w')
    (hB : ∀ x ∈ p.code, (0 ≤ tk x ∧ tk x ≤ 100000000) ∧ (0 ≤ pu x ∧ pu x ≤ 1) ∧ 0 ≤ x.a)
    (hM : ∀ W, Calls Tryz.prog 47 #[.int .u64 1, .int .u64 (n : Int)] W fun e w' => e = .returned (.tuple #[.int .u64 0, .int .u64 (n : Int)]) ∧ W = w')
    (hfl : FlawP tk pu c k p 0 0) (hCk : ∀ W, Below w.heap.size w W → CheckW (fun z m i => z = 0 ∧ m = 0 ∧ i = 0) c W) :
    Calls Tryz.prog 10 #[codA c, .int .i64 (pn : Int)] w fun e w' => ∃ (ds : List Int) (g1 : Nat), ClosedW tk pu p.code p.de ds ∧ ds[0]? = some 0 ∧ e = .returned (.slice (some ⟨g1, 0, none⟩) ds.length ds.length) ∧ w.heap.size ≤ g1 ∧ w'.heap[g1]? = some (.cells (ivs ds).toArray 3 (0, 0)) ∧ Below w.heap.size w w' := by
  obtain ⟨W1, hW1⟩ : ∃ W1, w.alloc (codO c) = W1 := ⟨_, rfl⟩
  have hb1 : Below w.heap.size w W1 := by rw [← hW1]; exact (Below.refl _ w).alloc (Nat.le_refl _) _
  have hs1 : w.heap.size < W1.heap.size := by rw [← hW1]; simp
  have o1 : W1.heap[w.heap.size]? = some (codO c) := by rw [← hW1]; exact Array.getElem?_push_size
  have a1 : (0 : Int) ≤ (pn : Int) := Int.natCast_nonneg pn
  have d1 : decide ((pn : Int) < 0) = false := decide_eq_false (by omega)
  have d2 : decide ((c.ps.length : Int) ≤ (pn : Int)) = false := decide_eq_false (by omega)
  have d3 : decide (c.ps.length ≤ pn) = false := decide_eq_false (by omega)
  -- what the flaws told
  have hNum : numE p = 0 ∧ (∀ y ∈ p.code, insE c p k y = 0) ∧ ∃ ds, RunW tk pu p.code p.de ((List.replicate p.code.length (-1)).set 0 0) [0] (.inl ds) := by
    generalize hz : (0 : Int) = z at hfl
    generalize hi0 : (0 : Nat) = i0 at hfl
    cases hfl with
    | num h => exact absurd hz.symm h
    | ins i x a1 a2 a3 a4 => exact absurd hz.symm a4
    | run i e a1 a2 a3 a4 => exact absurd hz.symm a3
    | none ds a1 a2 a4 => exact ⟨a1, a2, ds, a4⟩
  obtain ⟨n1, n2, ds0, n3⟩ := hNum
  obtain ⟨-, -, -, hpos, hde⟩ := numE_ok hpr n1
  have hpu : ∀ x ∈ p.code, 0 ≤ pu x := fun x hx => (hB x hx).2.1.1
  have hja : ∀ x ∈ p.code, jumpB x = true → 0 ≤ x.a := fun x hx _ => (hB x hx).2.2
  obtain ⟨g1, g2⟩ := run_good hpu hja hpos rfl n3
  have CK := Lib.hid (hCk W1 hb1)
  have DO : Hid (∀ W, Below w.heap.size w W → Calls Tryz.prog 16 #[codA c, .int .i64 (pn : Int)] W fun e w' => ∃ (ds : List Int) (g : Nat), ClosedW tk pu p.code p.de ds ∧ ds[0]? = some 0 ∧ e = .returned (.tuple #[.slice (some ⟨g, 0, none⟩) ds.length ds.length, .agg #[.int .i64 0, .int .i64 0, .int .i64 0]]) ∧ W.heap.size ≤ g ∧ w'.heap[g]? = some (.cells (ivs ds).toArray 3 (0, 0)) ∧ Below W.heap.size W w') := Lib.hid fun W hW => by
    refine (vdepths_any tk pu c p pn n pb po ib io W hPB hpn hcap (hp.up hW (Nat.le_refl _) hW.size) hn (by omega) hnn hde (fun y hy W2 hW2 => hE y hy W2 (bel_trans (B := w.heap.size) hW hW2)) (fun y hy => ⟨(hB y hy).1, (hB y hy).2.1, fun hjj => ⟨(hB y hy).2.2, insE_jump (n2 y hy) hjj⟩⟩) hM).mono ?_
    rintro e w' ⟨o, g, hrun, rfl, hg, hb⟩
    rw [← hn] at hrun
    obtain ⟨D, rfl, -⟩ := run_none hpu hja hpos rfl g1 g2 hrun
    obtain ⟨q1, q2⟩ := run_good hpu hja hpos rfl hrun
    obtain ⟨q3, q4⟩ := hg D rfl
    exact ⟨D, g, q1, q2, rfl, q3, q4, hb⟩
  obtain ⟨y0, y1, y2⟩ := K3.of_block o1
  simp only [Nat.zero_add] at y0 y1 y2
  have HW1 := Lib.hid hW1
  have HB1 := Lib.hid hb1
  have O1 := Lib.hid o1
  clear hPB hpn hcap hp hn hnn hpr hE hB hM hfl hCk hW1 hb1 o1 n1 n2 n3 hpos hde hpu hja g1 g2
  go_enter Tryz.func10, Tryz.ntmps10
  go_upto_region 1 with (fail)
  rw [HW1.out]
  go_wp2_with (fail)
  refine CK.out.mono ?_
  rintro e w2 ⟨z, m, i, ⟨rfl, rfl, rfl⟩, rfl, hb2⟩
  have hB2 : Below w.heap.size w w2 := bel_trans (B := w.heap.size) HB1.out hb2
  have o2 := (hb2.block _ (hlt_of O1.out)).trans O1.out
  obtain ⟨x0, x1, x2⟩ := K3.of_block o2
  simp only [Nat.zero_add] at x0 x1 x2
  have DD := Lib.hid (DO.out w2 hB2)
  have HB2 := Lib.hid hB2
  clear hb2 hB2 o2 y0 y1 y2
  go_wp2_with (fail)
  refine DD.out.mono ?_
  rintro e w3 ⟨ds, g, q1, q2, rfl, q3, q4, hb3⟩
  have Q := Lib.hid (And.intro q1 (And.intro q2 (And.intro q3 q4)))
  obtain ⟨W4, hW4⟩ : ∃ W4, w3.alloc (.cells #[.int .i64 0, .int .i64 0, .int .i64 0] 24 (0, 0)) = W4 := ⟨_, rfl⟩
  have hb4 : Below w3.heap.size w3 W4 := by rw [← hW4]; exact (Below.refl _ w3).alloc (Nat.le_refl _) _
  have Q4 := Lib.hid ((hb4.block g (hlt_of q4)).trans q4)
  have HB4 := Lib.hid (bel_trans (B := w.heap.size) (bel_trans (B := w.heap.size) HB2.out hb3) hb4)
  have HW4 := Lib.hid hW4
  clear q1 q2 q3 q4 hb3 hW4 hb4
  go_wp2_with (fail)
  rw [HW4.out]
  go_wp2_with (fail)
  go_ret
  exact ⟨ds, g, Q.out.1, Q.out.2.1, rfl, Nat.le_trans HB2.out.size Q.out.2.2.1, Q4.out, HB4.out⟩

/-- is a program too great to be looked at -/
def greatV (c : Cod) : Bool := decide (50 < c.ps.length) || (decide (200 < c.kids.len) || (decide (200 < c.gs.length) || c.ps.any fun p => decide (300 < p.code.length)))
theorem greatV_no {c : Cod} (h : greatV c = false) : c.ps.length ≤ 50 ∧ c.kids.len ≤ 200 ∧ c.gs.length ≤ 200 ∧ ∀ p ∈ c.ps, p.code.length ≤ 300 := by
  unfold greatV at h
  simp only [Bool.or_eq_false_iff, decide_eq_false_iff_not, List.any_eq_false, decide_eq_true_eq] at h
  obtain ⟨h1, h2, h3, h4⟩ := h
  exact ⟨by omega, by omega, by omega, fun p hp => by have := h4 p hp; omega⟩

set_option maxRecDepth 100000 in
set_option maxHeartbeats 16000000 in
theorem vgreat_any (c : Cod) (w : World) (hv : CodV w c) (hcap : c.ps.length ≤ c.pc ∧ c.pc ≤ 9223372036854775807) : Calls Tryz.prog 9 #[codA c] w fun e w' => e = .returned (.bool (greatV c)) ∧ Below w.heap.size w w' := by
  obtain ⟨W0, hW0, hb0, ho, hs0, hz0⟩ := cod_block w c
  have y0 : W0.cell? ⟨w.heap.size, 0, none⟩ = some (.slice c.PB c.ps.length c.pc) := ob_cell ho 0
  have y1 : W0.cell? ⟨w.heap.size, 1, none⟩ = some (.slice c.CB c.kids.len c.cc) := ob_cell ho 1
  have y2 : W0.cell? ⟨w.heap.size, 2, none⟩ = some (.slice c.GB c.gs.length c.gc) := ob_cell ho 2
  obtain ⟨pb, po, hPB, hPF⟩ := (hv.below hb0).ps
  have HW0 := Lib.hid hW0
  have HB0 := Lib.hid hb0
  have HP := Lib.hid (And.intro hPB hPF)
  clear hW0 hb0 ho hs0 hz0 hPB hPF hv
  obtain ⟨r, hr⟩ : ∃ r, greatV c = r := ⟨_, rfl⟩
  rw [hr]
  have HR := Lib.hid hr
  unfold greatV at hr
  by_cases h1 : 50 < c.ps.length
  · have d1 : decide ((50 : Int) < (c.ps.length : Int)) = true := decide_eq_true (by omega)
    have d1' : decide (50 < c.ps.length) = true := decide_eq_true h1
    have e1 : r = true := by rw [← hr, d1']; rfl
    subst e1
    clear hr HR
    go_enter Tryz.func9, Tryz.ntmps9
    go_wp2_with (fail)
    rw [HW0.out]
    go_wp2_with (fail)
    go_ret
    exact ⟨rfl, HB0.out⟩
  have d1 : decide ((50 : Int) < (c.ps.length : Int)) = false := decide_eq_false (by omega)
  have d1' : decide (50 < c.ps.length) = false := decide_eq_false h1
  by_cases h2 : 200 < c.kids.len
  · have d2 : decide ((200 : Int) < (c.kids.len : Int)) = true := decide_eq_true (by omega)
    have d2' : decide (200 < c.kids.len) = true := decide_eq_true h2
    have e1 : r = true := by rw [← hr, d1', d2']; rfl
    subst e1
    clear hr HR
    go_enter Tryz.func9, Tryz.ntmps9
    go_wp2_with (fail)
    rw [HW0.out]
    go_wp2_with (fail)
    go_ret
    exact ⟨rfl, HB0.out⟩
  have d2 : decide ((200 : Int) < (c.kids.len : Int)) = false := decide_eq_false (by omega)
  have d2' : decide (200 < c.kids.len) = false := decide_eq_false h2
  by_cases h3 : 200 < c.gs.length
  · have d3 : decide ((200 : Int) < (c.gs.length : Int)) = true := decide_eq_true (by omega)
    have d3' : decide (200 < c.gs.length) = true := decide_eq_true h3
    have e1 : r = true := by rw [← hr, d1', d2', d3']; rfl
    subst e1
    clear hr HR
    go_enter Tryz.func9, Tryz.ntmps9
    go_wp2_with (fail)
    rw [HW0.out]
    go_wp2_with (fail)
    go_ret
    exact ⟨rfl, HB0.out⟩
  have d3 : decide ((200 : Int) < (c.gs.length : Int)) = false := decide_eq_false (by omega)
  have d3' : decide (200 < c.gs.length) = false := decide_eq_false h3
  rw [d1', d2', d3', Bool.false_or, Bool.false_or, Bool.false_or] at hr
  have HRR := Lib.hid hr
  obtain ⟨N, hN⟩ : ∃ N, c.ps.length = N := ⟨_, rfl⟩
  have d0 := d1
  have d0' := d1'
  rw [hN] at y0 d1 d1' hcap
  have HN := Lib.hid (And.intro hN hcap)
  have c1 : (N : Int) ≤ (c.pc : Int) := Int.ofNat_le.2 hcap.1
  have c2 : (c.pc : Int) ≤ 9223372036854775807 := by have := hcap.2; omega
  have c3 : N ≤ 50 := by rw [← hN]; omega
  have HC3 := Lib.hid c3
  clear hr HR h1 h2 h3 hN hcap c3
  go_enter Tryz.func9, Tryz.ntmps9
  go_upto_region 1 with (fail)
  rw [HW0.out]
  go_wp2_with (fail)
  go_loopg [24] N (fun kk jv wr => ∃ j : Nat, jv = .int .i64 (j : Int) ∧ kk = N - j ∧ j ≤ N ∧ Hid (∀ q ∈ c.ps.take j, ¬ 300 < q.code.length) ∧ Hid (Below W0.heap.size W0 wr))
  case atStart => exact ⟨0, rfl, rfl, Nat.zero_le _, Lib.hid (fun y hy => by simp at hy), Lib.hid (Below.refl _ _)⟩
  case round =>
    obtain ⟨j, rfl, hk, hj, HI, HBr⟩ := hrel
    by_cases hlt : j < N
    · have q1 : decide (j < N) = true := decide_eq_true hlt
      have a1 : (0 : Int) ≤ (j : Int) := Int.natCast_nonneg j
      have a2 : (j : Int) < (N : Int) := Int.ofNat_lt.2 hlt
      obtain ⟨p, hp⟩ : ∃ p, c.ps[j]? = some p := ⟨_, List.getElem?_eq_getElem (by rw [HN.out.1]; exact hlt)⟩
      have hPB := HP.out.1 (by rw [HN.out.1]; omega)
      obtain ⟨hbl, x0, x1, x2, x3, x4, x5, x6⟩ := (PrcAt.below HBr.out HP.out.2) j p hp
      obtain ⟨W3, hW3⟩ : ∃ W3, wr.alloc (.cells #[.string p.nm, .int .i64 p.pa, .bool p.rs, .int .i64 p.sl, .int .i64 p.de, .int .i64 p.fr, .slice p.B p.code.length p.cap] 39 (0, 0)) = W3 := ⟨_, rfl⟩
      have ho3 : W3.heap[wr.heap.size]? = some (prO p) := by rw [← hW3]; exact Array.getElem?_push_size
      have z6 : W3.cell? ⟨wr.heap.size, 6, none⟩ = some (.slice p.B p.code.length p.cap) := ob_cell ho3 6
      have HB3 := Lib.hid (show Below W0.heap.size W0 W3 from by rw [← hW3]; exact HBr.out.alloc HBr.out.size _)
      have HW3 := Lib.hid hW3
      have HPP := Lib.hid hp
      have HLT := Lib.hid (And.intro hlt hk)
      have wj : RowKit.wrap64 ((j : Int) + 1) = ((j + 1 : Nat) : Int) := by have := HC3.out; unfold RowKit.wrap64; omega
      rw [hPB]
      have HPB := Lib.hid hPB
      clear hW3 ho3 hp hlt hk hj hbl hPB
      by_cases hc : 300 < p.code.length
      · have b1 : decide ((300 : Int) < (p.code.length : Int)) = true := decide_eq_true (by omega)
        have b1' : decide (300 < p.code.length) = true := decide_eq_true hc
        have e1 : r = true := by rw [← HRR.out]; exact List.any_eq_true.2 ⟨p, List.mem_of_getElem? HPP.out, b1'⟩
        subst e1
        clear hc
        go_wp2_with (fail)
        rw [HW3.out]
        go_wp2_with (fail)
        go_ret
        exact ⟨rfl, bel_trans (B := w.heap.size) HB0.out HB3.out⟩
      · have b1 : decide ((300 : Int) < (p.code.length : Int)) = false := decide_eq_false (by omega)
        have b1' : decide (300 < p.code.length) = false := decide_eq_false hc
        have HI2 : Hid (∀ q ∈ c.ps.take (j + 1), ¬ 300 < q.code.length) := Lib.hid (take_snoc HPP.out HI.out hc)
        clear hc
        go_wp2_with (fail)
        rw [HW3.out]
        go_wp2_with (fail)
        rw [← HPB.out]
        go_roundg (N - (j + 1))
        case measure => have := HLT.out; omega
        case rel => exact ⟨j + 1, rfl, rfl, by have := HLT.out; omega, HI2, HB3⟩
    · have q1 : decide (j < N) = false := decide_eq_false hlt
      have hall : ∀ q ∈ c.ps, ¬ 300 < q.code.length := take_all (by rw [HN.out.1]; omega) HI.out
      have e1 : r = false := by rw [← HRR.out]; exact List.any_eq_false.2 fun q hq => by simpa using hall q hq
      subst e1
      clear hall hlt hk hj
      go_wp2_with (fail)
      go_ret
      exact ⟨rfl, bel_trans (B := w.heap.size) HB0.out HBr.out⟩

end LM
end Go.Proofs.YtmocnoiieiakhaaGreatDoor

namespace Go.Proofs.YtmocnoiieiakhaaGreatDoor
open Go Go.RowKit
namespace LM
set_option linter.unusedVariables false

/-- how many primitives there are -/
def primK : Nat := (Lib.fields primL).length
theorem prim_list : primS.data.toList = primL := by unfold primS; simp
theorem prim_size : primS.size < 4294967281 := of_decide_eq_true (by kernel_rfl)
theorem prim_ascii : ∀ (j : Nat) b, primS.data.toList[j]? = some b → b.toNat < 128 := by
  have h : (primL.all fun b => decide (b.toNat < 128)) = true := by kernel_rfl
  intro j b hb
  rw [prim_list] at hb
  exact of_decide_eq_true (List.all_eq_true.1 h b (List.mem_of_getElem? hb))
/-- the table of blanks, in memory -/
abbrev SPT (w : World) : Prop := Lib.TabIs Tryz.prog w "strings.asciiSpace" .u8 Lib.asciiSpaceTab
theorem vfields (w : World) (h : ∀ W, Below w.heap.size w W → SPT W) : ∀ W, Below w.heap.size w W → Calls Tryz.prog 14 #[.string primS] W fun e w' => (∃ A cap, e = .returned (.slice A primK cap)) ∧ Below W.heap.size W w' := by
  intro W hW
  refine (Tryz.strings_Fields primS W prim_size prim_ascii (h W hW)).mono ?_
  rintro e w' ⟨rfl, rfl⟩
  rw [prim_list]
  exact ⟨⟨_, _, rfl⟩, (Below.refl _ W).alloc (Nat.le_refl _) _⟩
theorem vmul : ∀ (n : Nat) (W : World), n ≤ 40000 → Calls Tryz.prog 47 #[.int .u64 1, .int .u64 (n : Int)] W fun e w' => e = .returned (.tuple #[.int .u64 0, .int .u64 (n : Int)]) ∧ W = w' := by
  intro n W hn
  have h := Tryz.bits_Mul 1 n (by decide) (by omega) W
  refine h.mono ?_
  rintro e w' ⟨rfl, hw⟩
  have e1 : 1 * n / 18446744073709551616 = 0 := by omega
  have e2 : 1 * n % 18446744073709551616 = n := by omega
  rw [e1, e2]
  first | exact ⟨rfl, hw.symm⟩ | exact ⟨rfl, hw⟩

theorem one_ck (Q : Int → Int → Nat → Prop) (d : Int) (l : List Ins) (w : World) (hl : l.length ≤ 1000) (h : ∀ W, Below w.heap.size w W → SPT W) (hr : ∀ g ib io cap, rightP (oneC g d ib io cap l) true = true)
    (hQ : ∀ g ib io cap z m i, CheckP (tkC (oneC g d ib io cap l).ps) puC (oneC g d ib io cap l) primK (rightP (oneC g d ib io cap l) true) z m i → Q z m i) : OneCk w Q d l := by
  intro W g ib io cap hW hg hI hc hc2
  have hv : CodV W (oneC g d ib io cap l) := by
    refine ⟨⟨g, 0, fun _ => rfl, fun j p hj => ?_⟩, fun p hp => ?_, ⟨0, 0, fun h => absurd h (Nat.lt_irrefl 0), trivial⟩, ⟨0, 0, fun h => absurd h (Nat.lt_irrefl 0), fun j x hx => by simp at hx⟩⟩
    · rcases j with _ | j
      · obtain rfl : oneP d ib io cap l = p := by simpa using hj
        exact ⟨hlt_of hg, P7.of_block hg⟩
      · simp at hj
    · obtain rfl : p = oneP d ib io cap l := by simpa using hp
      exact ⟨ib, io, fun _ => rfl, hI⟩
  have hok : (oneC g d ib io cap l).Ok := ⟨⟨Nat.le_refl 1, (by decide : (1 : Nat) ≤ 9223372036854775807)⟩, ⟨Nat.le_refl 0, Nat.zero_le _⟩, ⟨Nat.le_refl 0, Nat.zero_le _⟩, fun p hp => by
    obtain rfl : p = oneP d ib io cap l := by simpa using hp
    exact ⟨⟨hc, hc2⟩, by show l.length ≤ _; omega⟩⟩
  have ck := vcheck_c (fun _ _ => true) (oneC g d ib io cap l) primK W hv hok (by show 1 ≤ _; decide) (fun W1 _ hh k j r hdr => by cases j <;> cases hdr) (fun W2 hW2 => vfields w h W2 (bel_trans (B := w.heap.size) hW hW2)) vmul
  refine ck.mono ?_
  rintro e w' ⟨z, m, i, hz, rfl, hb⟩
  exact ⟨z, m, i, hQ g ib io cap z m i hz, rfl, hb⟩
/-- verifyAlive answers true -/
theorem valive_w (w : World) (h : ∀ W, Below w.heap.size w W → SPT W) : Calls Tryz.prog 8 #[] w fun e w' => e = .returned (.bool true) ∧ Below w.heap.size w w' :=
  valive_any w (one_ck _ 1 _ w (by decide) h (fun g ib io cap => rfl) (fun g ib io cap z m i hz => one_a g ib io cap primK rfl hz)) (one_ck _ 1 _ w (by decide) h (fun g ib io cap => rfl) (fun g ib io cap z m i hz => one_b g ib io cap primK rfl hz))
    (one_ck _ 1 _ w (by decide) h (fun g ib io cap => rfl) (fun g ib io cap z m i hz => one_c g ib io cap primK rfl hz))
/-- the table of blanks, of what the row lists -/
theorem spt_of {l : List (String × DataW Unit)} {W : World} (h : laidMetH Tryz.prog l W)
    (he : ((l.filter fun x => x.2.handleName?.isNone).filter fun x => x.1 == "strings.asciiSpace") = [("strings.asciiSpace", Lib.tabData .u8 Lib.asciiSpaceTab)]) : ∀ W', Below W.heap.size W W' → SPT W' := by
  have t : SPT W := Lib.tabIs_of_head (g := 0) (t := 69) (e := 5) (n := 256) (by kernel_rfl) (by kernel_rfl) Tryz.underlying69 Tryz.underlying5 (by kernel_rfl) (by kernel_rfl) (listed_of h he)
  exact fun W' hb => Lib.tabBelow_of_tabIs t W' hb
end LM
end Go.Proofs.YtmocnoiieiakhaaGreatDoor
