import Derived.Lib.ParseIntBCases
import Derived.Test.YtihbgghlnppkiaaGreatDoorR11
set_option linter.unusedVariables false
set_option linter.unusedSimpArgs false
set_option maxRecDepth 100000
set_option maxHeartbeats 16000000
namespace Go.Proofs.YtihbgghlnppkiaaGreatDoor
open Go
namespace LM
def Digs (l : List UInt8) : Prop:=∀ c ∈ l,48 ≤ c.toNat∧c.toNat ≤ 57
def dval (acc : Nat) (l : List UInt8) : Nat:=l.foldl (fun a c=>a * 10 + (c.toNat - 48)) acc
theorem dval_nil (acc : Nat) : dval acc [] = acc:=rfl
theorem dval_cons (acc : Nat) (c : UInt8) (r : List UInt8) : dval acc (c :: r) = dval (acc * 10 + (c.toNat - 48)) r:=by unfold dval; rw [List.foldl_cons]
theorem dval_append (l m : List UInt8) : ∀ acc,dval acc (l ++ m) = dval (dval acc l) m:=by
  induction l with
  | nil=>intro acc; rfl
  | cons c r ih=>intro acc; rw [List.cons_append,dval_cons,dval_cons,ih]
theorem dval_shift (l : List UInt8) : ∀ acc,dval acc l = acc * 10 ^ l.length + dval 0 l:=by
  induction l with
  | nil=>intro acc; simp [dval_nil]
  | cons c r ih =>
    intro acc
    rw [dval_cons,ih,dval_cons,Nat.zero_mul,Nat.zero_add,ih (c.toNat - 48),List.length_cons,Nat.pow_succ]
    grind
theorem dval_lt {l : List UInt8} (h : Digs l) : dval 0 l < 10 ^ l.length:=by
  induction l with
  | nil=>simp [dval_nil]
  | cons c r ih =>
    have h1:=ih fun x hx=>h x (List.mem_cons_of_mem _ hx)
    have h2:=h c (List.mem_cons_self ..)
    rw [dval_cons,Nat.zero_mul,Nat.zero_add,dval_shift,List.length_cons,Nat.pow_succ]
    have h3 : (c.toNat - 48) * 10 ^ r.length ≤ 9 * 10 ^ r.length:=Nat.mul_le_mul_right _ (by omega)
    omega
theorem Digs.take {l : List UInt8} (h : Digs l) (n : Nat) : Digs (l.take n):=fun c hc=>h c (List.mem_of_mem_take hc)
theorem Digs.drop {l : List UInt8} (h : Digs l) (n : Nat) : Digs (l.drop n):=fun c hc=>h c (List.mem_of_mem_drop hc)
theorem Digs.append {l m : List UInt8} (h : Digs l) (k : Digs m) : Digs (l ++ m):=fun c hc=>(List.mem_append.1 hc).elim (h c) (k c)
theorem parseM_ok (l : List UInt8) : ∀ acc k,Digs l → acc < 10 ^ k → k + l.length ≤ 9 → Lib.parseUintM (2 ^ 32 - 1) acc l = .ok (dval acc l):=by
  induction l with
  | nil=>intro acc k _ _ _; rfl
  | cons c r ih =>
    intro acc k h ha hk
    have hc:=h c (List.mem_cons_self ..)
    rw [List.length_cons] at hk
    have h8 : 10 ^ (k + 1) ≤ 10 ^ 9:=Nat.pow_le_pow_right (by decide) (by omega)
    have h9 : (10 : Nat) ^ 9 = 1000000000:=by decide
    rw [Nat.pow_succ] at h8
    rw [Lib.parseUintM,if_pos hc,if_neg (by omega),if_neg (by omega),dval_cons]
    exact ih _ (k + 1) (fun x hx=>h x (List.mem_cons_of_mem _ hx)) (by rw [Nat.pow_succ]; omega) (by omega)
theorem parseB_ok {l : List UInt8} (hd : Digs l) (h1 : 1 ≤ l.length) (h2 : l.length ≤ 9) : Lib.parseUintB 32 l = .ok (dval 0 l):=by
  unfold Lib.parseUintB
  rw [if_neg (by intro h; rw [h] at h1; simp at h1)]
  exact parseM_ok l 0 0 hd (by decide) (by omega)
theorem parseM_bad (l : List UInt8) : ∀ acc k,¬ Digs l → acc < 10 ^ k → k + l.length ≤ 9 → (∀ u,Lib.parseUintM (2 ^ 32 - 1) acc l ≠ .ok u)∧Lib.parseUintM (2 ^ 32 - 1) acc l ≠ .range:=by
  induction l with
  | nil=>intro acc k h _ _; exact absurd (fun c hc=>(by cases hc)) h
  | cons c r ih =>
    intro acc k h ha hk
    rw [List.length_cons] at hk
    by_cases hc : 48 ≤ c.toNat∧c.toNat ≤ 57
    · have h8 : 10 ^ (k + 1) ≤ 10 ^ 9:=Nat.pow_le_pow_right (by decide) (by omega)
      have h9 : (10 : Nat) ^ 9 = 1000000000:=by decide
      rw [Nat.pow_succ] at h8
      rw [Lib.parseUintM,if_pos hc,if_neg (by omega),if_neg (by omega)]
      refine ih _ (k + 1) (fun hd=>h fun x hx=>?_) (by rw [Nat.pow_succ]; omega) (by omega)
      rcases List.mem_cons.1 hx with rfl | hx
      · exact hc
      · exact hd x hx
    · rw [Lib.parseUintM,if_neg hc]
      exact ⟨(fun u h=>by cases h),(fun h=>by cases h)⟩
theorem parseB_bad {l : List UInt8} (hd : ¬ Digs l) (h2 : l.length ≤ 9) : (∀ u,Lib.parseUintB 32 l ≠ .ok u)∧Lib.parseUintB 32 l ≠ .range:=by
  unfold Lib.parseUintB
  rw [if_neg (by intro h; rw [h] at hd; exact hd (fun c hc=>(by cases hc)))]
  exact parseM_bad l 0 0 hd (by decide) (by omega)
end LM
end Go.Proofs.YtihbgghlnppkiaaGreatDoor
