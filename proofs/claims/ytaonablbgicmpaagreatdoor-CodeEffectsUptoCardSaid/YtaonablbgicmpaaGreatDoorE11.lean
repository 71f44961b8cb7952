import Derived.Lib.ItoaNum
import Derived.Lib.ItoaMem
import Derived.Lib.Repeat
import Derived.Test.YtaonablbgicmpaaGreatDoorE01
import Derived.Lib.ParseIntBCases
set_option linter.unusedVariables false
set_option linter.unusedSimpArgs false
set_option maxRecDepth 100000
set_option maxHeartbeats 16000000
namespace Go.Proofs.YtaonablbgicmpaaGreatDoor
open Go
namespace LM
def v9 : List Nat → Nat
 | []=>0
 | x :: xs=>x + 1000000000 * v9 xs
def vp (xs : List Nat) : Nat:=v9 xs.reverse
theorem dec_big {u : Nat} (h : ¬ u < 10) : Lib.decDigits u = Lib.decDigits (u / 10) ++ [UInt8.ofNat (48 + u % 10)]:=by rw [Lib.decDigits,dif_neg h]
theorem nDigits_le {p k : Nat} (h : p < 10 ^ (k + 1)) : Lib.nDigits p ≤ k + 1:=by
 rcases Nat.eq_zero_or_pos p with rfl | hp
 ·rw [Lib.nDigits_small (by decide)]; omega
 ·rcases Nat.lt_or_ge (k + 1) (Lib.nDigits p) with h1 | h1
  ·exfalso
   have : ∀ (m u : Nat),0 < u → Lib.nDigits u = m + 1 → 10 ^ m ≤ u:=by
    intro m
    induction m with
    | zero=>intro u hu _; rw [Nat.pow_zero]; exact hu
    | succ m ih =>
     intro u hu hd
     by_cases hb : u < 10
     ·rw [Lib.nDigits_small hb] at hd; omega
     ·rw [Lib.nDigits_big hb] at hd
      have:=ih (u / 10) (by omega) (by omega)
      rw [Nat.pow_succ]; omega
   have h2:=this (Lib.nDigits p - 1) p hp (by omega)
   have h3 : 10 ^ (k + 1) ≤ 10 ^ (Lib.nDigits p - 1):=Nat.pow_le_pow_right (by decide) (by omega)
   omega
  ·exact h1
def tx (pre : List Nat) : List UInt8:=if pre = [] then [] else Lib.decDigits (vp pre)
end LM
namespace LM
def Digs (l : List UInt8) : Prop:=∀ c ∈ l,48 ≤ c.toNat∧c.toNat ≤ 57
def dval (acc : Nat) (l : List UInt8) : Nat:=l.foldl (fun a c=>a * 10 + (c.toNat - 48)) acc
theorem dval_nil (acc : Nat) : dval acc [] = acc:=rfl
theorem dval_cons (acc : Nat) (c : UInt8) (r : List UInt8) : dval acc (c :: r) = dval (acc * 10 + (c.toNat - 48)) r:=by unfold dval; rw [List.foldl_cons]
theorem dval_append (l m : List UInt8) : ∀ acc,dval acc (l ++ m) = dval (dval acc l) m:=by
 induction l with
 | nil=>intro acc; rfl
 | cons c r ih=>intro acc; rw [List.cons_append,dval_cons,dval_cons,ih]
theorem dval_snoc (acc : Nat) (l : List UInt8) (c : UInt8) : dval acc (l ++ [c]) = dval acc l * 10 + (c.toNat - 48):=by rw [dval_append]; rfl
theorem dval_shift (l : List UInt8) : ∀ acc,dval acc l = acc * 10 ^ l.length + dval 0 l:=by
 induction l with
 | nil=>intro acc; simp [dval_nil]
 | cons c r ih =>
  intro acc
  rw [dval_cons,ih,dval_cons,Nat.zero_mul,Nat.zero_add,ih (c.toNat - 48),List.length_cons,Nat.pow_succ]
  grind
theorem dval_lt {l : List UInt8} (h : Digs l) : dval 0 l < 10 ^ l.length:=by
 induction l with
 | nil=>simp [dval_nil]
 | cons c r ih =>
  have h1:=ih fun x hx=>h x (List.mem_cons_of_mem _ hx)
  have h2:=h c (List.mem_cons_self ..)
  rw [dval_cons,Nat.zero_mul,Nat.zero_add,dval_shift,List.length_cons,Nat.pow_succ]
  have h3 : (c.toNat - 48) * 10 ^ r.length ≤ 9 * 10 ^ r.length:=Nat.mul_le_mul_right _ (by omega)
  omega
theorem Digs.take {l : List UInt8} (h : Digs l) (n : Nat) : Digs (l.take n):=fun c hc=>h c (List.mem_of_mem_take hc)
theorem Digs.append {l m : List UInt8} (h : Digs l) (k : Digs m) : Digs (l ++ m):=fun c hc=>(List.mem_append.1 hc).elim (h c) (k c)
end LM
end Go.Proofs.YtaonablbgicmpaaGreatDoor
