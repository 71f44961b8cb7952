import Derived.Lib.ItoaNum
import Derived.Lib.ItoaMem
import Derived.Lib.Repeat
import Derived.Test.YtihbgghlnppkiaaGreatDoorR01
set_option linter.unusedVariables false
set_option linter.unusedSimpArgs false
set_option maxRecDepth 100000
set_option maxHeartbeats 16000000
namespace Go.Proofs.YtihbgghlnppkiaaGreatDoor
open Go
namespace LM
def v9 : List Nat → Nat
  | []=>0
  | x :: xs=>x + 1000000000 * v9 xs
theorem v9_snoc (xs : List Nat) (y : Nat) : v9 (xs ++ [y]) = v9 xs + 1000000000 ^ xs.length * y:=by
  induction xs with
  | nil=>simp [v9]
  | cons x xs ih=>simp only [List.cons_append,v9,ih,List.length_cons,Nat.pow_succ]; grind
def vp (xs : List Nat) : Nat:=v9 xs.reverse
theorem vp_snoc (xs : List Nat) (y : Nat) : vp (xs ++ [y]) = vp xs * 1000000000 + y:=by simp [vp,v9]; omega
theorem vp_rev (xs : List Nat) : vp xs.reverse = v9 xs:=by simp [vp]
theorem vp_pos {xs : List Nat} (hn : xs ≠ []) (h : ∀ x,xs.head? = some x → 0 < x) : 0 < vp xs:=by
  cases xs with
  | nil=>exact absurd rfl hn
  | cons x t =>
    have h0:=h x rfl
    unfold vp
    rw [List.reverse_cons,v9_snoc]
    have:=Nat.mul_pos (Nat.pow_pos (n:=t.reverse.length) (show 0 < 1000000000 from by decide)) h0
    omega
def pad : Nat → Nat → List UInt8
  | 0,_=>[]
  | k + 1,p=>pad k (p / 10) ++ [UInt8.ofNat (48 + p % 10)]
theorem pad_zero (k : Nat) : pad k 0 = List.replicate k 48:=by
  induction k with
  | zero=>rfl
  | succ k ih=>simp only [pad,Nat.zero_div,ih,List.replicate_succ']; rfl
theorem dec_big {u : Nat} (h : ¬ u < 10) : Lib.decDigits u = Lib.decDigits (u / 10) ++ [UInt8.ofNat (48 + u % 10)]:=by rw [Lib.decDigits,dif_neg h]
theorem dec_pad (k : Nat) : ∀ (N p : Nat),0 < N → p < 10 ^ k → Lib.decDigits (N * 10 ^ k + p) = Lib.decDigits N ++ pad k p:=by
  induction k with
  | zero=>intro N p _ hp; simp at hp; subst hp; simp [pad]
  | succ k ih =>
    intro N p hN hp
    rw [Nat.pow_succ] at hp ⊢
    have hpos : 0 < 10 ^ k:=Nat.pow_pos (by decide)
    have hge : 1 ≤ N * 10 ^ k:=Nat.mul_pos hN hpos
    have e : N * (10 ^ k * 10) = N * 10 ^ k * 10:=by rw [Nat.mul_assoc]
    rw [e,dec_big (by omega),show (N * 10 ^ k * 10 + p) / 10 = N * 10 ^ k + p / 10 from by omega,show (N * 10 ^ k * 10 + p) % 10 = p % 10 from by omega,ih N (p / 10) hN (by omega),List.append_assoc]
    rfl
theorem pad_dec (k : Nat) : ∀ p,p < 10 ^ (k + 1) → pad (k + 1) p = List.replicate (k + 1 - Lib.nDigits p) 48 ++ Lib.decDigits p:=by
  induction k with
  | zero =>
    intro p hp
    have hp' : p < 10:=by simpa using hp
    rw [Lib.nDigits_small hp',Lib.decDigits_one hp']
    simp [pad,Nat.mod_eq_of_lt hp']
  | succ k ih =>
    intro p hp
    rw [pad]
    by_cases h : p < 10
    · rw [Lib.nDigits_small h,Lib.decDigits_one h,Nat.div_eq_of_lt h,pad_zero,Nat.mod_eq_of_lt h]
      rfl
    · rw [ih (p / 10) (by rw [Nat.pow_succ] at hp; omega),Lib.nDigits_big h,dec_big h,List.append_assoc]
      congr 2
      omega
theorem nDigits_le {p k : Nat} (h : p < 10 ^ (k + 1)) : Lib.nDigits p ≤ k + 1:=by
  rcases Nat.eq_zero_or_pos p with rfl | hp
  · rw [Lib.nDigits_small (by decide)]; omega
  · rcases Nat.lt_or_ge (k + 1) (Lib.nDigits p) with h1 | h1
    · exfalso
      have : ∀ (m u : Nat),0 < u → Lib.nDigits u = m + 1 → 10 ^ m ≤ u:=by
        intro m
        induction m with
        | zero=>intro u hu _; rw [Nat.pow_zero]; exact hu
        | succ m ih =>
          intro u hu hd
          by_cases hb : u < 10
          · rw [Lib.nDigits_small hb] at hd; omega
          · rw [Lib.nDigits_big hb] at hd
            have:=ih (u / 10) (by omega) (by omega)
            rw [Nat.pow_succ]; omega
      have h2:=this (Lib.nDigits p - 1) p hp (by omega)
      have h3 : 10 ^ (k + 1) ≤ 10 ^ (Lib.nDigits p - 1):=Nat.pow_le_pow_right (by decide) (by omega)
      omega
    · exact h1
theorem repeat_48 (c : Nat) : Lib.repeatL [48] c = List.replicate c 48:=by
  induction c with
  | zero=>rfl
  | succ c ih=>rw [Lib.repeatL,ih,List.replicate_succ]; rfl
def tx (pre : List Nat) : List UInt8:=if pre = [] then [] else Lib.decDigits (vp pre)
theorem tx_nil : tx [] = []:=rfl
theorem tx_first (x : Nat) : tx ([] ++ [x]) = Lib.decDigits x:=by simp [tx,vp,v9]
theorem tx_next {pre : List Nat} {x : Nat} (hn : pre ≠ []) (hp : 0 < vp pre) (hx : x < 1000000000) : tx (pre ++ [x]) = tx pre ++ (Lib.repeatL [48] (9 - Lib.nDigits x) ++ Lib.decDigits x):=by
  unfold tx
  rw [if_neg hn,if_neg (by simp),vp_snoc,repeat_48]
  have h1:=dec_pad 9 (vp pre) x hp (by simpa using hx)
  rw [pad_dec 8 x (by simpa using hx)] at h1
  exact h1
theorem dec_len (u : Nat) : 1 ≤ (Lib.decDigits u).length:=by rw [Lib.decDigits_length]; exact Lib.nDigits_pos u
theorem tx_len_pos {pre : List Nat} (hn : pre ≠ []) : 0 < (tx pre).length:=by unfold tx; rw [if_neg hn]; exact dec_len _
theorem tx_len {pre : List Nat} (hp : ∀ x ∈ pre,x < 1000000000) : (tx pre).length ≤ 9 * pre.length:=by
  unfold tx
  split
  · simp
  · rename_i hn
    rw [Lib.decDigits_length]
    obtain ⟨m,hm⟩ : ∃ m,9 * pre.length = m + 1:=⟨9 * pre.length - 1,by have:=List.length_pos_iff.2 hn; omega⟩
    rw [hm]
    refine nDigits_le ?_
    rw [← hm]
    clear hm m hn
    have : ∀ xs : List Nat,(∀ x ∈ xs,x < 1000000000) → v9 xs < 10 ^ (9 * xs.length):=by
      intro xs
      induction xs with
      | nil=>intro _; simp [v9]
      | cons x t ih =>
        intro h
        have h1:=ih fun y hy=>h y (List.mem_cons_of_mem _ hy)
        have h2:=h x (List.mem_cons_self ..)
        rw [v9,List.length_cons,show 9 * (t.length + 1) = 9 * t.length + 9 from by omega,Nat.pow_add]
        have h3 : (10 : Nat) ^ 9 = 1000000000:=by decide
        rw [h3]
        omega
    have h:=this pre.reverse (fun x hx=>hp x (List.mem_reverse.1 hx))
    rwa [List.length_reverse] at h
def lowP (n : Nat) : List Nat:=if h : n = 0 then [] else n % 1000000000 :: lowP (n / 1000000000)
termination_by n
decreasing_by exact Nat.div_lt_self (Nat.pos_of_ne_zero h) (by decide)
theorem lowP_zero : lowP 0 = []:=by rw [lowP,dif_pos rfl]
theorem lowP_pos {n : Nat} (h : 0 < n) : lowP n = n % 1000000000 :: lowP (n / 1000000000):=by rw [lowP,dif_neg (by omega)]
theorem v9_lowP (n : Nat) : v9 (lowP n) = n:=by
  induction n using Nat.strongRecOn with
  | ind n ih =>
    rcases Nat.eq_zero_or_pos n with rfl | h
    · rw [lowP_zero]; rfl
    · rw [lowP_pos h,v9,ih _ (Nat.div_lt_self h (by decide))]; omega
theorem lowP_lt (n : Nat) : ∀ p ∈ lowP n,p < 1000000000:=by
  induction n using Nat.strongRecOn with
  | ind n ih =>
    rcases Nat.eq_zero_or_pos n with rfl | h
    · rw [lowP_zero]; intro p hp; cases hp
    · rw [lowP_pos h]
      intro p hp
      rcases List.mem_cons.1 hp with rfl | hp
      · exact Nat.mod_lt _ (by decide)
      · exact ih _ (Nat.div_lt_self h (by decide)) p hp
theorem lowP_last (n : Nat) : ∀ p,(lowP n).getLast? = some p → 0 < p:=by
  induction n using Nat.strongRecOn with
  | ind n ih =>
    rcases Nat.eq_zero_or_pos n with rfl | h
    · rw [lowP_zero]; intro p hp; cases hp
    · rw [lowP_pos h]
      intro p hp
      rcases Nat.eq_zero_or_pos (n / 1000000000) with h0 | h0
      · rw [h0,lowP_zero] at hp
        simp at hp
        omega
      · have h1:=ih (n / 1000000000) (Nat.div_lt_self h (by decide)) p
        rw [lowP_pos h0] at h1 hp
        rw [List.getLast?_cons_cons] at hp
        exact h1 hp
theorem lowP_len (k : Nat) : ∀ n,n < 1000000000 ^ k → (lowP n).length ≤ k:=by
  induction k with
  | zero=>intro n hn; simp at hn; subst hn; rw [lowP_zero]; simp
  | succ k ih =>
    intro n hn
    rcases Nat.eq_zero_or_pos n with rfl | h
    · rw [lowP_zero]; simp
    · rw [lowP_pos h,List.length_cons]
      have:=ih (n / 1000000000) (by rw [Nat.pow_succ] at hn; omega)
      omega
def partsOf (n : Nat) : List Nat:=(lowP n).reverse
theorem vp_parts (n : Nat) : vp (partsOf n) = n:=by rw [partsOf,vp_rev,v9_lowP]
theorem parts_lt (n : Nat) : ∀ p ∈ partsOf n,p < 1000000000:=fun p hp=>lowP_lt n p (List.mem_reverse.1 hp)
theorem parts_head {n p : Nat} (h : (partsOf n).head? = some p) : 0 < p:=by
  unfold partsOf at h
  rw [List.head?_reverse] at h
  exact lowP_last n p h
theorem parts_ne {n : Nat} (h : 0 < n) : partsOf n ≠ []:=by
  unfold partsOf
  rw [lowP_pos h]; simp
theorem tx_parts {n : Nat} (h : 0 < n) : tx (partsOf n) = Lib.decDigits n:=by rw [tx,if_neg (parts_ne h),vp_parts]
theorem parts_take_pos {n k : Nat} (hk : (partsOf n).take k ≠ []) : 0 < vp ((partsOf n).take k):=by
  refine vp_pos hk fun x hx=>?_
  refine parts_head (n:=n) ?_
  rw [List.head?_take] at hx
  split at hx
  · cases hx
  · exact hx
end LM
end Go.Proofs.YtihbgghlnppkiaaGreatDoor
