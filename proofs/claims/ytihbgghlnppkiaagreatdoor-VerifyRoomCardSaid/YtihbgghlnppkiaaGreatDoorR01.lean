import Derived.Below
import Derived.Laws.Bits64
import Derived.WalkKit
import Derived.Laws.Bits64b
set_option linter.unusedVariables false
set_option linter.unusedSimpArgs false
set_option maxRecDepth 100000
set_option maxHeartbeats 16000000
namespace Go.Proofs.YtihbgghlnppkiaaGreatDoor
namespace LM
def val : List Nat → Nat
  | []=>0
  | x :: xs=>x + 4294967296 * val xs
def Lm (xs : List Nat) : Prop:=∀ x ∈ xs,x < 4294967296
def trim : List Nat → List Nat
  | []=>[]
  | x :: xs=>if x = 0∧trim xs = [] then [] else x :: trim xs
def Can (xs : List Nat) : Prop:=Lm xs∧trim xs = xs
theorem Lm.nil : Lm []:=by intro x h; cases h
theorem Lm.cons {x : Nat} {xs : List Nat} (h : x < 4294967296) (hs : Lm xs) : Lm (x :: xs):=by
  intro y hy
  rcases List.mem_cons.1 hy with rfl | hy
  · exact h
  · exact hs y hy
theorem Lm.append {xs ys : List Nat} (h : Lm xs) (k : Lm ys) : Lm (xs ++ ys):=by
  intro y hy
  rcases List.mem_append.1 hy with hy | hy
  · exact h y hy
  · exact k y hy
theorem Lm.get {xs : List Nat} (h : Lm xs) (i : Nat) : xs[i]?.getD 0 < 4294967296:=by
  rcases Nat.lt_or_ge i xs.length with hi | hi
  · rw [List.getElem?_eq_getElem hi]; exact h _ (List.getElem_mem hi)
  · rw [List.getElem?_eq_none hi]; decide
theorem Lm.head {x : Nat} {xs : List Nat} (h : Lm (x :: xs)) : x < 4294967296:=h x (by simp)
theorem Lm.tail {x : Nat} {xs : List Nat} (h : Lm (x :: xs)) : Lm xs:=fun y hy=>h y (by simp [hy])
theorem val_append (xs ys : List Nat) : val (xs ++ ys) = val xs + 4294967296 ^ xs.length * val ys:=by
  induction xs with
  | nil=>simp [val]
  | cons x xs ih =>
    simp only [List.cons_append,val,ih,List.length_cons,Nat.pow_succ]
    grind
theorem val_snoc (xs : List Nat) (y : Nat) : val (xs ++ [y]) = val xs + 4294967296 ^ xs.length * y:=by
  rw [val_append]; simp [val]
theorem val_lt {xs : List Nat} (h : Lm xs) : val xs < 4294967296 ^ xs.length:=by
  induction xs with
  | nil=>simp [val]
  | cons x xs ih =>
    have h1:=ih h.tail
    have h2:=h.head
    simp only [val,List.length_cons,Nat.pow_succ]
    have : val xs + 1 ≤ 4294967296 ^ xs.length:=h1
    omega
theorem val_take_succ (xs : List Nat) (k : Nat) : val (xs.take (k + 1)) = val (xs.take k) + 4294967296 ^ k * xs[k]?.getD 0:=by
  rcases Nat.lt_or_ge k xs.length with h | h
  · rw [List.take_succ_eq_append_getElem h,val_snoc,List.length_take,Nat.min_eq_left (by omega),List.getElem?_eq_getElem h]; rfl
  · rw [List.take_of_length_le (by omega),List.take_of_length_le (by omega),List.getElem?_eq_none h]; simp
theorem val_zero_all {xs : List Nat} (h : val xs = 0) : trim xs = []:=by
  induction xs with
  | nil=>rfl
  | cons x xs ih =>
    simp only [val] at h
    have h1 : val xs = 0:=by omega
    have h2 : x = 0:=by omega
    simp [trim,ih h1,h2]
theorem val_trim (xs : List Nat) : val (trim xs) = val xs:=by
  induction xs with
  | nil=>rfl
  | cons x xs ih =>
    simp only [trim]
    split
    · rename_i hc
      rw [hc.2] at ih
      simp only [val] at ih ⊢
      omega
    · simp [val,ih]
theorem trim_nil_iff {xs : List Nat} : trim xs = [] ↔ val xs = 0:=by
  constructor
  · intro h
    rw [← val_trim,h]; rfl
  · exact val_zero_all
theorem trim_trim (xs : List Nat) : trim (trim xs) = trim xs:=by
  induction xs with
  | nil=>rfl
  | cons x xs ih =>
    simp only [trim]
    split
    · rfl
    · rename_i hc
      simp only [trim,ih]
      rw [if_neg hc]
theorem mem_trim {xs : List Nat} {y : Nat} (h : y ∈ trim xs) : y ∈ xs:=by
  induction xs with
  | nil=>exact h
  | cons x xs ih =>
    simp only [trim] at h
    split at h
    · cases h
    · rcases List.mem_cons.1 h with rfl | h
      · simp
      · simp [ih h]
theorem Lm.trim {xs : List Nat} (h : Lm xs) : Lm (trim xs):=fun y hy=>h y (mem_trim hy)
theorem can_trim {xs : List Nat} (h : Lm xs) : Can (trim xs):=⟨h.trim,trim_trim xs⟩
theorem trim_length_le (xs : List Nat) : (trim xs).length ≤ xs.length:=by
  induction xs with
  | nil=>simp [trim]
  | cons x xs ih =>
    simp only [trim]
    split
    · simp
    · simp only [List.length_cons]; omega
theorem trim_take (xs : List Nat) : trim xs = xs.take (trim xs).length:=by
  induction xs with
  | nil=>rfl
  | cons x xs ih =>
    simp only [trim]
    split
    · simp
    · simp only [List.length_cons,List.take_succ_cons,← ih]
theorem trim_snoc_zero (xs : List Nat) : trim (xs ++ [0]) = trim xs:=by
  induction xs with
  | nil=>simp [trim]
  | cons x xs ih=>simp only [List.cons_append,trim,ih]
theorem trim_snoc_pos (xs : List Nat) {y : Nat} (h : y ≠ 0) : trim (xs ++ [y]) = xs ++ [y]:=by
  induction xs with
  | nil=>simp [trim,h]
  | cons x xs ih=>simp only [List.cons_append,trim,ih]; simp
theorem can_nil : Can []:=⟨Lm.nil,rfl⟩
theorem can_last {xs : List Nat} {y : Nat} (h : Can (xs ++ [y])) : y ≠ 0:=by
  rintro rfl
  have h1:=h.2
  rw [trim_snoc_zero] at h1
  have h2:=trim_length_le xs
  have h3:=congrArg List.length h1
  simp at h3
  omega
theorem can_len {xs : List Nat} (h : Can xs) (n : Nat) : n < xs.length ↔ 4294967296 ^ n ≤ val xs:=by
  constructor
  · intro hn
    have hne : xs ≠ []:=by intro e; subst e; simp at hn
    obtain ⟨ys,y,rfl⟩ : ∃ ys y,xs = ys ++ [y]:=⟨xs.dropLast,xs.getLast hne,(List.dropLast_concat_getLast hne).symm⟩
    have hy:=can_last h
    rw [val_snoc]
    have h1 : 4294967296 ^ n ≤ 4294967296 ^ ys.length:=Nat.pow_le_pow_right (by decide) (by simp at hn; omega)
    have h2 : 4294967296 ^ ys.length * 1 ≤ 4294967296 ^ ys.length * y:=Nat.mul_le_mul_left _ (by omega)
    omega
  · intro hn
    have h1:=val_lt h.1
    rcases Nat.lt_or_ge n xs.length with h2 | h2
    · exact h2
    · have h3 : 4294967296 ^ xs.length ≤ 4294967296 ^ n:=Nat.pow_le_pow_right (by decide) h2
      omega
end LM
namespace LM
theorem Lm.snoc {xs : List Nat} {x : Nat} (h : Lm xs) (hx : x < 4294967296) : Lm (xs ++ [x]):=h.append (Lm.cons hx Lm.nil)
theorem prod_le {x y : Nat} (hx : x < 4294967296) (hy : y < 4294967296) : x * y ≤ 18446744065119617025:=by
  have:=Nat.mul_le_mul (Nat.le_of_lt_succ hx : x ≤ 4294967295) (Nat.le_of_lt_succ hy : y ≤ 4294967295)
  exact this
theorem drop_cons_get (xs : List Nat) (k : Nat) (h : k < xs.length) : xs.drop k = xs[k]?.getD 0 :: xs.drop (k + 1):=by
  rw [List.drop_eq_getElem_cons h,List.getElem?_eq_getElem h]; rfl
theorem timesPlus_step {xs zs : List Nat} {n m k cy : Nat} (hz : zs.length = k)
    (h : val zs + 4294967296 ^ k * cy = val (xs.take k) * n + m) :
    val (zs ++ [(cy + xs[k]?.getD 0 * n) % 4294967296]) + 4294967296 ^ (k + 1) * ((cy + xs[k]?.getD 0 * n) / 4294967296) = val (xs.take (k + 1)) * n + m:=by
  rw [val_snoc,val_take_succ,hz,Nat.pow_succ]
  generalize xs[k]?.getD 0 = x
  have e:=Nat.div_add_mod (cy + x * n) 4294967296
  generalize (cy + x * n) / 4294967296 = q at e ⊢
  generalize (cy + x * n) % 4294967296 = r at e ⊢
  generalize 4294967296 ^ k = P at h ⊢
  grind
end LM
end Go.Proofs.YtihbgghlnppkiaaGreatDoor
namespace Go.Proofs.YtihbgghlnppkiaaGreatDoor
open Go
namespace LM
end LM
namespace LM
end LM
namespace LM
theorem or_high {x y : Nat} (hx : x < 4294967296) (hy : y < 4294967296) : bits .or .u64 ((x : Int) * 4294967296) (y : Int) = ((x * 4294967296 + y : Nat) : Int):=by
  rw [show ((x : Int) * 4294967296) = ((x * 4294967296 : Nat) : Int) from by simp,bits_or_u64_nat _ _ (by omega) (by omega)]
  congr 1
  have:=Nat.shiftLeft_add_eq_or_of_lt (b:=y) (i:=32) (by omega) x
  rw [Nat.shiftLeft_eq] at this
  exact this.symm
end LM
end Go.Proofs.YtihbgghlnppkiaaGreatDoor
namespace Go.Proofs.YtihbgghlnppkiaaGreatDoor
namespace LM
end LM
namespace LM
end LM
namespace LM
def upd (f : Nat → Nat) (i v : Nat) : Nat → Nat:=fun j=>if j = i then v else f j
theorem upd_same (f : Nat → Nat) (i v : Nat) : upd f i v i = v:=by unfold upd; rw [if_pos rfl]
theorem upd_else (f : Nat → Nat) {i j : Nat} (v : Nat) (h : j ≠ i) : upd f i v j = f j:=by unfold upd; rw [if_neg h]
structure Dec where
  f : Nat → Nat
  nd : Nat
  dp : Int
  neg : Bool
  tr : Bool
def Dig (f : Nat → Nat) (a b : Nat) : Prop:=∀ i,a ≤ i → i < b → 48 ≤ f i∧f i ≤ 57
theorem Dig.sub {f : Nat → Nat} {a b c d : Nat} (h : Dig f a b) (h1 : a ≤ c) (h2 : d ≤ b) : Dig f c d:=fun i hi hj=>h i (by omega) (by omega)
theorem Dig.upd {f : Nat → Nat} {a b i v : Nat} (h : Dig f a b) (h1 : 48 ≤ v) (h2 : v ≤ 57) : Dig (LM.upd f i v) a b:=fun j hj hk=>by
  by_cases e : j = i
  · subst e; rw [upd_same]; exact ⟨h1,h2⟩
  · rw [upd_else f v e]; exact h j hj hk
structure DOk (s : Dec) : Prop where
  pos : 1 ≤ s.nd
  most : s.nd ≤ 800
  lead : 49 ≤ s.f 0
  dig : Dig s.f 0 s.nd
/-! trim -/
def trimN (f : Nat → Nat) : Nat → Nat
  | 0=>0
  | n + 1=>if f n = 48 then trimN f n else n + 1
theorem trimN_le (f : Nat → Nat) : ∀ n,trimN f n ≤ n:=by
  intro n
  induction n with
  | zero=>exact Nat.le_refl _
  | succ n ih=>unfold trimN; split <;> omega
theorem trimN_pos (f : Nat → Nat) (h : f 0 ≠ 48) : ∀ n,1 ≤ n → 1 ≤ trimN f n:=by
  intro n
  induction n with
  | zero=>intro h; omega
  | succ n ih =>
    intro _
    unfold trimN
    split
    · rename_i e
      by_cases e0 : n = 0
      · subst e0; exact absurd e h
      · exact ih (by omega)
    · omega
def trimD (s : Dec) : Dec:={ s with nd:=trimN s.f s.nd,dp:=if trimN s.f s.nd = 0 then 0 else s.dp }
theorem trim_ok {s : Dec} (h : DOk s) : DOk (trimD s)∧(trimD s).dp = s.dp∧(trimD s).f = s.f:=by
  have h1:=trimN_pos s.f (by have:=h.lead; omega) s.nd h.pos
  have h2:=trimN_le s.f s.nd
  refine ⟨⟨h1,Nat.le_trans h2 h.most,h.lead,h.dig.sub (Nat.le_refl _) h2⟩,?_,rfl⟩
  unfold trimD
  show (if trimN s.f s.nd = 0 then 0 else s.dp) = s.dp
  rw [if_neg (by omega)]
/-! to the right -/
def dgt (f : Nat → Nat) (nd r : Nat) : Nat:=if r < nd then f r - 48 else 0
def pick (f : Nat → Nat) (nd K : Nat) : Nat → Nat → Nat → Nat × Nat
  | 0,r,n=>(r,n)
  | q + 1,r,n=>if n < K then pick f nd K q (r + 1) (n * 10 + dgt f nd r) else (r,n)
def PickI (f : Nat → Nat) (nd K q r n : Nat) : Prop:=(r = 0∧n = 0∧1 ≤ q∧K ≤ 10 ^ (q - 1)) ∨ (1 ≤ r∧1 ≤ n∧n < 10 * K∧K ≤ n * 10 ^ q)
theorem PickI.start {f : Nat → Nat} {nd K : Nat} (h : K ≤ 10 ^ 61) : PickI f nd K 62 0 0:=.inl ⟨rfl,rfl,by decide,h⟩
theorem dgt_le {f : Nat → Nat} {nd : Nat} (h : Dig f 0 nd) (r : Nat) : dgt f nd r ≤ 9:=by
  unfold dgt
  split
  · rename_i e
    have:=h r (Nat.zero_le _) e
    omega
  · omega
theorem PickI.pos {f : Nat → Nat} {nd K q r n : Nat} (h : PickI f nd K q r n) (hn : n < K) : 1 ≤ q:=by
  rcases h with ⟨_,_,h,_⟩ | ⟨_,_,_,h⟩
  · exact h
  · rcases Nat.eq_zero_or_pos q with e | e
    · subst e; simp at h; omega
    · exact e
theorem PickI.next {f : Nat → Nat} {nd K q r n : Nat} (h : PickI f nd K (q + 1) r n) (hn : n < K) (hd : Dig f 0 nd) (h0 : 1 ≤ nd) (hl : 49 ≤ f 0) : PickI f nd K q (r + 1) (n * 10 + dgt f nd r):=by
  have hg:=dgt_le hd r
  rcases h with ⟨rfl,rfl,h1,h2⟩ | ⟨h1,h2,h3,h4⟩
  · have e : dgt f nd 0 = f 0 - 48:=by unfold dgt; rw [if_pos (by omega)]
    rw [e] at hg ⊢
    refine .inr ⟨by omega,by omega,by omega,?_⟩
    have h5 : 10 ^ (q + 1 - 1) = 10 ^ q:=by rw [Nat.add_sub_cancel]
    rw [h5] at h2
    refine Nat.le_trans h2 (Nat.le_mul_of_pos_left _ (by omega))
  · refine .inr ⟨by omega,by omega,by omega,?_⟩
    refine Nat.le_trans h4 ?_
    rw [Nat.pow_succ,← Nat.mul_assoc,Nat.mul_comm (n * 10 ^ q) 10,← Nat.mul_assoc,Nat.mul_comm 10 n]
    exact Nat.mul_le_mul_right _ (by omega)
theorem pick_spec {f : Nat → Nat} {nd K : Nat} (hd : Dig f 0 nd) (h0 : 1 ≤ nd) (hl : 49 ≤ f 0) (hK : 0 < K) : ∀ q r n,PickI f nd K q r n →
    K ≤ (pick f nd K q r n).2∧(pick f nd K q r n).2 < 10 * K∧1 ≤ (pick f nd K q r n).1∧r ≤ (pick f nd K q r n).1∧(pick f nd K q r n).1 ≤ r + q:=by
  intro q
  induction q with
  | zero =>
    intro r n h
    rcases h with ⟨_,_,h,_⟩ | ⟨h1,h2,h3,h4⟩
    · omega
    · unfold pick; simp at h4; exact ⟨h4,h3,h1,Nat.le_refl _,by omega⟩
  | succ q ih =>
    intro r n h
    unfold pick
    split
    · rename_i e
      have:=ih _ _ (h.next e hd h0 hl)
      omega
    · rename_i e
      rcases h with ⟨_,h1,_,_⟩ | ⟨h1,h2,h3,h4⟩
      · omega
      · exact ⟨by omega,h3,h1,Nat.le_refl _,by omega⟩
theorem pick_two {f : Nat → Nat} {nd K : Nat} (hd : Dig f 0 nd) (h0 : 1 ≤ nd) (hl : 49 ≤ f 0) (hK : 9 < K) (h61 : K ≤ 10 ^ 61) : 2 ≤ (pick f nd K 62 0 0).1:=by
  have hI:=PickI.start (f:=f) (nd:=nd) h61
  have hg:=dgt_le hd 0
  have h1:=hI.next (by omega) hd h0 hl
  have e1 : pick f nd K 62 0 0 = pick f nd K 61 1 (dgt f nd 0):=by
    rw [pick,if_pos (by omega)]
    simp
  have e2 : pick f nd K 61 1 (dgt f nd 0) = pick f nd K 60 2 (dgt f nd 0 * 10 + dgt f nd 1):=by
    rw [pick,if_pos (by omega)]
  rw [e1,e2]
  have h2:=h1.next (q:=60) (by omega) hd h0 hl
  simp only [Nat.zero_mul,Nat.zero_add] at h2
  exact (pick_spec hd h0 hl (by omega) 60 2 _ h2).2.2.2.1
theorem pick_one {f : Nat → Nat} {nd K : Nat} (hd : Dig f 0 nd) (h0 : 1 ≤ nd) (hl : 49 ≤ f 0) (hK : 0 < K) (h9 : K ≤ 9) : (pick f nd K 62 0 0).1 = 1 → (pick f nd K 62 0 0).2 = f 0 - 48∧K ≤ f 0 - 48:=by
  intro h
  have hg:=dgt_le hd 0
  have h61 : K ≤ 10 ^ 61:=Nat.le_trans h9 (by decide)
  have e0 : dgt f nd 0 = f 0 - 48:=by unfold dgt; rw [if_pos (by omega)]
  have e1 : pick f nd K 62 0 0 = pick f nd K 61 1 (dgt f nd 0):=by
    rw [pick,if_pos (by omega)]
    simp
  have h1:=(PickI.start (f:=f) (nd:=nd) h61).next (q:=61) hK hd h0 hl
  simp only [Nat.zero_mul,Nat.zero_add] at h1
  by_cases hc : dgt f nd 0 < K
  · have e2 : pick f nd K 61 1 (dgt f nd 0) = pick f nd K 60 2 (dgt f nd 0 * 10 + dgt f nd 1):=by
      rw [pick,if_pos hc]
    have h2:=h1.next (q:=60) hc hd h0 hl
    have h3:=(pick_spec hd h0 hl hK 60 2 _ h2).2.2.2.1
    rw [e1,e2] at h
    omega
  · have e2 : pick f nd K 61 1 (dgt f nd 0) = (1,dgt f nd 0):=by
      rw [pick,if_neg hc]
    rw [e1,e2,e0]
    exact ⟨rfl,by omega⟩
def rs2 (K c : Nat) : Nat → (Nat → Nat) → Nat → Nat → (Nat → Nat) × Nat × Nat
  | 0,f,w,n=>(f,w,n)
  | q + 1,f,w,n=>rs2 K c q (upd f w (n / K + 48)) (w + 1) (n % K * 10 + (f (w + c) - 48))
theorem step_lt {n K d : Nat} (hK : 0 < K) (hd : d ≤ 9) : n % K * 10 + d < 10 * K:=by
  have:=Nat.mod_lt n hK
  omega
theorem div_9 {n K : Nat} (hK : 0 < K) (hn : n < 10 * K) : n / K ≤ 9:=by
  have:=(Nat.div_lt_iff_lt_mul hK).2 hn
  omega
theorem rs2_spec (K c : Nat) (hK : 0 < K) (hc : 1 ≤ c) : ∀ q f w n,n < 10 * K → Dig f 0 w → Dig f (w + c) (w + c + q) →
    (rs2 K c q f w n).2.1 = w + q∧(rs2 K c q f w n).2.2 < 10 * K∧Dig (rs2 K c q f w n).1 0 (w + q)∧(∀ i,i < w → (rs2 K c q f w n).1 i = f i)∧(1 ≤ q → (rs2 K c q f w n).1 w = n / K + 48):=by
  intro q
  induction q with
  | zero=>intro f w n hn h1 h2; exact ⟨rfl,hn,h1,fun _ _=>rfl,fun h=>absurd h (by omega)⟩
  | succ q ih =>
    intro f w n hn h1 h2
    unfold rs2
    have hd:=div_9 hK hn
    have hx:=h2 (w + c) (Nat.le_refl _) (by omega)
    have hs:=step_lt (n:=n) (d:=f (w + c) - 48) hK (by omega)
    obtain ⟨d,hdd⟩ : ∃ d,n / K = d:=⟨_,rfl⟩
    rw [hdd] at hd ⊢
    have h3 : Dig (upd f w (d + 48)) 0 (w + 1):=fun i _ hi=>by
      by_cases e : i = w
      · subst e; rw [upd_same]; omega
      · rw [upd_else f _ e]; exact h1 i (Nat.zero_le _) (by omega)
    have h4 : Dig (upd f w (d + 48)) (w + 1 + c) (w + 1 + c + q):=(Dig.upd (h2.sub (by omega) (by omega)) (by omega) (by omega))
    obtain ⟨a1,a2,a3,a4,a5⟩:=ih (upd f w (d + 48)) (w + 1) (n % K * 10 + (f (w + c) - 48)) hs h3 h4
    refine ⟨by rw [a1]; omega,a2,by rw [show w + (q + 1) = w + 1 + q from by omega]; exact a3,fun i hi=>?_,fun _=>?_⟩
    · rw [a4 i (by omega),upd_else f _ (by omega)]
    · rw [a4 w (by omega),upd_same]
def rs3 (K : Nat) : Nat → (Nat → Nat) → Nat → Nat → Bool → (Nat → Nat) × Nat × Bool
  | 0,f,w,n,tr=>(f,w,tr)
  | q + 1,f,w,n,tr=>if n = 0 then (f,w,tr) else if w < 800 then rs3 K q (upd f w (n / K + 48)) (w + 1) (n % K * 10) tr else rs3 K q f w (n % K * 10) (tr || decide (0 < n / K))
def Rs3I (k q n : Nat) : Prop:=n < 10 * 2 ^ k∧(q = k + 2 ∨ (q ≤ k + 1∧∃ m,n = m * 10∧m < 2 ^ k∧2 ^ (k + 1 - q) ∣ m))
theorem Rs3I.pos {k q n : Nat} (h : Rs3I k q n) (hn : n ≠ 0) : 2 ≤ q:=by
  rcases h with ⟨_,rfl | ⟨h1,m,rfl,h2,h3⟩⟩
  · omega
  · by_cases e : 2 ≤ q
    · exact e
    · exfalso
      have h4 : 2 ^ k ∣ m:=Nat.dvd_trans (Nat.pow_dvd_pow 2 (by omega)) h3
      have h5 : m = 0:=Nat.eq_zero_of_dvd_of_lt h4 h2
      subst h5
      exact hn (Nat.zero_mul _)
theorem Rs3I.next {k q n : Nat} (h : Rs3I k (q + 1) n) (hq : 1 ≤ q) : Rs3I k q (n % 2 ^ k * 10):=by
  have hK : 0 < 2 ^ k:=Nat.pow_pos (by decide)
  have hm:=Nat.mod_lt n hK
  refine ⟨by omega,.inr ?_⟩
  rcases h with ⟨_,h1 | ⟨h1,m,rfl,h2,h3⟩⟩
  · refine ⟨by omega,n % 2 ^ k,rfl,hm,?_⟩
    rw [show k + 1 - q = 0 from by omega]
    exact Nat.one_dvd _
  · refine ⟨by omega,m * 10 % 2 ^ k,rfl,hm,?_⟩
    have h4 : 2 ^ (k + 1 - q) ∣ m * 10:=by
      rw [show k + 1 - q = (k + 1 - (q + 1)) + 1 from by omega,Nat.pow_succ]
      exact Nat.mul_dvd_mul h3 (by decide)
    exact (Nat.dvd_mod_iff (Nat.pow_dvd_pow 2 (by omega))).2 h4
theorem rs3_spec (K : Nat) (hK : 0 < K) : ∀ q f w n tr,n < 10 * K → w ≤ 800 → Dig f 0 w →
    w ≤ (rs3 K q f w n tr).2.1∧(rs3 K q f w n tr).2.1 ≤ 800∧Dig (rs3 K q f w n tr).1 0 (rs3 K q f w n tr).2.1∧(∀ i,i < w → (rs3 K q f w n tr).1 i = f i)∧(w < 800 → 1 ≤ q → n ≠ 0 → (rs3 K q f w n tr).1 w = n / K + 48∧w < (rs3 K q f w n tr).2.1):=by
  intro q
  induction q with
  | zero=>intro f w n tr hn hw h1; exact ⟨Nat.le_refl _,hw,h1,fun _ _=>rfl,fun _ h=>absurd h (by omega)⟩
  | succ q ih =>
    intro f w n tr hn hw h1
    unfold rs3
    have hd:=div_9 hK hn
    have hs:=step_lt (n:=n) (d:=0) hK (by omega)
    rw [Nat.add_zero] at hs
    obtain ⟨d,hdd⟩ : ∃ d,n / K = d:=⟨_,rfl⟩
    rw [hdd] at hd ⊢
    split
    · rename_i e
      exact ⟨Nat.le_refl _,hw,h1,fun _ _=>rfl,fun _ _ h=>absurd e h⟩
    · split
      · rename_i e
        have h3 : Dig (upd f w (d + 48)) 0 (w + 1):=fun i _ hi=>by
          by_cases e : i = w
          · subst e; rw [upd_same]; omega
          · rw [upd_else f _ e]; exact h1 i (Nat.zero_le _) (by omega)
        obtain ⟨a1,a2,a3,a4,a5⟩:=ih (upd f w (d + 48)) (w + 1) (n % K * 10) tr hs (by omega) h3
        refine ⟨by omega,a2,a3,fun i hi=>?_,fun _ _ _=>⟨?_,by omega⟩⟩
        · rw [a4 i (by omega),upd_else f _ (by omega)]
        · rw [a4 w (by omega),upd_same]
      · rename_i e
        obtain ⟨a1,a2,a3,a4,a5⟩:=ih f w (n % K * 10) (tr || decide (0 < d)) hs hw h1
        exact ⟨a1,a2,a3,a4,fun h=>absurd h e⟩
def rsD (s : Dec) (k : Nat) : Dec :=
  let p:=pick s.f s.nd (2 ^ k) 62 0 0
  let a:=rs2 (2 ^ k) p.1 (s.nd - p.1) s.f 0 p.2
  let b:=rs3 (2 ^ k) (k + 2) a.1 a.2.1 a.2.2 s.tr
  trimD { f:=b.1,nd:=b.2.1,dp:=s.dp - ((p.1 : Int) - 1),neg:=s.neg,tr:=b.2.2 }
theorem two_61 {k : Nat} (hk : k ≤ 60) : 2 ^ k ≤ 10 ^ 61 :=
  Nat.le_trans (Nat.pow_le_pow_right (by decide) hk) (by decide)
theorem rs_ok {s : Dec} (h : DOk s) {k : Nat} (hk : k ≤ 60) : DOk (rsD s k)∧(rsD s k).dp = s.dp - (((pick s.f s.nd (2 ^ k) 62 0 0).1 : Int) - 1)∧(rsD s k).neg = s.neg∧(rsD s k).f 0 = (pick s.f s.nd (2 ^ k) 62 0 0).2 / 2 ^ k + 48:=by
  have hK : 0 < 2 ^ k:=Nat.pow_pos (by decide)
  obtain ⟨p1,p2,p3,p4,p5⟩:=pick_spec h.dig h.pos h.lead hK 62 0 0 (PickI.start (two_61 hk))
  obtain ⟨p,hp⟩ : ∃ p,pick s.f s.nd (2 ^ k) 62 0 0 = p:=⟨_,rfl⟩
  rw [hp] at p1 p2 p3 p4 p5 ⊢
  obtain ⟨a1,a2,a3,a4,a5⟩:=rs2_spec (2 ^ k) p.1 hK p3 (s.nd - p.1) s.f 0 p.2 p2 (fun i _ hi=>absurd hi (by omega)) (by
    by_cases hc : p.1 ≤ s.nd
    · exact h.dig.sub (by omega) (by omega)
    · exact fun i h1 h2=>by omega)
  obtain ⟨a,ha⟩ : ∃ a,rs2 (2 ^ k) p.1 (s.nd - p.1) s.f 0 p.2 = a:=⟨_,rfl⟩
  rw [ha] at a1 a2 a3 a4 a5
  obtain ⟨b1,b2,b3,b4,b5⟩:=rs3_spec (2 ^ k) hK (k + 2) a.1 a.2.1 a.2.2 s.tr a2 (by have:=h.most; omega) (by rw [a1]; exact a3)
  obtain ⟨b,hb⟩ : ∃ b,rs3 (2 ^ k) (k + 2) a.1 a.2.1 a.2.2 s.tr = b:=⟨_,rfl⟩
  rw [hb] at b1 b2 b3 b4 b5
  have hq1 : 1 ≤ p.2 / 2 ^ k:=(Nat.le_div_iff_mul_le hK).2 (by omega)
  have hq2:=div_9 hK p2
  have hlead : b.1 0 = p.2 / 2 ^ k + 48∧1 ≤ b.2.1:=by
    by_cases hc : 1 ≤ s.nd - p.1
    · have h1:=a5 hc
      have h2:=b4 0 (by omega)
      exact ⟨h2.trans h1,by omega⟩
    · have e0 : s.nd - p.1 = 0:=by omega
      rw [e0] at ha
      have ea : a = (s.f,0,p.2):=by rw [← ha]; rfl
      rw [ea] at b5
      have h1:=b5 (show 0 < 800 by decide) (by omega) (by show p.2 ≠ 0; omega)
      exact h1
  have hrs : rsD s k = trimD { f:=b.1,nd:=b.2.1,dp:=s.dp - ((p.1 : Int) - 1),neg:=s.neg,tr:=b.2.2 }:=by
    unfold rsD
    simp only [hp,ha,hb]
  obtain ⟨t1,t2,t3⟩:=trim_ok (s:={ f:=b.1,nd:=b.2.1,dp:=s.dp - ((p.1 : Int) - 1),neg:=s.neg,tr:=b.2.2 }) ⟨hlead.2,b2,by show 49 ≤ b.1 0; rw [hlead.1]; omega,b3⟩
  rw [hrs]
  exact ⟨t1,t2,rfl,by rw [t3]; exact hlead.1⟩
end LM
namespace LM
/-! numbers of digits -/
def V (f : Nat → Nat) : Nat → Nat
  | 0=>0
  | n + 1=>V f n * 10 + (f n - 48)
def Vr (f : Nat → Nat) : Nat → Nat → Nat
  | _,0=>0
  | i,m + 1=>(f i - 48) * 10 ^ m + Vr f (i + 1) m
theorem V_congr {f g : Nat → Nat} : ∀ n,(∀ i,i < n → f i = g i) → V f n = V g n:=by
  intro n
  induction n with
  | zero=>intro _; rfl
  | succ n ih=>intro h; unfold V; rw [ih fun i hi=>h i (by omega),h n (by omega)]
theorem V_Vr (f : Nat → Nat) : ∀ m i,V f (i + m) = V f i * 10 ^ m + Vr f i m:=by
  intro m
  induction m with
  | zero=>intro i; simp [Vr]
  | succ m ih =>
    intro i
    rw [show i + (m + 1) = (i + 1) + m from by omega,ih (i + 1),show Vr f i (m + 1) = (f i - 48) * 10 ^ m + Vr f (i + 1) m from rfl,show V f (i + 1) = V f i * 10 + (f i - 48) from rfl]
    rw [Nat.add_mul,Nat.pow_succ,Nat.mul_assoc,Nat.mul_comm 10 (10 ^ m),Nat.add_assoc]
theorem Vr_lt {f : Nat → Nat} : ∀ m i,Dig f i (i + m) → Vr f i m < 10 ^ m:=by
  intro m
  induction m with
  | zero=>intro i _; simp [Vr]
  | succ m ih =>
    intro i h
    have h1:=ih (i + 1) (h.sub (by omega) (by omega))
    have h2:=h i (Nat.le_refl _) (by omega)
    unfold Vr
    rw [Nat.pow_succ]
    have h3 : (f i - 48) * 10 ^ m ≤ 9 * 10 ^ m:=Nat.mul_le_mul_right _ (by omega)
    omega
theorem V_eq (f : Nat → Nat) (n : Nat) : V f n = Vr f 0 n:=by
  have:=V_Vr f n 0
  simpa [V] using this
theorem V_lo {f : Nat → Nat} {n : Nat} (h0 : 1 ≤ n) (hl : 49 ≤ f 0) : (f 0 - 48) * 10 ^ (n - 1) ≤ V f n:=by
  obtain ⟨m,rfl⟩ : ∃ m,n = m + 1:=⟨n - 1,by omega⟩
  rw [V_eq]
  unfold Vr
  rw [Nat.add_sub_cancel]
  omega
/-! less by the first digits -/
def pl (f : Nat → Nat) (nd : Nat) (c : Nat → Nat) : Nat → Nat → Bool
  | 0,_=>false
  | q + 1,i=>if nd ≤ i then true else if f i = c i then pl f nd c q (i + 1) else decide (f i < c i)
theorem pl_spec {f c : Nat → Nat} {nd : Nat} : ∀ q i,i ≤ nd → Dig f i nd → Dig c i (i + q) → (1 ≤ q → 49 ≤ c (i + q - 1)) →
    pl f nd c q i = decide (Vr f i (nd - i) * 10 ^ q < Vr c i q * 10 ^ (nd - i)):=by
  intro q
  induction q with
  | zero=>intro i hi h1 h2 h3; unfold pl; simp [Vr]
  | succ q ih =>
    intro i hi h1 h2 h3
    have hlast:=h3 (by omega)
    have hcl:=Vr_lt (q + 1) i h2
    unfold pl
    by_cases e : nd ≤ i
    · rw [if_pos e]
      have e2 : nd - i = 0:=by omega
      rw [e2]
      symm
      simp only [Vr,Nat.zero_mul,Nat.pow_zero,Nat.mul_one,decide_eq_true_eq]
      have : ∀ q i,(1 ≤ q → 49 ≤ c (i + q - 1)) → 1 ≤ q → 0 < Vr c i q:=by
        intro q
        induction q with
        | zero=>intro i _ h; omega
        | succ q ih2 =>
          intro i h _
          unfold Vr
          by_cases eq : q = 0
          · subst eq
            have:=h (by omega)
            simp only [Nat.zero_add,Nat.add_sub_cancel] at this
            simp [Vr]
            omega
          · have:=ih2 (i + 1) (fun _=>by have:=h (by omega); rw [show i + 1 + q - 1 = i + (q + 1) - 1 from by omega]; exact this) (by omega)
            omega
      exact this (q + 1) i h3 (by omega)
    · rw [if_neg e]
      obtain ⟨m,hm⟩ : ∃ m,nd - i = m + 1:=⟨nd - i - 1,by omega⟩
      have hm2 : nd - (i + 1) = m:=by omega
      have hfi:=h1 i (Nat.le_refl _) (by omega)
      have hci:=h2 i (Nat.le_refl _) (by omega)
      have hA:=Vr_lt m (i + 1) (h1.sub (by omega) (by omega))
      have hC:=Vr_lt q (i + 1) (h2.sub (by omega) (by omega))
      have ih1:=ih (i + 1) (by omega) (h1.sub (by omega) (by omega)) (h2.sub (by omega) (by omega)) (fun _=>by rw [show i + 1 + q - 1 = i + (q + 1) - 1 from by omega]; exact hlast)
      rw [hm2] at ih1
      rw [hm]
      have eA : Vr f i (m + 1) = (f i - 48) * 10 ^ m + Vr f (i + 1) m:=rfl
      have eC : Vr c i (q + 1) = (c i - 48) * 10 ^ q + Vr c (i + 1) q:=rfl
      rw [eA,eC]
      obtain ⟨A,hA'⟩ : ∃ A,Vr f (i + 1) m = A:=⟨_,rfl⟩
      obtain ⟨C,hC'⟩ : ∃ C,Vr c (i + 1) q = C:=⟨_,rfl⟩
      obtain ⟨x,hx⟩ : ∃ x,f i - 48 = x:=⟨_,rfl⟩
      obtain ⟨y,hy⟩ : ∃ y,c i - 48 = y:=⟨_,rfl⟩
      obtain ⟨M,hM⟩ : ∃ M,10 ^ m = M:=⟨_,rfl⟩
      obtain ⟨Q,hQ⟩ : ∃ Q,10 ^ q = Q:=⟨_,rfl⟩
      rw [hA',hM] at hA
      rw [hC',hQ] at hC
      rw [hA',hC',hM,hQ] at ih1
      rw [hA',hC',hx,hy,Nat.pow_succ,Nat.pow_succ,hM,hQ]
      have key : ((x * M + A) * (Q * 10) < (y * Q + C) * (M * 10)) ↔ (x * (M * Q) + A * Q < y * (M * Q) + C * M):=by
        have e1 : (x * M + A) * (Q * 10) = (x * (M * Q) + A * Q) * 10:=by rw [← Nat.mul_assoc,Nat.add_mul,Nat.mul_assoc x M Q]
        have e2 : (y * Q + C) * (M * 10) = (y * (M * Q) + C * M) * 10:=by rw [← Nat.mul_assoc,Nat.add_mul,Nat.mul_assoc y Q M,Nat.mul_comm Q M]
        rw [e1,e2]
        omega
      have hAQ : A * Q < M * Q:=Nat.mul_lt_mul_of_pos_right hA (by omega)
      have hCM : C * M < M * Q:=by rw [Nat.mul_comm M Q]; exact Nat.mul_lt_mul_of_pos_right hC (by omega)
      obtain ⟨T,hT⟩ : ∃ T,M * Q = T:=⟨_,rfl⟩
      rw [hT] at key hAQ hCM
      obtain ⟨a,ha⟩ : ∃ a,A * Q = a:=⟨_,rfl⟩
      obtain ⟨b,hb⟩ : ∃ b,C * M = b:=⟨_,rfl⟩
      rw [ha] at key hAQ ih1
      rw [hb] at key hCM ih1
      by_cases ef : f i = c i
      · rw [if_pos ef,ih1]
        have exy : x = y:=by omega
        subst exy
        rw [Bool.eq_iff_iff]
        simp only [decide_eq_true_eq]
        rw [key]
        omega
      · rw [if_neg ef,Bool.eq_iff_iff]
        simp only [decide_eq_true_eq]
        rw [key]
        by_cases hlt : f i < c i
        · have h6 : (x + 1) * T ≤ y * T:=Nat.mul_le_mul_right _ (by omega)
          rw [Nat.add_mul] at h6
          omega
        · have h6 : (y + 1) * T ≤ x * T:=Nat.mul_le_mul_right _ (by omega)
          rw [Nat.add_mul] at h6
          omega
/-! the steps -/
def ls1 (K dl : Nat) : Nat → (Nat → Nat) → Nat → Bool → (Nat → Nat) × Nat × Bool
  | 0,f,n,tr=>(f,n,tr)
  | q + 1,f,n,tr =>
    if q + dl < 800 then ls1 K dl q (upd f (q + dl) ((n + (f q - 48) * K) % 10 + 48)) ((n + (f q - 48) * K) / 10) tr
    else ls1 K dl q f ((n + (f q - 48) * K) / 10) (tr || decide ((n + (f q - 48) * K) % 10 ≠ 0))
def ls2 : Nat → (Nat → Nat) → Nat → (Nat → Nat) × Nat
  | 0,f,n=>(f,n)
  | q + 1,f,n=>if n = 0 then (f,n) else ls2 q (upd f q (n % 10 + 48)) (n / 10)
theorem ls1_lt {K n d : Nat} (hn : n < K) (hd : d ≤ 9) : (n + d * K) / 10 < K:=by
  have : d * K ≤ 9 * K:=Nat.mul_le_mul_right _ hd
  omega
theorem div_step (a d K n P : Nat) : ((a * 10 + d) * K + n) / (P * 10) = (a * K + (n + d * K) / 10) / P:=by
  rw [Nat.mul_comm P 10,← Nat.div_div_eq_div_mul]
  congr 1
  rw [Nat.add_mul,Nat.mul_right_comm,Nat.add_assoc,Nat.add_comm (d * K) n]
  omega
theorem ls1_spec (K dl : Nat) (hK : 0 < K) : ∀ q f n tr,n < K → Dig f 0 q →
    (ls1 K dl q f n tr).2.1 = (V f q * K + n) / 10 ^ q∧(ls1 K dl q f n tr).2.1 < K∧(∀ i,i < dl ∨ q + dl ≤ i → (ls1 K dl q f n tr).1 i = f i)∧(∀ i,dl ≤ i → i < q + dl → i < 800 → 48 ≤ (ls1 K dl q f n tr).1 i∧(ls1 K dl q f n tr).1 i ≤ 57) ∧
    (dl = 0 → 1 ≤ q → (ls1 K dl q f n tr).2.1 = 0 → (f 0 - 48) * K + 48 ≤ (ls1 K dl q f n tr).1 0):=by
  intro q
  induction q with
  | zero=>intro f n tr hn hd; exact ⟨by simp [ls1,V],hn,fun _ _=>rfl,fun i h1 h2=>by omega,fun _ h=>absurd h (by omega)⟩
  | succ q ih =>
    intro f n tr hn hd
    have hfq:=hd q (Nat.zero_le _) (by omega)
    obtain ⟨m,hm⟩ : ∃ m,n + (f q - 48) * K = m:=⟨_,rfl⟩
    have hlt : m / 10 < K:=hm ▸ ls1_lt hn (by omega)
    have hdiv : (V f (q + 1) * K + n) / 10 ^ (q + 1) = (V f q * K + m / 10) / 10 ^ q:=by
      rw [Nat.pow_succ,← hm]
      exact div_step _ _ _ _ _
    unfold ls1
    simp only [hm]
    split
    · rename_i e
      obtain ⟨f',hf'⟩ : ∃ f',upd f (q + dl) (m % 10 + 48) = f':=⟨_,rfl⟩
      have hsame : ∀ i,i ≠ q + dl → f' i = f i:=fun i hi=>by rw [← hf',upd_else f _ hi]
      have hat : f' (q + dl) = m % 10 + 48:=by rw [← hf',upd_same]
      rw [hf']
      obtain ⟨a1,a2,a3,a4,a5⟩:=ih f' (m / 10) tr hlt (fun i h1 h2=>by rw [hsame i (by omega)]; exact hd i h1 (by omega))
      refine ⟨?_,a2,fun i hi=>?_,fun i h1 h2 h3=>?_,fun h1 h2 h3=>?_⟩
      · rw [a1,hdiv,V_congr q fun i hi=>hsame i (by omega)]
      · rw [a3 i (by omega),hsame i (by omega)]
      · by_cases e2 : i = q + dl
        · subst e2
          rw [a3 (q + dl) (by omega),hat]
          omega
        · exact a4 i h1 (by omega) h3
      · subst h1
        by_cases hq : q = 0
        · subst hq
          have e3 : ls1 K 0 0 f' (m / 10) tr = (f',m / 10,tr):=rfl
          rw [e3] at h3 ⊢
          have h4 : m / 10 = 0:=h3
          show _ ≤ f' 0
          rw [show f' 0 = m % 10 + 48 from hat]
          have : (f 0 - 48) * K ≤ m:=by omega
          omega
        · have:=a5 rfl (by omega) h3
          rw [hsame 0 (by omega)] at this
          exact this
    · rename_i e
      obtain ⟨a1,a2,a3,a4,a5⟩:=ih f (m / 10) (tr || decide (m % 10 ≠ 0)) hlt (hd.sub (Nat.le_refl _) (by omega))
      refine ⟨?_,a2,fun i hi=>a3 i (by omega),fun i h1 h2 h3=>a4 i h1 (by omega) h3,fun h1 h2 h3=>?_⟩
      · rw [a1,hdiv]
      · subst h1
        by_cases hq : q = 0
        · subst hq; exact absurd (by omega) e
        · exact a5 rfl (by omega) h3
theorem ls2_spec : ∀ q f n,n < 10 ^ q → (1 ≤ q → 10 ^ (q - 1) ≤ n) →
    (ls2 q f n).2 = 0∧(∀ i,q ≤ i → (ls2 q f n).1 i = f i)∧Dig (ls2 q f n).1 0 q∧(1 ≤ q → 49 ≤ (ls2 q f n).1 0):=by
  intro q
  induction q with
  | zero=>intro f n h1 h2; simp at h1; subst h1; exact ⟨rfl,fun _ _=>rfl,fun i h1 h2=>by omega,fun h=>absurd h (by omega)⟩
  | succ q ih =>
    intro f n h1 h2
    have h3:=h2 (by omega)
    rw [Nat.add_sub_cancel] at h3
    have hp : 0 < 10 ^ q:=Nat.pow_pos (by decide)
    unfold ls2
    rw [if_neg (by omega)]
    rw [Nat.pow_succ] at h1
    have h4 : n / 10 < 10 ^ q:=by omega
    obtain ⟨a1,a2,a3,a4⟩:=ih (upd f q (n % 10 + 48)) (n / 10) h4 (fun hq=>by
      obtain ⟨t,rfl⟩ : ∃ t,q = t + 1:=⟨q - 1,by omega⟩
      rw [Nat.add_sub_cancel]
      rw [Nat.pow_succ] at h3
      omega)
    refine ⟨a1,fun i hi=>?_,fun i h5 h6=>?_,fun _=>?_⟩
    · rw [a2 i (by omega),upd_else f _ (by omega)]
    · by_cases e : i = q
      · subst e
        rw [a2 i (Nat.le_refl _),upd_same]
        omega
      · exact a3 i h5 (by omega)
    · by_cases hq : q = 0
      · subst hq
        rw [a2 0 (Nat.le_refl _),upd_same]
        simp at h1 h3
        omega
      · exact a4 (by omega)
/-! the table -/
def lcRows : List (Nat × List Nat):=[(0,[]),(1,[53]),(1,[50,53]),(1,[49,50,53]),(2,[54,50,53]),(2,[51,49,50,53]),(2,[49,53,54,50,53]),(3,[55,56,49,50,53]),(3,[51,57,48,54,50,53]),(3,[49,57,53,51,49,50,53]),(4,[57,55,54,53,54,50,53]),(4,[52,56,56,50,56,49,50,53]),(4,[50,52,52,49,52,48,54,50,53]),(4,[49,50,50,48,55,48,51,49,50,53]),(5,[54,49,48,51,53,49,53,54,50,53]),(5,[51,48,53,49,55,53,55,56,49,50,53]),(5,[49,53,50,53,56,55,56,57,48,54,50,53]),(6,[55,54,50,57,51,57,52,53,51,49,50,53]),(6,[51,56,49,52,54,57,55,50,54,53,54,50,53]),(6,[49,57,48,55,51,52,56,54,51,50,56,49,50,53]),(7,[57,53,51,54,55,52,51,49,54,52,48,54,50,53]),(7,[52,55,54,56,51,55,49,53,56,50,48,51,49,50,53]),(7,[50,51,56,52,49,56,53,55,57,49,48,49,53,54,50,53]),(7,[49,49,57,50,48,57,50,56,57,53,53,48,55,56,49,50,53]),(8,[53,57,54,48,52,54,52,52,55,55,53,51,57,48,54,50,53]),(8,[50,57,56,48,50,51,50,50,51,56,55,54,57,53,51,49,50,53]),(8,[49,52,57,48,49,49,54,49,49,57,51,56,52,55,54,53,54,50,53]),(9,[55,52,53,48,53,56,48,53,57,54,57,50,51,56,50,56,49,50,53]),(9,[51,55,50,53,50,57,48,50,57,56,52,54,49,57,49,52,48,54,50,53]),(9,[49,56,54,50,54,52,53,49,52,57,50,51,48,57,53,55,48,51,49,50,53]),(10,[57,51,49,51,50,50,53,55,52,54,49,53,52,55,56,53,49,53,54,50,53]),(10,[52,54,53,54,54,49,50,56,55,51,48,55,55,51,57,50,53,55,56,49,50,53]),(10,[50,51,50,56,51,48,54,52,51,54,53,51,56,54,57,54,50,56,57,48,54,50,53]),(10,[49,49,54,52,49,53,51,50,49,56,50,54,57,51,52,56,49,52,52,53,51,49,50,53]),(11,[53,56,50,48,55,54,54,48,57,49,51,52,54,55,52,48,55,50,50,54,53,54,50,53]),(11,[50,57,49,48,51,56,51,48,52,53,54,55,51,51,55,48,51,54,49,51,50,56,49,50,53]),(11,[49,52,53,53,49,57,49,53,50,50,56,51,54,54,56,53,49,56,48,54,54,52,48,54,50,53]),(12,[55,50,55,53,57,53,55,54,49,52,49,56,51,52,50,53,57,48,51,51,50,48,51,49,50,53]),(12,[51,54,51,55,57,55,56,56,48,55,48,57,49,55,49,50,57,53,49,54,54,48,49,53,54,50,53]),(12,[49,56,49,56,57,56,57,52,48,51,53,52,53,56,53,54,52,55,53,56,51,48,48,55,56,49,50,53]),(13,[57,48,57,52,57,52,55,48,49,55,55,50,57,50,56,50,51,55,57,49,53,48,51,57,48,54,50,53]),(13,[52,53,52,55,52,55,51,53,48,56,56,54,52,54,52,49,49,56,57,53,55,53,49,57,53,51,49,50,53]),(13,[50,50,55,51,55,51,54,55,53,52,52,51,50,51,50,48,53,57,52,55,56,55,53,57,55,54,53,54,50,53]),(13,[49,49,51,54,56,54,56,51,55,55,50,49,54,49,54,48,50,57,55,51,57,51,55,57,56,56,50,56,49,50,53]),(14,[53,54,56,52,51,52,49,56,56,54,48,56,48,56,48,49,52,56,54,57,54,56,57,57,52,49,52,48,54,50,53]),(14,[50,56,52,50,49,55,48,57,52,51,48,52,48,52,48,48,55,52,51,52,56,52,52,57,55,48,55,48,51,49,50,53]),(14,[49,52,50,49,48,56,53,52,55,49,53,50,48,50,48,48,51,55,49,55,52,50,50,52,56,53,51,53,49,53,54,50,53]),(15,[55,49,48,53,52,50,55,51,53,55,54,48,49,48,48,49,56,53,56,55,49,49,50,52,50,54,55,53,55,56,49,50,53]),(15,[51,53,53,50,55,49,51,54,55,56,56,48,48,53,48,48,57,50,57,51,53,53,54,50,49,51,51,55,56,57,48,54,50,53]),(15,[49,55,55,54,51,53,54,56,51,57,52,48,48,50,53,48,52,54,52,54,55,55,56,49,48,54,54,56,57,52,53,51,49,50,53]),(16,[56,56,56,49,55,56,52,49,57,55,48,48,49,50,53,50,51,50,51,51,56,57,48,53,51,51,52,52,55,50,54,53,54,50,53]),(16,[52,52,52,48,56,57,50,48,57,56,53,48,48,54,50,54,49,54,49,54,57,52,53,50,54,54,55,50,51,54,51,50,56,49,50,53]),(16,[50,50,50,48,52,52,54,48,52,57,50,53,48,51,49,51,48,56,48,56,52,55,50,54,51,51,51,54,49,56,49,54,52,48,54,50,53]),(16,[49,49,49,48,50,50,51,48,50,52,54,50,53,49,53,54,53,52,48,52,50,51,54,51,49,54,54,56,48,57,48,56,50,48,51,49,50,53]),(17,[53,53,53,49,49,49,53,49,50,51,49,50,53,55,56,50,55,48,50,49,49,56,49,53,56,51,52,48,52,53,52,49,48,49,53,54,50,53]),(17,[50,55,55,53,53,53,55,53,54,49,53,54,50,56,57,49,51,53,49,48,53,57,48,55,57,49,55,48,50,50,55,48,53,48,55,56,49,50,53]),(17,[49,51,56,55,55,55,56,55,56,48,55,56,49,52,52,53,54,55,53,53,50,57,53,51,57,53,56,53,49,49,51,53,50,53,51,57,48,54,50,53]),(18,[54,57,51,56,56,57,51,57,48,51,57,48,55,50,50,56,51,55,55,54,52,55,54,57,55,57,50,53,53,54,55,54,50,54,57,53,51,49,50,53]),(18,[51,52,54,57,52,52,54,57,53,49,57,53,51,54,49,52,49,56,56,56,50,51,56,52,56,57,54,50,55,56,51,56,49,51,52,55,54,53,54,50,53]),(18,[49,55,51,52,55,50,51,52,55,53,57,55,54,56,48,55,48,57,52,52,49,49,57,50,52,52,56,49,51,57,49,57,48,54,55,51,56,50,56,49,50,53]),(19,[56,54,55,51,54,49,55,51,55,57,56,56,52,48,51,53,52,55,50,48,53,57,54,50,50,52,48,54,57,53,57,53,51,51,54,57,49,52,48,54,50,53])]
def lcD (k : Nat) : Nat:=(lcRows[k]?.getD (0,[])).1
def lcL (k : Nat) : Nat:=(lcRows[k]?.getD (0,[])).2.length
def lcC (k i : Nat) : Nat:=(lcRows[k]?.getD (0,[])).2.getD i 0
def lcGood (k : Nat) : Bool :=
  decide (lcL k + lcD k = k + 1) && decide (Vr (lcC k) 0 (lcL k) = 5 ^ k) && decide (1 ≤ lcL k) && decide (lcC k (lcL k - 1) = 53) && ((List.range (lcL k)).all fun i=>decide (48 ≤ lcC k i) && decide (lcC k i ≤ 57)) && decide (2 ^ k < 10 ^ lcD k) && decide (1 ≤ lcD k) && decide (lcD k ≤ 19) && (decide (k ≤ 3) || decide (2 ≤ lcD k))
theorem lc_all : ((List.range 60).all fun k=>lcGood (k + 1)) = true:=by kernel_rfl
structure LcOk (k : Nat) : Prop where
  len : lcL k + lcD k = k + 1
  val : Vr (lcC k) 0 (lcL k) = 5 ^ k
  pos : 1 ≤ lcL k
  last : 49 ≤ lcC k (lcL k - 1)
  dig : Dig (lcC k) 0 (lcL k)
  two : 2 ^ k < 10 ^ lcD k
  lo : 1 ≤ lcD k
  hi : lcD k ≤ 19
  three : k ≤ 3 ∨ 2 ≤ lcD k
theorem lc_ok {k : Nat} (h1 : 1 ≤ k) (h2 : k ≤ 60) : LcOk k:=by
  have h:=List.all_eq_true.1 lc_all (k - 1) (List.mem_range.2 (by omega))
  rw [show k - 1 + 1 = k from by omega] at h
  unfold lcGood at h
  simp only [Bool.and_eq_true,Bool.or_eq_true,decide_eq_true_eq,List.all_eq_true,List.mem_range] at h
  obtain ⟨⟨⟨⟨⟨⟨⟨⟨a1,a2⟩,a3⟩,a4⟩,a5⟩,a6⟩,a7⟩,a8⟩,a9⟩:=h
  exact ⟨a1,a2,a3,by omega,fun i _ hi=>a5 i hi,a6,a7,a8,a9⟩
def lsDl (s : Dec) (k : Nat) : Nat:=if pl s.f s.nd (lcC k) (lcL k) 0 then lcD k - 1 else lcD k
def lsD (s : Dec) (k : Nat) : Dec :=
  let dl:=lsDl s k
  let a:=ls1 (2 ^ k) dl s.nd s.f 0 s.tr
  let b:=ls2 dl a.1 a.2.1
  trimD { f:=b.1,nd:=if 800 ≤ s.nd + dl then 800 else s.nd + dl,dp:=s.dp + dl,neg:=s.neg,tr:=a.2.2 }
theorem ten_five (k : Nat) : 10 ^ k = 5 ^ k * 2 ^ k:=by rw [← Nat.mul_pow]
theorem carry_ok {s : Dec} (h : DOk s) {k : Nat} (h1 : 1 ≤ k) (h2 : k ≤ 60) :
    V s.f s.nd * 2 ^ k / 10 ^ s.nd < 10 ^ lsDl s k∧(1 ≤ lsDl s k → 10 ^ (lsDl s k - 1) ≤ V s.f s.nd * 2 ^ k / 10 ^ s.nd):=by
  have L:=lc_ok h1 h2
  have hV : V s.f s.nd < 10 ^ s.nd:=by rw [V_eq]; exact Vr_lt s.nd 0 (by rw [Nat.zero_add]; exact h.dig)
  have hp:=pl_spec (f:=s.f) (c:=lcC k) (nd:=s.nd) (lcL k) 0 (Nat.zero_le _) h.dig (by rw [Nat.zero_add]; exact L.dig) (fun _=>by rw [Nat.zero_add]; exact L.last)
  rw [Nat.sub_zero,L.val,← V_eq] at hp
  have hlo : 10 ^ (s.nd - 1) ≤ V s.f s.nd:=Nat.le_trans (Nat.le_mul_of_pos_left _ (by have:=h.lead; omega)) (V_lo h.pos h.lead)
  have hN : 0 < 10 ^ s.nd:=Nat.pow_pos (by decide)
  have hT : 0 < 2 ^ k:=Nat.pow_pos (by decide)
  obtain ⟨D,hD⟩ : ∃ D,V s.f s.nd = D:=⟨_,rfl⟩
  rw [hD] at hV hp hlo ⊢
  have hpow : 10 ^ k * 10 = 10 ^ lcL k * 10 ^ lcD k:=by rw [← Nat.pow_succ,← Nat.pow_add,L.len]
  have h10:=ten_five k
  have hiff : (D * 10 ^ lcL k < 5 ^ k * 10 ^ s.nd) ↔ D * 2 ^ k * 10 ^ lcL k < 10 ^ k * 10 ^ s.nd:=by
    rw [h10,Nat.mul_right_comm D,Nat.mul_right_comm (5 ^ k)]
    exact (Nat.mul_lt_mul_right hT).symm
  have hd1 : 10 ^ lcD k = 10 ^ (lcD k - 1) * 10:=by rw [← Nat.pow_succ]; congr 1; have:=L.lo; omega
  have hk10 : 10 ^ k = 10 ^ lcL k * 10 ^ (lcD k - 1):=by
    rw [hd1,← Nat.mul_assoc] at hpow
    omega
  have hLp : 0 < 10 ^ lcL k:=Nat.pow_pos (by decide)
  have hiff2 : (D * 10 ^ lcL k < 5 ^ k * 10 ^ s.nd) ↔ D * 2 ^ k < 10 ^ (lcD k - 1) * 10 ^ s.nd:=by
    have e1 : 10 ^ lcL k * 10 ^ (lcD k - 1) * 10 ^ s.nd = 10 ^ (lcD k - 1) * 10 ^ s.nd * 10 ^ lcL k:=by
      rw [Nat.mul_comm (10 ^ lcL k) (10 ^ (lcD k - 1)),Nat.mul_right_comm]
    rw [hiff,hk10,e1]
    exact Nat.mul_lt_mul_right hLp
  unfold lsDl
  rw [hp]
  by_cases hc : D * 10 ^ lcL k < 5 ^ k * 10 ^ s.nd
  · rw [if_pos (decide_eq_true hc)]
    have hc2:=hiff2.1 hc
    refine ⟨(Nat.div_lt_iff_lt_mul hN).2 hc2,fun hd=>?_⟩
    rw [Nat.le_div_iff_mul_le hN]
    have h5 : 5 ^ k < 10 ^ lcL k:=by
      have:=Vr_lt (lcL k) 0 (by rw [Nat.zero_add]; exact L.dig)
      rw [L.val] at this
      exact this
    have h6 : 10 ^ (lcD k - 1) ≤ 2 ^ k:=by
      have h7 : 5 ^ k * 2 ^ k = 10 ^ lcL k * 10 ^ (lcD k - 1):=by rw [← h10,hk10]
      rcases Nat.lt_or_ge (2 ^ k) (10 ^ (lcD k - 1)) with h8 | h8
      · exfalso
        have h9 : 5 ^ k * 2 ^ k < 10 ^ lcL k * 10 ^ (lcD k - 1):=Nat.mul_lt_mul_of_lt_of_lt h5 h8
        omega
      · exact h8
    have h8 : 10 ^ (lcD k - 1 - 1) * 10 ^ s.nd = 10 ^ (lcD k - 1) * 10 ^ (s.nd - 1):=by
      rw [← Nat.pow_add,← Nat.pow_add]
      congr 1
      have:=h.pos
      omega
    rw [h8,Nat.mul_comm D]
    exact Nat.mul_le_mul h6 hlo
  · rw [if_neg (by simpa using hc)]
    have hc2 : 10 ^ (lcD k - 1) * 10 ^ s.nd ≤ D * 2 ^ k:=Nat.le_of_not_lt fun h=>hc (hiff2.2 h)
    refine ⟨(Nat.div_lt_iff_lt_mul hN).2 ?_,fun _=>(Nat.le_div_iff_mul_le hN).2 hc2⟩
    rw [Nat.mul_comm (10 ^ lcD k)]
    exact Nat.mul_lt_mul_of_lt_of_lt hV L.two
theorem ls_ok {s : Dec} (h : DOk s) {k : Nat} (h1 : 1 ≤ k) (h2 : k ≤ 60) :
    DOk (lsD s k)∧(lsD s k).dp = s.dp + lsDl s k∧(lsD s k).neg = s.neg∧(lsDl s k = 0 → s.f 0 < (lsD s k).f 0)∧(ls1 (2 ^ k) (lsDl s k) s.nd s.f 0 s.tr).2.1 < 10 ^ lsDl s k∧lsDl s k ≤ 19∧(lsDl s k = 0 → k ≤ 3):=by
  have hT : 0 < 2 ^ k:=Nat.pow_pos (by decide)
  have L:=lc_ok h1 h2
  obtain ⟨c1,c2⟩:=carry_ok h h1 h2
  obtain ⟨a1,a2,a3,a4,a5⟩:=ls1_spec (2 ^ k) (lsDl s k) hT s.nd s.f 0 s.tr hT h.dig
  have hdl : lsDl s k ≤ 19:=by unfold lsDl; have:=L.hi; split <;> omega
  have hd0 : lsDl s k = 0 → k ≤ 3:=fun e=>by
    unfold lsDl at e
    have:=L.lo
    rcases L.three with h3 | h3
    · exact h3
    · split at e <;> omega
  obtain ⟨a,ha⟩ : ∃ a,ls1 (2 ^ k) (lsDl s k) s.nd s.f 0 s.tr = a:=⟨_,rfl⟩
  rw [ha] at a1 a2 a3 a4 a5 ⊢
  rw [Nat.add_zero] at a1
  rw [← a1] at c1 c2
  obtain ⟨b1,b2,b3,b4⟩:=ls2_spec (lsDl s k) a.1 a.2.1 c1 c2
  obtain ⟨b,hb⟩ : ∃ b,ls2 (lsDl s k) a.1 a.2.1 = b:=⟨_,rfl⟩
  rw [hb] at b1 b2 b3 b4
  have hls : lsD s k = trimD { f:=b.1,nd:=if 800 ≤ s.nd + lsDl s k then 800 else s.nd + lsDl s k,dp:=s.dp + lsDl s k,neg:=s.neg,tr:=a.2.2 }:=by
    unfold lsD
    simp only [ha,hb]
  have hlead0 : lsDl s k = 0 → (s.f 0 - 48) * 2 ^ k + 48 ≤ b.1 0:=fun e=>by
    rw [b2 0 (by omega)]
    refine a5 e h.pos ?_
    rw [e] at c1
    simp at c1
    exact c1
  have h2k : 2 ≤ 2 ^ k:=by
    have:=Nat.pow_le_pow_right (n:=2) (by decide) h1
    simpa using this
  have hl:=h.lead
  have hlead : 49 ≤ b.1 0:=by
    by_cases e : lsDl s k = 0
    · have h3:=hlead0 e
      have h4 : (s.f 0 - 48) * 2 ≤ (s.f 0 - 48) * 2 ^ k:=Nat.mul_le_mul_left _ h2k
      omega
    · exact b4 (by omega)
  have hnd : (if 800 ≤ s.nd + lsDl s k then 800 else s.nd + lsDl s k) ≤ s.nd + lsDl s k∧(if 800 ≤ s.nd + lsDl s k then 800 else s.nd + lsDl s k) ≤ 800∧1 ≤ (if 800 ≤ s.nd + lsDl s k then 800 else s.nd + lsDl s k):=by
    have:=h.pos
    split <;> omega
  obtain ⟨t1,t2,t3⟩:=trim_ok (s:={ f:=b.1,nd:=if 800 ≤ s.nd + lsDl s k then 800 else s.nd + lsDl s k,dp:=s.dp + lsDl s k,neg:=s.neg,tr:=a.2.2 }) ⟨hnd.2.2,hnd.2.1,hlead,fun i _ hi=>by
    have hi : i < (if 800 ≤ s.nd + lsDl s k then 800 else s.nd + lsDl s k):=hi
    show 48 ≤ b.1 i∧b.1 i ≤ 57
    by_cases hc : i < lsDl s k
    · exact b3 i (Nat.zero_le _) hc
    · rw [b2 i (by omega)]
      exact a4 i (by omega) (by omega) (by omega)⟩
  rw [hls]
  refine ⟨t1,t2,rfl,fun e=>?_,c1,hdl,hd0⟩
  rw [t3]
  have h3:=hlead0 e
  have h4 : (s.f 0 - 48) * 2 ≤ (s.f 0 - 48) * 2 ^ k:=Nat.mul_le_mul_left _ h2k
  show s.f 0 < b.1 0
  omega
end LM
namespace LM
def shA (d : Nat) : Nat:=if 9 ≤ d then 27 else [1,3,6,9,13,16,19,23,26].getD d 0
theorem shA_bd (d : Nat) : 1 ≤ shA d∧shA d ≤ 27:=by
  unfold shA
  split
  · omega
  · obtain rfl | rfl | rfl | rfl | rfl | rfl | rfl | rfl | rfl : d = 0 ∨ d = 1 ∨ d = 2 ∨ d = 3 ∨ d = 4 ∨ d = 5 ∨ d = 6 ∨ d = 7 ∨ d = 8:=by omega
    all_goals decide
theorem shA_four {d : Nat} (h : 2 ≤ d) : 4 ≤ shA d:=by
  unfold shA
  split
  · omega
  · obtain rfl | rfl | rfl | rfl | rfl | rfl | rfl : d = 2 ∨ d = 3 ∨ d = 4 ∨ d = 5 ∨ d = 6 ∨ d = 7 ∨ d = 8:=by omega
    all_goals decide
def mA (s : Dec) : Nat:=2 * s.dp.toNat + (if 56 ≤ s.f 0 then 1 else 0)
theorem rs_down {s : Dec} (h : DOk s) (h0 : 0 < s.dp) : mA (rsD s (shA s.dp.toNat)) < mA s∧(rsD s (shA s.dp.toNat)).dp ≤ s.dp:=by
  obtain ⟨b1,b2⟩:=shA_bd s.dp.toNat
  obtain ⟨o1,o2,o3,o4⟩:=rs_ok h (k:=shA s.dp.toNat) (by omega)
  have hsp:=pick_spec h.dig h.pos h.lead (K:=2 ^ shA s.dp.toNat) (Nat.pow_pos (by decide)) 62 0 0 (PickI.start (two_61 (by omega)))
  obtain ⟨p,hp⟩ : ∃ p,pick s.f s.nd (2 ^ shA s.dp.toNat) 62 0 0 = p:=⟨_,rfl⟩
  rw [hp] at o2 o4 hsp
  have key : ∀ t : Dec,t.dp = s.dp - ((p.1 : Int) - 1) → 2 ≤ p.1 → mA t < mA s:=fun t h1 h2=>by
    unfold mA
    have h3 : (if 56 ≤ t.f 0 then 1 else 0) ≤ 1:=by split <;> omega
    omega
  refine ⟨?_,by omega⟩
  by_cases hd : 2 ≤ s.dp.toNat
  · have h4:=shA_four hd
    have h16 : 9 < 2 ^ shA s.dp.toNat:=by
      have:=Nat.pow_le_pow_right (n:=2) (by decide) h4
      omega
    have h2:=pick_two h.dig h.pos h.lead h16 (two_61 (by omega))
    rw [hp] at h2
    exact key _ o2 h2
  · have hd1 : s.dp.toNat = 1:=by omega
    by_cases hp2 : 2 ≤ p.1
    · exact key _ o2 hp2
    · have h8 : 2 ^ shA s.dp.toNat = 8:=by rw [hd1]; decide
      have h1:=pick_one h.dig h.pos h.lead (K:=2 ^ shA s.dp.toNat) (by omega) (by omega) (by rw [hp]; omega)
      rw [hp,h8] at h1
      rw [h8] at o4
      have hf:=h.dig 0 (Nat.le_refl _) h.pos
      obtain ⟨t,ht⟩ : ∃ t,rsD s (shA s.dp.toNat) = t:=⟨_,rfl⟩
      rw [ht] at o2 o4 ⊢
      have e1 : t.dp.toNat = 1:=by omega
      have e2 : ¬ 56 ≤ t.f 0:=by omega
      have e3 : 56 ≤ s.f 0:=by omega
      unfold mA
      rw [e1,hd1,if_neg e2,if_pos e3]
      omega
def mB (s : Dec) : Nat:=10 * (-s.dp).toNat + (57 - s.f 0)
def below (s : Dec) : Bool:=decide (s.dp < 0) || (decide (s.dp = 0) && decide (s.f 0 < 53))
theorem dl_one {s : Dec} (h : DOk s) (h1 : s.f 0 < 53) : lsDl s 1 = 0:=by
  have e : pl s.f s.nd (lcC 1) (lcL 1) 0 = true:=by
    rw [show lcL 1 = 1 from by decide]
    unfold pl
    have hc : lcC 1 0 = 53:=by decide
    have:=h.pos
    rw [if_neg (by omega),hc,if_neg (by omega)]
    exact decide_eq_true h1
  unfold lsDl
  rw [e,if_pos rfl]
  decide
theorem ls_up {s : Dec} (h : DOk s) (h0 : below s = true) : mB (lsD s (shA (-s.dp).toNat)) < mB s:=by
  obtain ⟨b1,b2⟩:=shA_bd (-s.dp).toNat
  obtain ⟨o1,o2,o3,o4,-,-,-⟩:=ls_ok h (k:=shA (-s.dp).toNat) b1 (by omega)
  have hf:=h.dig 0 (Nat.le_refl _) h.pos
  have hg:=o1.dig 0 (Nat.le_refl _) o1.pos
  have hl:=o1.lead
  obtain ⟨t,ht⟩ : ∃ t,lsD s (shA (-s.dp).toNat) = t:=⟨_,rfl⟩
  rw [ht] at o1 o2 o4 hg hl ⊢
  unfold below at h0
  simp only [Bool.or_eq_true,Bool.and_eq_true,decide_eq_true_eq] at h0
  unfold mB
  by_cases hd : lsDl s (shA (-s.dp).toNat) = 0
  · have:=o4 hd
    rw [hd] at o2
    have e : t.dp = s.dp:=by omega
    rw [e]
    omega
  · rcases h0 with h0 | ⟨h0,h1⟩
    · omega
    · have e : (-s.dp).toNat = 0:=by omega
      rw [e] at hd
      exact absurd (dl_one h h1) hd
def fbA : Nat → Dec → Int → Dec × Int
  | 0,s,e=>(s,e)
  | q + 1,s,e=>if 0 < s.dp then fbA q (rsD s (shA s.dp.toNat)) (e + shA s.dp.toNat) else (s,e)
theorem fbA_stop (q : Nat) {s : Dec} (e : Int) (h : ¬ 0 < s.dp) : fbA q s e = (s,e):=by
  cases q with
  | zero=>rfl
  | succ q=>unfold fbA; rw [if_neg h]
def fbB : Nat → Dec → Int → Dec × Int
  | 0,s,e=>(s,e)
  | q + 1,s,e=>if below s then fbB q (lsD s (shA (-s.dp).toNat)) (e - shA (-s.dp).toNat) else (s,e)
theorem fbB_stop (q : Nat) {s : Dec} (e : Int) (h : below s = false) : fbB q s e = (s,e):=by
  cases q with
  | zero=>rfl
  | succ q=>unfold fbB; rw [h]; rfl
def shR : Nat → Dec → Nat → Dec
  | 0,s,n=>rsD s n
  | q + 1,s,n=>if 60 < n then shR q (rsD s 60) (n - 60) else rsD s n
theorem shR_stop (q : Nat) (s : Dec) {n : Nat} (h : n ≤ 60) : shR q s n = rsD s n:=by
  cases q with
  | zero=>rfl
  | succ q=>unfold shR; rw [if_neg (by omega)]
theorem shR_ok : ∀ q s n,DOk s → n ≤ 60 * (q + 1) → DOk (shR q s n):=by
  intro q
  induction q with
  | zero=>intro s n h hn; exact (rs_ok h (by omega)).1
  | succ q ih =>
    intro s n h hn
    unfold shR
    split
    · exact ih _ _ (rs_ok h (by decide)).1 (by omega)
    · exact (rs_ok h (by omega)).1
def riN (f : Nat → Nat) (nd : Nat) : Nat → Nat
  | 0=>0
  | j + 1=>(riN f nd j * 10 + dgt f nd j) % 18446744073709551616
theorem riN_lt (f : Nat → Nat) (nd : Nat) : ∀ j,riN f nd j < 18446744073709551616:=by
  intro j
  cases j with
  | zero=>unfold riN; decide
  | succ j=>exact Nat.mod_lt _ (by decide)
def sruB (s : Dec) (n : Int) : Bool :=
  if n < 0 ∨ (s.nd : Int) ≤ n then false
  else if s.f n.toNat = 53∧n.toNat + 1 = s.nd then (if s.tr then true else decide (0 < n) && decide ((s.f (n.toNat - 1) - 48) % 2 ≠ 0))
  else decide (53 ≤ s.f n.toNat)
def riD (s : Dec) : Nat :=
  if 20 < s.dp then 18446744073709551615
  else if sruB s s.dp then (riN s.f s.nd s.dp.toNat + 1) % 18446744073709551616 else riN s.f s.nd s.dp.toNat
end LM
namespace LM
def dgc (c : Nat) : Prop:=48 ≤ c∧c ≤ 57
structure NumQ (B : Nat → Nat) (z a m b : Nat) : Prop where
  a1 : a ≤ 1
  am : a < m
  mz : m ≤ z
  sig : a = 1 → B 0 = 43 ∨ B 0 = 45
  sig0 : a = 0 → dgc (B 0) ∨ B 0 = 46
  man : ∀ i,a ≤ i → i < m → dgc (B i) ∨ B i = 46
  one : ∀ i j,a ≤ i → i < j → j < m → B i = 46 → dgc (B j)
  dig : ∃ i,a ≤ i∧i < m∧dgc (B i)
  ex : m = z ∨ ((B m = 101 ∨ B m = 69)∧((b = m + 1∧dgc (B (m + 1))) ∨ (b = m + 2∧(B (m + 1) = 43 ∨ B (m + 1) = 45)))∧b < z∧z ≤ b + 4∧∀ i,b ≤ i → i < z → dgc (B i))
structure RF where
  mant : Nat
  nd : Nat
  ndm : Nat
  dp : Int
  dot : Bool
  dig : Bool
  tr : Bool
def rfStep (s : RF) (c : Nat) : RF :=
  if c = 46 then { s with dot:=true,dp:=s.nd }
  else if c = 48∧s.nd = 0 then { s with dig:=true,dp:=s.dp - 1 }
  else if s.ndm < 19 then { s with dig:=true,nd:=s.nd + 1,ndm:=s.ndm + 1,mant:=s.mant * 10 + (c - 48) }
  else { s with dig:=true,nd:=s.nd + 1,tr:=s.tr || decide (c ≠ 48) }
def rfN (B : Nat → Nat) (a : Nat) : Nat → RF
  | 0=>⟨0,0,0,0,false,false,false⟩
  | j + 1=>rfStep (rfN B a j) (B (a + j))
structure RfOk (s : RF) (j : Nat) : Prop where
  mant : s.mant < 10 ^ s.ndm
  ndm : s.ndm ≤ 19
  le : s.ndm ≤ s.nd
  nd : s.nd ≤ j
  lo : -(j : Int) ≤ s.dp
  hi : s.dp ≤ j
  nz : s.nd = 0 → s.mant = 0∧s.ndm = 0
  pos : 1 ≤ s.nd → 1 ≤ s.mant
theorem RfOk.step {s : RF} {j c : Nat} (h : RfOk s j) (hc : dgc c ∨ c = 46) : RfOk (rfStep s c) (j + 1):=by
  obtain ⟨h1,h2,h3,h4,h5,h6,h7,h8⟩:=h
  unfold rfStep dgc at *
  split
  · exact ⟨h1,h2,h3,by show s.nd ≤ _; omega,by show _ ≤ (s.nd : Int); omega,by show (s.nd : Int) ≤ _; omega,h7,h8⟩
  · split
    · exact ⟨h1,h2,h3,by show s.nd ≤ _; omega,by show _ ≤ s.dp - 1; omega,by show s.dp - 1 ≤ _; omega,h7,h8⟩
    · split
      · rename_i e1 e2 e3
        refine ⟨?_,by show s.ndm + 1 ≤ _; omega,by show s.ndm + 1 ≤ s.nd + 1; omega,by show s.nd + 1 ≤ _; omega,by show _ ≤ s.dp; omega,by show s.dp ≤ _; omega,fun h=>by have h : s.nd + 1 = 0:=h; omega,fun _=>?_⟩
        · show s.mant * 10 + (c - 48) < 10 ^ (s.ndm + 1)
          rw [Nat.pow_succ]
          omega
        · show 1 ≤ s.mant * 10 + (c - 48)
          by_cases e : s.nd = 0
          · omega
          · have:=h8 (by omega)
            omega
      · rename_i e1 e2 e3
        exact ⟨h1,h2,by show s.ndm ≤ s.nd + 1; omega,by show s.nd + 1 ≤ _; omega,by show _ ≤ s.dp; omega,by show s.dp ≤ _; omega,fun h=>by have h : s.nd + 1 = 0:=h; omega,fun _=>by
          show 1 ≤ s.mant
          exact h8 (by omega)⟩
theorem rfN_ok {B : Nat → Nat} {z a m b : Nat} (h : NumQ B z a m b) : ∀ j,a + j ≤ m → RfOk (rfN B a j) j:=by
  intro j
  induction j with
  | zero =>
    intro _
    show RfOk ⟨0,0,0,0,false,false,false⟩ 0
    exact ⟨by decide,by decide,by decide,by decide,by decide,by decide,fun _=>⟨rfl,rfl⟩,fun h=>absurd h (by decide)⟩
  | succ j ih=>intro hj; exact (ih (by omega)).step (h.man _ (by omega) (by omega))
theorem rfN_dot {B : Nat → Nat} (a : Nat) : ∀ j,(∀ i,i < j → B (a + i) ≠ 46) → (rfN B a j).dot = false:=by
  intro j
  induction j with
  | zero=>intro _; rfl
  | succ j ih =>
    intro h
    have h1:=ih fun i hi=>h i (by omega)
    have h2:=h j (by omega)
    unfold rfN rfStep
    rw [if_neg h2]
    split
    · exact h1
    · split <;> exact h1
theorem NumQ.nodot {B : Nat → Nat} {z a m b : Nat} (h : NumQ B z a m b) (j : Nat) (hj : a + j < m) (he : B (a + j) = 46) : (rfN B a j).dot = false :=
  rfN_dot a j fun i hi hb=>by
    have:=h.one (a + i) (a + j) (by omega) (by omega) hj hb
    unfold dgc at this
    omega
theorem rfN_dig {B : Nat → Nat} (a : Nat) : ∀ j,(∃ i,i < j∧dgc (B (a + i))) → (rfN B a j).dig = true:=by
  intro j
  induction j with
  | zero=>rintro ⟨i,hi,_⟩; omega
  | succ j ih =>
    rintro ⟨i,hi,hd⟩
    unfold rfN rfStep
    split
    · rename_i e
      by_cases hij : i = j
      · subst hij; unfold dgc at hd; omega
      · exact ih ⟨i,by omega,hd⟩
    · split
      · rfl
      · split <;> rfl
theorem NumQ.some {B : Nat → Nat} {z a m b : Nat} (h : NumQ B z a m b) : (rfN B a (m - a)).dig = true:=by
  obtain ⟨i,h1,h2,h3⟩:=h.dig
  exact rfN_dig a _ ⟨i - a,by omega,by rw [show a + (i - a) = i from by omega]; exact h3⟩
def exN (B : Nat → Nat) (b : Nat) : Nat → Nat
  | 0=>0
  | j + 1=>exN B b j * 10 + (B (b + j) - 48)
theorem exN_lt {B : Nat → Nat} {b : Nat} : ∀ j,(∀ i,i < j → dgc (B (b + i))) → exN B b j < 10 ^ j:=by
  intro j
  induction j with
  | zero=>intro _; exact Nat.one_pos
  | succ j ih =>
    intro h
    have h1:=ih fun i hi=>h i (by omega)
    have h2:=h j (by omega)
    unfold dgc at h2
    unfold exN
    rw [Nat.pow_succ]
    omega
theorem NumQ.exs {B : Nat → Nat} {z a m b : Nat} (h : NumQ B z a m b) (hm : m ≠ z) (j : Nat) (hj : b + j < z) : exN B b j ≤ 999∧exN B b (j + 1) ≤ 9999:=by
  rcases h.ex with e | ⟨_,_,h1,h2,h3⟩
  · exact absurd e hm
  · have h4:=exN_lt (B:=B) (b:=b) j fun i hi=>h3 _ (by omega) (by omega)
    have h5:=exN_lt (B:=B) (b:=b) (j + 1) fun i hi=>h3 _ (by omega) (by omega)
    have h6 : 10 ^ j ≤ 10 ^ 3:=Nat.pow_le_pow_right (by decide) (by omega)
    have h7 : 10 ^ (j + 1) ≤ 10 ^ 4:=Nat.pow_le_pow_right (by decide) (by omega)
    omega
def exZ (B : Nat → Nat) (z m b : Nat) : Int:=if m = z then 0 else if B (m + 1) = 45 then -((exN B b (z - b) : Nat) : Int) else ((exN B b (z - b) : Nat) : Int)
theorem NumQ.exz {B : Nat → Nat} {z a m b : Nat} (h : NumQ B z a m b) : -9999 ≤ exZ B z m b∧exZ B z m b ≤ 9999:=by
  unfold exZ
  split
  · omega
  · rename_i e
    have hb : b < z:=by
      rcases h.ex with e2 | ⟨_,_,h1,_⟩
      · exact absurd e2 e
      · exact h1
    have:=(h.exs e (z - b - 1) (by omega)).2
    rw [show z - b - 1 + 1 = z - b from by omega] at this
    split <;> omega
def rfDp (B : Nat → Nat) (z a m b : Nat) : Int:=(if (rfN B a (m - a)).dot then (rfN B a (m - a)).dp else ((rfN B a (m - a)).nd : Int)) + exZ B z m b
def rfEx (B : Nat → Nat) (z a m b : Nat) : Int:=if (rfN B a (m - a)).mant = 0 then 0 else rfDp B z a m b - ((rfN B a (m - a)).ndm : Int)
/-! the same digits,as a decimal -/
structure ST where
  d : Dec
  dot : Bool
  dig : Bool
def stStep (s : ST) (c : Nat) : ST :=
  if c = 46 then { s with dot:=true,d:={ s.d with dp:=s.d.nd } }
  else if c = 48∧s.d.nd = 0 then { s with dig:=true,d:={ s.d with dp:=s.d.dp - 1 } }
  else { s with dig:=true,d:={ s.d with f:=upd s.d.f s.d.nd c,nd:=s.d.nd + 1 } }
def stN (B : Nat → Nat) (neg : Bool) (a : Nat) : Nat → ST
  | 0=>⟨⟨fun _=>0,0,0,neg,false⟩,false,false⟩
  | j + 1=>stStep (stN B neg a j) (B (a + j))
structure StOk (s : ST) (r : RF) (j : Nat) : Prop where
  nd : s.d.nd = r.nd
  dp : s.d.dp = r.dp
  dot : s.dot = r.dot
  di : s.dig = r.dig
  le : s.d.nd ≤ j
  tr : s.d.tr = false
  lead : 1 ≤ s.d.nd → 49 ≤ s.d.f 0
  dig : Dig s.d.f 0 s.d.nd
theorem StOk.step {s : ST} {r : RF} {j c : Nat} (h : StOk s r j) (hc : dgc c ∨ c = 46) : StOk (stStep s c) (rfStep r c) (j + 1):=by
  obtain ⟨h1,h2,h3,h4,h5,h6,h7,h8⟩:=h
  unfold stStep rfStep dgc at *
  by_cases e : c = 46
  · rw [if_pos e,if_pos e]
    exact ⟨h1,by show (s.d.nd : Int) = r.nd; omega,rfl,h4,by show s.d.nd ≤ _; omega,h6,h7,h8⟩
  · rw [if_neg e,if_neg e]
    by_cases e2 : c = 48∧r.nd = 0
    · rw [if_pos (by rw [h1]; exact e2),if_pos e2]
      exact ⟨h1,by show s.d.dp - 1 = r.dp - 1; omega,h3,rfl,by show s.d.nd ≤ _; omega,h6,h7,h8⟩
    · rw [if_neg (by rw [h1]; exact e2),if_neg e2]
      have hD : Dig (upd s.d.f s.d.nd c) 0 (s.d.nd + 1):=fun i _ hi=>by
        by_cases e3 : i = s.d.nd
        · subst e3; rw [upd_same]; omega
        · rw [upd_else _ _ e3]; exact h8 i (Nat.zero_le _) (by omega)
      have hL : 49 ≤ upd s.d.f s.d.nd c 0:=by
        by_cases e3 : s.d.nd = 0
        · rw [e3,upd_same]; omega
        · rw [upd_else _ _ (by omega)]; exact h7 (by omega)
      split
      · exact ⟨by show s.d.nd + 1 = r.nd + 1; omega,h2,h3,rfl,by show s.d.nd + 1 ≤ _; omega,h6,fun _=>hL,hD⟩
      · exact ⟨by show s.d.nd + 1 = r.nd + 1; omega,h2,h3,rfl,by show s.d.nd + 1 ≤ _; omega,h6,fun _=>hL,hD⟩
theorem stN_ok {B : Nat → Nat} {z a m b : Nat} (h : NumQ B z a m b) (neg : Bool) : ∀ j,a + j ≤ m → StOk (stN B neg a j) (rfN B a j) j:=by
  intro j
  induction j with
  | zero=>intro _; exact ⟨rfl,rfl,rfl,rfl,Nat.le_refl _,rfl,fun h=>absurd h (by show ¬ 1 ≤ 0; decide),fun i _ h=>absurd h (by show ¬ i < 0; omega)⟩
  | succ j ih=>intro hj; exact (ih (by omega)).step (h.man _ (by omega) (by omega))
def setD (B : Nat → Nat) (neg : Bool) (z a m b : Nat) : Dec:={ (stN B neg a (m - a)).d with dp:=rfDp B z a m b }
theorem setD_ok {B : Nat → Nat} {z a m b : Nat} (h : NumQ B z a m b) (neg : Bool) (hz : z ≤ 800) (hn : (rfN B a (m - a)).mant ≠ 0) : DOk (setD B neg z a m b):=by
  have h1:=stN_ok h neg (m - a) (by have:=h.am; omega)
  have h2:=rfN_ok h (m - a) (by have:=h.am; omega)
  have h3:=h.mz
  have hp : 1 ≤ (stN B neg a (m - a)).d.nd:=by
    rw [h1.nd]
    rcases Nat.eq_zero_or_pos (rfN B a (m - a)).nd with e | e
    · exact absurd (h2.nz e).1 hn
    · exact e
  exact ⟨hp,by show (stN B neg a (m - a)).d.nd ≤ 800; have:=h1.le; omega,h1.lead hp,h1.dig⟩
end LM
end Go.Proofs.YtihbgghlnppkiaaGreatDoor
