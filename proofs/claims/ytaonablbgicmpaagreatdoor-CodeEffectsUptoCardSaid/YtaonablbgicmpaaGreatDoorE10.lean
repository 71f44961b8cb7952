import Derived.Sort.AtCallIn
import Derived.Lib.BitFns
import Derived.Test.YtaonablbgicmpaaGreatDoorE07
import Derived.Test.YtaonablbgicmpaaGreatDoorE01
import Derived.Test.YtaonablbgicmpaaGreatDoorE09
import Derived.Test.YtaonablbgicmpaaGreatDoorE04
import Derived.Test.YtaonablbgicmpaaGreatDoorE06
import Derived.Test.YtaonablbgicmpaaGreatDoorE05
import Derived.Test.YtaonablbgicmpaaGreatDoorE12
import Derived.Test.YtaonablbgicmpaaGreatDoorE13
import Derived.Test.YtaonablbgicmpaaGreatDoorE11
import Derived.Lib.AtoiErrMem
set_option linter.unusedVariables false
set_option linter.unusedSimpArgs false
set_option maxRecDepth 100000
set_option maxHeartbeats 16000000
namespace Go.Proofs.YtaonablbgicmpaaGreatDoor
open Go.RowKit Go.Shelf
attribute [local go_sem] Oper.semAt_some
namespace LM
attribute [local go_sem] round_fn wide_fn
theorem lead (y : Nat) (h0 : 0 < y) (h : y < 4294967296) : ∃ s : Nat,s < 32∧32 - (Lib.bitLen y : Int) = (s : Int)∧y * 2 ^ s < 4294967296:=by
 have h1:=Nat.log2_self_le (n:=y) (by omega)
 have h2:=Nat.lt_log2_self (n:=y)
 have hk : y.log2 < 32:=by
  rcases Nat.lt_or_ge y.log2 32 with h3 | h3
  ·exact h3
  ·have:=Nat.pow_le_pow_right (n:=2) (by decide) h3; omega
 have e : y / 2 ^ y.log2 = 1:=by
  apply Nat.div_eq_of_lt_le
  ·omega
  ·rw [Nat.pow_succ] at h2; omega
 have hb:=Lib.bitLen_shift y.log2 y h1 (by omega)
 rw [e] at hb
 have h5 : Lib.bitLen 1 = 1:=by decide
 rw [h5] at hb
 refine ⟨31 - y.log2,by omega,by rw [hb]; omega,?_⟩
 have h6:=Nat.mul_lt_mul_of_pos_right h2 (show 0 < 2 ^ (31 - y.log2) from Nat.pow_pos (by decide))
 rw [← Nat.pow_add,show y.log2 + 1 + (31 - y.log2) = 32 from by omega] at h6
 exact h6
end LM
attribute [local go_sem] Oper.semAt_some
namespace LM
attribute [local go_sem] round_fn wide_fn
theorem tab_below {P : Program} {w w' : World} {name : String} {k : IntKind} {zs : List Int} (h : Lib.TabIs P w name k zs) (hb : Below w.heap.size w w') : Lib.TabIs P w' name k zs:=by
 unfold Lib.TabIs World.var? at *
 cases hg : P.globalNamed name with
 | none=>simp [hg] at h
 | some g =>
  simp only [hg,Option.bind_some] at h ⊢
  rcases Nat.lt_or_ge g w.heap.size with hl | hl
  ·rw [hb.block g hl]; exact h
  ·rw [Array.getElem?_eq_none hl] at h; simp at h
theorem builderAt_kept {T e : TypeId} {B b : Nat} {p : Value} {bs : List Value} {W W' : World} {row : Option Nat} (h : Lib.BuilderAtF T e B b p bs W) (hg : W.grownBy W' row) (hr : ∀ r,row = some r → ∃ o : Obj,W.heap[r]? = some o∧o.isCells = false) : Lib.BuilderAtF T e B b p bs W':=by
 obtain ⟨hB,v,hv,hown,hne⟩:=h
 refine ⟨hB,v,heap_kept hv hg hr,hown.kept hg ?_,hne⟩
 rcases hown.2 with ⟨rfl,_⟩ | ⟨g,cap,cur,fz,rfl,_,hgc,_⟩
 ·exact .inl rfl
 ·refine .inr fun e2=>?_
  obtain ⟨o,ho,hc⟩:=hr g e2.symm
  rw [hgc] at ho; injection ho with ho; subst ho; cases hc
theorem builder_kept {T e : TypeId} {B b : Nat} {bs : List Value} {W W' : World} {row : Option Nat} (h : Lib.IsBuilderF T e B b bs W) (hg : W.grownBy W' row) (hr : ∀ r,row = some r → ∃ o : Obj,W.heap[r]? = some o∧o.isCells = false) : Lib.IsBuilderF T e B b bs W' :=
 h.elim (fun x=>.inl (builderAt_kept x hg hr)) (fun x=>.inr (builderAt_kept x hg hr))
theorem builder_below {T e : TypeId} {B b : Nat} {bs : List Value} {W W' : World} (h : Lib.IsBuilderF T e B b bs W) (hb : Below W.heap.size W W') : Lib.IsBuilderF T e B b bs W' :=
 builder_kept (row:=none) h ⟨hb.os,hb.tape,hb.output,hb.size,fun k hk _=>hb.block k hk⟩ (fun r e=>by cases e)
theorem keeps8_below {B : Nat} {W W' : World} (h : Below W.heap.size W W') : Keeps8 B W W':=⟨h.size,fun k _ _ hk _=>(h.block k (Array.getElem?_eq_some_iff.1 hk).1).trans hk⟩
theorem keeps8_others {B b : Nat} {W W' : World} (h : Lib.OthersKept 5 (some b) W W') (hs : W.heap.size ≤ W'.heap.size) (hb : b < B) : Keeps8 B W W' :=
 ⟨hs,fun k o hB hk ho=>h k o hk (fun e=>by injection e with e; omega) (fun c fz e=>by subst e; cases ho)⟩
def TextE (n : Nat) (e : Ending) : Prop:=∃ l : List UInt8,e = .returned (.string ⟨l.toArray⟩)∧((BIG n∧l = []) ∨ (¬ BIG n∧l = Lib.decDigits n))
end LM
end Go.Proofs.YtaonablbgicmpaaGreatDoor
namespace Go.Proofs.YtaonablbgicmpaaGreatDoor
open Go.RowKit
namespace LM
theorem dec_first (u : Nat) (hu : 0 < u) : ∃ c r,Lib.decDigits u = c :: r∧c ≠ 48:=by
 induction u using Nat.strongRecOn with
 | ind u ih =>
  by_cases h : u < 10
  ·rw [Lib.decDigits_one h]
   refine ⟨_,[],rfl,fun e=>?_⟩
   have e1 : (UInt8.ofNat (48 + u)).toNat = 48 + u:=by simp; omega
   rw [e] at e1
   have e2 : (48 : UInt8).toNat = 48:=rfl
   omega
  ·rw [dec_big h]
   obtain ⟨c,r,e,hc⟩:=ih (u / 10) (by omega) (by omega)
   rw [e]
   exact ⟨c,r ++ [_],rfl,hc⟩
theorem pow_fits : (4294967296 : Nat) ^ 64 ≤ 10 ^ (616 + 1):=of_decide_eq_true (by kernel_rfl)
theorem dec_fits {u : Nat} (h : ¬ BIG u) : 1 ≤ (Lib.decDigits u).length∧(Lib.decDigits u).length ≤ 617:=by
 have h2 : Lib.nDigits u ≤ 616 + 1:=nDigits_le (k:=616) (Nat.lt_of_lt_of_le (Nat.lt_of_not_le h) pow_fits)
 rw [Lib.decDigits_length]
 refine ⟨?_,by omega⟩
 rw [← Lib.decDigits_length]
 rcases Nat.eq_zero_or_pos u with rfl | hp
 ·rw [Lib.decDigits_one (by decide)]; simp
 ·obtain ⟨c,r,e,_⟩:=dec_first u hp
  rw [e]; simp
end LM
end Go.Proofs.YtaonablbgicmpaaGreatDoor
namespace Go.Proofs.YtaonablbgicmpaaGreatDoor
open Go Go.RowKit
namespace LM
def OkText (l : List UInt8) : Prop:=1 ≤ l.length∧l.length ≤ 700∧Digs l
end LM
end Go.Proofs.YtaonablbgicmpaaGreatDoor
