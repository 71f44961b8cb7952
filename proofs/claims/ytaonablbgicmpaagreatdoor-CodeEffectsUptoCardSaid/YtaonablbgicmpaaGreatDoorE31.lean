import Derived.Test.YtaonablbgicmpaaGreatDoorE26
import Derived.Lib.AtoiErrMem
import Derived.Lib.AppendIntMem
import Derived.Test.YtaonablbgicmpaaGreatDoorE11
import Derived.Test.YtaonablbgicmpaaGreatDoorE10
import Derived.Test.YtaonablbgicmpaaGreatDoorE23
import Derived.Test.YtaonablbgicmpaaGreatDoorE24
import Derived.Test.YtaonablbgicmpaaGreatDoorE09
import Derived.Test.YtaonablbgicmpaaGreatDoorE39
import Derived.Test.YtaonablbgicmpaaGreatDoorE44
import Derived.Test.YtaonablbgicmpaaGreatDoorE45
import Derived.Test.YtaonablbgicmpaaGreatDoorE01
set_option linter.unusedVariables false
set_option linter.unusedSimpArgs false
set_option maxRecDepth 100000
set_option maxHeartbeats 16000000
namespace Go.Proofs.YtaonablbgicmpaaGreatDoor
open Go Go.Shelf Go.RowKit Go.Sort Go.Lib
namespace LM
theorem bytes_eq {s : ByteArray} {l : List UInt8} (h : s.data.toList = l) : s = ⟨l.toArray⟩:=by
 subst h
 cases s
 rfl
end LM
namespace LM
end LM
namespace LM
theorem FV.size_ok {w : World} (h : FV w) : 9 < w.heap.size:=h.size.2.2.2
end LM
namespace LM
theorem nzd_pos {c : UInt8} {r : List UInt8} (h : c ≠ 48) : 1 ≤ nzd (c :: r):=by
 unfold nzd
 split
 ·first
   | exact Nat.le_refl _
   | (rw [if_neg h]; exact Nat.le_refl _)
 ·omega
theorem dec_byte (u : Nat) : ∀ x ∈ decDigits u,48 ≤ x.toNat∧x.toNat ≤ 57:=by
 intro x hx
 rw [decDigits_eq] at hx
 obtain ⟨t,_,rfl⟩:=List.mem_map.1 hx
 have : (dg u (nDigits u - 1 - t)).toNat = (48 + u / 10 ^ (nDigits u - 1 - t) % 10) % 256:=by unfold dg; simp
 rw [this]
 omega
theorem d_facts {d : Nat} (h1 : 1 ≤ d) (h2 : d < 4611686018427387904) : 1 ≤ nzd (decDigits d)∧nDigits d ≤ 20:=by
 obtain ⟨c,r,h3,h4⟩:=dec_first d h1
 refine ⟨by rw [h3]; exact nzd_pos h4,?_⟩
 exact nDigits_le (k := 19) (by have : (4611686018427387904 : Nat) < 10 ^ 20 := by decide
                                omega)
theorem short_pack {m : Nat} {e p : Int} (q0 : -348 ≤ p) (q1 : p ≤ 347) (T : Nat × Int) (hT : 1 ≤ T.1∧T.1 < 4611686018427387904∧(T.2 = -(p - 1) ∨ T.2 = -p))
  (hc : ∀ W,FV W → Calls Tryz.prog 220 #[.int .u64 (m : Int),.int .i64 e] W fun r w'=>r = .returned (.tuple #[.int .u64 ((T.1 : Nat) : Int),.int .i64 T.2])∧Below W.heap.size W w') :
  ∃ d p',1 ≤ d∧d < 4611686018427387904∧-348 ≤ p'∧p' ≤ 349 ∧
   ∀ W,FV W → Calls Tryz.prog 220 #[.int .u64 (m : Int),.int .i64 e] W fun r w'=>r = .returned (.tuple #[.int .u64 ((d : Nat) : Int),.int .i64 p'])∧Below W.heap.size W w':=by
 obtain ⟨r1,r2,r3⟩:=hT
 obtain ⟨d,p'⟩:=T
 dsimp only at r1 r2 r3 hc
 exact ⟨d,p',r1,r2,by omega,by omega,hc⟩
theorem short_norm (fr ex m : Nat) (e : Int) (hfr : fr < 4503599627370496) (h1 : 1 ≤ ex) (h2 : ex ≤ 2046) (hm : (fr + 4503599627370496) * 2048 = m) (he : e = (ex : Int) - 1086) : ∃ d p',1 ≤ d∧d < 4611686018427387904∧-348 ≤ p'∧p' ≤ 349 ∧
  ∀ W,FV W → Calls Tryz.prog 220 #[.int .u64 (m : Int),.int .i64 e] W fun r w'=>r = .returned (.tuple #[.int .u64 ((d : Nat) : Int),.int .i64 p'])∧Below W.heap.size W w':=by
 by_cases h0 : fr = 0
 ·have hm0 : 9223372036854775808 = m:=by
   rw [h0,show (0 + 4503599627370496) * 2048 = 9223372036854775808 from by decide] at hm
   exact hm
  clear hm h0
  by_cases hx : ex = 1
  ·obtain ⟨q0,q1,q2,q3⟩:=p_mid (e:=e) (by omega) (by omega) rfl
   obtain ⟨od,hod⟩ : ∃ od,m / 2048 % 2 = od:=⟨_,rfl⟩
   exact short_pack q0 q1 _ (short_pos m e _ (m - 1024) (m + 1024) od (by omega) (by omega) (by omega) (by omega) (by omega) (by omega) q0 q1 q2 q3) (fun W hv=>short_lo2 m e _ od W hv.pow hv.size.2.2.2 hm0 (by omega) rfl q0 q1 (by omega) (by omega) hod)
  ·obtain ⟨q0,q1,q2,q3⟩:=p_low (e:=e) (by omega) (by omega) rfl
   exact short_pack q0 q1 _ (short_pos m e _ (m - 512) (m + 1024) 0 (by omega) (by omega) (by omega) (by omega) (by omega) (by omega) q0 q1 q2 q3) (fun W hv=>short_low m e _ 0 W hv.pow hv.size.2.2.2 hm0 (by omega) (by omega) rfl q0 q1 (by omega) (by omega) rfl)
 ·obtain ⟨q0,q1,q2,q3⟩:=p_mid (e:=e) (by omega) (by omega) rfl
  obtain ⟨od,hod⟩ : ∃ od,m / 2048 % 2 = od:=⟨_,rfl⟩
  exact short_pack q0 q1 _ (short_pos m e _ (m - 1024) (m + 1024) od (by omega) (by omega) (by omega) (by omega) (by omega) (by omega) q0 q1 q2 q3) (fun W hv=>short_mid m e _ od W hv.pow hv.size.2.2.2 (by omega) (by omega) (by omega) (by omega) rfl q0 q1 (by omega) (by omega) hod)
theorem short_least (fr s m : Nat) (e : Int) (hfr : fr < 4503599627370496) (h1 : 1 ≤ fr) (hs : Lib.bitLen fr + s = 64) (hm : fr * 2 ^ s = m) (he : e = -1074 - (s : Int)) : m < 18446744073709551616∧∃ d p',1 ≤ d∧d < 4611686018427387904∧-348 ≤ p'∧p' ≤ 349 ∧
  ∀ W,FV W → Calls Tryz.prog 220 #[.int .u64 (m : Int),.int .i64 e] W fun r w'=>r = .returned (.tuple #[.int .u64 ((d : Nat) : Int),.int .i64 p'])∧Below W.heap.size W w':=by
 obtain ⟨b1,b2,b3⟩:=Lib.bitLenAux_bounds 64 fr (by omega) (by omega)
 have b4:=Lib.bitLen_le fr 52 (by decide) hfr
 change 1 ≤ Lib.bitLen fr at b1
 change 2 ^ (Lib.bitLen fr - 1) ≤ fr at b2
 change fr < 2 ^ Lib.bitLen fr at b3
 obtain ⟨len,hlen⟩ : ∃ len,Lib.bitLen fr = len:=⟨_,rfl⟩
 rw [hlen] at b1 b2 b3 b4 hs
 obtain ⟨z2,hz2⟩ : ∃ z2,s = z2 + 1:=⟨s - 1,by omega⟩
 obtain ⟨pw,hpw⟩ : ∃ pw,2 ^ s = pw:=⟨_,rfl⟩
 obtain ⟨ph,hph⟩ : ∃ ph,2 ^ z2 = ph:=⟨_,rfl⟩
 have hpp : pw = ph * 2:=by rw [← hpw,← hph,hz2,Nat.pow_succ]
 have hup : (fr + 1) * pw ≤ 18446744073709551616:=by
  refine Nat.le_trans (Nat.mul_le_mul_right pw b3) ?_
  rw [← hpw,← Nat.pow_add,hs]
  decide
 have hlo : 9223372036854775808 ≤ fr * pw:=by
  refine Nat.le_trans ?_ (Nat.mul_le_mul_right pw b2)
  rw [← hpw,← Nat.pow_add,show len - 1 + s = 63 from by omega]
  decide
 rw [hpw] at hm
 rw [Nat.add_mul,Nat.one_mul,hm] at hup
 rw [hm] at hlo
 have hph0 : 0 < ph:=hph ▸ Nat.pow_pos (by decide)
 have hphl : ph ≤ 4611686018427387904:=by omega
 obtain ⟨q2,q3⟩:=p_sub (e:=e) (s:=s) (by omega) (by omega) he
 obtain ⟨od,hod⟩ : ∃ od,m / pw % 2 = od:=⟨_,rfl⟩
 refine ⟨by omega,?_⟩
 refine short_pack (p:=324) (by decide) (by decide) _ (short_pos m e 324 (m - ph) (m + ph) od (by omega) (by omega) (by omega) (by omega) (by omega) (by omega) (by decide) (by decide) q2 q3) (fun W hv=>?_)
 exact short_sub m s z2 pw ph e 324 od _ W hv.pow hv.size.2.2.2 hlo rfl (by omega) (by omega) (by omega) (by omega) hz2 hpw hph he (by decide) (by decide) (by decide) (by omega) (by omega) hod
structure FinT (D : List UInt8) (dp : Int) : Prop where
 ne : 1 ≤ D.length
 le : D.length ≤ 20
 dig : ∀ x ∈ D,48 ≤ x.toNat∧x.toNat ≤ 57
 dp : -400 ≤ dp∧dp ≤ 400
abbrev FtoaOk (b c : Nat) (l : List UInt8) : Prop:=∀ (W0 : World),FV W0 → ∀ v w1,OB W0.heap.size W0 0 [] v [] w1 →
 Calls Tryz.prog 164 #[v,.float .f64 b,.int .u8 (c : Nat),.int .i64 (-1)] w1 fun r w'=>∃ v' g ds,r = .returned v'∧OB W0.heap.size W0 g ds v' l w'
theorem fint_of {d : Nat} {p : Int} (h1 : 1 ≤ d) (h2 : d < 4611686018427387904) (h3 : -348 ≤ p) (h4 : p ≤ 349) : FinT ((decDigits d).take (nzd (decDigits d))) ((nDigits d : Int) + p):=by
 obtain ⟨f1,f2⟩:=d_facts h1 h2
 have f3:=nzd_le (decDigits d)
 rw [decDigits_length] at f3
 refine ⟨?_,?_,fun x hx=>dec_byte d x (List.mem_of_mem_take hx),by omega,by omega⟩
 ·rw [List.length_take,decDigits_length]; omega
 ·rw [List.length_take,decDigits_length]; omega
theorem ftoa_fin (b : Nat) (neg : Bool) (hb : b < 18446744073709551616) (hneg : (decide (9223372036854775808 ≤ b)) = neg) (hfin : b % 9223372036854775808 < 9218868437227405312) (h0 : b % 9223372036854775808 ≠ 0) :
  ∃ D dp,FinT D dp∧FtoaOk b 101 (fmtE neg D dp)∧(4503599627370496 ≤ b % 9223372036854775808 → FtoaOk b 102 (fmtF neg D dp)):=by
 obtain ⟨ex,hex⟩ : ∃ ex,b / 4503599627370496 % 2048 = ex:=⟨_,rfl⟩
 obtain ⟨fr,hfr⟩ : ∃ fr,b % 4503599627370496 = fr:=⟨_,rfl⟩
 have hfrl : fr < 4503599627370496:=by omega
 have hexl : ex < 2047:=by omega
 by_cases hx : ex = 0
 ·have hbl : ¬ 4503599627370496 ≤ b % 9223372036854775808:=by omega
  have hf0 : 1 ≤ fr:=by omega
  obtain ⟨s,hs⟩ : ∃ s,Lib.bitLen fr + s = 64:=⟨64 - Lib.bitLen fr,by have:=Lib.bitLen_le fr 52 (by decide) hfrl; omega⟩
  obtain ⟨m,hm⟩ : ∃ m,fr * 2 ^ s = m:=⟨_,rfl⟩
  obtain ⟨hml,d,p,d1,d2,p1,p2,hS⟩:=short_least fr s m (-1074 - (s : Int)) hfrl hf0 hs hm rfl
  obtain ⟨f1,f2⟩:=d_facts d1 d2
  refine ⟨_,_,fint_of d1 d2 p1 p2,fun W0 hv v w1 hob=>?_,fun h=>absurd h hbl⟩
  have hv1:=hv.below hob.2.1
  exact (ftoaE_sub b neg ex fr fr _ s m (-1074 - (s : Int)) p d W0.heap.size W0 v w1 hb hob hneg hex hfr (by omega) hx (by omega) rfl rfl hs hm hml (by omega)
   (fun W _ hW=>hS W (hv1.below hW)) hv1.tab d1 (by omega) (by omega) f1 f2).mono fun r w' ⟨v',g,h1,h2⟩=>⟨v',g,_,h1,h2⟩
 ·obtain ⟨m,hm⟩ : ∃ m,(fr + 4503599627370496) * 2048 = m:=⟨_,rfl⟩
  obtain ⟨d,p,d1,d2,p1,p2,hS⟩:=short_norm fr ex m ((ex : Int) - 1086) hfrl (by omega) (by omega) hm rfl
  obtain ⟨f1,f2⟩:=d_facts d1 d2
  have hbl : Lib.bitLen (fr + 4503599627370496) = 53:=by
   have h1:=Lib.bitLen_le (fr + 4503599627370496) 53 (by decide) (by omega)
   obtain ⟨b1,b2,b3⟩:=Lib.bitLenAux_bounds 64 (fr + 4503599627370496) (by omega) (by omega)
   change fr + 4503599627370496 < 2 ^ Lib.bitLen (fr + 4503599627370496) at b3
   rcases Nat.lt_or_ge (Lib.bitLen (fr + 4503599627370496)) 53 with h | h
   ·have h2 : 2 ^ Lib.bitLen (fr + 4503599627370496) ≤ 2 ^ 52:=Nat.pow_le_pow_right (by decide) (by omega)
    have h3 : (2 : Nat) ^ 52 = 4503599627370496:=by decide
    omega
   ·omega
  refine ⟨_,_,fint_of d1 d2 p1 p2,fun W0 hv v w1 hob=>?_,fun _ W0 hv v w1 hob=>?_⟩
  ·have hv1:=hv.below hob.2.1
   exact (ftoaE_any b neg ex fr (fr + 4503599627370496) 53 11 m ((ex : Int) - 1086) p d W0.heap.size W0 v w1 hb hob hneg hex hfr hexl hx rfl hbl (by decide) hm (by omega) (by omega)
    (fun W _ hW=>hS W (hv1.below hW)) hv1.tab d1 (by omega) (by omega) f1 f2).mono fun r w' ⟨v',g,h1,h2⟩=>⟨v',g,_,h1,h2⟩
  ·have hv1:=hv.below hob.2.1
   exact (ftoaF_any b neg ex fr (fr + 4503599627370496) 53 11 m ((ex : Int) - 1086) p d W0.heap.size W0 v w1 hb hob hneg hex hfr hexl hx rfl hbl (by decide) hm (by omega) (by omega)
    (fun W _ hW=>hS W (hv1.below hW)) hv1.tab d1 (by omega) (by omega) f1 f2).mono fun r w' ⟨v',g,h1,h2⟩=>⟨v',g,_,h1,h2⟩
end LM
namespace LM
end LM
namespace LM
def cutL (p : UInt8 → Bool) : List UInt8 → List UInt8 × List UInt8 × Bool
 | []=>([],[],false)
 | c :: l=>if p c then ([],l,true) else (c :: (cutL p l).1,(cutL p l).2.1,(cutL p l).2.2)
def isE : UInt8 → Bool:=[101,69].contains
def isDot : UInt8 → Bool:=[46].contains
def numL (l : List UInt8) : Bool :=
 let c:=cutL isE (unsigB l)
 let d:=cutL isDot c.1
 (d.2.2 || c.2.2) && !((d.1.length + d.2.1.length) == 0) && digB d.1 && digB d.2.1 && (!c.2.2 || (decide (1 ≤ (unsigB c.2.1).length) && decide ((unsigB c.2.1).length ≤ 4) && digB (unsigB c.2.1)))
end LM
namespace LM
def formN (c : Nat) : Nat:=if 48 ≤ c∧c ≤ 57 then 100 else if c = 43 ∨ c = 45 then 115 else if c = 46 then 112 else if c = 69 ∨ c = 101 then 101 else 120
def stepR (st : Nat) (k : Nat) : Nat :=
 if st = 0 ∨ st = 1 then (if k = 100 then 2 else if k = 112 then 4 else if k = 115∧st = 0 then 1 else 9)
 else if st = 2 then (if k = 100 then 2 else if k = 112 then 3 else if k = 101 then 6 else 9)
 else if st = 3 ∨ st = 5 then (if k = 100 then 5 else if k = 101 then 6 else 9)
 else if st = 4 then (if k = 100 then 5 else 9)
 else if st = 6 ∨ st = 7 ∨ st = 8 then (if k = 100 then 8 else if k = 115∧st = 6 then 7 else 9)
 else 9
def stepP (st p k : Nat) : Nat:=if (st = 6 ∨ st = 7 ∨ st = 8)∧k = 100 then p + 1 else p
def okR (st p : Nat) : Bool:=decide (st = 3) || decide (st = 5) || (decide (st = 8) && decide (p ≤ 4))
def runR : Nat → Nat → List UInt8 → Bool
 | st,p,[]=>okR st p
 | st,p,c :: l=>runR (stepR st (formN c.toNat)) (stepP st p (formN c.toNat)) l
def isD (c : UInt8) : Bool:=decide (48 ≤ c.toNat) && decide (c.toNat ≤ 57)
theorem digB_cons (c : UInt8) (l : List UInt8) : digB (c :: l) = (isD c && digB l):=rfl
theorem form_d {c : UInt8} (h : isD c = true) : formN c.toNat = 100:=by
 unfold isD at h
 unfold formN
 rw [if_pos (by simpa using h)]
theorem form_nd {c : UInt8} (h : isD c = false) : formN c.toNat ≠ 100:=by
 unfold isD at h
 unfold formN
 rw [if_neg (by simpa using h)]
 split
 ·decide
 ·split
  ·decide
  ·split <;> decide
theorem form_e (c : UInt8) : (formN c.toNat = 101) ↔ isE c = true:=by
 have hE : isE c = true ↔ (c.toNat = 101 ∨ c.toNat = 69):=by
  unfold isE
  simp [← UInt8.toNat_inj]
 rw [hE]
 unfold formN
 constructor
 ·intro h
  by_cases h1 : 48 ≤ c.toNat∧c.toNat ≤ 57
  ·rw [if_pos h1] at h; omega
  ·rw [if_neg h1] at h
   by_cases h2 : c.toNat = 43 ∨ c.toNat = 45
   ·rw [if_pos h2] at h; omega
   ·rw [if_neg h2] at h
    by_cases h3 : c.toNat = 46
    ·rw [if_pos h3] at h; omega
    ·rw [if_neg h3] at h
     by_cases h4 : c.toNat = 69 ∨ c.toNat = 101
     ·omega
     ·rw [if_neg h4] at h; omega
 ·intro h
  rw [if_neg (by omega),if_neg (by omega),if_neg (by omega),if_pos (by omega)]
theorem form_dot (c : UInt8) : (formN c.toNat = 112) ↔ isDot c = true:=by
 have hE : isDot c = true ↔ c.toNat = 46:=by
  unfold isDot
  simp [← UInt8.toNat_inj]
 rw [hE]
 unfold formN
 constructor
 ·intro h
  by_cases h1 : 48 ≤ c.toNat∧c.toNat ≤ 57
  ·rw [if_pos h1] at h; omega
  ·rw [if_neg h1] at h
   by_cases h2 : c.toNat = 43 ∨ c.toNat = 45
   ·rw [if_pos h2] at h; omega
   ·rw [if_neg h2] at h
    by_cases h3 : c.toNat = 46
    ·exact h3
    ·rw [if_neg h3] at h
     split at h <;> omega
 ·intro h
  rw [if_neg (by omega),if_neg (by omega),if_pos h]
theorem form_s (c : UInt8) : (formN c.toNat = 115) ↔ (c = 43 ∨ c = 45):=by
 have hE : (c = 43 ∨ c = 45) ↔ (c.toNat = 43 ∨ c.toNat = 45):=by simp [← UInt8.toNat_inj]
 rw [hE]
 unfold formN
 constructor
 ·intro h
  by_cases h1 : 48 ≤ c.toNat∧c.toNat ≤ 57
  ·rw [if_pos h1] at h; omega
  ·rw [if_neg h1] at h
   by_cases h2 : c.toNat = 43 ∨ c.toNat = 45
   ·exact h2
   ·rw [if_neg h2] at h
    split at h
    ·omega
    ·split at h <;> omega
 ·intro h
  rw [if_neg (by omega),if_pos h]
theorem run9 : ∀ (l : List UInt8) p,runR 9 p l = false:=by
 intro l
 induction l with
 | nil=>intro p; rfl
 | cons c l ih=>intro p; exact ih _
theorem run8 : ∀ (l : List UInt8) p,runR 8 p l = (digB l && decide (p + l.length ≤ 4)):=by
 intro l
 induction l with
 | nil=>intro p; simp [runR,okR,digB]
 | cons c l ih =>
  intro p
  unfold runR
  rw [digB_cons]
  cases h : isD c
  ·have h2:=form_nd h
   have e : stepR 8 (formN c.toNat) = 9:=by simp [stepR,h2]
   rw [e,run9]
   rfl
  ·have h2:=form_d h
   have e : stepR 8 (formN c.toNat) = 8:=by simp [stepR,h2]
   have e2 : stepP 8 p (formN c.toNat) = p + 1:=by simp [stepP,h2]
   rw [e,e2,ih]
   simp only [Bool.true_and,List.length_cons]
   congr 2
   rw [show p + 1 + l.length = p + (l.length + 1) from by omega]
def expW (l : List UInt8) : Bool:=decide (1 ≤ (unsigB l).length) && decide ((unsigB l).length ≤ 4) && digB (unsigB l)
theorem run7 (l : List UInt8) : runR 7 0 l = (decide (1 ≤ l.length) && decide (l.length ≤ 4) && digB l):=by
 cases l with
 | nil=>rfl
 | cons c l =>
  unfold runR
  rw [digB_cons]
  cases h : isD c
  ·have h2:=form_nd h
   have e : stepR 7 (formN c.toNat) = 9:=by simp [stepR,h2]
   rw [e,run9]
   simp
  ·have h2:=form_d h
   have e : stepR 7 (formN c.toNat) = 8:=by simp [stepR,h2]
   have e2 : stepP 7 0 (formN c.toNat) = 1:=by simp [stepP,h2]
   rw [e,e2,run8]
   simp only [Bool.true_and,List.length_cons]
   rw [show decide (1 ≤ l.length + 1) = true from decide_eq_true (by omega),Bool.true_and,Bool.and_comm,Nat.add_comm 1]
theorem run6 (l : List UInt8) : runR 6 0 l = expW l:=by
 cases l with
 | nil=>rfl
 | cons c l =>
  unfold runR expW
  by_cases hs : c = 43 ∨ c = 45
  ·have e0 : unsigB (c :: l) = l:=if_pos hs
   have h2:=(form_s c).2 hs
   have e : stepR 6 (formN c.toNat) = 7:=by simp [stepR,h2]
   have e2 : stepP 6 0 (formN c.toNat) = 0:=by simp [stepP,h2]
   rw [e,e2,run7,e0]
  ·have e0 : unsigB (c :: l) = c :: l:=if_neg hs
   have h3 : formN c.toNat ≠ 115:=fun h=>hs ((form_s c).1 h)
   rw [e0,digB_cons]
   cases h : isD c
   ·have h2:=form_nd h
    have e : stepR 6 (formN c.toNat) = 9:=by simp [stepR,h2,h3]
    rw [e,run9]
    simp
   ·have h2:=form_d h
    have e : stepR 6 (formN c.toNat) = 8:=by simp [stepR,h2]
    have e2 : stepP 6 0 (formN c.toNat) = 1:=by simp [stepP,h2]
    rw [e,e2,run8]
    simp only [Bool.true_and,List.length_cons]
    rw [show decide (1 ≤ l.length + 1) = true from decide_eq_true (by omega),Bool.true_and,Bool.and_comm,Nat.add_comm 1]
def fracW (l : List UInt8) : Bool:=digB (cutL isE l).1 && (!(cutL isE l).2.2 || expW (cutL isE l).2.1)
theorem cutL_cons (p : UInt8 → Bool) (c : UInt8) (l : List UInt8) : cutL p (c :: l) = if p c then ([],l,true) else (c :: (cutL p l).1,(cutL p l).2.1,(cutL p l).2.2):=rfl
theorem run5 : ∀ (l : List UInt8),runR 5 0 l = fracW l∧runR 3 0 l = fracW l:=by
 intro l
 induction l with
 | nil=>exact ⟨rfl,rfl⟩
 | cons c l ih =>
  unfold fracW
  rw [cutL_cons]
  by_cases he : isE c = true
  ·have h2:=(form_e c).2 he
   rw [if_pos he]
   have e5 : stepR 5 (formN c.toNat) = 6:=by simp [stepR,h2]
   have e3 : stepR 3 (formN c.toNat) = 6:=by simp [stepR,h2]
   have p5 : stepP 5 0 (formN c.toNat) = 0:=by simp [stepP]
   have p3 : stepP 3 0 (formN c.toNat) = 0:=by simp [stepP]
   unfold runR
   rw [e5,e3,p5,p3,run6]
   simp [digB]
  ·have h3 : formN c.toNat ≠ 101:=fun h=>he ((form_e c).1 h)
   rw [if_neg he]
   dsimp only
   rw [digB_cons]
   unfold runR
   cases hd : isD c
   ·have h2:=form_nd hd
    have e5 : stepR 5 (formN c.toNat) = 9:=by simp [stepR,h2,h3]
    have e3 : stepR 3 (formN c.toNat) = 9:=by simp [stepR,h2,h3]
    rw [e5,e3,run9,run9]
    exact ⟨rfl,rfl⟩
   ·have h2:=form_d hd
    have e5 : stepR 5 (formN c.toNat) = 5:=by simp [stepR,h2]
    have e3 : stepR 3 (formN c.toNat) = 5:=by simp [stepR,h2]
    have p5 : stepP 5 0 (formN c.toNat) = 0:=by simp [stepP]
    have p3 : stepP 3 0 (formN c.toNat) = 0:=by simp [stepP]
    rw [e5,e3,p5,p3,ih.1]
    exact ⟨rfl,rfl⟩
theorem run4 (l : List UInt8) : runR 4 0 l = (!((cutL isE l).1.length == 0) && fracW l):=by
 cases l with
 | nil=>rfl
 | cons c l =>
  unfold fracW
  rw [cutL_cons]
  by_cases he : isE c = true
  ·have h2:=(form_e c).2 he
   rw [if_pos he]
   have e4 : stepR 4 (formN c.toNat) = 9:=by simp [stepR,h2]
   unfold runR
   rw [e4,run9]
   rfl
  ·rw [if_neg he]
   dsimp only
   rw [digB_cons]
   unfold runR
   cases hd : isD c
   ·have h2:=form_nd hd
    have e4 : stepR 4 (formN c.toNat) = 9:=by simp [stepR,h2]
    rw [e4,run9]
    simp
   ·have h2:=form_d hd
    have e4 : stepR 4 (formN c.toNat) = 5:=by simp [stepR,h2]
    have p4 : stepP 4 0 (formN c.toNat) = 0:=by simp [stepP]
    rw [e4,p4,(run5 l).1]
    simp [fracW]
def wholB (l : List UInt8) : Bool :=
 let c:=cutL isE l
 let d:=cutL isDot c.1
 (d.2.2 || c.2.2) && digB d.1 && digB d.2.1 && (!c.2.2 || expW c.2.1)
theorem run2 : ∀ (l : List UInt8),runR 2 0 l = wholB l:=by
 intro l
 induction l with
 | nil=>rfl
 | cons c l ih =>
  unfold wholB
  rw [cutL_cons]
  by_cases he : isE c = true
  ·have h2:=(form_e c).2 he
   rw [if_pos he]
   have e2 : stepR 2 (formN c.toNat) = 6:=by simp [stepR,h2]
   have p2 : stepP 2 0 (formN c.toNat) = 0:=by simp [stepP]
   unfold runR
   rw [e2,p2,run6]
   simp [cutL,digB]
  ·have h3 : formN c.toNat ≠ 101:=fun h=>he ((form_e c).1 h)
   rw [if_neg he]
   dsimp only
   rw [cutL_cons]
   unfold runR
   by_cases hdt : isDot c = true
   ·have h2:=(form_dot c).2 hdt
    rw [if_pos hdt]
    dsimp only
    have e2 : stepR 2 (formN c.toNat) = 3:=by simp [stepR,h2]
    have p2 : stepP 2 0 (formN c.toNat) = 0:=by simp [stepP]
    rw [e2,p2,(run5 l).2]
    simp [digB,fracW]
   ·have h4 : formN c.toNat ≠ 112:=fun h=>hdt ((form_dot c).1 h)
    rw [if_neg hdt]
    dsimp only
    rw [digB_cons]
    cases hd : isD c
    ·have h2:=form_nd hd
     have e2 : stepR 2 (formN c.toNat) = 9:=by simp [stepR,h2,h3,h4]
     rw [e2,run9]
     simp
    ·have h2:=form_d hd
     have e2 : stepR 2 (formN c.toNat) = 2:=by simp [stepR,h2]
     have p2 : stepP 2 0 (formN c.toNat) = 0:=by simp [stepP]
     rw [e2,p2,ih]
     rfl
def hdB (l : List UInt8) : Bool :=
 let c:=cutL isE l
 let d:=cutL isDot c.1
 (d.2.2 || c.2.2) && !((d.1.length + d.2.1.length) == 0) && digB d.1 && digB d.2.1 && (!c.2.2 || expW c.2.1)
theorem run1 (st : Nat) (hst : st = 0 ∨ st = 1) (l : List UInt8) (hs : st = 0 → ∀ c t,l = c :: t → formN c.toNat ≠ 115) : runR st 0 l = hdB l:=by
 cases l with
 | nil =>
  rcases hst with rfl | rfl <;> rfl
 | cons c l =>
  have hns : st = 0 → formN c.toNat ≠ 115:=fun h=>hs h c l rfl
  have hp : stepP st 0 (formN c.toNat) = 0:=by unfold stepP; rw [if_neg (by omega)]
  unfold runR
  rw [hp]
  unfold hdB
  rw [cutL_cons]
  by_cases he : isE c = true
  ·have h2:=(form_e c).2 he
   rw [if_pos he]
   have e : stepR st (formN c.toNat) = 9:=by unfold stepR; rw [if_pos hst,h2]; rfl
   rw [e,run9]
   rfl
  ·rw [if_neg he]
   dsimp only
   rw [cutL_cons]
   by_cases hdt : isDot c = true
   ·have h2:=(form_dot c).2 hdt
    rw [if_pos hdt]
    dsimp only
    have e : stepR st (formN c.toNat) = 4:=by unfold stepR; rw [if_pos hst,h2]; rfl
    rw [e,run4]
    simp [digB,fracW,Bool.and_assoc]
   ·have h4 : formN c.toNat ≠ 112:=fun h=>hdt ((form_dot c).1 h)
    rw [if_neg hdt]
    dsimp only
    rw [digB_cons]
    cases hd : isD c
    ·have h2:=form_nd hd
     have e : stepR st (formN c.toNat) = 9:=by
      unfold stepR
      rw [if_pos hst,if_neg h2,if_neg h4,if_neg (fun h=>hns h.2 h.1)]
     rw [e,run9]
     simp
    ·have h2:=form_d hd
     have e : stepR st (formN c.toNat) = 2:=by unfold stepR; rw [if_pos hst,h2]; rfl
     rw [e,run2]
     have hz : (((cutL isDot (cutL isE l).1).1.length + 1 + (cutL isDot (cutL isE l).1).2.1.length) == 0) = false:=by
      rw [beq_eq_false_iff_ne]
      omega
     simp only [List.length_cons,hz]
     simp [wholB]
theorem run0 (l : List UInt8) : runR 0 0 l = numL l:=by
 have hn : numL l = hdB (unsigB l):=rfl
 rw [hn]
 cases l with
 | nil=>rfl
 | cons c l =>
  by_cases h : c = 43 ∨ c = 45
  ·have e0 : unsigB (c :: l) = l:=if_pos h
   have h2:=(form_s c).2 h
   have e : stepR 0 (formN c.toNat) = 1:=by unfold stepR; rw [h2]; rfl
   have p : stepP 0 0 (formN c.toNat) = 0:=by unfold stepP; rw [if_neg (by omega)]
   rw [e0]
   unfold runR
   rw [e,p]
   exact run1 1 (.inr rfl) l (fun h=>absurd h (by decide))
  ·have e0 : unsigB (c :: l) = c :: l:=if_neg h
   rw [e0]
   refine run1 0 (.inl rfl) _ fun _ c2 t e=>?_
   injection e with e1 e2
   subst e1
   exact fun h3=>h ((form_s c).1 h3)
end LM
namespace LM
theorem form_any (c : Nat) (hc : c < 256) (w : World) : Calls Tryz.prog 259 #[.int .u8 (c : Int)] w fun e w'=>e = .returned (.int .u8 ((formN c : Nat) : Int))∧w = w':=by
 unfold formN
 by_cases h1 : 48 ≤ c∧c ≤ 57
 ·rw [if_pos h1]
  obtain ⟨h2,h3⟩:=h1
  go_enter Tryz.func259,Tryz.ntmps259
  go_wp2
  go_ret
  exact ⟨rfl,rfl⟩
 ·rw [if_neg h1]
  have d1 : (decide (48 ≤ (c : Int)) && decide ((c : Int) ≤ 57)) = false:=by
   by_cases h : 48 ≤ c
   ·rw [show decide ((c : Int) ≤ 57) = false from decide_eq_false (by omega)]; simp
   ·rw [show decide (48 ≤ (c : Int)) = false from decide_eq_false (by omega)]; simp
  by_cases h2 : c = 43 ∨ c = 45
  ·rw [if_pos h2]
   clear h1 d1
   rcases h2 with rfl | rfl
   all_goals
    go_enter Tryz.func259,Tryz.ntmps259
    go_wp2
    go_ret
    exact ⟨rfl,rfl⟩
  ·rw [if_neg h2]
   by_cases h3 : c = 46
   ·rw [if_pos h3]
    subst h3
    clear h1 h2 d1
    go_enter Tryz.func259,Tryz.ntmps259
    go_wp2
    go_ret
    exact ⟨rfl,rfl⟩
   ·rw [if_neg h3]
    by_cases h4 : c = 69 ∨ c = 101
    ·rw [if_pos h4]
     clear h1 h2 h3 d1
     rcases h4 with rfl | rfl
     all_goals
      go_enter Tryz.func259,Tryz.ntmps259
      go_wp2
      go_ret
      exact ⟨rfl,rfl⟩
    ·rw [if_neg h4]
     have e1 : ((c : Int) == 43) = false:=by simpa using (by omega : ¬ (c : Int) = 43)
     have e2 : ((c : Int) == 45) = false:=by simpa using (by omega : ¬ (c : Int) = 45)
     have e3 : ((c : Int) == 46) = false:=by simpa using (by omega : ¬ (c : Int) = 46)
     have e4 : ((c : Int) == 69) = false:=by simpa using (by omega : ¬ (c : Int) = 69)
     have e5 : ((c : Int) == 101) = false:=by simpa using (by omega : ¬ (c : Int) = 101)
     rcases (by omega : c < 48 ∨ 57 < c) with h5 | h5
     ·have e6 : decide (48 ≤ (c : Int)) = false:=decide_eq_false (by omega)
      clear h1 h2 h3 h4 d1
      go_enter Tryz.func259,Tryz.ntmps259
      go_wp2
      go_ret
      exact ⟨rfl,rfl⟩
     ·have e6 : decide (48 ≤ (c : Int)) = true:=decide_eq_true (by omega)
      have e7 : decide ((c : Int) ≤ 57) = false:=decide_eq_false (by omega)
      clear h1 h2 h3 h4 d1
      go_enter Tryz.func259,Tryz.ntmps259
      go_wp2
      go_ret
      exact ⟨rfl,rfl⟩
theorem form_cases (c : Nat) : formN c = 100 ∨ formN c = 115 ∨ formN c = 112 ∨ formN c = 101 ∨ formN c = 120:=by
 unfold formN
 split
 ·exact .inl rfl
 ·split
  ·exact .inr (.inl rfl)
  ·split
   ·exact .inr (.inr (.inl rfl))
   ·split
    ·exact .inr (.inr (.inr (.inl rfl)))
    ·exact .inr (.inr (.inr (.inr rfl)))
theorem drop_byte (s : ByteArray) (j : Nat) (h : j < s.size) : ∃ c : UInt8,s.data.toList.drop j = c :: s.data.toList.drop (j + 1)∧c.toNat = byF s j:=by
 have h2 : j < s.data.toList.length:=by rw [← Lib.size_eq]; exact h
 refine ⟨s.data.toList[j],List.drop_eq_getElem_cons h2,?_⟩
 unfold byF
 rw [List.getD_eq_getElem?_getD,List.getElem?_eq_getElem h2]
 rfl
theorem stepR_le (st k : Nat) : stepR st k ≤ 9:=by
 unfold stepR
 repeat' split
 all_goals omega
theorem stepP_le (st p k : Nat) : stepP st p k ≤ p + 1:=by
 unfold stepP
 split <;> omega
theorem rnumeral_any (s : ByteArray) (w : World) (hs : s.size ≤ 1000) :
  Calls Tryz.prog 204 #[.string s] w fun e w'=>e = .returned (.bool (numL s.data.toList))∧w = w':=by
 rw [← run0]
 obtain ⟨R,hR⟩ : ∃ R,runR 0 0 s.data.toList = R:=⟨_,rfl⟩
 rw [hR]
 have HR:=Lib.hid (show runR 0 0 (s.data.toList.drop 0) = R from hR)
 have HBY:=Lib.hid (byF_at s)
 clear hR
 go_enter Tryz.func204,Tryz.ntmps204
 go_wp2_with (fail)
 go_loopg [3,4,5,6,7] s.size (fun qq x p i c n wr=>wr = w∧∃ (j st pw : Nat),s.size - j = qq∧j ≤ s.size∧i = .int .i64 (j : Int)∧x = .int .i64 (st : Int)∧p = .int .i64 (pw : Int)∧st ≤ 9∧pw ≤ j∧Hid (runR st pw (s.data.toList.drop j) = R))
 case atStart=>exact ⟨rfl,0,0,0,rfl,Nat.zero_le _,rfl,rfl,rfl,by omega,Nat.le_refl _,HR⟩
 case round =>
  obtain ⟨rfl,j,st,pw,rfl,hj,rfl,rfl,rfl,hst,hpw,hrun⟩:=hrel
  clear HR
  by_cases hlt : j < s.size
  ·obtain ⟨c8,hd,hc8⟩:=drop_byte s j hlt
   have hb:=HBY.out j hlt
   have h1:=hrun.out
   rw [hd] at h1
   unfold runR at h1
   rw [hc8] at h1
   obtain ⟨c,hc⟩ : ∃ c,byF s j = c:=⟨_,rfl⟩
   have hc256 : c < 256:=by rw [← hc,← hc8]; exact c8.toNat_lt
   rw [hc] at hb h1
   have F1:=Lib.hid fun W=>form_any c hc256 W
   have hk:=form_cases c
   obtain ⟨k,hk0⟩ : ∃ k,formN c = k:=⟨_,rfl⟩
   rw [hk0] at F1 hk h1
   have H1:=Lib.hid h1
   have HP:=Lib.hid (stepP_le st pw k)
   have HS9:=Lib.hid (stepR_le st k)
   clear hd hc8 hc hrun h1 hk0
   obtain rfl | rfl | rfl | rfl | rfl | rfl | rfl | rfl | rfl | rfl : st = 0 ∨ st = 1 ∨ st = 2 ∨ st = 3 ∨ st = 4 ∨ st = 5 ∨ st = 6 ∨ st = 7 ∨ st = 8 ∨ st = 9:=by omega
   all_goals
    obtain rfl | rfl | rfl | rfl | rfl:=hk
    all_goals
     go_wp2_with (fail)
     refine (F1.out _).mono ?_
     rintro e w' ⟨rfl,rfl⟩
     go_wp2_with (fail)
     go_roundg (s.size - (j + 1))
     case measure=>omega
     case rel=>exact ⟨rfl,j + 1,_,_,rfl,by omega,by go_num,rfl,by first | rfl | go_num,by first | exact HS9.out | decide,by have:=HP.out; omega,H1⟩
  ·have hje : j = s.size:=by omega
   subst hje
   have h1:=hrun.out
   rw [List.drop_of_length_le (by rw [← Lib.size_eq]; exact Nat.le_refl _)] at h1
   have h1 : okR st pw = R:=h1
   have H1:=Lib.hid h1
   clear hrun h1
   have hp8 : pw ≤ 4 ∨ 4 < pw:=by omega
   have e8 : pw ≤ 4 → decide ((pw : Int) ≤ 4) = true:=fun h=>decide_eq_true (by omega)
   have e9 : 4 < pw → decide ((pw : Int) ≤ 4) = false:=fun h=>decide_eq_false (by omega)
   clear HBY
   obtain rfl | rfl | rfl | rfl | rfl | rfl | rfl | rfl | rfl | rfl : st = 0 ∨ st = 1 ∨ st = 2 ∨ st = 3 ∨ st = 4 ∨ st = 5 ∨ st = 6 ∨ st = 7 ∨ st = 8 ∨ st = 9:=by omega
   all_goals
    go_wp2_with (fail)
    go_ret
    have h:=H1.out
    refine ⟨?_,rfl⟩
    first
     | (rw [← h]; rfl)
     | (rcases hp8 with h5 | h5
        ·rw [← h]; simp [okR,e8 h5,h5]
        ·rw [← h]; simp [okR,e9 h5,Nat.not_le.mpr h5])
end LM
namespace LM
theorem rep_four (n : Nat) (x a b c d : Value) (A : Array Value) (h : A = (List.replicate n x ++ [a,b,c,d]).toArray) : A.size = n + 4∧(∀ i,i < n → A[i]? = some x)∧A[n]? = some a∧A[n + 1]? = some b∧A[n + 2]? = some c∧A[n + 3]? = some d:=by
 subst h
 refine ⟨by simp,fun i hi=>?_,?_,?_,?_,?_⟩
 ·rw [List.getElem?_toArray,List.getElem?_append_left (by simpa using hi),List.getElem?_replicate,if_pos hi]
 ·rw [List.getElem?_toArray,List.getElem?_append_right (by simp)]; simp
 ·rw [List.getElem?_toArray,List.getElem?_append_right (by simp)]; simp
 ·rw [List.getElem?_toArray,List.getElem?_append_right (by simp)]; simp
 ·rw [List.getElem?_toArray,List.getElem?_append_right (by simp)]; simp
theorem dec_new (W : World) (A : Array Value) (h : A = (List.replicate 800 (Value.int .u8 0) ++ [Value.int .i64 0,Value.int .i64 0,Value.bool false,Value.bool false]).toArray) : DecR (W.alloc (.cells A 249)) W.heap.size zeroDec:=by
 obtain ⟨h1,h2,h3,h4,h5,h6⟩:=rep_four 800 _ _ _ _ _ A h
 exact ⟨A,heap_alloc_new W _,h1,fun i hi=>h2 i hi,h3,h4,h5,h6⟩
theorem rf_bounds {B : Nat → Nat} {z a m b : Nat} (h : NumQ B z a m b) (hz : z ≤ 800) : rfMant B a m ≤ 9999999999999999999∧(-12000 ≤ rfEx B z a m b∧rfEx B z a m b ≤ 12000)∧(-12000 ≤ rfDp B z a m b∧rfDp B z a m b ≤ 12000):=by
 have h1:=h.am
 have h2:=h.mz
 have ok:=rfN_ok h (m - a) (by omega)
 have hx:=h.exz
 have hl:=ok.lo
 have hh:=ok.hi
 have hn:=ok.nd
 have hm:=ok.ndm
 have hD : -12000 ≤ rfDp B z a m b + 20∧rfDp B z a m b ≤ 11000:=by
  unfold rfDp
  split <;> omega
 have hD2 : -11000 ≤ rfDp B z a m b:=by
  unfold rfDp
  split <;> omega
 refine ⟨(mant_bd ok).1,?_,by omega,by omega⟩
 unfold rfEx
 split
 ·omega
 ·omega
set_option maxRecDepth 1000000 in
theorem atof_num (s : ByteArray) (a m b : Nat) (hz : s.size ≤ 800) (hN : NumQ (byF s) s.size a m b) : ∃ (f : Nat) (er : Value),ErrR er∧∀ w,FV w → FX w →
  Calls Tryz.prog 321 #[.string s] w fun e w'=>e = .returned (.tuple #[.float .f64 f,.int .i64 (s.size : Int),er])∧Below w.heap.size w w':=by
 have ham:=hN.am
 have hmz:=hN.mz
 have hs1 : 0 < s.size:=by omega
 obtain ⟨hb1,⟨hb2,hb3⟩,hb4,hb5⟩:=rf_bounds hN hz
 have SP:=Lib.hid fun W=>special_no s a m b W hz hN hs1
 have RD:=Lib.hid fun W=>readf_any s a m b W hz hN
 have HN:=Lib.hid hN
 have hex:=extract_all s
 obtain ⟨M,hM⟩ : ∃ M,rfMant (byF s) a m = M:=⟨_,rfl⟩
 obtain ⟨EX,hEX⟩ : ∃ E,rfEx (byF s) s.size a m b = E:=⟨_,rfl⟩
 obtain ⟨ng,hng⟩ : ∃ n,negOf (byF s) a = n:=⟨_,rfl⟩
 obtain ⟨TR,hTR⟩ : ∃ t,rfTr (byF s) a m = t:=⟨_,rfl⟩
 rw [hM,hEX,hng,hTR] at RD
 rw [hM] at hb1
 rw [hEX] at hb2 hb3
 have HM:=Lib.hid hM
 have HNG:=Lib.hid hng
 obtain ⟨bN,hbN⟩ : ∃ bN : Nat,(if ng then 1 else 0 : Int) = (bN : Int):=⟨if ng then 1 else 0,by cases ng <;> rfl⟩
 have B1:=Lib.hid (bool2_u64 ng)
 rw [hbN] at B1
 have hbN1 : bN ≤ 1:=by cases ng <;> simp at hbN <;> omega
 obtain ⟨sg,hsg⟩ : ∃ sg,bN * 9223372036854775808 = sg:=⟨_,rfl⟩
 have hsgi : (bN : Int) * 9223372036854775808 = (sg : Int):=by omega
 have hsgl : sg < 18446744073709551616:=by omega
 clear hbN hsg hM hEX hng hTR hN
 by_cases h0 : M = 0
 ·subst h0
  obtain ⟨X,hX,_⟩:=or_nat sg 0
  refine ⟨X,.nilIface,.inl rfl,fun w hv hx=>?_⟩
  have o1:=hv.opt
  have f1 : ∀ W,(callFunc 331 #[.int .u64 (X : Int)]).run Tryz.prog W = .ok (.value (.float .f64 X)) W:=fun W=>run_sfrom X W
  clear hv hx
  go_enter Tryz.func321,Tryz.ntmps321
  go_wp2_with (fail)
  refine (SP.out _).mono ?_
  rintro e w' ⟨rfl,rfl⟩
  go_wp2_with (fail)
  refine (RD.out _).mono ?_
  rintro e w' ⟨rfl,rfl⟩
  go_wp2_with (fail)
  refine (B1.out _).mono ?_
  rintro e w' ⟨rfl,rfl⟩
  go_wp2_with (fail)
  go_returns
  exact ⟨rfl,Below.refl _ _⟩
 ·have d0 : ((M : Int) == 0) = false:=by simpa using (by omega : ¬ (M : Int) = 0)
  by_cases h310 : 310 < EX
  ·have d1 : decide (310 < EX) = true:=decide_eq_true h310
   obtain ⟨X,hX,_⟩:=or_nat sg 9218868437227405312
   refine ⟨X,_,.inr rfl,fun w hv hx=>?_⟩
   have o1:=hv.opt
   have f1 : ∀ W,(callFunc 331 #[.int .u64 (X : Int)]).run Tryz.prog W = .ok (.value (.float .f64 X)) W:=fun W=>run_sfrom X W
   clear hv hx
   go_enter Tryz.func321,Tryz.ntmps321
   go_wp2_with (fail)
   refine (SP.out _).mono ?_
   rintro e w' ⟨rfl,rfl⟩
   go_wp2_with (fail)
   refine (RD.out _).mono ?_
   rintro e w' ⟨rfl,rfl⟩
   go_wp2_with (fail)
   refine (B1.out _).mono ?_
   rintro e w' ⟨rfl,rfl⟩
   go_wp2_with (fail)
   go_returns
   exact ⟨rfl,Below.refl _ _⟩
  ·have d1 : decide (310 < EX) = false:=decide_eq_false h310
   by_cases h345 : EX < -345
   ·have d2 : decide (EX < -345) = true:=decide_eq_true h345
    obtain ⟨X,hX,_⟩:=or_nat sg 0
    refine ⟨X,.nilIface,.inl rfl,fun w hv hx=>?_⟩
    have o1:=hv.opt
    have f1 : ∀ W,(callFunc 331 #[.int .u64 (X : Int)]).run Tryz.prog W = .ok (.value (.float .f64 X)) W:=fun W=>run_sfrom X W
    clear hv hx
    go_enter Tryz.func321,Tryz.ntmps321
    go_wp2_with (fail)
    refine (SP.out _).mono ?_
    rintro e w' ⟨rfl,rfl⟩
    go_wp2_with (fail)
    refine (RD.out _).mono ?_
    rintro e w' ⟨rfl,rfl⟩
    go_wp2_with (fail)
    refine (B1.out _).mono ?_
    rintro e w' ⟨rfl,rfl⟩
    go_wp2_with (fail)
    go_returns
    exact ⟨rfl,Below.refl _ _⟩
   ·have d2 : decide (EX < -345) = false:=decide_eq_false h345
    obtain ⟨fe,oke,hEXC⟩:=exact_any M EX ng (by omega) (by omega) (by omega)
    obtain ⟨fa,era,hera,hP64⟩:=parse64_any M EX sg h0 (by omega) hsgl (by omega) (by omega)
    have EXC:=Lib.hid hEXC
    have P64:=Lib.hid hP64
    clear hEXC hP64
    cases TR
    ·cases oke
     ·refine ⟨fa,era,hera,fun w hv hx=>?_⟩
      have o1:=hv.opt
      go_enter Tryz.func321,Tryz.ntmps321
      go_wp2_with (fail)
      refine (SP.out _).mono ?_
      rintro e w' ⟨rfl,rfl⟩
      go_wp2_with (fail)
      refine (RD.out _).mono ?_
      rintro e w' ⟨rfl,rfl⟩
      go_wp2_with (fail)
      refine (B1.out _).mono ?_
      rintro e w' ⟨rfl,rfl⟩
      go_wp2_with (fail)
      refine (EXC.out _ hv).mono ?_
      rintro e w' ⟨rfl,rfl⟩
      go_wp2_with (fail)
      refine (P64.out _ hv.pow hv.size_ok).mono ?_
      rintro e w1 ⟨rfl,hb1⟩
      have HB:=Lib.hid hb1
      clear hb1
      go_wp2_with (fail)
      go_returns
      exact ⟨rfl,HB.out⟩
     ·refine ⟨fe,.nilIface,.inl rfl,fun w hv hx=>?_⟩
      have o1:=hv.opt
      go_enter Tryz.func321,Tryz.ntmps321
      go_wp2_with (fail)
      refine (SP.out _).mono ?_
      rintro e w' ⟨rfl,rfl⟩
      go_wp2_with (fail)
      refine (RD.out _).mono ?_
      rintro e w' ⟨rfl,rfl⟩
      go_wp2_with (fail)
      refine (B1.out _).mono ?_
      rintro e w' ⟨rfl,rfl⟩
      go_wp2_with (fail)
      refine (EXC.out _ hv).mono ?_
      rintro e w' ⟨rfl,rfl⟩
      go_wp2_with (fail)
      go_returns
      exact ⟨rfl,Below.refl _ _⟩
    ·obtain ⟨fb,erb,herb,hQ64⟩:=parse64_any (M + 1) EX sg (by omega) (by omega) hsgl (by omega) (by omega)
     have Q64:=Lib.hid hQ64
     obtain ⟨EQ,hEQ⟩ : ∃ B,(FloatKind.f64.format.order fa fb == some .eq) = B:=⟨_,rfl⟩
     clear hQ64
     cases EQ
     ·obtain ⟨R,hR⟩ : ∃ R,fbRes (setD (byF s) ng s.size a m b) = R:=⟨_,rfl⟩
      have HR:=Lib.hid hR
      have HDOK:=Lib.hid (setD_ok HN.out ng hz (by rw [show (rfN (byF s) a (m - a)).mant = M from HM.out]; exact h0))
      clear hR
      refine ⟨R.1,if R.2 then .iface 257 (.int .i64 1) else .nilIface,?_,fun w hv hx=>?_⟩
      ·cases R.2
       ·exact .inl rfl
       ·exact .inr rfl
      have o1:=hv.opt
      go_enter Tryz.func321,Tryz.ntmps321
      go_wp2_with (fail)
      refine (SP.out _).mono ?_
      rintro e w' ⟨rfl,rfl⟩
      go_wp2_with (fail)
      refine (RD.out _).mono ?_
      rintro e w' ⟨rfl,rfl⟩
      go_wp2_with (fail)
      refine (B1.out _).mono ?_
      rintro e w' ⟨rfl,rfl⟩
      go_wp2_with (fail)
      refine (P64.out _ hv.pow hv.size_ok).mono ?_
      rintro e w1 ⟨rfl,hb1⟩
      have HB:=Lib.hid hb1
      clear hb1
      go_wp2_with (fail)
      refine (Q64.out _ (hv.below HB.out).pow (hv.below HB.out).size_ok).mono ?_
      rintro e w2 ⟨rfl,hb2⟩
      have HB2:=Lib.hid (HB.out.trans (hb2.mono HB.out.size))
      clear hb2
      go_wp2_with (fail)
      refine (set_any w2.heap.size s a m b _ (dec_new w2 _ (by kernel_rfl)) hz HN.out).mono ?_
      rintro e w3 ⟨rfl,hd3,hg3⟩
      have hb3 : Below w.heap.size w w3:=below_of_only (HB2.out.alloc HB2.out.size _) hg3 HB2.out.size (by have:=HB2.out.size; simp; omega)
      rw [HNG.out] at hd3
      have FB:=fbits_any w2.heap.size _ w w3 hx hb3 HB2.out.size hd3 HDOK.out (by show -300000 ≤ rfDp (byF s) s.size a m b∧rfDp (byF s) s.size a m b ≤ 300000; omega)
      rw [HR.out] at FB
      have HFB:=Lib.hid FB
      have HB3:=Lib.hid hb3
      clear hd3 hg3 hb3 FB
      obtain ⟨rb,ro⟩:=R
      have f1 : ∀ W,(callFunc 331 #[.int .u64 (rb : Int)]).run Tryz.prog W = .ok (.value (.float .f64 rb)) W:=fun W=>run_sfrom rb W
      go_wp2_with (fail)
      refine HFB.out.mono ?_
      rintro e w4 ⟨rfl,hg4⟩
      have HB4:=Lib.hid (below_of_only HB3.out hg4 HB2.out.size HB3.out.size)
      clear hg4
      cases ro
      ·go_wp2_with (fail)
       go_returns
       exact ⟨rfl,HB4.out⟩
      ·go_wp2_with (fail)
       go_returns
       exact ⟨rfl,HB4.out⟩
     ·refine ⟨fa,era,hera,fun w hv hx=>?_⟩
      have o1:=hv.opt
      go_enter Tryz.func321,Tryz.ntmps321
      go_wp2_with (fail)
      refine (SP.out _).mono ?_
      rintro e w' ⟨rfl,rfl⟩
      go_wp2_with (fail)
      refine (RD.out _).mono ?_
      rintro e w' ⟨rfl,rfl⟩
      go_wp2_with (fail)
      refine (B1.out _).mono ?_
      rintro e w' ⟨rfl,rfl⟩
      go_wp2_with (fail)
      refine (P64.out _ hv.pow hv.size_ok).mono ?_
      rintro e w1 ⟨rfl,hb1⟩
      have HB:=Lib.hid hb1
      clear hb1
      go_wp2_with (fail)
      refine (Q64.out _ (hv.below HB.out).pow (hv.below HB.out).size_ok).mono ?_
      rintro e w2 ⟨rfl,hb2⟩
      have HB2:=Lib.hid (HB.out.trans (hb2.mono HB.out.size))
      clear hb2
      go_wp2_with (fail)
      go_returns
      exact ⟨rfl,HB2.out⟩
end LM
namespace LM
def RngCell (w : World) : Prop:=∃ ev,w.cell? ⟨8,0,none⟩ = some ev∧8 < w.heap.size∧(ev = .nilIface ∨ ∃ te pe,ev = .iface te pe)
theorem RngCell.below {w w' : World} (h : RngCell w) (hb : Below w.heap.size w w') : RngCell w':=by
 obtain ⟨ev,h1,h2,h3⟩:=h
 exact ⟨ev,(World.cell?_of_block (a:=⟨8,0,none⟩) (hb.block _ h2)).trans h1,Nat.lt_of_lt_of_le h2 hb.size,h3⟩
theorem parse_num (s : ByteArray) (a m b : Nat) (hz : s.size ≤ 800) (hN : NumQ (byF s) s.size a m b) : ∃ (f : Nat),∀ w,FV w → FX w → RngCell w →
  Calls Tryz.prog 205 #[.string s,.int .i64 64] w fun e w'=>(∃ er,e = .returned (.tuple #[.float .f64 f,er]))∧Below w.heap.size w w':=by
 obtain ⟨f,er,her,hA⟩:=atof_num s a m b hz hN
 have hA2 : ∀ w,FV w → FX w → Calls Tryz.prog 310 #[.string s,.int .i64 64] w fun e w'=>e = .returned (.tuple #[.float .f64 f,.int .i64 (s.size : Int),er])∧Below w.heap.size w w':=fun w hv hx=>by
  have HA:=Lib.hid (hA w hv hx)
  clear hv hx hA hN
  go_enter Tryz.func310,Tryz.ntmps310
  go_wp2_with (fail)
  refine HA.out.mono ?_
  rintro e w' ⟨rfl,hb⟩
  have HB:=Lib.hid hb
  clear hb
  go_wp2_with (fail)
  go_returns
  exact ⟨rfl,HB.out⟩
 have hA3 : ∀ w,FV w → FX w → Calls Tryz.prog 260 #[.string s,.int .i64 64] w fun e w'=>e = .returned (.tuple #[.float .f64 f,er])∧Below w.heap.size w w':=fun w hv hx=>by
  have HA:=Lib.hid (hA2 w hv hx)
  clear hv hx hA hA2 hN
  go_enter Tryz.func260,Tryz.ntmps260
  go_wp2_with (fail)
  refine HA.out.mono ?_
  rintro e w' ⟨rfl,hb⟩
  have HB:=Lib.hid hb
  clear hb
  go_wp2_with (fail)
  go_returns
  exact ⟨rfl,HB.out⟩
 refine ⟨f,fun w hv hx hr=>?_⟩
 have HA:=Lib.hid (hA3 w hv hx)
 have HR:=Lib.hid hr
 clear hv hx hA hA2 hA3 hN hr
 rcases her with rfl | rfl
 ·go_enter Tryz.func205,Tryz.ntmps205
  go_wp2_with (fail)
  refine HA.out.mono ?_
  rintro e w' ⟨rfl,hb⟩
  have HB:=Lib.hid hb
  clear hb
  go_wp2_with (fail)
  go_returns
  exact ⟨⟨_,rfl⟩,HB.out⟩
 ·go_enter Tryz.func205,Tryz.ntmps205
  go_wp2_with (fail)
  refine HA.out.mono ?_
  rintro e w' ⟨rfl,hb⟩
  have HB:=Lib.hid hb
  obtain ⟨ev,h1,h2,h3⟩:=HR.out.below hb
  clear hb
  go_wp2_with (fail)
  refine (Tryz.strconv_toError_range _ s 0 64 ev w' (by omega) h1 h3).mono ?_
  rintro e w2 ⟨N,rfl,-,-,hb2⟩
  have HB2:=Lib.hid (HB.out.trans (hb2.mono HB.out.size))
  clear hb2 h1 h2 h3
  go_wp2_with (fail)
  go_returns
  exact ⟨⟨_,rfl⟩,HB2.out⟩
end LM
namespace LM
def bt (l : List UInt8) (i : Nat) : Nat:=(l.getD i 0).toNat
theorem cutL_spec (p : UInt8 → Bool) : ∀ l : List UInt8,(cutL p l = (l,[],false)) ∨ ∃ n : Nat,n < l.length∧cutL p l = (l.take n,l.drop (n + 1),true)∧p (l.getD n 0) = true:=by
 intro l
 induction l with
 | nil=>exact .inl rfl
 | cons c l ih =>
  have e : cutL p (c :: l) = if p c then ([],l,true) else (c :: (cutL p l).1,(cutL p l).2.1,(cutL p l).2.2):=rfl
  rw [e]
  by_cases h : p c = true
  ·rw [if_pos h]
   exact .inr ⟨0,by simp,rfl,h⟩
  ·rw [if_neg h]
   rcases ih with h2 | ⟨n,h1,h2,h3⟩
   ·rw [h2]; exact .inl rfl
   ·rw [h2]
    exact .inr ⟨n + 1,by simpa using h1,by simp,by simpa using h3⟩
theorem bt_drop (l : List UInt8) (a i : Nat) : bt (l.drop a) i = bt l (a + i):=by
 unfold bt
 rw [List.getD_eq_getElem?_getD,List.getD_eq_getElem?_getD,List.getElem?_drop]
theorem bt_take (l : List UInt8) {n i : Nat} (h : i < n) : bt (l.take n) i = bt l i:=by
 unfold bt
 rw [List.getD_eq_getElem?_getD,List.getD_eq_getElem?_getD,List.getElem?_take,if_pos h]
theorem digB_bt {l : List UInt8} (h : digB l = true) (i : Nat) (hi : i < l.length) : dgc (bt l i):=by
 unfold digB at h
 rw [List.all_eq_true] at h
 have h2:=h (l.getD i 0) (by
  rw [List.getD_eq_getElem?_getD,List.getElem?_eq_getElem hi]
  exact List.getElem_mem hi)
 unfold dgc bt
 simpa using h2
theorem unsig_spec (l : List UInt8) : ∃ a,a ≤ 1∧a ≤ l.length∧unsigB l = l.drop a∧(a = 1 → bt l 0 = 43 ∨ bt l 0 = 45):=by
 cases l with
 | nil=>exact ⟨0,by simp,by simp,rfl,fun h=>absurd h (by decide)⟩
 | cons c l =>
  have e : unsigB (c :: l) = if c = 43 ∨ c = 45 then l else c :: l:=rfl
  rw [e]
  by_cases h : c = 43 ∨ c = 45
  ·rw [if_pos h]
   refine ⟨1,Nat.le_refl _,by simp,rfl,fun _=>?_⟩
   show c.toNat = 43 ∨ c.toNat = 45
   rcases h with rfl | rfl
   ·exact .inl rfl
   ·exact .inr rfl
  ·rw [if_neg h]
   exact ⟨0,by simp,by simp,rfl,fun h=>absurd h (by decide)⟩
theorem mant_spec {c : List UInt8} (h1 : digB (cutL isDot c).1 = true) (h2 : digB (cutL isDot c).2.1 = true) (h3 : ¬ (cutL isDot c).1.length + (cutL isDot c).2.1.length = 0) :
  (∀ i,i < c.length → dgc (bt c i) ∨ bt c i = 46)∧(∀ i j,i < j → j < c.length → bt c i = 46 → dgc (bt c j))∧(∃ i,i < c.length∧dgc (bt c i)):=by
 rcases cutL_spec isDot c with e | ⟨k,hk,e,hp⟩
 ·rw [e] at h1 h2 h3
  dsimp only at h1 h3
  have hd:=fun i hi=>digB_bt h1 i hi
  rw [List.length_nil] at h3
  exact ⟨fun i hi=>.inl (hd i hi),fun i j _ hj _=>hd j hj,0,by omega,hd 0 (by omega)⟩
 ·rw [e] at h1 h2 h3
  dsimp only at h1 h2 h3
  have hk2 : (c.take k).length = k:=by rw [List.length_take]; omega
  have hk3 : (c.drop (k + 1)).length = c.length - (k + 1):=List.length_drop
  have hA : ∀ i,i < k → dgc (bt c i):=fun i hi=>by
   have:=digB_bt h1 i (by rw [hk2]; exact hi)
   rwa [bt_take c hi] at this
  have hB : ∀ i,k < i → i < c.length → dgc (bt c i):=fun i hi hj=>by
   have:=digB_bt h2 (i - (k + 1)) (by rw [hk3]; omega)
   rw [bt_drop] at this
   rwa [show k + 1 + (i - (k + 1)) = i from by omega] at this
  have hC : bt c k = 46:=by
   unfold isDot at hp
   unfold bt
   have : c.getD k 0 = 46:=by simpa using hp
   rw [this]
   rfl
  refine ⟨fun i hi=>?_,fun i j hij hj h46=>?_,?_⟩
  ·rcases Nat.lt_trichotomy i k with h | h | h
   ·exact .inl (hA i h)
   ·subst h; exact .inr hC
   ·exact .inl (hB i h hi)
  ·rcases Nat.lt_trichotomy i k with h | h | h
   ·have:=hA i h
    unfold dgc at this
    omega
   ·exact hB j (by omega) hj
   ·have:=hB i h (by omega)
    unfold dgc at this
    omega
  ·rw [hk2,hk3] at h3
   by_cases h0 : 0 < k
   ·exact ⟨0,by omega,hA 0 h0⟩
   ·exact ⟨k + 1,by omega,hB (k + 1) (by omega) (by omega)⟩
theorem num_q {l : List UInt8} (h : numL l = true) : ∃ a m b,NumQ (bt l) l.length a m b:=by
 unfold numL at h
 simp only [Bool.and_eq_true,Bool.or_eq_true,Bool.not_eq_true',decide_eq_true_eq] at h
 obtain ⟨⟨⟨⟨h1,h2⟩,h3⟩,h4⟩,h5⟩:=h
 obtain ⟨a,ha1,hal,hau,hsg⟩:=unsig_spec l
 obtain ⟨s1,s2,s3⟩:=mant_spec h3 h4 (by simpa using h2)
 have key : ∀ m b,a + (cutL isE (unsigB l)).1.length = m → m ≤ l.length → (∀ i,i < (cutL isE (unsigB l)).1.length → bt (cutL isE (unsigB l)).1 i = bt l (a + i)) →
   (m = l.length ∨ ((bt l m = 101 ∨ bt l m = 69)∧((b = m + 1∧dgc (bt l (m + 1))) ∨ (b = m + 2∧(bt l (m + 1) = 43 ∨ bt l (m + 1) = 45)))∧b < l.length∧l.length ≤ b + 4∧∀ i,b ≤ i → i < l.length → dgc (bt l i))) → NumQ (bt l) l.length a m b:=by
  intro m b hm hml hbt hex
  obtain ⟨i0,hi0,hd0⟩:=s3
  have hman : ∀ i,a ≤ i → i < m → dgc (bt l i) ∨ bt l i = 46:=fun i h6 h7=>by
   have:=s1 (i - a) (by omega)
   rwa [hbt _ (by omega),show a + (i - a) = i from by omega] at this
  refine ⟨ha1,by omega,hml,hsg,fun h0=>?_,hman,fun i j h6 h7 h8 h9=>?_,?_,hex⟩
  ·have:=hman 0 (by omega) (by omega)
   exact this
  ·have:=s2 (i - a) (j - a) (by omega) (by omega) (by rw [hbt _ (by omega),show a + (i - a) = i from by omega]; exact h9)
   rwa [hbt _ (by omega),show a + (j - a) = j from by omega] at this
  ·refine ⟨a + i0,by omega,by omega,?_⟩
   rw [← hbt i0 hi0]
   exact hd0
 have hul : (unsigB l).length = l.length - a:=by rw [hau,List.length_drop]
 rcases cutL_spec isE (unsigB l) with e | ⟨n,hn,e,hp⟩
 ·refine ⟨a,l.length,0,key _ _ ?_ (Nat.le_refl _) (fun i hi=>?_) (.inl rfl)⟩
  ·rw [e]; dsimp only; omega
  ·rw [e]; dsimp only; rw [hau,bt_drop]
 ·have hq : (cutL isE (unsigB l)).2.2 = true:=by rw [e]
  rw [hq] at h5
  simp only [Bool.true_eq_false,false_or] at h5
  obtain ⟨⟨h6,h7⟩,h8⟩:=h5
  obtain ⟨c2,hc1,hc2,hcu,hcs⟩:=unsig_spec (cutL isE (unsigB l)).2.1
  have e21 : (cutL isE (unsigB l)).2.1 = l.drop (a + n + 1):=by rw [e]; dsimp only; rw [hau,List.drop_drop,Nat.add_assoc]
  rw [hcu] at h6 h7 h8
  rw [e21] at h6 h7 h8 hc2 hcs
  rw [List.drop_drop] at h6 h7 h8
  rw [List.length_drop] at h6 h7 hc2
  have hdg : ∀ i,a + n + 1 + c2 ≤ i → i < l.length → dgc (bt l i):=fun i h9 h10=>by
   have:=digB_bt h8 (i - (a + n + 1 + c2)) (by rw [List.length_drop]; omega)
   rwa [bt_drop,show a + n + 1 + c2 + (i - (a + n + 1 + c2)) = i from by omega] at this
  have hme : bt l (a + n) = 101 ∨ bt l (a + n) = 69:=by
   have h9 : bt (unsigB l) n = bt l (a + n):=by rw [hau,bt_drop]
   rw [← h9]
   unfold isE at hp
   unfold bt
   have : (unsigB l).getD n 0 = 101 ∨ (unsigB l).getD n 0 = 69:=by simpa using hp
   rcases this with h | h
   ·rw [h]; exact .inl rfl
   ·rw [h]; exact .inr rfl
  refine ⟨a,a + n,a + n + 1 + c2,key _ _ ?_ (by omega) (fun i hi=>?_) (.inr ⟨hme,?_,by omega,by omega,hdg⟩)⟩
  ·rw [e]; dsimp only; rw [List.length_take]; omega
  ·rw [e] at hi ⊢
   dsimp only at hi ⊢
   rw [List.length_take] at hi
   rw [bt_take _ (by omega),hau,bt_drop]
  ·rcases Nat.lt_or_ge 0 c2 with h9 | h9
   ·have : c2 = 1:=by omega
    subst this
    have:=hcs rfl
    rw [bt_drop] at this
    exact .inr ⟨rfl,this⟩
   ·have : c2 = 0:=by omega
    subst this
    exact .inl ⟨rfl,hdg _ (by omega) (by omega)⟩
theorem num_by {s : ByteArray} (h : numL s.data.toList = true) : ∃ a m b,NumQ (byF s) s.size a m b:=by
 have:=num_q h
 rw [← Lib.size_eq] at this
 exact this
end LM
namespace LM
abbrev nmNan : List UInt8:=[43,110,97,110,46,48]
abbrev nmInf : List UInt8:=[43,105,110,102,46,48]
abbrev nmMin : List UInt8:=[45,105,110,102,46,48]
def parV (l : List UInt8) (f : Nat) : Nat × Int :=
 if l = nmNan then (9221120237041090561,0) else if l = nmInf then (9218868437227405312,0) else if l = nmMin then (18442240474082181120,0)
 else if 700 < l.length ∨ numL l = false then (0,31) else (f,0)
def ReadsF (s : ByteArray) (f : Nat) : Prop:=numL s.data.toList = true → s.size ≤ 700 → ∀ w,FV w → FX w → RngCell w →
  Calls Tryz.prog 205 #[.string s,.int .i64 64] w fun e w'=>(∃ er,e = .returned (.tuple #[.float .f64 f,er]))∧Below w.heap.size w w'
theorem reads_some (s : ByteArray) : ∃ f,ReadsF s f:=by
 by_cases h : numL s.data.toList = true∧s.size ≤ 700
 ·obtain ⟨a,m,b,hq⟩:=num_by h.1
  obtain ⟨f,hf⟩:=parse_num s a m b (by omega) hq
  exact ⟨f,fun _ _=>hf⟩
 ·exact ⟨0,fun h1 h2=>absurd ⟨h1,h2⟩ h⟩
end LM
namespace LM
theorem rfparse_any (s : ByteArray) (f : Nat) (hs : s.size ≤ 1000) (hf : ReadsF s f) (w : World) (hv : FV w) (hx : FX w) (hr : RngCell w) :
  Calls Tryz.prog 161 #[.string s] w fun e w'=>e = .returned (.tuple #[.float .f64 (parV s.data.toList f).1,.int .i64 (parV s.data.toList f).2])∧Below w.heap.size w w':=by
 have hl:=Go.ByteArray.toList_eq s
 have hz : s.data.toList.length = s.size:=by rw [Lib.size_eq]
 obtain ⟨V,hV⟩ : ∃ V,parV s.data.toList f = V:=⟨_,rfl⟩
 rw [hV]
 by_cases h1 : s.data.toList = nmNan
 ·have HV:=Lib.hid (show V = (9221120237041090561,0) by rw [← hV]; unfold parV; rw [if_pos h1])
  have c1 : (s.toList == [43,110,97,110,46,48]) = true:=by rw [hl,h1]; rfl
  have f1 : ∀ W,(callFunc 124 #[.int .u64 9221120237041090561]).run Tryz.prog W = .ok (.value (.float .f64 9221120237041090561)) W:=fun W=>run_mfrom 9221120237041090561 W
  clear hV hf hl hz h1 hv hx hr
  go_enter Tryz.func161,Tryz.ntmps161
  go_wp2_with (fail)
  go_returns
  rw [HV.out]
  exact ⟨rfl,Below.refl _ _⟩
 ·have c1 : (s.toList == [43,110,97,110,46,48]) = false:=by rw [hl]; simpa using h1
  by_cases h2 : s.data.toList = nmInf
  ·have HV:=Lib.hid (show V = (9218868437227405312,0) by rw [← hV]; unfold parV; rw [if_neg h1,if_pos h2])
   have c2 : (s.toList == [43,105,110,102,46,48]) = true:=by rw [hl,h2]; rfl
   have f1 : ∀ W,(callFunc 124 #[.int .u64 9218868437227405312]).run Tryz.prog W = .ok (.value (.float .f64 9218868437227405312)) W:=fun W=>run_mfrom 9218868437227405312 W
   clear hV hf hl hz h1 h2 hv hx hr
   go_enter Tryz.func161,Tryz.ntmps161
   go_wp2_with (fail)
   go_returns
   rw [HV.out]
   exact ⟨rfl,Below.refl _ _⟩
  ·have c2 : (s.toList == [43,105,110,102,46,48]) = false:=by rw [hl]; simpa using h2
   by_cases h3 : s.data.toList = nmMin
   ·have HV:=Lib.hid (show V = (18442240474082181120,0) by rw [← hV]; unfold parV; rw [if_neg h1,if_neg h2,if_pos h3])
    have c3 : (s.toList == [45,105,110,102,46,48]) = true:=by rw [hl,h3]; rfl
    have f1 : ∀ W,(callFunc 124 #[.int .u64 18442240474082181120]).run Tryz.prog W = .ok (.value (.float .f64 18442240474082181120)) W:=fun W=>run_mfrom 18442240474082181120 W
    clear hV hf hl hz h1 h2 h3 hv hx hr
    go_enter Tryz.func161,Tryz.ntmps161
    go_wp2_with (fail)
    go_returns
    rw [HV.out]
    exact ⟨rfl,Below.refl _ _⟩
   ·have c3 : (s.toList == [45,105,110,102,46,48]) = false:=by rw [hl]; simpa using h3
    have HV0:=Lib.hid (show V = if 700 < s.size ∨ numL s.data.toList = false then (0,31) else (f,0) by rw [← hV]; unfold parV; rw [if_neg h1,if_neg h2,if_neg h3,hz])
    have N1:=Lib.hid (rnumeral_any s w hs)
    by_cases h7 : 700 < s.size
    ·have HV:=Lib.hid (show V = (0,31) by rw [HV0.out,if_pos (.inl h7)])
     have d7 : decide (700 < s.size) = true:=decide_eq_true h7
     clear hV hf hl hz h1 h2 h3 hv hx hr HV0
     go_enter Tryz.func161,Tryz.ntmps161
     go_wp2_with (fail)
     go_returns
     rw [HV.out]
     exact ⟨rfl,Below.refl _ _⟩
    ·have d7 : decide (700 < s.size) = false:=decide_eq_false h7
     obtain ⟨q,hq⟩ : ∃ q,numL s.data.toList = q:=⟨_,rfl⟩
     rw [hq] at N1 HV0
     have PF:=Lib.hid fun (h : q = true)=>hf (hq.trans h) (by omega)
     have FVH:=Lib.hid hv
     have FXH:=Lib.hid hx
     have RH:=Lib.hid hr
     cases q
     ·have HV:=Lib.hid (show V = (0,31) by rw [HV0.out,if_pos (.inr rfl)])
      clear hV hf hl hz h1 h2 h3 hv hx hr HV0 hq
      go_enter Tryz.func161,Tryz.ntmps161
      go_wp2_with (fail)
      refine N1.out.mono ?_
      rintro e w' ⟨rfl,rfl⟩
      have HB:=Lib.hid (Below.refl w.heap.size w)
      go_wp2_with (fail)
      go_returns
      rw [HV.out]
      exact ⟨rfl,HB.out⟩
     ·have HV:=Lib.hid (show V = (f,0) by rw [HV0.out,if_neg (by simp; omega)])
      clear hV hf hl hz h1 h2 h3 hv hx hr HV0 hq
      go_enter Tryz.func161,Tryz.ntmps161
      go_wp2_with (fail)
      refine N1.out.mono ?_
      rintro e w' ⟨rfl,rfl⟩
      have HB:=Lib.hid (Below.refl w.heap.size w)
      go_wp2_with (fail)
      refine (PF.out (by trivial) _ (FVH.out.below HB.out) (FXH.out.below HB.out) (RH.out.below HB.out)).mono ?_
      rintro e w2 ⟨⟨er,rfl⟩,hb2⟩
      have HB2:=Lib.hid (HB.out.trans (hb2.mono HB.out.size))
      clear hb2
      go_wp2_with (fail)
      go_returns
      rw [HV.out]
      exact ⟨rfl,HB2.out⟩
end LM
namespace LM
def amB (b : Nat) : List UInt8 → Bool
 | []=>false
 | c :: l=>decide (c.toNat = b) || amB b l
theorem among_any (s : ByteArray) (b : Nat) (hb : b < 256) (w : World) (hs : s.size ≤ 1000) :
  Calls Tryz.prog 158 #[.string s,.int .u8 (b : Int)] w fun e w'=>e = .returned (.bool (amB b s.data.toList))∧w = w':=by
 obtain ⟨R,hR⟩ : ∃ R,amB b s.data.toList = R:=⟨_,rfl⟩
 rw [hR]
 have HR:=Lib.hid (show amB b (s.data.toList.drop 0) = R from hR)
 have HBY:=Lib.hid (byF_at s)
 clear hR
 go_enter Tryz.func158,Tryz.ntmps158
 go_wp2_with (fail)
 go_loopg [5] s.size (fun qq i wr=>wr = w∧∃ (j : Nat),s.size - j = qq∧j ≤ s.size∧i = .int .i64 (j : Int)∧Hid (amB b (s.data.toList.drop j) = R))
 case atStart=>exact ⟨rfl,0,rfl,Nat.zero_le _,rfl,HR⟩
 case round =>
  obtain ⟨rfl,j,rfl,hj,rfl,hrun⟩:=hrel
  clear HR
  by_cases hlt : j < s.size
  ·obtain ⟨c8,hd,hc8⟩:=drop_byte s j hlt
   have hby:=HBY.out j hlt
   have h1:=hrun.out
   rw [hd] at h1
   unfold amB at h1
   rw [hc8] at h1
   obtain ⟨c,hc⟩ : ∃ c,byF s j = c:=⟨_,rfl⟩
   have hc256 : c < 256:=by rw [← hc,← hc8]; exact c8.toNat_lt
   rw [hc] at hby h1
   have e0 : decide ((j : Int) < (s.size : Int)) = true:=decide_eq_true (by omega)
   clear hd hc8 hc hrun
   by_cases h : c = b
   ·have e1 : ((c : Int) == (b : Int)) = true:=by rw [h,beq_iff_eq]
    have H1:=Lib.hid (show R = true by rw [← h1,decide_eq_true h]; rfl)
    clear h1
    go_wp2_with (fail)
    go_ret
    rw [H1.out]
    exact ⟨rfl,rfl⟩
   ·have e1 : ((c : Int) == (b : Int)) = false:=by rw [beq_eq_false_iff_ne]; omega
    have H1:=Lib.hid (show amB b (s.data.toList.drop (j + 1)) = R by rw [← h1,decide_eq_false h]; rfl)
    clear h1
    go_wp2_with (fail)
    go_roundg (s.size - (j + 1))
    case measure=>omega
    case rel=>exact ⟨rfl,j + 1,rfl,by omega,by go_num,H1⟩
  ·have hje : j = s.size:=by omega
   subst hje
   have h1:=hrun.out
   rw [List.drop_of_length_le (by rw [← Lib.size_eq]; exact Nat.le_refl _)] at h1
   have H1:=Lib.hid (show R = false from h1.symm)
   clear hrun h1 HBY
   go_wp2_with (fail)
   go_ret
   rw [H1.out]
   exact ⟨rfl,rfl⟩
end LM
namespace LM
abbrev plainL : List UInt8:=[97,98,99,100,101,102,103,104,105,106,107,108,109,110,111,112,113,114,115,116,117,118,119,120,121,122,65,66,67,68,69,70,71,72,73,74,75,76,77,78,79,80,81,82,83,84,85,86,87,88,89,90,48,49,50,51,52,53,54,55,56,57,33,36,37,38,42,47,58,60,61,62,63,94,95,126,43,45,46,64]
def plainB (b : Nat) : Bool:=amB b plainL
theorem plain_any (b : Nat) (hb : b < 256) (w : World) :
  Calls Tryz.prog 122 #[.int .u8 (b : Int)] w fun e w'=>e = .returned (.bool (plainB b))∧w = w':=by
 have A1:=Lib.hid fun s W (hs : s.size ≤ 1000)=>among_any s b hb W hs
 obtain ⟨R,hR⟩ : ∃ R,plainB b = R:=⟨_,rfl⟩
 rw [hR]
 have HR:=Lib.hid hR
 clear hR
 go_enter Tryz.func122,Tryz.ntmps122
 go_wp2_with (fail)
 refine (A1.out _ _ (by decide)).mono ?_
 rintro e w' ⟨rfl,rfl⟩
 go_wp2_with (fail)
 go_ret
 rw [← HR.out]
 exact ⟨rfl,rfl⟩
end LM
end Go.Proofs.YtaonablbgicmpaaGreatDoor
