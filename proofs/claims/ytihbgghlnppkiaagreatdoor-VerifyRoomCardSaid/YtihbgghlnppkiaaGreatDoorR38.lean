import Derived.Test.YtihbgghlnppkiaaGreatDoorR32
import Derived.Lib.AtoiErrMem
import Derived.Lib.AppendIntMem
import Derived.Test.YtihbgghlnppkiaaGreatDoorR16
import Derived.Test.YtihbgghlnppkiaaGreatDoorR10
import Derived.Test.YtihbgghlnppkiaaGreatDoorR29
import Derived.Test.YtihbgghlnppkiaaGreatDoorR30
import Derived.Test.YtihbgghlnppkiaaGreatDoorR09
import Derived.Test.YtihbgghlnppkiaaGreatDoorR49
import Derived.Test.YtihbgghlnppkiaaGreatDoorR54
import Derived.Test.YtihbgghlnppkiaaGreatDoorR55
import Derived.Test.YtihbgghlnppkiaaGreatDoorR01
set_option linter.unusedVariables false
set_option linter.unusedSimpArgs false
set_option maxRecDepth 100000
set_option maxHeartbeats 16000000
namespace Go.Proofs.YtihbgghlnppkiaaGreatDoor
open Go Go.Shelf Go.RowKit Go.Sort Go.Lib
namespace LM
theorem isInf_pos (b : Nat) (w : World) (x : Bool) (h1 : (FloatKind.f64.format.order b 9218868437227405311 == some .gt) = x) :
    Calls Tryz.prog 102 #[.float .f64 b,.int .i64 1] w fun e w'=>e = .returned (.bool x)∧w = w':=by
  go_enter Tryz.func102,Tryz.ntmps102
  go_wp2
  go_ret
  exact ⟨rfl,rfl⟩
theorem isInf_neg (b : Nat) (w : World) (x : Bool) (h1 : (FloatKind.f64.format.order (Op.negFloat .f64 b) 9218868437227405311 == some .gt) = x) :
    Calls Tryz.prog 102 #[.float .f64 b,.int .i64 (-1)] w fun e w'=>e = .returned (.bool x)∧w = w':=by
  have h2 : ∀ W,(Op.unary .neg (.float .f64 b)).run Tryz.prog W = .ok (.float .f64 (Op.negFloat .f64 b)) W:=fun W=>rfl
  go_enter Tryz.func102,Tryz.ntmps102
  go_wp2
  go_ret
  exact ⟨rfl,rfl⟩
theorem flotext_f (b a : Nat) (l : List UInt8) (w : World) (hb : b < 18446744073709551616) (ha : b % 9223372036854775808 = a) (hn : ¬ nanW b)
    (i1 : (FloatKind.f64.format.order b 9218868437227405311 == some .gt) = false) (i2 : (FloatKind.f64.format.order (Op.negFloat .f64 b) 9218868437227405311 == some .gt) = false)
    (z : (FloatKind.f64.format.order a 0 == some .eq) = true ∨ ((FloatKind.f64.format.order a 0 == some .eq) = false∧(FloatKind.f64.format.order a 4562254508917369340 == some .gt || FloatKind.f64.format.order a 4562254508917369340 == some .eq) = true∧(FloatKind.f64.format.order a 4921056587992461136 == some .lt) = true))
    (hl : l.length ≤ 1000000) (hl0 : l ≠ [])
    (hF : ∀ v w1,OB w.heap.size w 0 [] v [] w1 → Calls Tryz.prog 140 #[v,.float .f64 b,.int .u8 (102 : Nat),.int .i64 (-1)] w1 fun r w'=>∃ v' g ds,r = .returned v'∧OB w.heap.size w g ds v' l w') :
    Calls Tryz.prog 86 #[.float .f64 b] w fun e w'=>e = .returned (.string ⟨(pointB l).toArray⟩)∧Below w.heap.size w w':=by
  have hA:=fun W=>abs_any b W hb
  rw [ha] at hA
  have hN:=fun W=>isNaN_any b W hb
  rw [decide_eq_false hn] at hN
  have A1:=Lib.hid hA
  have N1:=Lib.hid hN
  have P1:=Lib.hid fun W=>isInf_pos b W false i1
  have P2:=Lib.hid fun W=>isInf_neg b W false i2
  have F1:=Lib.hid (format_any b 102 l w hl0 (by decide) hF)
  have Q1:=Lib.hid fun W=>pointed_any l W hl
  clear hA hN hF i1 i2 ha hn
  rcases z with z0 | ⟨z0,z1,z2⟩
  all_goals
    go_enter Tryz.func86,Tryz.ntmps86
    go_wp2_with (fail)
    refine (A1.out _).mono ?_
    rintro e w' ⟨rfl,rfl⟩
    go_wp2_with (fail)
    refine (N1.out _).mono ?_
    rintro e w' ⟨rfl,rfl⟩
    go_wp2_with (fail)
    refine (P1.out _).mono ?_
    rintro e w' ⟨rfl,rfl⟩
    go_wp2_with (fail)
    refine (P2.out _).mono ?_
    rintro e w' ⟨rfl,rfl⟩
    go_wp2_with (fail)
    refine F1.out.mono ?_
    rintro e w' ⟨rfl,hb1⟩
    go_wp2_with (fail)
    refine (Q1.out _).mono ?_
    rintro e w2 ⟨rfl,rfl⟩
    go_wp2
    go_ret
    exact ⟨rfl,hb1⟩
theorem index_at {pre ex : List UInt8} (h : 101 ∉ pre) : indexByte (pre ++ 101 :: ex) 101 = (pre.length : Int):=by
  have h1:=indexByte_ge (pre ++ 101 :: ex) 101
  have hm : (pre ++ 101 :: ex)[pre.length]? = some 101:=by simp
  have h2 : indexByte (pre ++ 101 :: ex) 101 ≠ -1:=fun hn=>indexByte_none hn pre.length hm
  obtain ⟨o,ho⟩ : ∃ o : Nat,indexByte (pre ++ 101 :: ex) 101 = o:=⟨(indexByte (pre ++ 101 :: ex) 101).toNat,by omega⟩
  obtain ⟨h3,h4⟩:=indexByte_some ho
  rw [ho]
  rcases Nat.lt_trichotomy o pre.length with hlt | heq | hgt
  · rw [List.getElem?_append_left hlt,List.getElem?_eq_getElem hlt] at h3
    injection h3 with h3
    exact absurd (h3 ▸ List.getElem_mem hlt) h
  · rw [heq]
  · exact absurd hm (h4 _ hgt)
theorem bytes_eq {s : ByteArray} {l : List UInt8} (h : s.data.toList = l) : s = ⟨l.toArray⟩:=by
  subst h
  cases s
  rfl
theorem flotext_e (b a : Nat) (l pre ex : List UInt8) (k : Int) (w : World) (hb : b < 18446744073709551616) (ha : b % 9223372036854775808 = a) (hn : ¬ nanW b)
    (i1 : (FloatKind.f64.format.order b 9218868437227405311 == some .gt) = false) (i2 : (FloatKind.f64.format.order (Op.negFloat .f64 b) 9218868437227405311 == some .gt) = false)
    (z0 : (FloatKind.f64.format.order a 0 == some .eq) = false) (z : ((FloatKind.f64.format.order a 4562254508917369340 == some .gt || FloatKind.f64.format.order a 4562254508917369340 == some .eq) = false) ∨ ((FloatKind.f64.format.order a 4562254508917369340 == some .gt || FloatKind.f64.format.order a 4562254508917369340 == some .eq) = true∧(FloatKind.f64.format.order a 4921056587992461136 == some .lt) = false))
    (hl : l.length ≤ 1000000) (hle : l = pre ++ 101 :: ex) (hpre : 101 ∉ pre) (hex : ex.length ≤ 18) (hk : Lib.atoi ex = some k) (hkb : -1000 ≤ k ∧ k ≤ 1000) (htab : Lib.TabIs Tryz.prog w "internal/strconv.uint64pow10" .u64 Lib.pow10Tab)
    (hF : ∀ v w1,OB w.heap.size w 0 [] v [] w1 → Calls Tryz.prog 140 #[v,.float .f64 b,.int .u8 (101 : Nat),.int .i64 (-1)] w1 fun r w'=>∃ v' g ds,r = .returned v'∧OB w.heap.size w g ds v' l w') :
    Calls Tryz.prog 86 #[.float .f64 b] w fun e w'=>e = .returned (.string ⟨(pointB pre ++ 101 :: Lib.itoa k).toArray⟩)∧Below w.heap.size w w':=by
  have hA:=fun W=>abs_any b W hb
  rw [ha] at hA
  have hN:=fun W=>isNaN_any b W hb
  rw [decide_eq_false hn] at hN
  have hz : (⟨l.toArray⟩ : ByteArray).size = l.length:=Lib.size_eq _
  have hix : indexByte (⟨l.toArray⟩ : ByteArray).data.toList 101 = ((pre.length : Nat) : Int):=by
    show indexByte l 101 = _
    rw [hle]
    exact index_at hpre
  have e1 : (⟨l.toArray⟩ : ByteArray).extract 0 pre.length = ⟨pre.toArray⟩:=bytes_eq (by
    rw [Lib.extract_data,List.drop_zero,Nat.sub_zero]
    show l.take pre.length = pre
    rw [hle,List.take_left])
  have e2 : (⟨l.toArray⟩ : ByteArray).extract (pre.length + 1) (⟨l.toArray⟩ : ByteArray).size = ⟨ex.toArray⟩:=bytes_eq (by
    rw [Lib.extract_data,hz]
    show (l.drop (pre.length + 1)).take _ = ex
    have hd : l.drop (pre.length + 1) = ex:=by rw [hle]; simp
    rw [hd]
    exact List.take_of_length_le (by rw [hle]; simp; omega))
  have hcut:=fun W=>scut_in ⟨l.toArray⟩ 101 W (by rw [hz]; omega) pre.length hix (by rw [hz,hle]; simp)
  rw [e1,e2] at hcut
  have A1:=Lib.hid hA
  have N1:=Lib.hid hN
  have P1:=Lib.hid fun W=>isInf_pos b W false i1
  have P2:=Lib.hid fun W=>isInf_neg b W false i2
  have F1:=Lib.hid (format_any b 101 l w (by rw [hle]; simp) (by decide) hF)
  have C1:=Lib.hid hcut
  have T1:=Lib.hid fun W=>Tryz.strconv_Atoi ⟨ex.toArray⟩ k (by rw [Lib.size_eq]; exact hex) hk W
  have Q1:=Lib.hid fun W=>pointed_any pre W (by rw [hle] at hl; simp at hl; omega)
  have I1 : Hid (∀ W, Lib.TabIs Tryz.prog W "internal/strconv.uint64pow10" .u64 Lib.pow10Tab → _) := Lib.hid fun W h => Tryz.strconv_Itoa k (by omega) (by omega) W h
  have HTAB:=Lib.hid htab
  have hpl : pre.length ≤ 1000000:=by rw [hle] at hl; simp at hl; omega
  clear hA hN hF i1 i2 ha hn hle hix e1 e2 hcut hk htab hz
  rcases z with z1 | ⟨z1,z2⟩
  all_goals
    go_enter Tryz.func86,Tryz.ntmps86
    go_wp2_with (fail)
    refine (A1.out _).mono ?_
    rintro e w' ⟨rfl,rfl⟩
    go_wp2_with (fail)
    refine (N1.out _).mono ?_
    rintro e w' ⟨rfl,rfl⟩
    go_wp2_with (fail)
    refine (P1.out _).mono ?_
    rintro e w' ⟨rfl,rfl⟩
    go_wp2_with (fail)
    refine (P2.out _).mono ?_
    rintro e w' ⟨rfl,rfl⟩
    go_wp2_with (fail)
    refine F1.out.mono ?_
    rintro e w1 ⟨rfl,hb1⟩
    have HB1:=Lib.hid hb1
    clear hb1
    go_wp2_with (fail)
    refine (C1.out _).mono ?_
    rintro e w2 ⟨rfl,k2,rfl⟩
    go_wp2_with (fail)
    refine (T1.out _).mono ?_
    rintro e w3 ⟨rfl,t,rfl⟩
    go_wp2_with (fail)
    refine (Q1.out _).mono ?_
    rintro e w4 ⟨rfl,rfl⟩
    have HB3:=Lib.hid ((below_drewN HB1.out k2).trans ((Lib.bytesWorld_below _ 5 t).mono (show w.heap.size ≤ (w1.drewN k2).heap.size from HB1.out.size)))
    have hpb : (pointB pre).length ≤ 1000002:=by unfold pointB; split <;> (try rw [List.length_append]) <;> (try simp only [List.length_cons,List.length_nil]) <;> omega
    have hs1 : (⟨(pointB pre).toArray⟩ : ByteArray).size ≤ 1000002:=by rw [Lib.size_eq]; exact hpb
    have hik : (Lib.itoa k).length ≤ 30:=by
      unfold Lib.itoa
      have h1 : ∀ n,n ≤ 1000 → (Lib.decDigits n).length ≤ 25:=fun n hn=>by
        rw [Lib.decDigits_length]
        exact nDigits_le (k := 24) (by have : (1000 : Nat) < 10 ^ 25 := by decide
                                       omega)
      split
      · simp only [List.length_cons]; have:=h1 k.natAbs (by omega); omega
      · have:=h1 k.toNat (by omega); omega
    have hs2 : (⟨(Lib.itoa k).toArray⟩ : ByteArray).size ≤ 30:=by rw [Lib.size_eq]; exact hik
    have hcat : (⟨(pointB pre).toArray⟩ : ByteArray) ++ ⟨#[101]⟩ ++ ⟨(Lib.itoa k).toArray⟩ = ⟨(pointB pre ++ 101 :: Lib.itoa k).toArray⟩:=by
      apply ByteArray.ext
      simp
    have HCAT:=Lib.hid hcat
    have hs3 : ((⟨(pointB pre).toArray⟩ : ByteArray) ++ (⟨#[101]⟩ : ByteArray)).size ≤ 1000003:=by
      rw [ByteArray.size_append]
      have : (⟨#[101]⟩ : ByteArray).size = 1:=rfl
      omega
    generalize hS1 : (⟨(pointB pre).toArray⟩ : ByteArray) = S1 at hs1 hs3 HCAT ⊢
    clear hpb hik hcat hS1
    go_wp2_with (fail)
    refine (I1.out _ (tab_below HTAB.out HB3.out)).mono ?_
    rintro e w5 ⟨rfl,k5,os,rfl⟩
    have HB5:=Lib.hid (HB3.out.trans ((Lib.below_grow _ _ HB3.out.size k5 os)))
    generalize hS2 : (⟨(Lib.itoa k).toArray⟩ : ByteArray) = S2 at hs2 HCAT ⊢
    clear hS2
    go_wp2
    go_ret
    refine ⟨?_,HB5.out⟩
    rw [← HCAT.out]
    rfl
end LM
namespace LM
end LM
namespace LM
theorem FV.size_ok {w : World} (h : FV w) : 11 < w.heap.size:=h.size.2.2.2
end LM
namespace LM
theorem nzd_pos {c : UInt8} {r : List UInt8} (h : c ≠ 48) : 1 ≤ nzd (c :: r):=by
  unfold nzd
  split
  · first
      | exact Nat.le_refl _
      | (rw [if_neg h]; exact Nat.le_refl _)
  · omega
theorem dec_byte (u : Nat) : ∀ x ∈ decDigits u,48 ≤ x.toNat∧x.toNat ≤ 57:=by
  intro x hx
  rw [decDigits_eq] at hx
  obtain ⟨t,_,rfl⟩:=List.mem_map.1 hx
  have : (dg u (nDigits u - 1 - t)).toNat = (48 + u / 10 ^ (nDigits u - 1 - t) % 10) % 256:=by unfold dg; simp
  rw [this]
  omega
theorem d_facts {d : Nat} (h1 : 1 ≤ d) (h2 : d < 4611686018427387904) : 1 ≤ nzd (decDigits d)∧nDigits d ≤ 20:=by
  obtain ⟨c,r,h3,h4⟩:=dec_first d h1
  refine ⟨by rw [h3]; exact nzd_pos h4,?_⟩
  exact nDigits_le (k := 19) (by have : (4611686018427387904 : Nat) < 10 ^ 20 := by decide
                                 omega)
theorem short_pack {m : Nat} {e p : Int} (q0 : -348 ≤ p) (q1 : p ≤ 347) (T : Nat × Int) (hT : 1 ≤ T.1∧T.1 < 4611686018427387904∧(T.2 = -(p - 1) ∨ T.2 = -p))
    (hc : ∀ W,FV W → Calls Tryz.prog 181 #[.int .u64 (m : Int),.int .i64 e] W fun r w'=>r = .returned (.tuple #[.int .u64 ((T.1 : Nat) : Int),.int .i64 T.2])∧Below W.heap.size W w') :
    ∃ d p',1 ≤ d∧d < 4611686018427387904∧-348 ≤ p'∧p' ≤ 349 ∧
      ∀ W,FV W → Calls Tryz.prog 181 #[.int .u64 (m : Int),.int .i64 e] W fun r w'=>r = .returned (.tuple #[.int .u64 ((d : Nat) : Int),.int .i64 p'])∧Below W.heap.size W w':=by
  obtain ⟨r1,r2,r3⟩:=hT
  obtain ⟨d,p'⟩:=T
  dsimp only at r1 r2 r3 hc
  exact ⟨d,p',r1,r2,by omega,by omega,hc⟩
theorem short_norm (fr ex m : Nat) (e : Int) (hfr : fr < 4503599627370496) (h1 : 1 ≤ ex) (h2 : ex ≤ 2046) (hm : (fr + 4503599627370496) * 2048 = m) (he : e = (ex : Int) - 1086) : ∃ d p',1 ≤ d∧d < 4611686018427387904∧-348 ≤ p'∧p' ≤ 349 ∧
    ∀ W,FV W → Calls Tryz.prog 181 #[.int .u64 (m : Int),.int .i64 e] W fun r w'=>r = .returned (.tuple #[.int .u64 ((d : Nat) : Int),.int .i64 p'])∧Below W.heap.size W w':=by
  by_cases h0 : fr = 0
  · have hm0 : 9223372036854775808 = m:=by
      rw [h0,show (0 + 4503599627370496) * 2048 = 9223372036854775808 from by decide] at hm
      exact hm
    clear hm h0
    by_cases hx : ex = 1
    · obtain ⟨q0,q1,q2,q3⟩:=p_mid (e:=e) (by omega) (by omega) rfl
      obtain ⟨od,hod⟩ : ∃ od,m / 2048 % 2 = od:=⟨_,rfl⟩
      exact short_pack q0 q1 _ (short_pos m e _ (m - 1024) (m + 1024) od (by omega) (by omega) (by omega) (by omega) (by omega) (by omega) q0 q1 q2 q3) (fun W hv=>short_lo2 m e _ od W hv.pow hv.size.2.2.2 hm0 (by omega) rfl q0 q1 (by omega) (by omega) hod)
    · obtain ⟨q0,q1,q2,q3⟩:=p_low (e:=e) (by omega) (by omega) rfl
      exact short_pack q0 q1 _ (short_pos m e _ (m - 512) (m + 1024) 0 (by omega) (by omega) (by omega) (by omega) (by omega) (by omega) q0 q1 q2 q3) (fun W hv=>short_low m e _ 0 W hv.pow hv.size.2.2.2 hm0 (by omega) (by omega) rfl q0 q1 (by omega) (by omega) rfl)
  · obtain ⟨q0,q1,q2,q3⟩:=p_mid (e:=e) (by omega) (by omega) rfl
    obtain ⟨od,hod⟩ : ∃ od,m / 2048 % 2 = od:=⟨_,rfl⟩
    exact short_pack q0 q1 _ (short_pos m e _ (m - 1024) (m + 1024) od (by omega) (by omega) (by omega) (by omega) (by omega) (by omega) q0 q1 q2 q3) (fun W hv=>short_mid m e _ od W hv.pow hv.size.2.2.2 (by omega) (by omega) (by omega) (by omega) rfl q0 q1 (by omega) (by omega) hod)
theorem short_least (fr s m : Nat) (e : Int) (hfr : fr < 4503599627370496) (h1 : 1 ≤ fr) (hs : Lib.bitLen fr + s = 64) (hm : fr * 2 ^ s = m) (he : e = -1074 - (s : Int)) : m < 18446744073709551616∧∃ d p',1 ≤ d∧d < 4611686018427387904∧-348 ≤ p'∧p' ≤ 349 ∧
    ∀ W,FV W → Calls Tryz.prog 181 #[.int .u64 (m : Int),.int .i64 e] W fun r w'=>r = .returned (.tuple #[.int .u64 ((d : Nat) : Int),.int .i64 p'])∧Below W.heap.size W w':=by
  obtain ⟨b1,b2,b3⟩:=Lib.bitLenAux_bounds 64 fr (by omega) (by omega)
  have b4:=Lib.bitLen_le fr 52 (by decide) hfr
  change 1 ≤ Lib.bitLen fr at b1
  change 2 ^ (Lib.bitLen fr - 1) ≤ fr at b2
  change fr < 2 ^ Lib.bitLen fr at b3
  obtain ⟨len,hlen⟩ : ∃ len,Lib.bitLen fr = len:=⟨_,rfl⟩
  rw [hlen] at b1 b2 b3 b4 hs
  obtain ⟨z2,hz2⟩ : ∃ z2,s = z2 + 1:=⟨s - 1,by omega⟩
  obtain ⟨pw,hpw⟩ : ∃ pw,2 ^ s = pw:=⟨_,rfl⟩
  obtain ⟨ph,hph⟩ : ∃ ph,2 ^ z2 = ph:=⟨_,rfl⟩
  have hpp : pw = ph * 2:=by rw [← hpw,← hph,hz2,Nat.pow_succ]
  have hup : (fr + 1) * pw ≤ 18446744073709551616:=by
    refine Nat.le_trans (Nat.mul_le_mul_right pw b3) ?_
    rw [← hpw,← Nat.pow_add,hs]
    decide
  have hlo : 9223372036854775808 ≤ fr * pw:=by
    refine Nat.le_trans ?_ (Nat.mul_le_mul_right pw b2)
    rw [← hpw,← Nat.pow_add,show len - 1 + s = 63 from by omega]
    decide
  rw [hpw] at hm
  rw [Nat.add_mul,Nat.one_mul,hm] at hup
  rw [hm] at hlo
  have hph0 : 0 < ph:=hph ▸ Nat.pow_pos (by decide)
  have hphl : ph ≤ 4611686018427387904:=by omega
  obtain ⟨q2,q3⟩:=p_sub (e:=e) (s:=s) (by omega) (by omega) he
  obtain ⟨od,hod⟩ : ∃ od,m / pw % 2 = od:=⟨_,rfl⟩
  refine ⟨by omega,?_⟩
  refine short_pack (p:=324) (by decide) (by decide) _ (short_pos m e 324 (m - ph) (m + ph) od (by omega) (by omega) (by omega) (by omega) (by omega) (by omega) (by decide) (by decide) q2 q3) (fun W hv=>?_)
  exact short_sub m s z2 pw ph e 324 od _ W hv.pow hv.size.2.2.2 hlo rfl (by omega) (by omega) (by omega) (by omega) hz2 hpw hph he (by decide) (by decide) (by decide) (by omega) (by omega) hod
structure FinT (D : List UInt8) (dp : Int) : Prop where
  ne : 1 ≤ D.length
  le : D.length ≤ 20
  dig : ∀ x ∈ D,48 ≤ x.toNat∧x.toNat ≤ 57
  dp : -400 ≤ dp∧dp ≤ 400
abbrev FtoaOk (b c : Nat) (l : List UInt8) : Prop:=∀ (W0 : World),FV W0 → ∀ v w1,OB W0.heap.size W0 0 [] v [] w1 →
  Calls Tryz.prog 140 #[v,.float .f64 b,.int .u8 (c : Nat),.int .i64 (-1)] w1 fun r w'=>∃ v' g ds,r = .returned v'∧OB W0.heap.size W0 g ds v' l w'
theorem fint_of {d : Nat} {p : Int} (h1 : 1 ≤ d) (h2 : d < 4611686018427387904) (h3 : -348 ≤ p) (h4 : p ≤ 349) : FinT ((decDigits d).take (nzd (decDigits d))) ((nDigits d : Int) + p):=by
  obtain ⟨f1,f2⟩:=d_facts h1 h2
  have f3:=nzd_le (decDigits d)
  rw [decDigits_length] at f3
  refine ⟨?_,?_,fun x hx=>dec_byte d x (List.mem_of_mem_take hx),by omega,by omega⟩
  · rw [List.length_take,decDigits_length]; omega
  · rw [List.length_take,decDigits_length]; omega
theorem ftoa_fin (b : Nat) (neg : Bool) (hb : b < 18446744073709551616) (hneg : (decide (9223372036854775808 ≤ b)) = neg) (hfin : b % 9223372036854775808 < 9218868437227405312) (h0 : b % 9223372036854775808 ≠ 0) :
    ∃ D dp,FinT D dp∧FtoaOk b 101 (fmtE neg D dp)∧(4503599627370496 ≤ b % 9223372036854775808 → FtoaOk b 102 (fmtF neg D dp)):=by
  obtain ⟨ex,hex⟩ : ∃ ex,b / 4503599627370496 % 2048 = ex:=⟨_,rfl⟩
  obtain ⟨fr,hfr⟩ : ∃ fr,b % 4503599627370496 = fr:=⟨_,rfl⟩
  have hfrl : fr < 4503599627370496:=by omega
  have hexl : ex < 2047:=by omega
  by_cases hx : ex = 0
  · have hbl : ¬ 4503599627370496 ≤ b % 9223372036854775808:=by omega
    have hf0 : 1 ≤ fr:=by omega
    obtain ⟨s,hs⟩ : ∃ s,Lib.bitLen fr + s = 64:=⟨64 - Lib.bitLen fr,by have:=Lib.bitLen_le fr 52 (by decide) hfrl; omega⟩
    obtain ⟨m,hm⟩ : ∃ m,fr * 2 ^ s = m:=⟨_,rfl⟩
    obtain ⟨hml,d,p,d1,d2,p1,p2,hS⟩:=short_least fr s m (-1074 - (s : Int)) hfrl hf0 hs hm rfl
    obtain ⟨f1,f2⟩:=d_facts d1 d2
    refine ⟨_,_,fint_of d1 d2 p1 p2,fun W0 hv v w1 hob=>?_,fun h=>absurd h hbl⟩
    have hv1:=hv.below hob.2.1
    exact (ftoaE_sub b neg ex fr fr _ s m (-1074 - (s : Int)) p d W0.heap.size W0 v w1 hb hob hneg hex hfr (by omega) hx (by omega) rfl rfl hs hm hml (by omega)
      (fun W _ hW=>hS W (hv1.below hW)) hv1.tab d1 (by omega) (by omega) f1 f2).mono fun r w' ⟨v',g,h1,h2⟩=>⟨v',g,_,h1,h2⟩
  · obtain ⟨m,hm⟩ : ∃ m,(fr + 4503599627370496) * 2048 = m:=⟨_,rfl⟩
    obtain ⟨d,p,d1,d2,p1,p2,hS⟩:=short_norm fr ex m ((ex : Int) - 1086) hfrl (by omega) (by omega) hm rfl
    obtain ⟨f1,f2⟩:=d_facts d1 d2
    have hbl : Lib.bitLen (fr + 4503599627370496) = 53:=by
      have h1:=Lib.bitLen_le (fr + 4503599627370496) 53 (by decide) (by omega)
      obtain ⟨b1,b2,b3⟩:=Lib.bitLenAux_bounds 64 (fr + 4503599627370496) (by omega) (by omega)
      change fr + 4503599627370496 < 2 ^ Lib.bitLen (fr + 4503599627370496) at b3
      rcases Nat.lt_or_ge (Lib.bitLen (fr + 4503599627370496)) 53 with h | h
      · have h2 : 2 ^ Lib.bitLen (fr + 4503599627370496) ≤ 2 ^ 52:=Nat.pow_le_pow_right (by decide) (by omega)
        have h3 : (2 : Nat) ^ 52 = 4503599627370496:=by decide
        omega
      · omega
    refine ⟨_,_,fint_of d1 d2 p1 p2,fun W0 hv v w1 hob=>?_,fun _ W0 hv v w1 hob=>?_⟩
    · have hv1:=hv.below hob.2.1
      exact (ftoaE_any b neg ex fr (fr + 4503599627370496) 53 11 m ((ex : Int) - 1086) p d W0.heap.size W0 v w1 hb hob hneg hex hfr hexl hx rfl hbl (by decide) hm (by omega) (by omega)
        (fun W _ hW=>hS W (hv1.below hW)) hv1.tab d1 (by omega) (by omega) f1 f2).mono fun r w' ⟨v',g,h1,h2⟩=>⟨v',g,_,h1,h2⟩
    · have hv1:=hv.below hob.2.1
      exact (ftoaF_any b neg ex fr (fr + 4503599627370496) 53 11 m ((ex : Int) - 1086) p d W0.heap.size W0 v w1 hb hob hneg hex hfr hexl hx rfl hbl (by decide) hm (by omega) (by omega)
        (fun W _ hW=>hS W (hv1.below hW)) hv1.tab d1 (by omega) (by omega) f1 f2).mono fun r w' ⟨v',g,h1,h2⟩=>⟨v',g,_,h1,h2⟩
end LM
namespace LM
theorem flotext_nan (b : Nat) (w : World) (hb : b < 18446744073709551616) (hn : nanW b) :
    Calls Tryz.prog 86 #[.float .f64 b] w fun e w'=>e = .returned (.string ⟨#[43,110,97,110,46,48]⟩)∧w = w':=by
  have A1:=Lib.hid fun W=>abs_any b W hb
  have hN:=fun W=>isNaN_any b W hb
  rw [decide_eq_true hn] at hN
  have N1:=Lib.hid hN
  clear hN hn
  go_enter Tryz.func86,Tryz.ntmps86
  go_wp2_with (fail)
  refine (A1.out _).mono ?_
  rintro e w' ⟨rfl,rfl⟩
  go_wp2_with (fail)
  refine (N1.out _).mono ?_
  rintro e w' ⟨rfl,rfl⟩
  go_wp2_with (fail)
  go_ret
  exact ⟨rfl,rfl⟩
theorem flotext_minf (w : World) :
    Calls Tryz.prog 86 #[.float .f64 18442240474082181120] w fun e w'=>e = .returned (.string ⟨#[45,105,110,102,46,48]⟩)∧w = w':=by
  have A1:=Lib.hid fun W=>abs_any 18442240474082181120 W (by decide)
  have hN:=fun W=>isNaN_any 18442240474082181120 W (by decide)
  rw [decide_eq_false (show ¬ nanW 18442240474082181120 by unfold nanW; decide)] at hN
  have N1:=Lib.hid hN
  have P1:=Lib.hid fun W=>isInf_pos 18442240474082181120 W false (by decide +kernel)
  have P2:=Lib.hid fun W=>isInf_neg 18442240474082181120 W true (by decide +kernel)
  clear hN
  go_enter Tryz.func86,Tryz.ntmps86
  go_wp2_with (fail)
  refine (A1.out _).mono ?_
  rintro e w' ⟨rfl,rfl⟩
  go_wp2_with (fail)
  refine (N1.out _).mono ?_
  rintro e w' ⟨rfl,rfl⟩
  go_wp2_with (fail)
  refine (P1.out _).mono ?_
  rintro e w' ⟨rfl,rfl⟩
  go_wp2_with (fail)
  refine (P2.out _).mono ?_
  rintro e w' ⟨rfl,rfl⟩
  go_wp2_with (fail)
  go_ret
  exact ⟨rfl,rfl⟩
end LM
namespace LM
def cutL (p : UInt8 → Bool) : List UInt8 → List UInt8 × List UInt8 × Bool
  | []=>([],[],false)
  | c :: l=>if p c then ([],l,true) else (c :: (cutL p l).1,(cutL p l).2.1,(cutL p l).2.2)
theorem cutL_any (chars : List UInt8) : ∀ l : List UInt8,(Lib.indexAny l chars = -1∧cutL chars.contains l = (l,[],false)) ∨ ∃ n : Nat,Lib.indexAny l chars = (n : Int)∧n < l.length∧cutL chars.contains l = (l.take n,l.drop (n + 1),true):=by
  intro l
  induction l with
  | nil=>exact .inl ⟨rfl,rfl⟩
  | cons c l ih =>
    unfold Lib.indexAny cutL
    by_cases h : chars.contains c = true
    · rw [if_pos h,if_pos h]
      exact .inr ⟨0,rfl,by simp,rfl⟩
    · rw [if_neg h,if_neg h]
      rcases ih with ⟨h1,h2⟩ | ⟨n,h1,h2,h3⟩
      · rw [h1,h2]
        exact .inl ⟨rfl,rfl⟩
      · rw [h1,h3]
        refine .inr ⟨n + 1,?_,by simpa using h2,by simp⟩
        have : ((n : Int) == -1) = false:=by simp
        rw [this]
        simp
def isE : UInt8 → Bool:=[101,69].contains
def isDot : UInt8 → Bool:=[46].contains
theorem cutL_len (p : UInt8 → Bool) (l : List UInt8) : (cutL p l).1.length ≤ l.length∧(cutL p l).2.1.length ≤ l.length:=by
  induction l with
  | nil=>exact ⟨Nat.le_refl _,Nat.le_refl _⟩
  | cons c l ih =>
    unfold cutL
    split
    · simp
    · simp; omega
theorem cutE_any (s : ByteArray) (w : World) (hs : s.size ≤ 1000) (has : ∀ (j : Nat) b,s.data.toList[j]? = some b → b.toNat < 128) :
    Calls Tryz.prog 164 #[.string s] w fun e w'=>(∃ t1 t2,e = .returned (.tuple #[.string t1,.string t2,.bool (cutL isE s.data.toList).2.2])∧t1.data.toList = (cutL isE s.data.toList).1∧t2.data.toList = (cutL isE s.data.toList).2.1)∧Below w.heap.size w w':=by
  have hI:=Lib.hid fun W=>Tryz.strings_IndexAny_laid s ⟨#[101,69]⟩ W (by omega) (by decide) has (by
    intro j b hb
    have:=List.mem_of_getElem? hb
    simp at this
    rcases this with rfl | rfl <;> decide)
  have hc:=cutL_any [101,69] s.data.toList
  rcases hc with ⟨h1,h2⟩ | ⟨n,h1,h2,h3⟩
  · have I1:=hI.out
    rw [show (⟨#[101,69]⟩ : ByteArray).data.toList = [101,69] from rfl,h1] at I1
    have II:=Lib.hid I1
    have H2:=Lib.hid (show cutL isE s.data.toList = (s.data.toList,[],false) from h2)
    clear hI I1 has h1 h2
    go_enter Tryz.func164,Tryz.ntmps164
    go_wp2_with (fail)
    refine (II.out _).mono ?_
    rintro e w' ⟨rfl,hb⟩
    have HB:=Lib.hid hb
    clear hb
    go_wp2_with (fail)
    go_returns
    rw [H2.out]
    exact ⟨⟨s,⟨#[]⟩,rfl,rfl,rfl⟩,HB.out⟩
  · have I1:=hI.out
    rw [show (⟨#[101,69]⟩ : ByteArray).data.toList = [101,69] from rfl,h1] at I1
    have II:=Lib.hid I1
    have H2:=Lib.hid (show cutL isE s.data.toList = (s.data.toList.take n,s.data.toList.drop (n + 1),true) from h3)
    have hn : n < s.size:=by rw [Lib.size_eq]; exact h2
    clear hI I1 has h1 h2 h3
    go_enter Tryz.func164,Tryz.ntmps164
    go_wp2_with (fail)
    refine (II.out _).mono ?_
    rintro e w' ⟨rfl,hb⟩
    have HB:=Lib.hid hb
    clear hb
    go_wp2_with (fail)
    go_quiet (fail)
    go_wp2_with (fail)
    go_returns
    rw [H2.out]
    refine ⟨⟨_,_,rfl,?_,?_⟩,below_drewN HB.out _⟩
    · rw [Lib.extract_data]; simp
    · rw [Lib.extract_data]
      rw [List.take_of_length_le]
      rw [List.length_drop,← Lib.size_eq]
      exact Nat.le_refl _
theorem scut_any (s : ByteArray) (w : World) (hs : s.size ≤ 1000) :
    Calls Tryz.prog 105 #[.string s,.string ⟨#[46]⟩] w fun e w'=>(∃ t1 t2,e = .returned (.tuple #[.string t1,.string t2,.bool (cutL isDot s.data.toList).2.2])∧t1.data.toList = (cutL isDot s.data.toList).1∧t2.data.toList = (cutL isDot s.data.toList).2.1)∧Below w.heap.size w w':=by
  rcases cutL_any [46] s.data.toList with ⟨h1,h2⟩ | ⟨n,h1,h2,h3⟩
  · rw [Lib.indexAny_one] at h1
    refine (scut_no s 46 w (by omega) h1).mono ?_
    rintro e w' ⟨rfl,rfl⟩
    rw [show cutL isDot s.data.toList = _ from h2]
    exact ⟨⟨s,⟨#[]⟩,rfl,rfl,rfl⟩,Below.refl _ _⟩
  · rw [Lib.indexAny_one] at h1
    refine (scut_in s 46 w (by omega) n h1 (by rw [Lib.size_eq]; exact h2)).mono ?_
    rintro e w' ⟨rfl,k,rfl⟩
    rw [show cutL isDot s.data.toList = _ from h3]
    refine ⟨⟨_,_,rfl,?_,?_⟩,below_drewN (Below.refl _ _) _⟩
    · rw [Lib.extract_data]; simp
    · rw [Lib.extract_data]
      rw [List.take_of_length_le]
      rw [List.length_drop,← Lib.size_eq]
      exact Nat.le_refl _
def numL (l : List UInt8) : Bool :=
  let c:=cutL isE (unsigB l)
  let d:=cutL isDot c.1
  (d.2.2 || c.2.2) && !((d.1.length + d.2.1.length) == 0) && digB d.1 && digB d.2.1 && (!c.2.2 || (decide (1 ≤ (unsigB c.2.1).length) && decide ((unsigB c.2.1).length ≤ 4) && digB (unsigB c.2.1)))
theorem unsig_sub (l : List UInt8) : (unsigB l).length ≤ l.length∧∀ b,b ∈ unsigB l → b ∈ l:=by
  cases l with
  | nil=>exact ⟨Nat.le_refl _,fun b h=>h⟩
  | cons c l =>
    have e : unsigB (c :: l) = if c = 43 ∨ c = 45 then l else c :: l:=rfl
    rw [e]
    by_cases h : c = 43 ∨ c = 45
    · rw [if_pos h]
      exact ⟨by simp,fun b h=>List.mem_cons_of_mem _ h⟩
    · rw [if_neg h]
      exact ⟨Nat.le_refl _,fun b h=>h⟩
theorem isnum_any (s : ByteArray) (w : World) (hs : s.size ≤ 1000) (has : ∀ (j : Nat) b,s.data.toList[j]? = some b → b.toNat < 128) :
    Calls Tryz.prog 136 #[.string s] w fun e w'=>e = .returned (.bool (numL s.data.toList))∧Below w.heap.size w w':=by
  obtain ⟨R,hR⟩ : ∃ R,numL s.data.toList = R:=⟨_,rfl⟩
  rw [hR]
  have HR:=Lib.hid hR
  have U1:=Lib.hid fun W=>unsigned_any s W (by omega)
  have HAS:=Lib.hid has
  clear has hR
  go_enter Tryz.func136,Tryz.ntmps136
  go_wp2_with (fail)
  refine (U1.out _).mono ?_
  rintro e w1 ⟨⟨t,rfl,ht,hts⟩,k1,rfl⟩
  have CE:=Lib.hid fun W=>cutE_any t W (by omega) (by
    intro j b hb
    rw [ht] at hb
    have h2:=(unsig_sub _).2 _ (List.mem_of_getElem? hb)
    obtain ⟨i,hi⟩:=List.mem_iff_getElem?.1 h2
    exact HAS.out i b hi)
  have HT:=Lib.hid ht
  clear ht
  go_wp2_with (fail)
  refine (CE.out _).mono ?_
  rintro e w2 ⟨⟨t1,t2,rfl,h1,h2⟩,hb2⟩
  have HB2:=Lib.hid ((below_drewN (Below.refl _ w) k1).trans hb2)
  have hl:=cutL_len isE t.data.toList
  rw [← h1,← h2,← Lib.size_eq,← Lib.size_eq,← Lib.size_eq] at hl
  obtain ⟨hl1,hl2⟩:=hl
  rw [HT.out] at h1 h2
  have H1:=Lib.hid h1
  have H2:=Lib.hid h2
  have SC:=Lib.hid fun W=>scut_any t1 W (by omega)
  rw [HT.out]
  obtain ⟨q1,hq1⟩ : ∃ q,(cutL isE (unsigB s.data.toList)).2.2 = q:=⟨_,rfl⟩
  rw [hq1]
  have HQ1:=Lib.hid hq1
  clear hb2 h1 h2 hq1
  go_wp2_with (fail)
  refine (SC.out _).mono ?_
  rintro e w3 ⟨⟨t3,t4,rfl,h3,h4⟩,hb3⟩
  have HB3:=Lib.hid (HB2.out.trans (hb3.mono HB2.out.size))
  have hl3:=cutL_len isDot t1.data.toList
  rw [← h3,← h4,← Lib.size_eq,← Lib.size_eq,← Lib.size_eq] at hl3
  obtain ⟨hl3,hl4⟩:=hl3
  rw [H1.out] at h3 h4 ⊢
  have D3:=Lib.hid fun W=>areDigits_any t3 W (by omega)
  have D4:=Lib.hid fun W=>areDigits_any t4 W (by omega)
  have U2:=Lib.hid fun W=>unsigned_any t2 W (by omega)
  rw [h3] at D3
  rw [h4] at D4
  rw [H2.out] at U2
  obtain ⟨q2,hq2⟩ : ∃ q,(cutL isDot (cutL isE (unsigB s.data.toList)).1).2.2 = q:=⟨_,rfl⟩
  obtain ⟨v3,hv3⟩ : ∃ q,digB (cutL isDot (cutL isE (unsigB s.data.toList)).1).1 = q:=⟨_,rfl⟩
  obtain ⟨v4,hv4⟩ : ∃ q,digB (cutL isDot (cutL isE (unsigB s.data.toList)).1).2.1 = q:=⟨_,rfl⟩
  have hz3 : (cutL isDot (cutL isE (unsigB s.data.toList)).1).1.length = t3.size:=by rw [← h3,Lib.size_eq]
  have hz4 : (cutL isDot (cutL isE (unsigB s.data.toList)).1).2.1.length = t4.size:=by rw [← h4,Lib.size_eq]
  rw [hq2]
  rw [hv3] at D3
  rw [hv4] at D4
  obtain ⟨ex,hex⟩ : ∃ e,unsigB (cutL isE (unsigB s.data.toList)).2.1 = e:=⟨_,rfl⟩
  rw [hex] at U2
  have HNL : Hid (numL s.data.toList = ((q2 || q1) && !((t3.size + t4.size) == 0) && v3 && v4 && (!q1 || (decide (1 ≤ ex.length) && decide (ex.length ≤ 4) && digB ex)))):=Lib.hid (by
    unfold numL
    simp only [HQ1.out,hq2,hv3,hv4,hz3,hz4,hex])
  rw [HR.out] at HNL
  clear hb3 h3 h4 hq2 hv3 hv4 hz3 hz4 hex H1 H2 HT HQ1 CE SC U1 HAS HR
  by_cases hq : q1 = false∧q2 = false
  · obtain ⟨rfl,rfl⟩:=hq
    go_wp2_with (fail)
    go_ret
    exact ⟨by rw [HNL.out]; rfl,HB3.out⟩
  · have hqq : (q2 || q1) = true:=by cases q1 <;> cases q2 <;> simp at hq ⊢
    by_cases hz : t3.size + t4.size = 0
    · have dz : ((t3.size : Int) + (t4.size : Int) == 0) = true:=by simpa using (by omega : (t3.size : Int) + (t4.size : Int) = 0)
      have HE:=Lib.hid (show R = false by rw [HNL.out,hz]; cases q1 <;> cases q2 <;> rfl)
      clear hz
      cases q1 <;> cases q2
      · exact absurd ⟨rfl,rfl⟩ hq
      all_goals
        clear hq hqq
        go_wp2_with (fail)
        go_ret
        exact ⟨by rw [HE.out]; rfl,HB3.out⟩
    · have dz : ((t3.size : Int) + (t4.size : Int) == 0) = false:=by simpa using (by omega : ¬ (t3.size : Int) + (t4.size : Int) = 0)
      have dzn : ((t3.size + t4.size) == 0) = false:=by simpa using hz
      rw [dzn] at HNL
      clear hz dzn
      cases v3
      · have HE:=Lib.hid (show R = false by rw [HNL.out]; cases q1 <;> cases q2 <;> rfl)
        cases q1 <;> cases q2
        · exact absurd ⟨rfl,rfl⟩ hq
        all_goals
          clear hq hqq
          go_wp2_with (fail)
          refine (D3.out _).mono ?_
          rintro e w4 ⟨rfl,rfl⟩
          go_wp2_with (fail)
          go_ret
          exact ⟨by rw [HE.out]; rfl,HB3.out⟩
      · cases v4
        · have HE:=Lib.hid (show R = false by rw [HNL.out]; cases q1 <;> cases q2 <;> rfl)
          cases q1 <;> cases q2
          · exact absurd ⟨rfl,rfl⟩ hq
          all_goals
            clear hq hqq
            go_wp2_with (fail)
            refine (D3.out _).mono ?_
            rintro e w4 ⟨rfl,rfl⟩
            go_wp2_with (fail)
            refine (D4.out _).mono ?_
            rintro e w4 ⟨rfl,rfl⟩
            go_wp2_with (fail)
            go_ret
            exact ⟨by rw [HE.out]; rfl,HB3.out⟩
        · cases q1
          · have HE:=Lib.hid (show R = true by rw [HNL.out,hqq]; rfl)
            cases q2
            · exact absurd ⟨rfl,rfl⟩ hq
            clear hq hqq
            go_wp2_with (fail)
            refine (D3.out _).mono ?_
            rintro e w4 ⟨rfl,rfl⟩
            go_wp2_with (fail)
            refine (D4.out _).mono ?_
            rintro e w4 ⟨rfl,rfl⟩
            go_wp2_with (fail)
            go_ret
            exact ⟨by rw [HE.out]; rfl,HB3.out⟩
          · have HE:=Lib.hid (show R = (decide (1 ≤ ex.length) && decide (ex.length ≤ 4) && digB ex) by rw [HNL.out,hqq]; simp)
            clear hq hqq HNL
            cases q2
            all_goals
              go_wp2_with (fail)
              refine (D3.out _).mono ?_
              rintro e w4 ⟨rfl,rfl⟩
              go_wp2_with (fail)
              refine (D4.out _).mono ?_
              rintro e w4 ⟨rfl,rfl⟩
              go_wp2_with (fail)
              refine (U2.out _).mono ?_
              rintro e w4 ⟨⟨t5,rfl,h5,hl5⟩,k5,rfl⟩
              have D5:=Lib.hid fun W=>areDigits_any t5 W (by omega)
              rw [h5] at D5
              have hz5 : ex.length = t5.size:=by rw [← h5,Lib.size_eq]
              have HE2:=Lib.hid (show R = (decide (1 ≤ t5.size) && decide (t5.size ≤ 4) && digB ex) by rw [HE.out,hz5])
              obtain ⟨v5,hv5⟩ : ∃ q,digB ex = q:=⟨_,rfl⟩
              rw [hv5] at D5 HE2
              clear h5 hz5 hv5
              by_cases h15 : 1 ≤ t5.size
              · by_cases h45 : t5.size ≤ 4
                · have f1 : decide (1 ≤ t5.size) = true:=decide_eq_true h15
                  have f2 : decide (t5.size ≤ 4) = true:=decide_eq_true h45
                  have HE3:=Lib.hid (show R = v5 by rw [HE2.out,f1,f2]; rfl)
                  go_wp2_with (refine (D5.out _).mono ?_; rintro e w4 ⟨rfl,rfl⟩)
                  go_ret
                  exact ⟨by rw [HE3.out]; rfl,below_drewN HB3.out _⟩
                · have f1 : decide (1 ≤ t5.size) = true:=decide_eq_true h15
                  have f2 : decide (t5.size ≤ 4) = false:=decide_eq_false h45
                  have HE3:=Lib.hid (show R = false by rw [HE2.out,f1,f2]; rfl)
                  go_wp2_with (fail)
                  go_ret
                  exact ⟨by rw [HE3.out]; rfl,below_drewN HB3.out _⟩
              · have f1 : decide (1 ≤ t5.size) = false:=decide_eq_false h15
                have HE3:=Lib.hid (show R = false by rw [HE2.out,f1]; rfl)
                go_wp2_with (fail)
                go_ret
                exact ⟨by rw [HE3.out]; rfl,below_drewN HB3.out _⟩
end LM
namespace LM
end LM
namespace LM
theorem drop_byte (s : ByteArray) (j : Nat) (h : j < s.size) : ∃ c : UInt8,s.data.toList.drop j = c :: s.data.toList.drop (j + 1)∧c.toNat = byF s j:=by
  have h2 : j < s.data.toList.length:=by rw [← Lib.size_eq]; exact h
  refine ⟨s.data.toList[j],List.drop_eq_getElem_cons h2,?_⟩
  unfold byF
  rw [List.getD_eq_getElem?_getD,List.getElem?_eq_getElem h2]
  rfl
end LM
namespace LM
theorem rep_four (n : Nat) (x a b c d : Value) (A : Array Value) (h : A = (List.replicate n x ++ [a,b,c,d]).toArray) : A.size = n + 4∧(∀ i,i < n → A[i]? = some x)∧A[n]? = some a∧A[n + 1]? = some b∧A[n + 2]? = some c∧A[n + 3]? = some d:=by
  subst h
  refine ⟨by simp,fun i hi=>?_,?_,?_,?_,?_⟩
  · rw [List.getElem?_toArray,List.getElem?_append_left (by simpa using hi),List.getElem?_replicate,if_pos hi]
  · rw [List.getElem?_toArray,List.getElem?_append_right (by simp)]; simp
  · rw [List.getElem?_toArray,List.getElem?_append_right (by simp)]; simp
  · rw [List.getElem?_toArray,List.getElem?_append_right (by simp)]; simp
  · rw [List.getElem?_toArray,List.getElem?_append_right (by simp)]; simp
theorem dec_new (W : World) (A : Array Value) (h : A = (List.replicate 800 (Value.int .u8 0) ++ [Value.int .i64 0,Value.int .i64 0,Value.bool false,Value.bool false]).toArray) : DecR (W.alloc (.cells A 241)) W.heap.size zeroDec:=by
  obtain ⟨h1,h2,h3,h4,h5,h6⟩:=rep_four 800 _ _ _ _ _ A h
  exact ⟨A,heap_alloc_new W _,h1,fun i hi=>h2 i hi,h3,h4,h5,h6⟩
theorem rf_bounds {B : Nat → Nat} {z a m b : Nat} (h : NumQ B z a m b) (hz : z ≤ 800) : rfMant B a m ≤ 9999999999999999999∧(-12000 ≤ rfEx B z a m b∧rfEx B z a m b ≤ 12000)∧(-12000 ≤ rfDp B z a m b∧rfDp B z a m b ≤ 12000):=by
  have h1:=h.am
  have h2:=h.mz
  have ok:=rfN_ok h (m - a) (by omega)
  have hx:=h.exz
  have hl:=ok.lo
  have hh:=ok.hi
  have hn:=ok.nd
  have hm:=ok.ndm
  have hD : -12000 ≤ rfDp B z a m b + 20∧rfDp B z a m b ≤ 11000:=by
    unfold rfDp
    split <;> omega
  have hD2 : -11000 ≤ rfDp B z a m b:=by
    unfold rfDp
    split <;> omega
  refine ⟨(mant_bd ok).1,?_,by omega,by omega⟩
  unfold rfEx
  split
  · omega
  · omega
set_option maxRecDepth 1000000 in
theorem atof_num (s : ByteArray) (a m b : Nat) (hz : s.size ≤ 800) (hN : NumQ (byF s) s.size a m b) : ∃ (f : Nat) (er : Value),ErrR er∧∀ w,FV w → FX w →
    Calls Tryz.prog 227 #[.string s] w fun e w'=>e = .returned (.tuple #[.float .f64 f,.int .i64 (s.size : Int),er])∧Below w.heap.size w w':=by
  have ham:=hN.am
  have hmz:=hN.mz
  have hs1 : 0 < s.size:=by omega
  obtain ⟨hb1,⟨hb2,hb3⟩,hb4,hb5⟩:=rf_bounds hN hz
  have SP:=Lib.hid fun W=>special_no s a m b W hz hN hs1
  have RD:=Lib.hid fun W=>readf_any s a m b W hz hN
  have HN:=Lib.hid hN
  have hex:=extract_all s
  obtain ⟨M,hM⟩ : ∃ M,rfMant (byF s) a m = M:=⟨_,rfl⟩
  obtain ⟨EX,hEX⟩ : ∃ E,rfEx (byF s) s.size a m b = E:=⟨_,rfl⟩
  obtain ⟨ng,hng⟩ : ∃ n,negOf (byF s) a = n:=⟨_,rfl⟩
  obtain ⟨TR,hTR⟩ : ∃ t,rfTr (byF s) a m = t:=⟨_,rfl⟩
  rw [hM,hEX,hng,hTR] at RD
  rw [hM] at hb1
  rw [hEX] at hb2 hb3
  have HM:=Lib.hid hM
  have HNG:=Lib.hid hng
  obtain ⟨bN,hbN⟩ : ∃ bN : Nat,(if ng then 1 else 0 : Int) = (bN : Int):=⟨if ng then 1 else 0,by cases ng <;> rfl⟩
  have B1:=Lib.hid (bool2_u64 ng)
  rw [hbN] at B1
  have hbN1 : bN ≤ 1:=by cases ng <;> simp at hbN <;> omega
  obtain ⟨sg,hsg⟩ : ∃ sg,bN * 9223372036854775808 = sg:=⟨_,rfl⟩
  have hsgi : (bN : Int) * 9223372036854775808 = (sg : Int):=by omega
  have hsgl : sg < 18446744073709551616:=by omega
  clear hbN hsg hM hEX hng hTR hN
  by_cases h0 : M = 0
  · subst h0
    obtain ⟨X,hX,_⟩:=or_nat sg 0
    refine ⟨X,.nilIface,.inl rfl,fun w hv hx=>?_⟩
    have o1:=hv.opt
    have f1 : ∀ W,(callFunc 240 #[.int .u64 (X : Int)]).run Tryz.prog W = .ok (.value (.float .f64 X)) W:=fun W=>run_sfrom X W
    clear hv hx
    go_enter Tryz.func227,Tryz.ntmps227
    go_wp2_with (fail)
    refine (SP.out _).mono ?_
    rintro e w' ⟨rfl,rfl⟩
    go_wp2_with (fail)
    refine (RD.out _).mono ?_
    rintro e w' ⟨rfl,rfl⟩
    go_wp2_with (fail)
    refine (B1.out _).mono ?_
    rintro e w' ⟨rfl,rfl⟩
    go_wp2_with (fail)
    go_returns
    exact ⟨rfl,Below.refl _ _⟩
  · have d0 : ((M : Int) == 0) = false:=by simpa using (by omega : ¬ (M : Int) = 0)
    by_cases h310 : 310 < EX
    · have d1 : decide (310 < EX) = true:=decide_eq_true h310
      obtain ⟨X,hX,_⟩:=or_nat sg 9218868437227405312
      refine ⟨X,_,.inr rfl,fun w hv hx=>?_⟩
      have o1:=hv.opt
      have f1 : ∀ W,(callFunc 240 #[.int .u64 (X : Int)]).run Tryz.prog W = .ok (.value (.float .f64 X)) W:=fun W=>run_sfrom X W
      clear hv hx
      go_enter Tryz.func227,Tryz.ntmps227
      go_wp2_with (fail)
      refine (SP.out _).mono ?_
      rintro e w' ⟨rfl,rfl⟩
      go_wp2_with (fail)
      refine (RD.out _).mono ?_
      rintro e w' ⟨rfl,rfl⟩
      go_wp2_with (fail)
      refine (B1.out _).mono ?_
      rintro e w' ⟨rfl,rfl⟩
      go_wp2_with (fail)
      go_returns
      exact ⟨rfl,Below.refl _ _⟩
    · have d1 : decide (310 < EX) = false:=decide_eq_false h310
      by_cases h345 : EX < -345
      · have d2 : decide (EX < -345) = true:=decide_eq_true h345
        obtain ⟨X,hX,_⟩:=or_nat sg 0
        refine ⟨X,.nilIface,.inl rfl,fun w hv hx=>?_⟩
        have o1:=hv.opt
        have f1 : ∀ W,(callFunc 240 #[.int .u64 (X : Int)]).run Tryz.prog W = .ok (.value (.float .f64 X)) W:=fun W=>run_sfrom X W
        clear hv hx
        go_enter Tryz.func227,Tryz.ntmps227
        go_wp2_with (fail)
        refine (SP.out _).mono ?_
        rintro e w' ⟨rfl,rfl⟩
        go_wp2_with (fail)
        refine (RD.out _).mono ?_
        rintro e w' ⟨rfl,rfl⟩
        go_wp2_with (fail)
        refine (B1.out _).mono ?_
        rintro e w' ⟨rfl,rfl⟩
        go_wp2_with (fail)
        go_returns
        exact ⟨rfl,Below.refl _ _⟩
      · have d2 : decide (EX < -345) = false:=decide_eq_false h345
        obtain ⟨fe,oke,hEXC⟩:=exact_any M EX ng (by omega) (by omega) (by omega)
        obtain ⟨fa,era,hera,hP64⟩:=parse64_any M EX sg h0 (by omega) hsgl (by omega) (by omega)
        have EXC:=Lib.hid hEXC
        have P64:=Lib.hid hP64
        clear hEXC hP64
        cases TR
        · cases oke
          · refine ⟨fa,era,hera,fun w hv hx=>?_⟩
            have o1:=hv.opt
            go_enter Tryz.func227,Tryz.ntmps227
            go_wp2_with (fail)
            refine (SP.out _).mono ?_
            rintro e w' ⟨rfl,rfl⟩
            go_wp2_with (fail)
            refine (RD.out _).mono ?_
            rintro e w' ⟨rfl,rfl⟩
            go_wp2_with (fail)
            refine (B1.out _).mono ?_
            rintro e w' ⟨rfl,rfl⟩
            go_wp2_with (fail)
            refine (EXC.out _ hv).mono ?_
            rintro e w' ⟨rfl,rfl⟩
            go_wp2_with (fail)
            refine (P64.out _ hv.pow hv.size_ok).mono ?_
            rintro e w1 ⟨rfl,hb1⟩
            have HB:=Lib.hid hb1
            clear hb1
            go_wp2_with (fail)
            go_returns
            exact ⟨rfl,HB.out⟩
          · refine ⟨fe,.nilIface,.inl rfl,fun w hv hx=>?_⟩
            have o1:=hv.opt
            go_enter Tryz.func227,Tryz.ntmps227
            go_wp2_with (fail)
            refine (SP.out _).mono ?_
            rintro e w' ⟨rfl,rfl⟩
            go_wp2_with (fail)
            refine (RD.out _).mono ?_
            rintro e w' ⟨rfl,rfl⟩
            go_wp2_with (fail)
            refine (B1.out _).mono ?_
            rintro e w' ⟨rfl,rfl⟩
            go_wp2_with (fail)
            refine (EXC.out _ hv).mono ?_
            rintro e w' ⟨rfl,rfl⟩
            go_wp2_with (fail)
            go_returns
            exact ⟨rfl,Below.refl _ _⟩
        · obtain ⟨fb,erb,herb,hQ64⟩:=parse64_any (M + 1) EX sg (by omega) (by omega) hsgl (by omega) (by omega)
          have Q64:=Lib.hid hQ64
          obtain ⟨EQ,hEQ⟩ : ∃ B,(FloatKind.f64.format.order fa fb == some .eq) = B:=⟨_,rfl⟩
          clear hQ64
          cases EQ
          · obtain ⟨R,hR⟩ : ∃ R,fbRes (setD (byF s) ng s.size a m b) = R:=⟨_,rfl⟩
            have HR:=Lib.hid hR
            have HDOK:=Lib.hid (setD_ok HN.out ng hz (by rw [show (rfN (byF s) a (m - a)).mant = M from HM.out]; exact h0))
            clear hR
            refine ⟨R.1,if R.2 then .iface 207 (.int .i64 1) else .nilIface,?_,fun w hv hx=>?_⟩
            · cases R.2
              · exact .inl rfl
              · exact .inr rfl
            have o1:=hv.opt
            go_enter Tryz.func227,Tryz.ntmps227
            go_wp2_with (fail)
            refine (SP.out _).mono ?_
            rintro e w' ⟨rfl,rfl⟩
            go_wp2_with (fail)
            refine (RD.out _).mono ?_
            rintro e w' ⟨rfl,rfl⟩
            go_wp2_with (fail)
            refine (B1.out _).mono ?_
            rintro e w' ⟨rfl,rfl⟩
            go_wp2_with (fail)
            refine (P64.out _ hv.pow hv.size_ok).mono ?_
            rintro e w1 ⟨rfl,hb1⟩
            have HB:=Lib.hid hb1
            clear hb1
            go_wp2_with (fail)
            refine (Q64.out _ (hv.below HB.out).pow (hv.below HB.out).size_ok).mono ?_
            rintro e w2 ⟨rfl,hb2⟩
            have HB2:=Lib.hid (HB.out.trans (hb2.mono HB.out.size))
            clear hb2
            go_wp2_with (fail)
            refine (set_any w2.heap.size s a m b _ (dec_new w2 _ (by kernel_rfl)) hz HN.out).mono ?_
            rintro e w3 ⟨rfl,hd3,hg3⟩
            have hb3 : Below w.heap.size w w3:=below_of_only (HB2.out.alloc HB2.out.size _) hg3 HB2.out.size (by have:=HB2.out.size; simp; omega)
            rw [HNG.out] at hd3
            have FB:=fbits_any w2.heap.size _ w w3 hx hb3 HB2.out.size hd3 HDOK.out (by show -300000 ≤ rfDp (byF s) s.size a m b∧rfDp (byF s) s.size a m b ≤ 300000; omega)
            rw [HR.out] at FB
            have HFB:=Lib.hid FB
            have HB3:=Lib.hid hb3
            clear hd3 hg3 hb3 FB
            obtain ⟨rb,ro⟩:=R
            have f1 : ∀ W,(callFunc 240 #[.int .u64 (rb : Int)]).run Tryz.prog W = .ok (.value (.float .f64 rb)) W:=fun W=>run_sfrom rb W
            go_wp2_with (fail)
            refine HFB.out.mono ?_
            rintro e w4 ⟨rfl,hg4⟩
            have HB4:=Lib.hid (below_of_only HB3.out hg4 HB2.out.size HB3.out.size)
            clear hg4
            cases ro
            · go_wp2_with (fail)
              go_returns
              exact ⟨rfl,HB4.out⟩
            · go_wp2_with (fail)
              go_returns
              exact ⟨rfl,HB4.out⟩
          · refine ⟨fa,era,hera,fun w hv hx=>?_⟩
            have o1:=hv.opt
            go_enter Tryz.func227,Tryz.ntmps227
            go_wp2_with (fail)
            refine (SP.out _).mono ?_
            rintro e w' ⟨rfl,rfl⟩
            go_wp2_with (fail)
            refine (RD.out _).mono ?_
            rintro e w' ⟨rfl,rfl⟩
            go_wp2_with (fail)
            refine (B1.out _).mono ?_
            rintro e w' ⟨rfl,rfl⟩
            go_wp2_with (fail)
            refine (P64.out _ hv.pow hv.size_ok).mono ?_
            rintro e w1 ⟨rfl,hb1⟩
            have HB:=Lib.hid hb1
            clear hb1
            go_wp2_with (fail)
            refine (Q64.out _ (hv.below HB.out).pow (hv.below HB.out).size_ok).mono ?_
            rintro e w2 ⟨rfl,hb2⟩
            have HB2:=Lib.hid (HB.out.trans (hb2.mono HB.out.size))
            clear hb2
            go_wp2_with (fail)
            go_returns
            exact ⟨rfl,HB2.out⟩
end LM
namespace LM
def RngCell (w : World) : Prop:=∃ ev,w.cell? ⟨8,0,none⟩ = some ev∧8 < w.heap.size∧(ev = .nilIface ∨ ∃ te pe,ev = .iface te pe)
theorem RngCell.below {w w' : World} (h : RngCell w) (hb : Below w.heap.size w w') : RngCell w':=by
  obtain ⟨ev,h1,h2,h3⟩:=h
  exact ⟨ev,(World.cell?_of_block (a:=⟨8,0,none⟩) (hb.block _ h2)).trans h1,Nat.lt_of_lt_of_le h2 hb.size,h3⟩
theorem parse_num (s : ByteArray) (a m b : Nat) (hz : s.size ≤ 800) (hN : NumQ (byF s) s.size a m b) : ∃ (f : Nat),∀ w,FV w → FX w → RngCell w →
    Calls Tryz.prog 137 #[.string s,.int .i64 64] w fun e w'=>(∃ er,e = .returned (.tuple #[.float .f64 f,er]))∧Below w.heap.size w w':=by
  obtain ⟨f,er,her,hA⟩:=atof_num s a m b hz hN
  have hA2 : ∀ w,FV w → FX w → Calls Tryz.prog 197 #[.string s,.int .i64 64] w fun e w'=>e = .returned (.tuple #[.float .f64 f,.int .i64 (s.size : Int),er])∧Below w.heap.size w w':=fun w hv hx=>by
    have HA:=Lib.hid (hA w hv hx)
    clear hv hx hA hN
    go_enter Tryz.func197,Tryz.ntmps197
    go_wp2_with (fail)
    refine HA.out.mono ?_
    rintro e w' ⟨rfl,hb⟩
    have HB:=Lib.hid hb
    clear hb
    go_wp2_with (fail)
    go_returns
    exact ⟨rfl,HB.out⟩
  have hA3 : ∀ w,FV w → FX w → Calls Tryz.prog 167 #[.string s,.int .i64 64] w fun e w'=>e = .returned (.tuple #[.float .f64 f,er])∧Below w.heap.size w w':=fun w hv hx=>by
    have HA:=Lib.hid (hA2 w hv hx)
    clear hv hx hA hA2 hN
    go_enter Tryz.func167,Tryz.ntmps167
    go_wp2_with (fail)
    refine HA.out.mono ?_
    rintro e w' ⟨rfl,hb⟩
    have HB:=Lib.hid hb
    clear hb
    go_wp2_with (fail)
    go_returns
    exact ⟨rfl,HB.out⟩
  refine ⟨f,fun w hv hx hr=>?_⟩
  have HA:=Lib.hid (hA3 w hv hx)
  have HR:=Lib.hid hr
  clear hv hx hA hA2 hA3 hN hr
  rcases her with rfl | rfl
  · go_enter Tryz.func137,Tryz.ntmps137
    go_wp2_with (fail)
    refine HA.out.mono ?_
    rintro e w' ⟨rfl,hb⟩
    have HB:=Lib.hid hb
    clear hb
    go_wp2_with (fail)
    go_returns
    exact ⟨⟨_,rfl⟩,HB.out⟩
  · go_enter Tryz.func137,Tryz.ntmps137
    go_wp2_with (fail)
    refine HA.out.mono ?_
    rintro e w' ⟨rfl,hb⟩
    have HB:=Lib.hid hb
    obtain ⟨ev,h1,h2,h3⟩:=HR.out.below hb
    clear hb
    go_wp2_with (fail)
    refine (Tryz.strconv_toError_range _ s 0 64 ev w' (by omega) h1 h3).mono ?_
    rintro e w2 ⟨N,rfl,-,-,hb2⟩
    have HB2:=Lib.hid (HB.out.trans (hb2.mono HB.out.size))
    clear hb2 h1 h2 h3
    go_wp2_with (fail)
    go_returns
    exact ⟨⟨_,rfl⟩,HB2.out⟩
end LM
namespace LM
def bt (l : List UInt8) (i : Nat) : Nat:=(l.getD i 0).toNat
theorem cutL_spec (p : UInt8 → Bool) : ∀ l : List UInt8,(cutL p l = (l,[],false)) ∨ ∃ n : Nat,n < l.length∧cutL p l = (l.take n,l.drop (n + 1),true)∧p (l.getD n 0) = true:=by
  intro l
  induction l with
  | nil=>exact .inl rfl
  | cons c l ih =>
    have e : cutL p (c :: l) = if p c then ([],l,true) else (c :: (cutL p l).1,(cutL p l).2.1,(cutL p l).2.2):=rfl
    rw [e]
    by_cases h : p c = true
    · rw [if_pos h]
      exact .inr ⟨0,by simp,rfl,h⟩
    · rw [if_neg h]
      rcases ih with h2 | ⟨n,h1,h2,h3⟩
      · rw [h2]; exact .inl rfl
      · rw [h2]
        exact .inr ⟨n + 1,by simpa using h1,by simp,by simpa using h3⟩
theorem bt_drop (l : List UInt8) (a i : Nat) : bt (l.drop a) i = bt l (a + i):=by
  unfold bt
  rw [List.getD_eq_getElem?_getD,List.getD_eq_getElem?_getD,List.getElem?_drop]
theorem bt_take (l : List UInt8) {n i : Nat} (h : i < n) : bt (l.take n) i = bt l i:=by
  unfold bt
  rw [List.getD_eq_getElem?_getD,List.getD_eq_getElem?_getD,List.getElem?_take,if_pos h]
theorem digB_bt {l : List UInt8} (h : digB l = true) (i : Nat) (hi : i < l.length) : dgc (bt l i):=by
  unfold digB at h
  rw [List.all_eq_true] at h
  have h2:=h (l.getD i 0) (by
    rw [List.getD_eq_getElem?_getD,List.getElem?_eq_getElem hi]
    exact List.getElem_mem hi)
  unfold dgc bt
  simpa using h2
theorem unsig_spec (l : List UInt8) : ∃ a,a ≤ 1∧a ≤ l.length∧unsigB l = l.drop a∧(a = 1 → bt l 0 = 43 ∨ bt l 0 = 45):=by
  cases l with
  | nil=>exact ⟨0,by simp,by simp,rfl,fun h=>absurd h (by decide)⟩
  | cons c l =>
    have e : unsigB (c :: l) = if c = 43 ∨ c = 45 then l else c :: l:=rfl
    rw [e]
    by_cases h : c = 43 ∨ c = 45
    · rw [if_pos h]
      refine ⟨1,Nat.le_refl _,by simp,rfl,fun _=>?_⟩
      show c.toNat = 43 ∨ c.toNat = 45
      rcases h with rfl | rfl
      · exact .inl rfl
      · exact .inr rfl
    · rw [if_neg h]
      exact ⟨0,by simp,by simp,rfl,fun h=>absurd h (by decide)⟩
theorem mant_spec {c : List UInt8} (h1 : digB (cutL isDot c).1 = true) (h2 : digB (cutL isDot c).2.1 = true) (h3 : ¬ (cutL isDot c).1.length + (cutL isDot c).2.1.length = 0) :
    (∀ i,i < c.length → dgc (bt c i) ∨ bt c i = 46)∧(∀ i j,i < j → j < c.length → bt c i = 46 → dgc (bt c j))∧(∃ i,i < c.length∧dgc (bt c i)):=by
  rcases cutL_spec isDot c with e | ⟨k,hk,e,hp⟩
  · rw [e] at h1 h2 h3
    dsimp only at h1 h3
    have hd:=fun i hi=>digB_bt h1 i hi
    rw [List.length_nil] at h3
    exact ⟨fun i hi=>.inl (hd i hi),fun i j _ hj _=>hd j hj,0,by omega,hd 0 (by omega)⟩
  · rw [e] at h1 h2 h3
    dsimp only at h1 h2 h3
    have hk2 : (c.take k).length = k:=by rw [List.length_take]; omega
    have hk3 : (c.drop (k + 1)).length = c.length - (k + 1):=List.length_drop
    have hA : ∀ i,i < k → dgc (bt c i):=fun i hi=>by
      have:=digB_bt h1 i (by rw [hk2]; exact hi)
      rwa [bt_take c hi] at this
    have hB : ∀ i,k < i → i < c.length → dgc (bt c i):=fun i hi hj=>by
      have:=digB_bt h2 (i - (k + 1)) (by rw [hk3]; omega)
      rw [bt_drop] at this
      rwa [show k + 1 + (i - (k + 1)) = i from by omega] at this
    have hC : bt c k = 46:=by
      unfold isDot at hp
      unfold bt
      have : c.getD k 0 = 46:=by simpa using hp
      rw [this]
      rfl
    refine ⟨fun i hi=>?_,fun i j hij hj h46=>?_,?_⟩
    · rcases Nat.lt_trichotomy i k with h | h | h
      · exact .inl (hA i h)
      · subst h; exact .inr hC
      · exact .inl (hB i h hi)
    · rcases Nat.lt_trichotomy i k with h | h | h
      · have:=hA i h
        unfold dgc at this
        omega
      · exact hB j (by omega) hj
      · have:=hB i h (by omega)
        unfold dgc at this
        omega
    · rw [hk2,hk3] at h3
      by_cases h0 : 0 < k
      · exact ⟨0,by omega,hA 0 h0⟩
      · exact ⟨k + 1,by omega,hB (k + 1) (by omega) (by omega)⟩
theorem num_q {l : List UInt8} (h : numL l = true) : ∃ a m b,NumQ (bt l) l.length a m b:=by
  unfold numL at h
  simp only [Bool.and_eq_true,Bool.or_eq_true,Bool.not_eq_true',decide_eq_true_eq] at h
  obtain ⟨⟨⟨⟨h1,h2⟩,h3⟩,h4⟩,h5⟩:=h
  obtain ⟨a,ha1,hal,hau,hsg⟩:=unsig_spec l
  obtain ⟨s1,s2,s3⟩:=mant_spec h3 h4 (by simpa using h2)
  have key : ∀ m b,a + (cutL isE (unsigB l)).1.length = m → m ≤ l.length → (∀ i,i < (cutL isE (unsigB l)).1.length → bt (cutL isE (unsigB l)).1 i = bt l (a + i)) →
      (m = l.length ∨ ((bt l m = 101 ∨ bt l m = 69)∧((b = m + 1∧dgc (bt l (m + 1))) ∨ (b = m + 2∧(bt l (m + 1) = 43 ∨ bt l (m + 1) = 45)))∧b < l.length∧l.length ≤ b + 4∧∀ i,b ≤ i → i < l.length → dgc (bt l i))) → NumQ (bt l) l.length a m b:=by
    intro m b hm hml hbt hex
    obtain ⟨i0,hi0,hd0⟩:=s3
    have hman : ∀ i,a ≤ i → i < m → dgc (bt l i) ∨ bt l i = 46:=fun i h6 h7=>by
      have:=s1 (i - a) (by omega)
      rwa [hbt _ (by omega),show a + (i - a) = i from by omega] at this
    refine ⟨ha1,by omega,hml,hsg,fun h0=>?_,hman,fun i j h6 h7 h8 h9=>?_,?_,hex⟩
    · have:=hman 0 (by omega) (by omega)
      exact this
    · have:=s2 (i - a) (j - a) (by omega) (by omega) (by rw [hbt _ (by omega),show a + (i - a) = i from by omega]; exact h9)
      rwa [hbt _ (by omega),show a + (j - a) = j from by omega] at this
    · refine ⟨a + i0,by omega,by omega,?_⟩
      rw [← hbt i0 hi0]
      exact hd0
  have hul : (unsigB l).length = l.length - a:=by rw [hau,List.length_drop]
  rcases cutL_spec isE (unsigB l) with e | ⟨n,hn,e,hp⟩
  · refine ⟨a,l.length,0,key _ _ ?_ (Nat.le_refl _) (fun i hi=>?_) (.inl rfl)⟩
    · rw [e]; dsimp only; omega
    · rw [e]; dsimp only; rw [hau,bt_drop]
  · have hq : (cutL isE (unsigB l)).2.2 = true:=by rw [e]
    rw [hq] at h5
    simp only [Bool.true_eq_false,false_or] at h5
    obtain ⟨⟨h6,h7⟩,h8⟩:=h5
    obtain ⟨c2,hc1,hc2,hcu,hcs⟩:=unsig_spec (cutL isE (unsigB l)).2.1
    have e21 : (cutL isE (unsigB l)).2.1 = l.drop (a + n + 1):=by rw [e]; dsimp only; rw [hau,List.drop_drop,Nat.add_assoc]
    rw [hcu] at h6 h7 h8
    rw [e21] at h6 h7 h8 hc2 hcs
    rw [List.drop_drop] at h6 h7 h8
    rw [List.length_drop] at h6 h7 hc2
    have hdg : ∀ i,a + n + 1 + c2 ≤ i → i < l.length → dgc (bt l i):=fun i h9 h10=>by
      have:=digB_bt h8 (i - (a + n + 1 + c2)) (by rw [List.length_drop]; omega)
      rwa [bt_drop,show a + n + 1 + c2 + (i - (a + n + 1 + c2)) = i from by omega] at this
    have hme : bt l (a + n) = 101 ∨ bt l (a + n) = 69:=by
      have h9 : bt (unsigB l) n = bt l (a + n):=by rw [hau,bt_drop]
      rw [← h9]
      unfold isE at hp
      unfold bt
      have : (unsigB l).getD n 0 = 101 ∨ (unsigB l).getD n 0 = 69:=by simpa using hp
      rcases this with h | h
      · rw [h]; exact .inl rfl
      · rw [h]; exact .inr rfl
    refine ⟨a,a + n,a + n + 1 + c2,key _ _ ?_ (by omega) (fun i hi=>?_) (.inr ⟨hme,?_,by omega,by omega,hdg⟩)⟩
    · rw [e]; dsimp only; rw [List.length_take]; omega
    · rw [e] at hi ⊢
      dsimp only at hi ⊢
      rw [List.length_take] at hi
      rw [bt_take _ (by omega),hau,bt_drop]
    · rcases Nat.lt_or_ge 0 c2 with h9 | h9
      · have : c2 = 1:=by omega
        subst this
        have:=hcs rfl
        rw [bt_drop] at this
        exact .inr ⟨rfl,this⟩
      · have : c2 = 0:=by omega
        subst this
        exact .inl ⟨rfl,hdg _ (by omega) (by omega)⟩
theorem num_by {s : ByteArray} (h : numL s.data.toList = true) : ∃ a m b,NumQ (byF s) s.size a m b:=by
  have:=num_q h
  rw [← Lib.size_eq] at this
  exact this
end LM
namespace LM
theorem inf_up (w : World) : Calls Tryz.prog 135 #[.int .i64 1] w fun e w'=>e = .returned (.float .f64 9218868437227405312)∧w = w':=by
  have f1 : ∀ W,(callFunc 116 #[.int .u64 9218868437227405312]).run Tryz.prog W = .ok (.value (.float .f64 9218868437227405312)) W:=fun W=>run_mfrom 9218868437227405312 W
  go_enter Tryz.func135,Tryz.ntmps135
  go_wp2
  go_ret
  exact ⟨rfl,rfl⟩
theorem inf_down (w : World) : Calls Tryz.prog 135 #[.int .i64 (-1)] w fun e w'=>e = .returned (.float .f64 18442240474082181120)∧w = w':=by
  have f1 : ∀ W,(callFunc 116 #[.int .u64 18442240474082181120]).run Tryz.prog W = .ok (.value (.float .f64 18442240474082181120)) W:=fun W=>run_mfrom 18442240474082181120 W
  go_enter Tryz.func135,Tryz.ntmps135
  go_wp2
  go_ret
  exact ⟨rfl,rfl⟩
abbrev nmNan : List UInt8:=[43,110,97,110,46,48]
abbrev nmInf : List UInt8:=[43,105,110,102,46,48]
abbrev nmMin : List UInt8:=[45,105,110,102,46,48]
def parV (l : List UInt8) (f : Nat) : Nat × Int :=
  if l = nmNan then (9221120237041090561,0) else if l = nmInf then (9218868437227405312,0) else if l = nmMin then (18442240474082181120,0)
  else if 700 < l.length ∨ numL l = false then (0,31) else (f,0)
def ReadsF (s : ByteArray) (f : Nat) : Prop:=numL s.data.toList = true → s.size ≤ 700 → ∀ w,FV w → FX w → RngCell w →
    Calls Tryz.prog 137 #[.string s,.int .i64 64] w fun e w'=>(∃ er,e = .returned (.tuple #[.float .f64 f,er]))∧Below w.heap.size w w'
theorem reads_some (s : ByteArray) : ∃ f,ReadsF s f:=by
  by_cases h : numL s.data.toList = true∧s.size ≤ 700
  · obtain ⟨a,m,b,hq⟩:=num_by h.1
    obtain ⟨f,hf⟩:=parse_num s a m b (by omega) hq
    exact ⟨f,fun _ _=>hf⟩
  · exact ⟨0,fun h1 h2=>absurd ⟨h1,h2⟩ h⟩
theorem fparse_any (s : ByteArray) (f : Nat) (hs : s.size ≤ 1000) (has : ∀ (j : Nat) b,s.data.toList[j]? = some b → b.toNat < 128) (hf : ReadsF s f) (w : World) (hv : FV w) (hx : FX w) (hr : RngCell w) :
    Calls Tryz.prog 114 #[.string s] w fun e w'=>e = .returned (.tuple #[.float .f64 (parV s.data.toList f).1,.int .i64 (parV s.data.toList f).2])∧Below w.heap.size w w':=by
  have I1:=Lib.hid inf_up
  have I2:=Lib.hid inf_down
  have hl:=Go.ByteArray.toList_eq s
  have hz : s.data.toList.length = s.size:=by rw [Lib.size_eq]
  obtain ⟨V,hV⟩ : ∃ V,parV s.data.toList f = V:=⟨_,rfl⟩
  rw [hV]
  by_cases h1 : s.data.toList = nmNan
  · have HV:=Lib.hid (show V = (9221120237041090561,0) by rw [← hV]; unfold parV; rw [if_pos h1])
    have c1 : (s.toList == [43,110,97,110,46,48]) = true:=by rw [hl,h1]; rfl
    have f1 : ∀ W,(callFunc 116 #[.int .u64 9221120237041090561]).run Tryz.prog W = .ok (.value (.float .f64 9221120237041090561)) W:=fun W=>run_mfrom 9221120237041090561 W
    clear hV hf has hl hz h1 hv hx hr
    go_enter Tryz.func114,Tryz.ntmps114
    go_wp2_with (fail)
    go_returns
    rw [HV.out]
    exact ⟨rfl,Below.refl _ _⟩
  · have c1 : (s.toList == [43,110,97,110,46,48]) = false:=by rw [hl]; simpa using h1
    by_cases h2 : s.data.toList = nmInf
    · have HV:=Lib.hid (show V = (9218868437227405312,0) by rw [← hV]; unfold parV; rw [if_neg h1,if_pos h2])
      have c2 : (s.toList == [43,105,110,102,46,48]) = true:=by rw [hl,h2]; rfl
      clear hV hf has hl hz h1 h2 hv hx hr
      go_enter Tryz.func114,Tryz.ntmps114
      go_wp2_with (fail)
      refine (I1.out _).mono ?_
      rintro e w' ⟨rfl,rfl⟩
      go_wp2_with (fail)
      go_returns
      rw [HV.out]
      exact ⟨rfl,Below.refl _ _⟩
    · have c2 : (s.toList == [43,105,110,102,46,48]) = false:=by rw [hl]; simpa using h2
      by_cases h3 : s.data.toList = nmMin
      · have HV:=Lib.hid (show V = (18442240474082181120,0) by rw [← hV]; unfold parV; rw [if_neg h1,if_neg h2,if_pos h3])
        have c3 : (s.toList == [45,105,110,102,46,48]) = true:=by rw [hl,h3]; rfl
        clear hV hf has hl hz h1 h2 h3 hv hx hr
        go_enter Tryz.func114,Tryz.ntmps114
        go_wp2_with (fail)
        refine (I2.out _).mono ?_
        rintro e w' ⟨rfl,rfl⟩
        go_wp2_with (fail)
        go_returns
        rw [HV.out]
        exact ⟨rfl,Below.refl _ _⟩
      · have c3 : (s.toList == [45,105,110,102,46,48]) = false:=by rw [hl]; simpa using h3
        have HV0:=Lib.hid (show V = if 700 < s.size ∨ numL s.data.toList = false then (0,31) else (f,0) by rw [← hV]; unfold parV; rw [if_neg h1,if_neg h2,if_neg h3,hz])
        have N1:=Lib.hid (isnum_any s w hs has)
        by_cases h7 : 700 < s.size
        · have HV:=Lib.hid (show V = (0,31) by rw [HV0.out,if_pos (.inl h7)])
          have d7 : decide (700 < s.size) = true:=decide_eq_true h7
          clear hV hf has hl hz h1 h2 h3 hv hx hr HV0
          go_enter Tryz.func114,Tryz.ntmps114
          go_wp2_with (fail)
          go_returns
          rw [HV.out]
          exact ⟨rfl,Below.refl _ _⟩
        · have d7 : decide (700 < s.size) = false:=decide_eq_false h7
          obtain ⟨q,hq⟩ : ∃ q,numL s.data.toList = q:=⟨_,rfl⟩
          rw [hq] at N1 HV0
          have PF:=Lib.hid fun (h : q = true)=>hf (hq.trans h) (by omega)
          have FVH:=Lib.hid hv
          have FXH:=Lib.hid hx
          have RH:=Lib.hid hr
          cases q
          · have HV:=Lib.hid (show V = (0,31) by rw [HV0.out,if_pos (.inr rfl)])
            clear hV hf has hl hz h1 h2 h3 hv hx hr HV0 hq
            go_enter Tryz.func114,Tryz.ntmps114
            go_wp2_with (fail)
            refine N1.out.mono ?_
            rintro e w' ⟨rfl,hb⟩
            have HB:=Lib.hid hb
            clear hb
            go_wp2_with (fail)
            go_returns
            rw [HV.out]
            exact ⟨rfl,HB.out⟩
          · have HV:=Lib.hid (show V = (f,0) by rw [HV0.out,if_neg (by simp; omega)])
            clear hV hf has hl hz h1 h2 h3 hv hx hr HV0 hq
            go_enter Tryz.func114,Tryz.ntmps114
            go_wp2_with (fail)
            refine N1.out.mono ?_
            rintro e w' ⟨rfl,hb⟩
            have HB:=Lib.hid hb
            clear hb
            go_wp2_with (fail)
            refine (PF.out (by trivial) _ (FVH.out.below HB.out) (FXH.out.below HB.out) (RH.out.below HB.out)).mono ?_
            rintro e w2 ⟨⟨er,rfl⟩,hb2⟩
            have HB2:=Lib.hid (HB.out.trans (hb2.mono HB.out.size))
            clear hb2
            go_wp2_with (fail)
            go_returns
            rw [HV.out]
            exact ⟨rfl,HB2.out⟩
end LM
namespace LM
end LM
namespace LM
def amB (b : Nat) : List UInt8 → Bool
  | []=>false
  | c :: l=>decide (c.toNat = b) || amB b l
end LM
namespace LM
abbrev plainL : List UInt8:=[97,98,99,100,101,102,103,104,105,106,107,108,109,110,111,112,113,114,115,116,117,118,119,120,121,122,65,66,67,68,69,70,71,72,73,74,75,76,77,78,79,80,81,82,83,84,85,86,87,88,89,90,48,49,50,51,52,53,54,55,56,57,33,36,37,38,42,47,58,60,61,62,63,94,95,126,43,45,46,64]
abbrev nmMarksL : List UInt8:=[33,36,37,38,42,47,58,60,61,62,63,94,95,126,43,45,46,64]
def plainB (b : Nat) : Bool:=amB b plainL
theorem plain_letters : ∀ b : Fin 256,((97 ≤ b.val∧b.val ≤ 122) ∨ (65 ≤ b.val∧b.val ≤ 90) ∨ (48 ≤ b.val∧b.val ≤ 57)) → plainB b.val = true:=by decide
theorem plain_marks : ∀ b : Fin 256,¬ ((97 ≤ b.val∧b.val ≤ 122) ∨ (65 ≤ b.val∧b.val ≤ 90) ∨ (48 ≤ b.val∧b.val ≤ 57)) → plainB b.val = decide (0 ≤ Lib.indexByte nmMarksL (b.val.toUInt8)):=by decide
theorem isname_any (b : Nat) (hb : b < 256) (w : World) :
    Calls Tryz.prog 96 #[.int .u8 (b : Int)] w fun e w'=>e = .returned (.bool (plainB b))∧w = w':=by
  have I1:=Lib.hid fun s W=>Tryz.strings_IndexByte s (b : Int) W
  have P1:=Lib.hid (plain_letters ⟨b,hb⟩)
  have P2:=Lib.hid (plain_marks ⟨b,hb⟩)
  by_cases hl : (97 ≤ b∧b ≤ 122) ∨ (65 ≤ b∧b ≤ 90) ∨ (48 ≤ b∧b ≤ 57)
  · have hp : plainB b = true:=P1.out hl
    rw [hp]
    clear I1 P1 P2 hp
    rcases hl with ⟨h1,h2⟩ | ⟨h1,h2⟩ | ⟨h1,h2⟩
    · have e1 : decide (97 ≤ (b : Int)) = true:=decide_eq_true (by omega)
      have e2 : decide ((b : Int) ≤ 122) = true:=decide_eq_true (by omega)
      clear h1 h2
      go_enter Tryz.func96,Tryz.ntmps96
      go_wp2_with (fail)
      go_ret
      exact ⟨rfl,rfl⟩
    · have e1 : decide (97 ≤ (b : Int)) = false:=decide_eq_false (by omega)
      have e3 : decide (65 ≤ (b : Int)) = true:=decide_eq_true (by omega)
      have e4 : decide ((b : Int) ≤ 90) = true:=decide_eq_true (by omega)
      clear h1 h2
      go_enter Tryz.func96,Tryz.ntmps96
      go_wp2_with (fail)
      go_ret
      exact ⟨rfl,rfl⟩
    · have e1 : decide (97 ≤ (b : Int)) = false:=decide_eq_false (by omega)
      have e3 : decide (65 ≤ (b : Int)) = false:=decide_eq_false (by omega)
      have e5 : decide (48 ≤ (b : Int)) = true:=decide_eq_true (by omega)
      have e6 : decide ((b : Int) ≤ 57) = true:=decide_eq_true (by omega)
      clear h1 h2
      go_enter Tryz.func96,Tryz.ntmps96
      go_wp2_with (fail)
      go_ret
      exact ⟨rfl,rfl⟩
  · have hp : plainB b = decide (0 ≤ Lib.indexByte nmMarksL (b.toUInt8)):=P2.out hl
    rw [hp]
    have hn : ((b : Int)).toNat.toUInt8 = b.toUInt8:=by rw [Int.toNat_natCast]
    have J1 : Hid (∀ W,Calls Tryz.prog 111 #[.string ⟨#[33,36,37,38,42,47,58,60,61,62,63,94,95,126,43,45,46,64]⟩,.int .u8 (b : Int)] W fun e w'=>e = .returned (.int .i64 (Lib.indexByte nmMarksL b.toUInt8))∧w' = W):=Lib.hid fun W=>by
      have:=I1.out ⟨#[33,36,37,38,42,47,58,60,61,62,63,94,95,126,43,45,46,64]⟩ W
      rw [hn] at this
      exact this
    obtain ⟨r,hr⟩ : ∃ r,Lib.indexByte nmMarksL b.toUInt8 = r:=⟨_,rfl⟩
    rw [hr] at J1 ⊢
    clear I1 P1 P2 hp hn hr
    have hc : b < 48 ∨ (57 < b∧b < 65) ∨ (90 < b∧b < 97) ∨ 122 < b:=by omega
    clear hl
    have q0 : 0 ≤ r ∨ r < 0:=by omega
    rcases hc with h | ⟨g,h⟩ | ⟨g,h⟩ | h
    · have e1 : decide (97 ≤ (b : Int)) = false:=decide_eq_false (by omega)
      have e3 : decide (65 ≤ (b : Int)) = false:=decide_eq_false (by omega)
      have e5 : decide (48 ≤ (b : Int)) = false:=decide_eq_false (by omega)
      clear h
      go_enter Tryz.func96,Tryz.ntmps96
      go_wp2_with (fail)
      refine (J1.out _).mono ?_
      rintro e w' ⟨rfl,rfl⟩
      go_wp2_with (fail)
      go_ret
      exact ⟨rfl,rfl⟩
    · have e1 : decide (97 ≤ (b : Int)) = false:=decide_eq_false (by omega)
      have e3 : decide (65 ≤ (b : Int)) = false:=decide_eq_false (by omega)
      have e5 : decide (48 ≤ (b : Int)) = true:=decide_eq_true (by omega)
      have e6 : decide ((b : Int) ≤ 57) = false:=decide_eq_false (by omega)
      clear h g
      go_enter Tryz.func96,Tryz.ntmps96
      go_wp2_with (fail)
      refine (J1.out _).mono ?_
      rintro e w' ⟨rfl,rfl⟩
      go_wp2_with (fail)
      go_ret
      exact ⟨rfl,rfl⟩
    · have e1 : decide (97 ≤ (b : Int)) = false:=decide_eq_false (by omega)
      have e3 : decide (65 ≤ (b : Int)) = true:=decide_eq_true (by omega)
      have e4 : decide ((b : Int) ≤ 90) = false:=decide_eq_false (by omega)
      have e5 : decide (48 ≤ (b : Int)) = true:=decide_eq_true (by omega)
      have e6 : decide ((b : Int) ≤ 57) = false:=decide_eq_false (by omega)
      clear h g
      go_enter Tryz.func96,Tryz.ntmps96
      go_wp2_with (fail)
      refine (J1.out _).mono ?_
      rintro e w' ⟨rfl,rfl⟩
      go_wp2_with (fail)
      go_ret
      exact ⟨rfl,rfl⟩
    · have e1 : decide (97 ≤ (b : Int)) = true:=decide_eq_true (by omega)
      have e2 : decide ((b : Int) ≤ 122) = false:=decide_eq_false (by omega)
      have e3 : decide (65 ≤ (b : Int)) = true:=decide_eq_true (by omega)
      have e4 : decide ((b : Int) ≤ 90) = false:=decide_eq_false (by omega)
      have e5 : decide (48 ≤ (b : Int)) = true:=decide_eq_true (by omega)
      have e6 : decide ((b : Int) ≤ 57) = false:=decide_eq_false (by omega)
      clear h
      go_enter Tryz.func96,Tryz.ntmps96
      go_wp2_with (fail)
      refine (J1.out _).mono ?_
      rintro e w' ⟨rfl,rfl⟩
      go_wp2_with (fail)
      go_ret
      exact ⟨rfl,rfl⟩
end LM
end Go.Proofs.YtihbgghlnppkiaaGreatDoor
