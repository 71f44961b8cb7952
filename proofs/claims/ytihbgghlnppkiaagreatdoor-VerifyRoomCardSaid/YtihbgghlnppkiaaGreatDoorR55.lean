import Derived.Test.YtihbgghlnppkiaaGreatDoorR52
import Derived.Test.YtihbgghlnppkiaaGreatDoorR29
set_option linter.unusedVariables false
set_option linter.unusedSimpArgs false
set_option maxRecDepth 100000
set_option maxHeartbeats 16000000
namespace Go.Proofs.YtihbgghlnppkiaaGreatDoor
open Go Go.RowKit
namespace LM
def nthV : List Value → Nat → Value
  | [],_=>undef
  | x :: _,0=>x
  | _ :: l,n + 1=>nthV l n
set_option maxRecDepth 1000000 in
def F0 (g : Nat) (m : Nat) (e : Int) (ovf : Bool) (u : Nat → Value) : Act:={ tmps:=#[.pointer (some ⟨g,0,none⟩),.pointer (some ⟨16,0,none⟩),u 2,u 3,u 4,.bool ovf,.int .i64 e,.int .u64 ((m : Nat) : Int),u 8,u 9,u 10,u 11,u 12,u 13,u 14,u 15,u 16,u 17,u 18,u 19,u 20,u 21,u 22,u 23,u 24,u 25,u 26,u 27,u 28,u 29,u 30,u 31,u 32,u 33,u 34,u 35,u 36,u 37,u 38,u 39,u 40,u 41,u 42,u 43,u 44,u 45,u 46,u 47,u 48,u 49,u 50,u 51,u 52,u 53,u 54,u 55,u 56,u 57,u 58,u 59,u 60,u 61,u 62,u 63,u 64,u 65,u 66,u 67,u 68,u 69,u 70,u 71,u 72,u 73,u 74,u 75,u 76,u 77,u 78,u 79,u 80,u 81,u 82,u 83,u 84,u 85,u 86,u 87,u 88,u 89,u 90,u 91,u 92,u 93,u 94,u 95,u 96,u 97,u 98,u 99,u 100,u 101,u 102,u 103,u 104,u 105,u 106,u 107,u 108,u 109,u 110,u 111,u 112,u 113,u 114,u 115,u 116,u 117,u 118,u 119,u 120,u 121,u 122,u 123,u 124,u 125,u 126,u 127,u 128,u 129,u 130,u 131,u 132,u 133,u 134,u 135,u 136,u 137,u 138,u 139,u 140,u 141,u 142,u 143,u 144,u 145,u 146,u 147,u 148,u 149,u 150,u 151,u 152,u 153,u 154,u 155,u 156,u 157,u 158,u 159,u 160,u 161,u 162,u 163,u 164,u 165,u 166,u 167,u 168,u 169,u 170,u 171,u 172,u 173,u 174,u 175,u 176,u 177,u 178,u 179,u 180,u 181,u 182,u 183,u 184,u 185,u 186,u 187,u 188,u 189,u 190,u 191,u 192,u 193,u 194,u 195,u 196,u 197,u 198,u 199,u 200,u 201,u 202,u 203,u 204,u 205,u 206,u 207,u 208,u 209,u 210,u 211,u 212,u 213,u 214,u 215,u 216,u 217,u 218,u 219,u 220,u 221,u 222,u 223,u 224,u 225,u 226,u 227,u 228,u 229,u 230,u 231,u 232,u 233,u 234,u 235,u 236,u 237,u 238,u 239,u 240,u 241,u 242],defers:=[] }
set_option maxRecDepth 1000000 in
def F1 (g : Nat) (u : Nat → Value) : Act:={ tmps:=#[.pointer (some ⟨g,0,none⟩),.pointer (some ⟨16,0,none⟩),u 2,u 3,u 4,u 5,u 6,u 7,u 8,u 9,u 10,u 11,u 12,u 13,u 14,u 15,u 16,u 17,u 18,u 19,u 20,u 21,u 22,u 23,u 24,u 25,u 26,u 27,u 28,u 29,u 30,u 31,u 32,u 33,u 34,u 35,u 36,u 37,u 38,u 39,u 40,u 41,u 42,u 43,u 44,u 45,u 46,u 47,u 48,u 49,u 50,u 51,u 52,u 53,u 54,u 55,u 56,u 57,u 58,u 59,u 60,u 61,u 62,u 63,u 64,u 65,u 66,u 67,u 68,u 69,u 70,u 71,u 72,u 73,u 74,u 75,u 76,u 77,u 78,u 79,u 80,u 81,u 82,u 83,u 84,u 85,u 86,u 87,u 88,u 89,u 90,u 91,u 92,u 93,u 94,u 95,u 96,u 97,u 98,u 99,u 100,u 101,u 102,u 103,u 104,u 105,u 106,u 107,u 108,u 109,u 110,u 111,u 112,u 113,u 114,u 115,u 116,u 117,u 118,u 119,u 120,u 121,u 122,u 123,u 124,u 125,u 126,u 127,u 128,u 129,u 130,u 131,u 132,u 133,u 134,u 135,u 136,u 137,u 138,u 139,u 140,u 141,u 142,u 143,u 144,u 145,u 146,u 147,u 148,u 149,u 150,u 151,u 152,u 153,u 154,u 155,u 156,u 157,u 158,u 159,u 160,u 161,u 162,u 163,u 164,u 165,u 166,u 167,u 168,u 169,u 170,u 171,u 172,u 173,u 174,u 175,u 176,u 177,u 178,u 179,u 180,u 181,u 182,u 183,u 184,u 185,u 186,u 187,u 188,u 189,u 190,u 191,u 192,u 193,u 194,u 195,u 196,u 197,u 198,u 199,u 200,u 201,u 202,u 203,u 204,u 205,u 206,u 207,u 208,u 209,u 210,u 211,u 212,u 213,u 214,u 215,u 216,u 217,u 218,u 219,u 220,u 221,u 222,u 223,u 224,u 225,u 226,u 227,u 228,u 229,u 230,u 231,u 232,u 233,u 234,u 235,u 236,u 237,u 238,u 239,u 240,u 241,u 242],defers:=[] }
def J0 (g : Nat) (w : World) (R : Nat × Bool) (a : Act) (w' : World) : Prop:=∃ (m : Nat) (e : Int) (ovf : Bool) (t : Dec),(∃ u,a = F0 g m e ovf u)∧DecR w' g t∧w.grownBy w' (some g)∧m < 18446744073709551616∧(-1023 ≤ e∧e ≤ 1100)∧(fbOut m e t.neg,ovf) = R
def J1 (g : Nat) (w : World) (R : Nat × Bool) (a : Act) (w' : World) : Prop:=∃ (t : Dec),(∃ u,a = F1 g u)∧DecR w' g t∧w.grownBy w' (some g)∧(fbOut 0 1024 t.neg,true) = R
def JJ (g : Nat) (w : World) (R : Nat × Bool) (l : Nat) (a : Act) (w' : World) : Prop:=(l = 0∧J0 g w R a w') ∨ (l = 1∧J1 g w R a w')
theorem JJ.zero {g : Nat} {w : World} {R : Nat × Bool} {a : Act} {w' : World} (m : Nat) (e : Int) (ovf : Bool) (t : Dec) (h : a = F0 g m e ovf (nthV a.tmps.toList)) (h1 : DecR w' g t) (h2 : w.grownBy w' (some g)) (h3 : m < 18446744073709551616) (h4 : -1023 ≤ e∧e ≤ 1100) (h5 : (fbOut m e t.neg,ovf) = R) : JJ g w R 0 a w' :=
  .inl ⟨rfl,m,e,ovf,t,⟨_,h⟩,h1,h2,h3,h4,h5⟩
theorem JJ.one {g : Nat} {w : World} {R : Nat × Bool} {a : Act} {w' : World} (t : Dec) (h : a = F1 g (nthV a.tmps.toList)) (h1 : DecR w' g t) (h2 : w.grownBy w' (some g)) (h5 : (fbOut 0 1024 t.neg,true) = R) : JJ g w R 1 a w' :=
  .inr ⟨rfl,t,⟨_,h⟩,h1,h2,h5⟩
theorem and_mask {n k : Nat} (hn : n < 18446744073709551616) (hk : k ≤ 60) : bits .and .u64 (n : Int) ((2 ^ k - 1 : Nat) : Int) = ((n % 2 ^ k : Nat) : Int):=by
  have h2:=two_le60 hk
  rw [u64_and_nat n (2 ^ k - 1) hn (by omega),Nat.and_two_pow_sub_one_eq_mod]
theorem and_mask_i {n k : Nat} (hn : n < 9223372036854775808) (hk : k ≤ 60) : bits .and .i64 (n : Int) ((2 ^ k - 1 : Nat) : Int) = ((n % 2 ^ k : Nat) : Int):=by
  have h2:=two_le60 hk
  rw [i64_and_nat n (2 ^ k - 1) hn (by omega),Nat.and_two_pow_sub_one_eq_mod]
theorem and_bit {n k : Nat} (hn : n < 18446744073709551616) (hk : k ≤ 60) : bits .and .u64 (n : Int) ((2 ^ k : Nat) : Int) = ((if n / 2 ^ k % 2 = 0 then 0 else 2 ^ k : Nat) : Int):=by
  have h2:=two_le60 hk
  rw [u64_and_nat n (2 ^ k) hn (by omega)]
  congr 1
  rcases Nat.mod_two_eq_zero_or_one (n / 2 ^ k) with h | h
  · rw [if_pos h]
    apply Nat.eq_of_testBit_eq
    intro i
    rw [Nat.testBit_and,Nat.testBit_two_pow,Nat.zero_testBit]
    by_cases e : k = i
    · subst e; rw [Nat.testBit_eq_decide_div_mod_eq,h]; rfl
    · simp [e]
  · rw [if_neg (by omega)]
    apply Nat.eq_of_testBit_eq
    intro i
    rw [Nat.testBit_and,Nat.testBit_two_pow]
    by_cases e : k = i
    · subst e; rw [Nat.testBit_eq_decide_div_mod_eq,h]; simp
    · simp [e]
theorem or_lt {a b : Nat} (ha : a < 2 ^ 63) (hb : b < 2 ^ 63) : a ||| b < 2 ^ 63:=Nat.or_lt_two_pow ha hb
set_option maxRecDepth 10000000 in
theorem fbits_any (g : Nat) (s : Dec) (w0 w : World) (hv : FX w0) (hb : Below w0.heap.size w0 w) (hg0 : w0.heap.size ≤ g) (hD : DecR w g s) (hs : DOk s) (hdp : -300000 ≤ s.dp∧s.dp ≤ 300000) :
    Calls Tryz.prog 239 #[.pointer (some ⟨g,0,none⟩),.pointer (some ⟨16,0,none⟩)] w fun e w'=>e = .returned (.tuple #[.int .u64 (((fbRes s).1 : Nat) : Int),.bool (fbRes s).2])∧w.grownBy w' (some g):=by
  obtain ⟨R,hR⟩ : ∃ R,fbRes s = R:=⟨_,rfl⟩
  rw [hR]
  have HR:=Lib.hid hR
  have HS:=Lib.hid hs
  have HD:=Lib.hid hD
  have hl:=hD.lt
  have FK : Hid (∀ W,w.grownBy W (some g) → FX W):=Lib.hid fun W hW=>hv.below (below_of_only hb hW hg0 hb.size)
  clear hv hb hg0 hD hs hR
  go_enter Tryz.func239,Tryz.ntmps239
  go_wp2_with (fail)
  have c0:=HD.out.ndc
  have c1:=HD.out.dpc
  refine scope_ahead' (JJ g w R) ?_ ?_ ?_
  · rintro l a W (⟨rfl,-⟩ | ⟨rfl,-⟩)
    · simp only [findLabel,Option.getD_some,beq_self_eq_true,if_true,Nat.reduceBEq,Bool.false_eq_true,if_false]
    · simp only [findLabel,Option.getD_some,beq_self_eq_true,if_true]
  · have hn1:=HS.out.pos
    have d0 : ((s.nd : Int) == 0) = false:=by simpa using (by omega : ¬ (s.nd : Int) = 0)
    by_cases h310 : 310 < s.dp
    · have d1 : decide (310 < s.dp) = true:=decide_eq_true h310
      have HR1:=Lib.hid (show (fbOut 0 1024 s.neg,true) = R by rw [← HR.out,fbRes,if_pos h310])
      go_wp2_with (fail)
      go_step3
      exact JJ.one s rfl HD.out (only_refl _ _) HR1.out
    · have d1 : decide (310 < s.dp) = false:=decide_eq_false h310
      by_cases hlow : s.dp < -330
      · have d2 : decide (s.dp < -330) = true:=decide_eq_true hlow
        have HR1:=Lib.hid (show (fbOut 0 (-1023) s.neg,false) = R by rw [← HR.out,fbRes,if_neg h310,if_pos hlow])
        have i2:=(FK.out w (only_refl _ _)).i2
        go_wp2_with (fail)
        go_step3
        exact JJ.zero 0 (-1023) false s rfl HD.out (only_refl _ _) (by decide) (by decide) HR1.out
      · have d2 : decide (s.dp < -330) = false:=decide_eq_false hlow
        obtain ⟨M,hM⟩ : ∃ M,mA s = M:=⟨_,rfl⟩
        have hMb : M ≤ 621:=by
          rw [← hM]
          unfold mA
          have : (if 56 ≤ s.f 0 then 1 else 0) ≤ 1:=by split <;> omega
          omega
        have HU : Hid (fbUp (fbA M s 0).1 (fbA M s 0).2 = R):=Lib.hid (by rw [← HR.out,fbRes,if_neg h310,if_neg hlow,hM])
        have HM:=Lib.hid (show mA s ≤ M by omega)
        clear hM
        go_upto_block 0 with (fail)
        go_cut [6,8] (fun e n wx=>∃ (t : Dec) (z : Int),e = .int .i64 z∧Hid (DOk t)∧Hid (t.dp ≤ 0∧-330 ≤ t.dp)∧0 ≤ z∧z ≤ 20000∧Hid (fbUp t z = R)∧Hid (DecR wx g t)∧Hid (w.grownBy wx (some g)))
        case first =>
          clear d0 d1 d2 c0 c1
          go_wp2_with (fail)
          go_loopg [6,8] M (fun qq e n wr=>∃ (q : Nat) (t : Dec) (z : Int),q = qq∧q ≤ M∧e = .int .i64 z∧Hid (mA t ≤ q)∧Hid (DOk t)∧0 ≤ z∧z + 27 * (q : Int) ≤ 27 * (M : Int)∧Hid (t.dp ≤ 310∧-330 ≤ t.dp)∧Hid (fbUp (fbA q t z).1 (fbA q t z).2 = R)∧Hid (DecR wr g t)∧Hid (w.grownBy wr (some g)))
          case atStart=>exact ⟨M,s,0,rfl,Nat.le_refl _,rfl,HM,HS,Int.le_refl _,by omega,Lib.hid (by omega),HU,HD,Lib.hid (only_refl _ _)⟩
          case round =>
            obtain ⟨q,t,z,rfl,hq,rfl,hm,ht,hz,hz2,hdp2,hu,hd,hg⟩:=hrel
            clear h310 hlow hdp
            have c1:=hd.out.dpc
            by_cases h0 : 0 < t.dp
            · obtain ⟨d,hdd⟩ : ∃ d : Nat,t.dp = (d : Int):=⟨t.dp.toNat,by omega⟩
              have hd1 : 1 ≤ d:=by omega
              have hdown:=rs_down ht.out h0
              have htn : t.dp.toNat = d:=by omega
              rw [htn] at hdown
              obtain ⟨n,hn⟩ : ∃ n,shA d = n:=⟨_,rfl⟩
              have hnb:=shA_bd d
              rw [hn] at hdown hnb
              obtain ⟨hn1,hn2⟩:=hnb
              have hq1 : 1 ≤ q:=by
                have h1:=hm.out
                have h2:=hdown.1
                omega
              obtain ⟨q',rfl⟩ : ∃ q',q = q' + 1:=⟨q - 1,by omega⟩
              have HU2 : Hid (fbUp (fbA q' (rsD t n) (z + n)).1 (fbA q' (rsD t n) (z + n)).2 = R):=Lib.hid (by
                have h1:=hu.out
                rw [fbA,if_pos h0,htn,hn] at h1
                exact h1)
              have HOK:=Lib.hid (rs_ok ht.out (k:=n) (by omega)).1
              have HMM:=Lib.hid (show mA (rsD t n) ≤ q' by have h1:=hm.out; have h2:=hdown.1; omega)
              have hrd:=rs_dp ht.out (k:=n) (by omega)
              have HDP2:=Lib.hid (show (rsD t n).dp ≤ 310∧-330 ≤ (rsD t n).dp by have h1:=hdp2.out; omega)
              have hdpb:=hdp2.out
              have SH:=Lib.hid fun W (hW : DecR W g t)=>shift_down g n 0 t W hW ht.out hn1 (by omega) (by decide) (by omega)
              obtain ⟨b,o,c,p1,p2,p3⟩:=(FK.out wr hg.out).pw
              have p4 : d < 9 → wr.cell? ⟨b,o + d,none⟩ = some (.int .i64 (n : Int)):=fun h=>by rw [← hn]; exact p3 d _ (powtab_at h)
              have HN:=Lib.hid hn
              rw [hdd] at c1
              clear hdown htn hdd hrd hu hdp2 hm p3 hn h0 hdpb
              by_cases h9 : 9 ≤ d
              · have e27 : n = 27:=by rw [← HN.out]; unfold shA; rw [if_pos h9]
                subst e27
                have SH2:=Lib.hid fun W hW=>show Calls Tryz.prog 179 #[.pointer (some ⟨g,0,none⟩),.int .i64 (-27)] W _ from SH.out W hW
                have d9 : decide (9 ≤ d) = true:=decide_eq_true h9
                clear p4
                go_wp2_with (fail)
                go_quiet (fail)
                go_wp2_with (fail)
                refine (SH2.out _ (hd.out.drewN _)).mono ?_
                rintro e w' ⟨rfl,hdw,hgw⟩
                have HDW:=Lib.hid hdw
                have HGW:=Lib.hid hgw
                clear hdw hgw
                go_wp2_with (fail)
                go_roundg q'
                case measure=>omega
                case rel=>exact ⟨q',rsD t 27,z + 27,rfl,by omega,rfl,HMM,HOK,by omega,by omega,HDP2,HU2,HDW,Lib.hid (only_trans (only_drewN hg.out _) HGW.out)⟩
              · have d9 : decide (9 ≤ d) = false:=decide_eq_false h9
                have p5:=p4 (by omega)
                clear p4
                go_wp2_with (fail)
                go_quiet (fail)
                go_wp2_with (fail)
                go_quiet (fail)
                go_wp2_with (fail)
                refine (SH.out _ (hd.out.drewN _)).mono ?_
                rintro e w' ⟨rfl,hdw,hgw⟩
                have HDW:=Lib.hid hdw
                have HGW:=Lib.hid hgw
                clear hdw hgw
                go_wp2_with (fail)
                go_roundg q'
                case measure=>omega
                case rel=>exact ⟨q',rsD t n,z + n,rfl,by omega,rfl,HMM,HOK,by omega,by omega,HDP2,HU2,HDW,Lib.hid (only_trans (only_drewN hg.out _) HGW.out)⟩
            · have HU2:=Lib.hid (show fbUp t z = R by have h1:=hu.out; rw [fbA_stop q z h0] at h1; exact h1)
              have HDP2:=Lib.hid (show t.dp ≤ 0∧-330 ≤ t.dp by have h1:=hdp2.out; omega)
              go_wp2_with (fail)
              go_meet
              case rel=>exact ⟨t,z,rfl,ht,HDP2,hz,by omega,HU2,hd,hg⟩
        case rest =>
          obtain ⟨t1,z1,rfl,ht1,hdp1,hz1,hz2,hu1,hd1,hg1⟩:=hcut
          clear d0 d1 d2 c0 c1 HU HM h310 hlow hdp hMb HR HD HS hn1
          obtain ⟨M2,hM2⟩ : ∃ M2,mB t1 = M2:=⟨_,rfl⟩
          have hM2b : M2 ≤ 3360:=by
            rw [← hM2]
            unfold mB
            have:=hdp1.out
            omega
          have HL : Hid (fbLow (fbB M2 t1 z1).1 ((fbB M2 t1 z1).2 - 1) = R):=Lib.hid (by rw [← hM2]; exact hu1.out)
          have HM2:=Lib.hid (show mB t1 ≤ M2 by omega)
          have HDPB:=Lib.hid (show -330 ≤ t1.dp∧t1.dp ≤ 19 by have:=hdp1.out; omega)
          clear hM2 hu1 hdp1
          go_upto_block 2 with (fail)
          go_cut [6,9] (fun e n wx=>∃ (t : Dec) (z : Int),e = .int .i64 z∧Hid (DOk t)∧Hid (-330 ≤ t.dp∧t.dp ≤ 19)∧-90720 ≤ z∧z ≤ 20000∧Hid (fbLow t (z - 1) = R)∧Hid (DecR wx g t)∧Hid (w.grownBy wx (some g)))
          case first =>
            go_wp2_with (fail)
            go_loopg [6,9] M2 (fun qq e n wr=>∃ (q : Nat) (t : Dec) (z : Int),q = qq∧q ≤ M2∧e = .int .i64 z∧Hid (mB t ≤ q)∧Hid (DOk t)∧z ≤ 20000∧-27 * ((M2 : Int) - q) ≤ z∧Hid (-330 ≤ t.dp∧t.dp ≤ 19)∧Hid (fbLow (fbB q t z).1 ((fbB q t z).2 - 1) = R)∧Hid (DecR wr g t)∧Hid (w.grownBy wr (some g)))
            case atStart=>exact ⟨M2,t1,z1,rfl,Nat.le_refl _,rfl,HM2,ht1,by omega,by omega,HDPB,HL,hd1,hg1⟩
            case round =>
              obtain ⟨q,t,z,rfl,hq,rfl,hm,ht,hz,hzl,hdp2,hu,hd,hg⟩:=hrel
              clear HM2 HDPB HL hd1 hg1 ht1 hz1 hz2
              have c1:=hd.out.dpc
              have cf:=hd.out.byte 0 (by decide)
              have hf0:=ht.out.dig 0 (Nat.le_refl _) ht.out.pos
              obtain ⟨x,hx⟩ : ∃ x,t.f 0 = x:=⟨_,rfl⟩
              rw [hx] at cf hf0
              by_cases hbl : below t = true
              · have hbc : t.dp < 0 ∨ (t.dp = 0∧x < 53):=by
                  unfold below at hbl
                  rw [hx] at hbl
                  simpa only [Bool.or_eq_true,Bool.and_eq_true,decide_eq_true_eq] using hbl
                obtain ⟨d,hdd⟩ : ∃ d : Nat,t.dp = -(d : Int):=⟨(-t.dp).toNat,by omega⟩
                have hup:=ls_up ht.out hbl
                have htn : (-t.dp).toNat = d:=by omega
                rw [htn] at hup
                obtain ⟨n,hn⟩ : ∃ n,shA d = n:=⟨_,rfl⟩
                have hnb:=shA_bd d
                rw [hn] at hup hnb
                obtain ⟨hn1,hn2⟩:=hnb
                have hq1 : 1 ≤ q:=by have h1:=hm.out; omega
                obtain ⟨q',rfl⟩ : ∃ q',q = q' + 1:=⟨q - 1,by omega⟩
                have HU2 : Hid (fbLow (fbB q' (lsD t n) (z - n)).1 ((fbB q' (lsD t n) (z - n)).2 - 1) = R):=Lib.hid (by
                  have h1:=hu.out
                  rw [fbB,if_pos hbl,htn,hn] at h1
                  exact h1)
                obtain ⟨o1,o2,-,-,-,o6,-⟩:=ls_ok ht.out (k:=n) hn1 (by omega)
                have HOK:=Lib.hid o1
                have HMM:=Lib.hid (show mB (lsD t n) ≤ q' by have h1:=hm.out; omega)
                have HDP2:=Lib.hid (show -330 ≤ (lsD t n).dp∧(lsD t n).dp ≤ 19 by have h1:=hdp2.out; omega)
                have SH:=Lib.hid fun W (hW : DecR W g t)=>fun (hct : CT W)=>shift_up g n t W hW ht.out hn1 (by omega) (by have:=hdp2.out; omega) hct
                have fx:=FK.out wr hg.out
                have SH1:=Lib.hid fun (k : Nat) (hW : DecR (wr.drewN k) g t)=>SH.out (wr.drewN k) hW (FK.out (wr.drewN k) (only_drewN hg.out k)).ct
                obtain ⟨b,o,c,p1,p2,p3⟩:=fx.pw
                have p4 : d < 9 → wr.cell? ⟨b,o + d,none⟩ = some (.int .i64 (n : Int)):=fun h=>by rw [← hn]; exact p3 d _ (powtab_at h)
                have HN:=Lib.hid hn
                rw [hdd] at c1 hbc
                have hd330 : d ≤ 330:=by have h1:=hdp2.out; omega
                clear hup htn hdd hu hdp2 hm p3 hn hbl o1 o2 o6 fx SH hx
                rcases hbc with h0 | ⟨h0,h53⟩
                · have hd1 : 1 ≤ d:=by omega
                  have dl0 : decide (-(d : Int) < 0) = true:=decide_eq_true h0
                  have dl1 : decide (0 < d) = true:=decide_eq_true hd1
                  clear h0 cf
                  by_cases h9 : 9 ≤ d
                  · have e27 : n = 27:=by rw [← HN.out]; unfold shA; rw [if_pos h9]
                    subst e27
                    have SH2:=Lib.hid fun k hW=>show Calls Tryz.prog 179 #[.pointer (some ⟨g,0,none⟩),.int .i64 27] (wr.drewN k) _ from SH1.out k hW
                    have d9 : decide (9 ≤ d) = true:=decide_eq_true h9
                    clear p4
                    go_wp2_with (fail)
                    go_quiet (fail)
                    go_wp2_with (fail)
                    refine (SH2.out _ (hd.out.drewN _)).mono ?_
                    rintro e w' ⟨rfl,hdw,hgw⟩
                    have HDW:=Lib.hid hdw
                    have HGW:=Lib.hid hgw
                    clear hdw hgw
                    go_wp2_with (fail)
                    go_roundg q'
                    case measure=>omega
                    case rel=>exact ⟨q',lsD t 27,z - 27,rfl,by omega,rfl,HMM,HOK,by omega,by omega,HDP2,HU2,HDW,Lib.hid (only_trans (only_drewN hg.out _) HGW.out)⟩
                  · have d9 : decide (9 ≤ d) = false:=decide_eq_false h9
                    have p5:=p4 (by omega)
                    clear p4
                    go_wp2_with (fail)
                    go_quiet (fail)
                    go_wp2_with (fail)
                    go_quiet (fail)
                    go_wp2_with (fail)
                    refine (SH1.out _ (hd.out.drewN _)).mono ?_
                    rintro e w' ⟨rfl,hdw,hgw⟩
                    have HDW:=Lib.hid hdw
                    have HGW:=Lib.hid hgw
                    clear hdw hgw
                    go_wp2_with (fail)
                    go_roundg q'
                    case measure=>omega
                    case rel=>exact ⟨q',lsD t n,z - n,rfl,by omega,rfl,HMM,HOK,by omega,by omega,HDP2,HU2,HDW,Lib.hid (only_trans (only_drewN hg.out _) HGW.out)⟩
                · obtain rfl : d = 0:=by omega
                  have e1 : n = 1:=by rw [← HN.out]; rfl
                  subst e1
                  have p5:=p4 (by decide)
                  have c2 : wr.cell? ⟨g,801,none⟩ = some (.int .i64 0):=c1
                  have SH2:=Lib.hid fun k hW=>show Calls Tryz.prog 179 #[.pointer (some ⟨g,0,none⟩),.int .i64 1] (wr.drewN k) _ from SH1.out k hW
                  have d53 : decide (x < 53) = true:=decide_eq_true h53
                  have p6 : wr.cell? ⟨b,o,none⟩ = some (.int .i64 1):=p5
                  clear p4 p5 c1 h0
                  go_wp2_with (fail)
                  go_quiet (fail)
                  go_wp2_with (fail)
                  go_quiet (fail)
                  go_wp2_with (fail)
                  refine (SH2.out _ (hd.out.drewN _)).mono ?_
                  rintro e w' ⟨rfl,hdw,hgw⟩
                  have HDW:=Lib.hid hdw
                  have HGW:=Lib.hid hgw
                  clear hdw hgw
                  go_wp2_with (fail)
                  go_roundg q'
                  case measure=>omega
                  case rel=>exact ⟨q',lsD t 1,z - 1,rfl,by omega,rfl,HMM,HOK,by omega,by omega,HDP2,HU2,HDW,Lib.hid (only_trans (only_drewN hg.out _) HGW.out)⟩
              · have hbf : below t = false:=by simpa using hbl
                have HU2:=Lib.hid (show fbLow t (z - 1) = R by have h1:=hu.out; rw [fbB_stop q z hbf] at h1; exact h1)
                have hbc : 0 < t.dp ∨ (t.dp = 0∧¬ x < 53):=by
                  unfold below at hbf
                  rw [hx] at hbf
                  simp only [Bool.or_eq_false_iff,Bool.and_eq_false_iff,decide_eq_false_iff_not] at hbf
                  omega
                clear hbl hbf hu hx
                rcases hbc with h0 | ⟨h0,h53⟩
                · have dl0 : decide (t.dp < 0) = false:=decide_eq_false (by omega)
                  have dl1 : (t.dp == 0) = false:=by simpa using (by omega : ¬ t.dp = 0)
                  go_wp2_with (fail)
                  go_meet
                  case rel=>exact ⟨t,z,rfl,ht,hdp2,by omega,by omega,HU2,hd,hg⟩
                · rw [h0] at c1
                  have d53 : decide (x < 53) = false:=decide_eq_false h53
                  clear h0
                  go_wp2_with (fail)
                  go_meet
                  case rel=>exact ⟨t,z,rfl,ht,hdp2,by omega,by omega,HU2,hd,hg⟩
          case rest =>
            obtain ⟨t2,z2,rfl,ht2,hdp2,hz3,hz4,hu2,hd2,hg2⟩:=hcut
            clear HM2 HDPB HL hd1 hg1 ht1 hz1 hz2 hM2b
            obtain ⟨z3,hz5⟩ : ∃ z3,z2 - 1 = z3:=⟨_,rfl⟩
            have e3 : IntKind.i64.wrap (z2 - 1) = z3:=by rw [IntKind.wrap_i64]; omega
            have HZ:=Lib.hid hz5
            have hzb : -90721 ≤ z3∧z3 ≤ 19999:=by omega
            obtain ⟨hza,hzb⟩:=hzb
            have HL3 : Hid (fbLow t2 z3 = R):=Lib.hid (by rw [← hz5]; exact hu2.out)
            have i2:=(FK.out _ hg2.out).i2
            clear hz5 hu2
            go_upto_if 111 with (fail)
            go_cut [6,10] (fun e n wx=>∃ (t : Dec) (z : Int),e = .int .i64 z∧Hid (DOk t)∧Hid (-130000 ≤ t.dp∧t.dp ≤ 19)∧-1022 ≤ z∧z ≤ 20000∧Hid (fbEnd t z = R)∧Hid (DecR wx g t)∧Hid (w.grownBy wx (some g)))
            case first =>
              by_cases hlow : z3 < -1022
              · have dl : decide (z3 < -1022) = true:=decide_eq_true hlow
                obtain ⟨n,hn⟩ : ∃ n : Nat,-1022 - z3 = (n : Int):=⟨(-1022 - z3).toNat,by omega⟩
                have hn1 : 1 ≤ n:=by omega
                have hn2 : n ≤ 60 * (1600 + 1):=by omega
                have e4 : IntKind.i64.wrap (-1022 - z3) = (n : Int):=by rw [hn,IntKind.wrap_i64]; omega
                have e5 : z3 + (n : Int) = -1022:=by omega
                have HE : Hid (fbEnd (shR 1600 t2 n) (-1022) = R):=Lib.hid (by
                  have h:=HL3.out
                  rw [fbLow,if_pos hlow,show (-1022 - z3).toNat = n from by omega] at h
                  exact h)
                have SH:=Lib.hid fun W (hW : DecR W g t2)=>shift_down g n 1600 t2 W hW ht2.out hn1 hn2 (by decide) (by have:=hdp2.out; omega)
                have HOK:=Lib.hid (shR_ok 1600 t2 n ht2.out hn2)
                have HDP:=Lib.hid (show -130000 ≤ (shR 1600 t2 n).dp∧(shR 1600 t2 n).dp ≤ 19 by have h1:=shR_dp 1600 t2 n ht2.out hn2; have h2:=hdp2.out; omega)
                have HN:=Lib.hid hn
                clear hn hn2
                go_wp2_with (fail)
                refine (SH.out _ hd2.out).mono ?_
                rintro e w' ⟨rfl,hdw,hgw⟩
                have HDW:=Lib.hid hdw
                have HGW:=Lib.hid hgw
                clear hdw hgw
                go_wp2_with (fail)
                go_meet
                case rel=>exact ⟨shR 1600 t2 n,-1022,rfl,HOK,HDP,by omega,by omega,HE,HDW,Lib.hid (only_trans hg2.out HGW.out)⟩
              · have dl : decide (z3 < -1022) = false:=decide_eq_false hlow
                have HE : Hid (fbEnd t2 z3 = R):=Lib.hid (by
                  have h:=HL3.out
                  rw [fbLow,if_neg hlow] at h
                  exact h)
                go_wp2_with (fail)
                go_meet
                case rel=>exact ⟨t2,z3,rfl,ht2,Lib.hid (by have:=hdp2.out; omega),by omega,by omega,HE,hd2,hg2⟩
            case rest =>
              obtain ⟨t3,z4,rfl,ht3,hdp3,hz6,hz7,he3,hd3,hg3⟩:=hcut
              clear HL3 i2 e3 HZ ht2 hdp2 hd2 hg2 hz3 hz4 hza hzb
              have fx:=FK.out _ hg3.out
              have i0:=fx.i0
              have i1:=fx.i1
              have i2:=fx.i2
              have e6 : IntKind.i64.wrap (z4 + 1023) = z4 + 1023:=by rw [IntKind.wrap_i64]; omega
              by_cases h24 : 1024 ≤ z4
              · have dl : decide (2047 ≤ z4 + 1023) = true:=decide_eq_true (by omega)
                have HE1:=Lib.hid (show (fbOut 0 1024 t3.neg,true) = R by have h:=he3.out; rw [fbEnd,if_pos h24] at h; exact h)
                clear fx
                go_wp2_with (fail)
                go_quiet (fail)
                go_wp2_with (fail)
                go_step3
                exact JJ.one t3 rfl (hd3.out.drewN _) (only_drewN hg3.out _) HE1.out
              · have dl : decide (2047 ≤ z4 + 1023) = false:=decide_eq_false (by omega)
                have he4:=he3.out
                rw [fbEnd,if_neg h24] at he4
                have SH:=Lib.hid fun (k : Nat)=>shift_up g 53 t3 _ (hd3.out.drewN k) ht3.out (by decide) (by decide) (by have:=hdp3.out; omega) (FK.out _ (only_drewN hg3.out k)).ct
                have SH2:=Lib.hid fun k=>show Calls Tryz.prog 179 #[.pointer (some ⟨g,0,none⟩),.int .i64 53] _ _ from SH.out k
                obtain ⟨o1,o2,-,-,-,o6,-⟩:=ls_ok ht3.out (k:=53) (by decide) (by decide)
                have hneg : (lsD t3 53).neg = t3.neg:=rfl
                obtain ⟨t4,ht4⟩ : ∃ t4,lsD t3 53 = t4:=⟨_,rfl⟩
                rw [ht4] at he4 o1 o2 SH2 hneg
                have RI:=Lib.hid fun W (hW : DecR W g t4)=>round_int g t4 W hW o1 (by have:=hdp3.out; omega)
                have hml:=ri_lt t4
                obtain ⟨m,hm⟩ : ∃ m,riD t4 = m:=⟨_,rfl⟩
                rw [hm] at he4 RI hml
                rw [← hneg] at he4
                have HE4:=Lib.hid he4
                clear SH he4 hneg ht4 hm o1 o2 o6 fx
                go_wp2_with (fail)
                go_quiet (fail)
                go_wp2_with (fail)
                refine (SH2.out _).mono ?_
                rintro e w4 ⟨rfl,hdw,hgw⟩
                have HD4:=Lib.hid hdw
                have hg4:=only_trans (only_drewN hg3.out _) hgw
                have fx:=FK.out w4 hg4
                have HG4:=Lib.hid hg4
                have i0:=fx.i0
                have i1:=fx.i1
                have i2:=fx.i2
                clear hdw hgw hg4 fx
                go_wp2_with (fail)
                refine (RI.out _ HD4.out).mono ?_
                rintro e w5 ⟨rfl,rfl⟩
                by_cases hm53 : m = 9007199254740992
                · subst hm53
                  have HE5:=HE4.out
                  rw [if_pos rfl] at HE5
                  have e7 : IntKind.i64.wrap (z4 + 1) = z4 + 1:=by rw [IntKind.wrap_i64]; omega
                  have e8 : IntKind.i64.wrap (z4 + 1 + 1023) = z4 + 1 + 1023:=by rw [IntKind.wrap_i64]; omega
                  have bz : bits .and .u64 4503599627370496 4503599627370496 = 4503599627370496:=by decide
                  by_cases h25 : 1024 ≤ z4 + 1
                  · rw [if_pos h25] at HE5
                    have HE6:=Lib.hid HE5
                    have dl2 : decide (2047 ≤ z4 + 1 + 1023) = true:=decide_eq_true (by omega)
                    clear HE5
                    go_wp2_with (fail)
                    go_quiet (fail)
                    go_wp2_with (fail)
                    go_step3
                    exact JJ.one t4 rfl (HD4.out.drewN _) (only_drewN HG4.out _) HE6.out
                  · rw [if_neg h25] at HE5
                    have HE6:=Lib.hid HE5
                    have dl2 : decide (2047 ≤ z4 + 1 + 1023) = false:=decide_eq_false (by omega)
                    clear HE5
                    go_wp2_with (fail)
                    go_quiet (fail)
                    go_wp2_with (fail)
                    go_step3
                    exact JJ.zero 4503599627370496 (z4 + 1) false t4 rfl (HD4.out.drewN _) (only_drewN HG4.out _) (by decide) (by omega) HE6.out
                · have HE5:=HE4.out
                  rw [if_neg hm53] at HE5
                  have dm : ((m : Int) == 9007199254740992) = false:=by simpa using (by omega : ¬ (m : Int) = 9007199254740992)
                  have ba:=and_bit (n:=m) (k:=52) hml (by decide)
                  by_cases hbit : m / 4503599627370496 % 2 = 0
                  · have bz : bits .and .u64 (m : Int) 4503599627370496 = 0:=by
                      rw [if_pos hbit] at ba
                      exact ba
                    unfold fbFin at HE5
                    rw [if_pos hbit] at HE5
                    have HE6:=Lib.hid HE5
                    clear HE5 ba hbit hm53
                    go_wp2_with (fail)
                    go_step3
                    exact JJ.zero m (-1023) false t4 rfl HD4.out HG4.out hml (by decide) HE6.out
                  · have bz : bits .and .u64 (m : Int) 4503599627370496 = 4503599627370496:=by
                      rw [if_neg hbit] at ba
                      exact ba
                    unfold fbFin at HE5
                    rw [if_neg hbit] at HE5
                    have HE6:=Lib.hid HE5
                    clear HE5 ba hbit hm53
                    go_wp2_with (fail)
                    go_step3
                    exact JJ.zero m z4 false t4 rfl HD4.out HG4.out hml (by omega) HE6.out
  · intro l a W h
    rcases h with ⟨rfl,m,e,ovf,t,⟨u,rfl⟩,hd,hg,hm,he,hr⟩ | ⟨rfl,t,⟨u,rfl⟩,hd,hg,hr⟩
    · have fx:=FK.out W hg
      have i0:=fx.i0
      have i1:=fx.i1
      have i2:=fx.i2
      have cn:=hd.negc
      obtain ⟨a,ha⟩ : ∃ a,m % 4503599627370496 = a:=⟨_,rfl⟩
      obtain ⟨x,hx⟩ : ∃ x,(e + 1023).toNat % 2048 = x:=⟨_,rfl⟩
      have b1 : bits .and .u64 (m : Int) 4503599627370495 = (a : Int):=by
        have h:=and_mask (n:=m) (k:=52) hm (by decide)
        rw [← ha]
        exact h
      have b2 : bits .and .i64 (e + 1023) 2047 = (x : Int):=by
        have h:=and_mask_i (n:=(e + 1023).toNat) (k:=11) (by omega) (by decide)
        rw [← hx]
        rw [show (((e + 1023).toNat : Nat) : Int) = e + 1023 from by omega] at h
        exact h
      have hx2 : x < 2048:=by omega
      have ha2 : a < 4503599627370496:=by omega
      obtain ⟨b,hbb⟩ : ∃ b,x * 4503599627370496 = b:=⟨_,rfl⟩
      have hb2 : b < 9223372036854775808:=by omega
      have hxb : (x : Int) * 4503599627370496 = (b : Int):=by omega
      obtain ⟨c,hc⟩ : ∃ c,a ||| b = c:=⟨_,rfl⟩
      have hc2 : c < 9223372036854775808:=by rw [← hc]; exact or_lt (Nat.lt_trans ha2 (by decide)) hb2
      have b3 : bits .or .u64 (a : Int) (b : Int) = (c : Int):=by rw [u64_or_nat a b (by omega) (by omega),hc]
      have hr2 : R = (c ||| (if t.neg then 9223372036854775808 else 0),ovf):=by
        rw [← hr]
        unfold fbOut
        rw [ha,hx,hbb,hc]
      have HR2:=Lib.hid hr2
      have HG:=Lib.hid hg
      have HD2:=Lib.hid hd
      clear hr ha hx hbb hc hr2 hg hd fx HD
      have e1 : IntKind.i64.wrap (e + 1023) = e + 1023:=by rw [IntKind.wrap_i64]; omega
      have bo : bits .or .u64 (c : Int) 9223372036854775808 = ((c ||| 9223372036854775808 : Nat) : Int):=u64_or_nat c 9223372036854775808 (by omega) (by decide)
      obtain ⟨tn,htn⟩ : ∃ b,t.neg = b:=⟨_,rfl⟩
      rw [htn] at cn HR2
      clear htn
      unfold F0
      simp only [findLabel,Option.getD_some,beq_self_eq_true,if_true,Nat.reduceBEq,Bool.false_eq_true,if_false]
      cases tn
      · go_wp2_with (fail)
        go_quiet (fail)
        go_wp2_with (fail)
        rw [ExJ_ret]
        refine bodyPost_ret (v:=.tuple #[.int .u64 (c : Int),.bool ovf]) (by simp [results,Tryz.results239,go_sem]) rfl ?_
        exact ⟨by rw [HR2.out]; simp,only_drewN HG.out _⟩
      · go_wp2_with (fail)
        go_quiet (fail)
        go_wp2_with (fail)
        go_quiet (fail)
        go_wp2_with (fail)
        rw [ExJ_ret]
        refine bodyPost_ret (v:=.tuple #[.int .u64 ((c ||| 9223372036854775808 : Nat) : Int),.bool ovf]) (by simp [results,Tryz.results239,go_sem]) rfl ?_
        exact ⟨by rw [HR2.out]; simp,only_drewN (only_drewN HG.out _) _⟩
    · have fx:=FK.out W hg
      have i0:=fx.i0
      have i1:=fx.i1
      have i2:=fx.i2
      have cn:=hd.negc
      have b1 : bits .and .u64 0 4503599627370495 = 0:=by decide
      have b2 : bits .and .i64 2047 2047 = 2047:=by decide
      have b3 : bits .or .u64 0 9218868437227405312 = 9218868437227405312:=by decide
      have b4 : bits .or .u64 9218868437227405312 9223372036854775808 = 18442240474082181120:=by decide
      have hr2 : R = (if t.neg then 18442240474082181120 else 9218868437227405312,true):=by
        rw [← hr]
        cases t.neg <;> decide
      have HR2:=Lib.hid hr2
      have HG:=Lib.hid hg
      obtain ⟨tn,htn⟩ : ∃ b,t.neg = b:=⟨_,rfl⟩
      rw [htn] at cn HR2
      clear hr hr2 hg hd fx HD htn
      unfold F1
      simp only [findLabel,Option.getD_some,beq_self_eq_true,if_true]
      cases tn
      · go_wp2_with (fail)
        go_quiet (fail)
        go_wp2_with (fail)
        go_step3
        go_wp2_with (fail)
        go_quiet (fail)
        go_wp2_with (fail)
        rw [ExJ_ret]
        refine bodyPost_ret (v:=.tuple #[.int .u64 9218868437227405312,.bool true]) (by simp [results,Tryz.results239,go_sem]) rfl ?_
        exact ⟨by rw [HR2.out]; rfl,only_drewN HG.out _⟩
      · go_wp2_with (fail)
        go_quiet (fail)
        go_wp2_with (fail)
        go_step3
        go_wp2_with (fail)
        go_quiet (fail)
        go_wp2_with (fail)
        go_quiet (fail)
        go_wp2_with (fail)
        rw [ExJ_ret]
        refine bodyPost_ret (v:=.tuple #[.int .u64 18442240474082181120,.bool true]) (by simp [results,Tryz.results239,go_sem]) rfl ?_
        exact ⟨by rw [HR2.out]; rfl,only_drewN (only_drewN HG.out _) _⟩
end LM
end Go.Proofs.YtihbgghlnppkiaaGreatDoor
