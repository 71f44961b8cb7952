import Derived.Test.YtihbgghlnppkiaaGreatDoorProg
import Derived.Test.YtihbgghlnppkiaaGreatDoorR02
import Derived.Test.YtihbgghlnppkiaaGreatDoorR27
import Derived.Test.YtihbgghlnppkiaaGreatDoorR09
import Derived.Test.YtihbgghlnppkiaaGreatDoorR28
import Derived.Laws.FloatArith
import Derived.Laws.BitsAllLaws
import Derived.Test.YtihbgghlnppkiaaGreatDoorR11
import Derived.Lib.ItoaMem
import Derived.Laws.AppendOwn
import Derived.Deep.CutRange
import Derived.Deep.DeepCutAuto
import Derived.Deep.LoopGhost
set_option linter.unusedVariables false
set_option linter.unusedSimpArgs false
set_option maxRecDepth 100000
set_option maxHeartbeats 16000000
namespace Go.Proofs.YtihbgghlnppkiaaGreatDoor
open Go.RowKit
namespace LM
def l10I (x : Int) : Int:=x * 78913 / 262144
def l2I (x : Int) : Int:=x * 108853 / 32768
def skI (x : Int) : Int:=(x * 631305 - 261663) / 2097152
theorem l10_any (x : Int) (w : World) (h0 : -100000 ≤ x) (h1 : x ≤ 100000) :
    Calls Tryz.prog 176 #[.int .i64 x] w fun e w'=>e = .returned (.int .i64 (l10I x))∧w = w':=by
  go_enter Tryz.func176,Tryz.ntmps176
  go_wp2
  go_ret
  exact ⟨rfl,rfl⟩
theorem l2_any (x : Int) (w : World) (h0 : -100000 ≤ x) (h1 : x ≤ 100000) :
    Calls Tryz.prog 203 #[.int .i64 x] w fun e w'=>e = .returned (.int .i64 (l2I x))∧w = w':=by
  go_enter Tryz.func203,Tryz.ntmps203
  go_wp2
  go_ret
  exact ⟨rfl,rfl⟩
theorem skewed_any (x : Int) (w : World) (h0 : -100000 ≤ x) (h1 : x ≤ 100000) :
    Calls Tryz.prog 201 #[.int .i64 x] w fun e w'=>e = .returned (.int .i64 (skI x))∧w = w':=by
  go_enter Tryz.func201,Tryz.ntmps201
  go_wp2
  go_ret
  exact ⟨rfl,rfl⟩
theorem bool2_u64 (b : Bool) (w : World) :
    Calls Tryz.prog 228 #[.bool b] w fun e w'=>e = .returned (.int .u64 (if b then 1 else 0))∧w = w':=by
  cases b
  all_goals
    go_enter Tryz.func228,Tryz.ntmps228
    go_wp2
    go_ret
    exact ⟨rfl,rfl⟩
theorem bool2_int (b : Bool) (w : World) :
    Calls Tryz.prog 193 #[.bool b] w fun e w'=>e = .returned (.int .i64 (if b then 1 else 0))∧w = w':=by
  cases b
  all_goals
    go_enter Tryz.func193,Tryz.ntmps193
    go_wp2
    go_ret
    exact ⟨rfl,rfl⟩
theorem unmin_any (x : Nat) (w : World) (hx : x < 4503599627370496 * 4 + 1) (h0 : 0 < x) :
    Calls Tryz.prog 209 #[.int .u64 (x : Int)] w fun e w'=>e = .returned (.int .u64 ((4 * x - 2 : Nat) : Int))∧w = w':=by
  go_enter Tryz.func209,Tryz.ntmps209
  go_wp2
  go_ret
  refine ⟨?_,rfl⟩
  rw [show ((4 * x - 2 : Nat) : Int) = (x : Int) * 4 - 2 from by omega]
  rfl
structure Sc where
  hi : Nat
  lo : Nat
  s : Nat
def Sc.ok (c : Sc) : Prop:=c.hi < 18446744073709551616∧c.lo < 18446744073709551616∧c.s < 64
def Sc.cells (c : Sc) : List Value:=[.int .u64 (c.hi : Int),.int .u64 (c.lo : Int),.int .i64 (c.s : Int)]
def ScAt (w : World) (g : Nat) (c : Sc) : Prop:=w.heap[g]? = some (.cells c.cells.toArray 259 (0,0))
def uscaleN (x : Nat) (c : Sc) : Nat :=
  let H:=x * c.hi / 18446744073709551616
  let M:=x * c.hi % 18446744073709551616
  if H / 2 ^ c.s * 2 ^ c.s = H then
    let M2:=x * c.lo / 18446744073709551616
    let H2:=(H + 18446744073709551616 - (if M < M2 then 1 else 0)) % 18446744073709551616
    (H2 / 2 ^ c.s) ||| (if 1 < (M + 18446744073709551616 - M2) % 18446744073709551616 then 1 else 0)
  else (H / 2 ^ c.s) ||| 1
theorem i64_and_nat (a b : Nat) (ha : a < 9223372036854775808) (hb : b < 9223372036854775808) : bits .and .i64 (a : Int) (b : Int) = ((a &&& b : Nat) : Int):=by
  have h : (a &&& b) ≤ a:=Nat.and_le_left
  have e : (BitVec.ofInt 64 (a : Int) &&& BitVec.ofInt 64 (b : Int)).toNat = a &&& b:=by
    rw [BitVec.toNat_and,ofInt_u64 a (by omega),ofInt_u64 b (by omega)]
  show IntKind.i64.wrap ((BitVec.ofInt 64 (a : Int) &&& BitVec.ofInt 64 (b : Int)).toNat : Nat) = _
  rw [e]
  simp [IntKind.wrap,IntKind.bits,IntKind.signed]
  omega
theorem u64w (n : Int) : IntKind.u64.wrap n = n % 18446744073709551616:=by simp [IntKind.wrap,IntKind.bits,IntKind.signed]
theorem and63 (s : Nat) (hs : s < 64) : bits .and .i64 (s : Int) 63 = (s : Int):=by
  have h:=i64_and_nat s 63 (by omega) (by decide)
  have e : s &&& 63 = s:=by rw [nat_mask6,Nat.mod_eq_of_lt hs]
  rw [e] at h
  exact h
theorem uscale_any (x g : Nat) (c : Sc) (w : World) (hx : x < 18446744073709551616) (hc : c.ok) (hg : ScAt w g c) :
    Calls Tryz.prog 204 #[.int .u64 (x : Int),.pointer (some ⟨g,0,none⟩)] w fun e w'=>e = .returned (.int .u64 ((uscaleN x c : Nat) : Int))∧∃ k,w' = w.drewN k:=by
  obtain ⟨h1,h2,h3⟩:=hc
  obtain ⟨hi,lo,s⟩:=c
  have c0 : w.cell? ⟨g,0,none⟩ = some (.int .u64 (hi : Int)):=by rw [cell_of_row w g 0 _ _ (0,0) hg]; rfl
  have c1 : w.cell? ⟨g,1,none⟩ = some (.int .u64 (lo : Int)):=by rw [cell_of_row w g 1 _ _ (0,0) hg]; rfl
  have c2 : w.cell? ⟨g,2,none⟩ = some (.int .i64 (s : Int)):=by rw [cell_of_row w g 2 _ _ (0,0) hg]; rfl
  dsimp only at h1 h2 h3
  have b63:=and63 s h3
  have m1:=fun W=>Tryz.bits_Mul64 x hi hx h1 W
  have m2:=fun W=>Tryz.bits_Mul64 x lo hx h2 W
  obtain ⟨H,hH⟩ : ∃ H,x * hi / 18446744073709551616 = H:=⟨_,rfl⟩
  obtain ⟨M,hM⟩ : ∃ M,x * hi % 18446744073709551616 = M:=⟨_,rfl⟩
  obtain ⟨M2,hM2⟩ : ∃ M2,x * lo / 18446744073709551616 = M2:=⟨_,rfl⟩
  rw [hH,hM] at m1
  rw [hM2] at m2
  have hHl : H < 18446744073709551616:=by
    rw [← hH]
    exact Nat.div_lt_of_lt_mul (Nat.lt_of_le_of_lt (Nat.mul_le_mul_right hi (Nat.le_of_lt hx)) (Nat.mul_lt_mul_of_pos_left h1 (by decide)))
  have hMl : M < 18446744073709551616:=by rw [← hM]; exact Nat.mod_lt _ (by decide)
  have hM2l : M2 < 18446744073709551616:=by
    rw [← hM2]
    exact Nat.div_lt_of_lt_mul (Nat.lt_of_le_of_lt (Nat.mul_le_mul_right lo (Nat.le_of_lt hx)) (Nat.mul_lt_mul_of_pos_left h2 (by decide)))
  obtain ⟨p,hp⟩ : ∃ p,2 ^ s = p:=⟨_,rfl⟩
  have hmin : min s 64 = s:=Nat.min_eq_left (by omega)
  have hpi : (2 : Int) ^ s = (p : Int):=by rw [← hp]; push_cast; rfl
  obtain ⟨q,hq⟩ : ∃ q,H / p = q:=⟨_,rfl⟩
  have hqi : (H : Int) / (p : Int) = (q : Int):=by rw [← hq]; push_cast; rfl
  obtain ⟨r,hr⟩ : ∃ r,q * p = r:=⟨_,rfl⟩
  have hri : (q : Int) * (p : Int) = (r : Int):=by rw [← hr]; push_cast; rfl
  have hrl : r ≤ H:=by rw [← hr,← hq]; exact Nat.div_mul_le_self H p
  have hql : q ≤ H:=by rw [← hq]; exact Nat.div_le_self _ _
  have MM1:=Lib.hid m1
  have MM2:=Lib.hid m2
  have HH:=Lib.hid hH
  have HM:=Lib.hid hM
  have HM2:=Lib.hid hM2
  have HP:=Lib.hid hp
  have HQ:=Lib.hid hq
  have HR:=Lib.hid hr
  clear hg m1 m2 hH hM hM2 hp hq hr
  have bo1 : bits .or .u64 (q : Int) 1 = ((q ||| 1 : Nat) : Int):=u64_or_nat q 1 (by omega) (by decide)
  by_cases hrH : r = H
  · have d1 : ((r : Int) == (H : Int)) = true:=by rw [hrH]; exact beq_self_eq_true _
    obtain ⟨H2,hH2⟩ : ∃ H2,(H + 18446744073709551616 - (if M < M2 then 1 else 0)) % 18446744073709551616 = H2:=⟨_,rfl⟩
    obtain ⟨D,hD⟩ : ∃ D,(M + 18446744073709551616 - M2) % 18446744073709551616 = D:=⟨_,rfl⟩
    have hH2l : H2 < 18446744073709551616:=by omega
    have dd : IntKind.u64.wrap ((M : Int) - (M2 : Int)) = (D : Int):=by rw [u64w]; omega
    obtain ⟨q2,hq2⟩ : ∃ q2,H2 / p = q2:=⟨_,rfl⟩
    have hq2i : (H2 : Int) / (p : Int) = (q2 : Int):=by rw [← hq2]; push_cast; rfl
    have hq2l : q2 ≤ H2:=by rw [← hq2]; exact Nat.div_le_self _ _
    have bo2 : bits .or .u64 (q2 : Int) 1 = ((q2 ||| 1 : Nat) : Int):=u64_or_nat q2 1 (by omega) (by decide)
    have bo3 : bits .or .u64 (q2 : Int) 0 = (q2 : Int):=by
      have h:=u64_or_nat q2 0 (by omega) (by decide)
      rw [Nat.or_zero] at h
      exact h
    have HE : Hid (uscaleN x ⟨hi,lo,s⟩ = q2 ||| (if 1 < D then 1 else 0)):=Lib.hid (by
      unfold uscaleN
      dsimp only
      rw [HH.out,HM.out,HM2.out,HP.out,HQ.out,HR.out,if_pos hrH,hH2,hD,hq2])
    rcases Nat.lt_or_ge M M2 with hlt | hge
    · have d2 : decide (M < M2) = true:=decide_eq_true (by omega)
      have hH2i : IntKind.u64.wrap ((H : Int) - 1) = (H2 : Int):=by rw [if_pos hlt] at hH2; rw [u64w]; omega
      have B1:=Lib.hid (bool2_u64 true)
      clear hH2 hq2 hD hrH
      rcases Nat.lt_or_ge 1 D with h1D | h1D
      · have d3 : decide (1 < (D : Int)) = true:=decide_eq_true (by omega)
        have B2:=Lib.hid (bool2_u64 true)
        rw [if_pos h1D] at HE
        go_enter Tryz.func204,Tryz.ntmps204
        go_wp2_with fail
        refine (MM1.out _).mono ?_
        rintro e w' ⟨rfl,rfl⟩
        go_wp2_with fail
        refine (MM2.out _).mono ?_
        rintro e w' ⟨rfl,rfl⟩
        go_wp2_with fail
        refine (B1.out _).mono ?_
        rintro e w' ⟨rfl,rfl⟩
        go_wp2_with fail
        go_region_with (go_at_call 228; refine (B2.out _).mono ?_; rintro e w' ⟨rfl,rfl⟩)
        all_goals
          go_wp2
          go_ret
          rw [HE.out]
          first | exact ⟨rfl,1,rfl⟩ | exact ⟨rfl,0,rfl⟩ | exact ⟨rfl,2,rfl⟩
      · have d3 : decide (1 < (D : Int)) = false:=decide_eq_false (by omega)
        have B2:=Lib.hid (bool2_u64 false)
        rw [if_neg (by omega),Nat.or_zero] at HE
        go_enter Tryz.func204,Tryz.ntmps204
        go_wp2_with fail
        refine (MM1.out _).mono ?_
        rintro e w' ⟨rfl,rfl⟩
        go_wp2_with fail
        refine (MM2.out _).mono ?_
        rintro e w' ⟨rfl,rfl⟩
        go_wp2_with fail
        refine (B1.out _).mono ?_
        rintro e w' ⟨rfl,rfl⟩
        go_wp2_with fail
        go_region_with (go_at_call 228; refine (B2.out _).mono ?_; rintro e w' ⟨rfl,rfl⟩)
        all_goals
          go_wp2
          go_ret
          rw [HE.out]
          first | exact ⟨rfl,1,rfl⟩ | exact ⟨rfl,0,rfl⟩ | exact ⟨rfl,2,rfl⟩
    · have d2 : decide (M < M2) = false:=decide_eq_false (by omega)
      obtain rfl : H = H2:=by rw [if_neg (by omega)] at hH2; omega
      obtain rfl : q = q2:=HQ.out.symm.trans hq2
      have B1:=Lib.hid (bool2_u64 false)
      clear hH2 hq2 hD hrH
      rcases Nat.lt_or_ge 1 D with h1D | h1D
      · have d3 : decide (1 < (D : Int)) = true:=decide_eq_true (by omega)
        have B2:=Lib.hid (bool2_u64 true)
        rw [if_pos h1D] at HE
        go_enter Tryz.func204,Tryz.ntmps204
        go_wp2_with fail
        refine (MM1.out _).mono ?_
        rintro e w' ⟨rfl,rfl⟩
        go_wp2_with fail
        refine (MM2.out _).mono ?_
        rintro e w' ⟨rfl,rfl⟩
        go_wp2_with fail
        refine (B1.out _).mono ?_
        rintro e w' ⟨rfl,rfl⟩
        go_wp2_with fail
        go_region_with (go_at_call 228; refine (B2.out _).mono ?_; rintro e w' ⟨rfl,rfl⟩)
        all_goals
          go_wp2
          go_ret
          rw [HE.out]
          first | exact ⟨rfl,1,rfl⟩ | exact ⟨rfl,0,rfl⟩ | exact ⟨rfl,2,rfl⟩
      · have d3 : decide (1 < (D : Int)) = false:=decide_eq_false (by omega)
        have B2:=Lib.hid (bool2_u64 false)
        rw [if_neg (by omega),Nat.or_zero] at HE
        go_enter Tryz.func204,Tryz.ntmps204
        go_wp2_with fail
        refine (MM1.out _).mono ?_
        rintro e w' ⟨rfl,rfl⟩
        go_wp2_with fail
        refine (MM2.out _).mono ?_
        rintro e w' ⟨rfl,rfl⟩
        go_wp2_with fail
        refine (B1.out _).mono ?_
        rintro e w' ⟨rfl,rfl⟩
        go_wp2_with fail
        go_region_with (go_at_call 228; refine (B2.out _).mono ?_; rintro e w' ⟨rfl,rfl⟩)
        all_goals
          go_wp2
          go_ret
          rw [HE.out]
          first | exact ⟨rfl,1,rfl⟩ | exact ⟨rfl,0,rfl⟩ | exact ⟨rfl,2,rfl⟩
  · have d1 : ((r : Int) == (H : Int)) = false:=by rw [beq_eq_false_iff_ne]; omega
    have HE : Hid (uscaleN x ⟨hi,lo,s⟩ = q ||| 1):=Lib.hid (by
      unfold uscaleN
      dsimp only
      rw [HH.out,HP.out,HQ.out,HR.out,if_neg hrH])
    go_enter Tryz.func204,Tryz.ntmps204
    go_wp2_with fail
    refine (MM1.out _).mono ?_
    rintro e w' ⟨rfl,rfl⟩
    go_wp2
    go_ret
    rw [HE.out]
    first | exact ⟨rfl,1,rfl⟩ | exact ⟨rfl,0,rfl⟩ | exact ⟨rfl,2,rfl⟩
end LM
namespace LM
def ceilN (u : Nat) : Nat:=(u + 3) % 18446744073709551616 / 4
def floorN (u : Nat) : Nat:=u / 4
def roundN (u : Nat) : Nat:=(u + 1 + u / 4 % 2) % 18446744073709551616 / 4
def nudgeN (u : Nat) (d : Int) : Nat:=(((u : Int) + d) % 18446744073709551616).toNat
theorem nudgeN_lt (u : Nat) (d : Int) : nudgeN u d < 18446744073709551616:=by unfold nudgeN; omega
theorem ceil_any (u : Nat) (w : World) (hu : u < 18446744073709551616) :
    Calls Tryz.prog 206 #[.int .u64 (u : Int)] w fun e w'=>e = .returned (.int .u64 ((ceilN u : Nat) : Int))∧w = w':=by
  obtain ⟨v,hv⟩ : ∃ v,(u + 3) % 18446744073709551616 = v:=⟨_,rfl⟩
  have hvi : IntKind.u64.wrap ((u : Int) + 3) = (v : Int):=by rw [u64w]; omega
  have e : ceilN u = v / 4:=by unfold ceilN; rw [hv]
  rw [e]
  clear hv
  go_enter Tryz.func206,Tryz.ntmps206
  go_wp2
  go_ret
  exact ⟨rfl,rfl⟩
theorem floor_any (u : Nat) (w : World) (hu : u < 18446744073709551616) :
    Calls Tryz.prog 207 #[.int .u64 (u : Int)] w fun e w'=>e = .returned (.int .u64 ((floorN u : Nat) : Int))∧w = w':=by
  unfold floorN
  go_enter Tryz.func207,Tryz.ntmps207
  go_wp2
  go_ret
  exact ⟨rfl,rfl⟩
theorem round_unr (u : Nat) (w : World) (hu : u < 18446744073709551616) :
    Calls Tryz.prog 208 #[.int .u64 (u : Int)] w fun e w'=>e = .returned (.int .u64 ((roundN u : Nat) : Int))∧w = w':=by
  obtain ⟨a,ha⟩ : ∃ a,(u + 1) % 18446744073709551616 = a:=⟨_,rfl⟩
  obtain ⟨v,hv⟩ : ∃ v,(u + 1 + u / 4 % 2) % 18446744073709551616 = v:=⟨_,rfl⟩
  obtain ⟨q,hq⟩ : ∃ q,u / 4 = q:=⟨_,rfl⟩
  obtain ⟨b,hb⟩ : ∃ b,q % 2 = b:=⟨_,rfl⟩
  have hqi : (u : Int) / 4 = (q : Int):=by omega
  have hai : IntKind.u64.wrap ((u : Int) + 1) = (a : Int):=by rw [u64w]; omega
  have hbi : bits .and .u64 (q : Int) 1 = (b : Int):=by
    have h:=u64_and_nat q 1 (by omega) (by decide)
    have h2 : q &&& 1 = b:=by rw [nat_mask1,hb]
    rw [h2] at h
    exact h
  have hvn : (a + b) % 18446744073709551616 = v:=by rw [← hv,← ha,← hb,← hq,Nat.mod_add_mod]
  have hvi : IntKind.u64.wrap ((a : Int) + (b : Int)) = (v : Int):=by rw [u64w,← hvn]; exact (Int.natCast_emod (a + b) 18446744073709551616).symm
  have e : roundN u = v / 4:=by unfold roundN; rw [hv]
  rw [e]
  clear hv hvn ha hb
  go_enter Tryz.func208,Tryz.ntmps208
  go_wp2
  go_ret
  exact ⟨rfl,rfl⟩
theorem nudge_any (u : Nat) (d : Int) (w : World) (hu : u < 18446744073709551616) (hd : d = 0 ∨ d = 1 ∨ d = -1) :
    Calls Tryz.prog 205 #[.int .u64 (u : Int),.int .i64 d] w fun e w'=>e = .returned (.int .u64 ((nudgeN u d : Nat) : Int))∧w = w':=by
  obtain ⟨v,hv⟩ : ∃ v,nudgeN u d = v:=⟨_,rfl⟩
  have hvl : v < 18446744073709551616:=hv ▸ nudgeN_lt u d
  rw [hv]
  unfold nudgeN at hv
  rcases hd with rfl | rfl | rfl
  · obtain rfl : u = v:=by omega
    go_enter Tryz.func205,Tryz.ntmps205
    go_wp2
    go_ret
    exact ⟨rfl,rfl⟩
  · have hvi : IntKind.u64.wrap ((u : Int) + 1) = (v : Int):=by rw [u64w]; omega
    clear hv
    go_enter Tryz.func205,Tryz.ntmps205
    go_wp2
    go_ret
    exact ⟨rfl,rfl⟩
  · have hvi : IntKind.u64.wrap ((u : Int) + IntKind.u64.wrap (-1)) = (v : Int):=by rw [u64w,u64w]; omega
    clear hv
    go_enter Tryz.func205,Tryz.ntmps205
    go_wp2
    go_ret
    exact ⟨rfl,rfl⟩
def powRow (p : Int) : Nat × Nat:=(Go.Pinned.pow10Rows[(p + 348).toNat]?).getD (0,0)
def mkSc (e p : Int) : Sc:=⟨(powRow p).1,(powRow p).2,(-(e + l2I p + 3)).toNat⟩
set_option maxRecDepth 1000000 in
theorem rows_len : Go.Pinned.pow10Rows.length = 696:=by kernel_rfl
set_option maxRecDepth 1000000 in
theorem rows_lt : (Go.Pinned.pow10Rows.all fun x=>decide (x.1 < 18446744073709551616) && decide (x.2 < 18446744073709551616)) = true:=by kernel_rfl
theorem powRow_at {p : Int} (h0 : -348 ≤ p) (h1 : p ≤ 347) : Go.Pinned.pow10Rows[(p + 348).toNat]? = some (powRow p):=by
  have h : (p + 348).toNat < Go.Pinned.pow10Rows.length:=by rw [rows_len]; omega
  unfold powRow
  rw [List.getElem?_eq_getElem h]
  rfl
theorem powRow_lt {p : Int} (h0 : -348 ≤ p) (h1 : p ≤ 347) : (powRow p).1 < 18446744073709551616∧(powRow p).2 < 18446744073709551616:=by
  have h:=List.mem_of_getElem? (powRow_at h0 h1)
  have h2:=List.all_eq_true.1 rows_lt _ h
  simp at h2
  exact h2
theorem sc_set {w : World} {g : Nat} {v0 v1 v2 : Value} (hi lo s : Nat) (hg : w.heap[g]? = some (.cells #[v0,v1,v2] 259 (0,0))) :
    ScAt (((w.setCell ⟨g,0,none⟩ (.int .u64 (hi : Int))).setCell ⟨g,1,none⟩ (.int .u64 (lo : Int))).setCell ⟨g,2,none⟩ (.int .i64 (s : Int))) g ⟨hi,lo,s⟩ ∧
    w.grownBy (((w.setCell ⟨g,0,none⟩ (.int .u64 (hi : Int))).setCell ⟨g,1,none⟩ (.int .u64 (lo : Int))).setCell ⟨g,2,none⟩ (.int .i64 (s : Int))) (some g):=by
  refine ⟨?_,?_⟩
  · unfold ScAt Sc.cells
    simp [World.setCell,Array.getElem?_modify,hg]
  · have G1:=only_setCell (only_refl w (some g)) (p:=⟨g,0,none⟩) (.inl rfl) (.int .u64 (hi : Int))
    have G2:=only_setCell G1 (p:=⟨g,1,none⟩) (.inl rfl) (.int .u64 (lo : Int))
    exact only_setCell G2 (p:=⟨g,2,none⟩) (.inl rfl) (.int .i64 (s : Int))
theorem prescale_at (g k hi lo s : Nat) (e p l : Int) (v0 v1 v2 : Value) (w : World) (hg : w.heap[g]? = some (.cells #[v0,v1,v2] 259 (0,0))) (hgt : g ≠ 11)
    (t0 : w.cell? ⟨11,k * 2,none⟩ = some (.int .u64 (hi : Int))) (t1 : w.cell? ⟨11,k * 2 + 1,none⟩ = some (.int .u64 (lo : Int)))
    (hkp : p = (k : Int) - 348) (hk : k < 696) (he0 : -3000 ≤ e) (he1 : e ≤ 3000) (hlb : -2000 ≤ l∧l ≤ 2000) (hs2 : -(e + l + 3) = (s : Int)) :
    Calls Tryz.prog 202 #[.pointer (some ⟨g,0,none⟩),.int .i64 e,.int .i64 p,.int .i64 l] w fun r w'=>r = .returned (.tuple #[])∧ScAt w' g ⟨hi,lo,s⟩∧w.grownBy w' (some g):=by
  have z0 : w.frozen? ⟨g,0,none⟩ = false:=by simp [World.frozen?,hg]
  have z1 : w.frozen? ⟨g,1,none⟩ = false:=by simp [World.frozen?,hg]
  have z2 : w.frozen? ⟨g,2,none⟩ = false:=by simp [World.frozen?,hg]
  have y0 : w.cell? ⟨g,0,none⟩ = some v0:=by rw [cell_of_row w g 0 _ _ (0,0) hg]; rfl
  have y1 : w.cell? ⟨g,1,none⟩ = some v1:=by rw [cell_of_row w g 1 _ _ (0,0) hg]; rfl
  have y2 : w.cell? ⟨g,2,none⟩ = some v2:=by rw [cell_of_row w g 2 _ _ (0,0) hg]; rfl
  have HS:=Lib.hid (sc_set hi lo s hg)
  clear hg
  go_enter Tryz.func202,Tryz.ntmps202
  go_wp2
  go_end0
  exact ⟨rfl,HS.out.1,HS.out.2⟩
theorem prescale_any (g : Nat) (e p : Int) (v0 v1 v2 : Value) (w : World) (htab : PTab w) (hg : w.heap[g]? = some (.cells #[v0,v1,v2] 259 (0,0))) (hgt : g ≠ 11)
    (h0 : -348 ≤ p) (h1 : p ≤ 347) (he0 : -3000 ≤ e) (he1 : e ≤ 3000) (hs : e + l2I p + 3 ≤ 0) :
    Calls Tryz.prog 202 #[.pointer (some ⟨g,0,none⟩),.int .i64 e,.int .i64 p,.int .i64 (l2I p)] w fun r w'=>r = .returned (.tuple #[])∧ScAt w' g (mkSc e p)∧w.grownBy w' (some g):=by
  obtain ⟨t0,t1⟩:=htab _ _ (powRow_at h0 h1)
  exact prescale_at g (p + 348).toNat _ _ _ e p (l2I p) v0 v1 v2 w hg hgt t0 t1 (by omega) (by omega) he0 he1 (by unfold l2I; omega) (by omega)
end LM
namespace LM
theorem or_lt64 {a b : Nat} (ha : a < 18446744073709551616) (hb : b < 18446744073709551616) : a ||| b < 18446744073709551616:=by
  have h : (18446744073709551616 : Nat) = 2 ^ 64:=by decide
  rw [h] at ha hb ⊢
  exact Nat.or_lt_two_pow ha hb
theorem uscaleN_lt (x : Nat) (c : Sc) (hx : x < 18446744073709551616) (hc : c.ok) : uscaleN x c < 18446744073709551616:=by
  have hH : x * c.hi / 18446744073709551616 < 18446744073709551616 :=
    Nat.div_lt_of_lt_mul (Nat.lt_of_le_of_lt (Nat.mul_le_mul_right c.hi (Nat.le_of_lt hx)) (Nat.mul_lt_mul_of_pos_left hc.1 (by decide)))
  unfold uscaleN
  dsimp only
  split
  · refine or_lt64 (Nat.lt_of_le_of_lt (Nat.div_le_self _ _) (Nat.mod_lt _ (by decide))) ?_
    split <;> decide
  · exact or_lt64 (Nat.lt_of_le_of_lt (Nat.div_le_self _ _) hH) (by decide)
def shortT (m : Nat) (e p : Int) (mn mx : Nat) (od : Int) : Nat × Int :=
  if ceilN (nudgeN (uscaleN mn (mkSc e p)) od) ≤ floorN (nudgeN (uscaleN mx (mkSc e p)) (-od)) / 10 * 10 then (floorN (nudgeN (uscaleN mx (mkSc e p)) (-od)) / 10,-(p - 1))
  else if ceilN (nudgeN (uscaleN mn (mkSc e p)) od) < floorN (nudgeN (uscaleN mx (mkSc e p)) (-od)) then (roundN (uscaleN m (mkSc e p)),-p)
  else (ceilN (nudgeN (uscaleN mn (mkSc e p)) od),-p)
theorem ScAt.drewN {w : World} {g : Nat} {c : Sc} (h : ScAt w g c) (n : Nat) : ScAt (w.drewN n) g c:=h
theorem PTab.alloc {w : World} (h : PTab w) (hpt : 11 < w.heap.size) (o : Obj) : PTab (w.alloc o):=fun i x hx=>by
  obtain ⟨a,b⟩:=h i x hx
  have hb:=Below.heap_alloc w o 11 hpt
  exact ⟨(World.cell?_of_block (a:=⟨11,i * 2,none⟩) hb).trans a,(World.cell?_of_block (a:=⟨11,i * 2 + 1,none⟩) hb).trans b⟩
theorem mkSc_ok {e p : Int} (hp0 : -348 ≤ p) (hp1 : p ≤ 347) (hs0 : e + l2I p + 3 ≤ 0) (hs1 : -63 ≤ e + l2I p + 3) : (mkSc e p).ok:=by
  obtain ⟨h1,h2⟩:=powRow_lt hp0 hp1
  exact ⟨h1,h2,by show (-(e + l2I p + 3)).toNat < 64; omega⟩
theorem ceilN_lt (u : Nat) : ceilN u < 4611686018427387904:=by unfold ceilN; omega
theorem roundN_lt (u : Nat) : roundN u < 4611686018427387904:=by unfold roundN; omega
theorem floorN_lt {u : Nat} (h : u < 18446744073709551616) : floorN u < 4611686018427387904:=by unfold floorN; omega
theorem short_mid (m : Nat) (e p : Int) (od : Nat) (w : World) (htab : PTab w) (hpt : 11 < w.heap.size) (hm0 : 9223372036854775808 < m) (hm1 : m + 1024 < 18446744073709551616)
    (he0 : -1085 ≤ e) (he1 : e ≤ 1000) (hp : -(l10I (e + 11)) = p) (hp0 : -348 ≤ p) (hp1 : p ≤ 347) (hs0 : e + l2I p + 3 ≤ 0) (hs1 : -63 ≤ e + l2I p + 3) (hod : m / 2048 % 2 = od) :
    Calls Tryz.prog 181 #[.int .u64 (m : Int),.int .i64 e] w fun r w'=>r = .returned (.tuple #[.int .u64 ((shortT m e p (m - 1024) (m + 1024) od).1 : Int),.int .i64 (shortT m e p (m - 1024) (m + 1024) od).2])∧Below w.heap.size w w':=by
  have d1 : ((m : Int) == 9223372036854775808) = false:=by rw [beq_eq_false_iff_ne]; omega
  have d2 : decide (-1085 ≤ e) = true:=decide_eq_true he0
  obtain ⟨mn,hmn⟩ : ∃ mn,m - 1024 = mn:=⟨_,rfl⟩
  obtain ⟨mx,hmx⟩ : ∃ mx,m + 1024 = mx:=⟨_,rfl⟩
  have hmni : (m : Int) - 1024 = (mn : Int):=by omega
  have hmxi : (m : Int) + 1024 = (mx : Int):=by omega
  rw [hmn,hmx]
  have l1:=fun W=>l10_any (e + 11) W (by omega) (by omega)
  obtain ⟨l,hl⟩ : ∃ l,l10I (e + 11) = l:=⟨_,rfl⟩
  rw [hl] at hp l1
  obtain ⟨q,hq⟩ : ∃ q,m / 2048 = q:=⟨_,rfl⟩
  have hqi : (m : Int) / 2048 = (q : Int):=by omega
  have hql : q < 9007199254740992:=by omega
  have hqo : bits .and .i64 (q : Int) 1 = (od : Int):=by
    have h:=i64_and_nat q 1 (by omega) (by decide)
    have h2 : q &&& 1 = od:=by rw [nat_mask1,← hod,hq]
    rw [h2] at h
    exact h
  have hod2 : od ≤ 1:=by omega
  have L1:=Lib.hid l1
  have l2:=fun W=>l2_any p W (by omega) (by omega)
  have hcok:=mkSc_ok hp0 hp1 hs0 hs1
  have hmnl : mn < 18446744073709551616:=by omega
  have hmxl : mx < 18446744073709551616:=by omega
  have hml : m < 18446744073709551616:=by omega
  obtain ⟨c,hc⟩ : ∃ c,mkSc e p = c:=⟨_,rfl⟩
  obtain ⟨u1,hu1⟩ : ∃ u,uscaleN mn c = u:=⟨_,rfl⟩
  obtain ⟨u2,hu2⟩ : ∃ u,uscaleN mx c = u:=⟨_,rfl⟩
  obtain ⟨u3,hu3⟩ : ∃ u,uscaleN m c = u:=⟨_,rfl⟩
  rw [hc] at hcok
  have hu1l : u1 < 18446744073709551616:=hu1 ▸ uscaleN_lt mn c hmnl hcok
  have hu2l : u2 < 18446744073709551616:=hu2 ▸ uscaleN_lt mx c hmxl hcok
  have hu3l : u3 < 18446744073709551616:=hu3 ▸ uscaleN_lt m c hml hcok
  obtain ⟨n1,hn1⟩ : ∃ u,nudgeN u1 od = u:=⟨_,rfl⟩
  obtain ⟨n2,hn2⟩ : ∃ u,nudgeN u2 (-od) = u:=⟨_,rfl⟩
  have hn1l : n1 < 18446744073709551616:=hn1 ▸ nudgeN_lt u1 od
  have hn2l : n2 < 18446744073709551616:=hn2 ▸ nudgeN_lt u2 (-od)
  obtain ⟨a,ha⟩ : ∃ u,ceilN n1 = u:=⟨_,rfl⟩
  obtain ⟨b,hb⟩ : ∃ u,floorN n2 = u:=⟨_,rfl⟩
  obtain ⟨r,hr⟩ : ∃ u,roundN u3 = u:=⟨_,rfl⟩
  obtain ⟨d,hd⟩ : ∃ d,b / 10 = d:=⟨_,rfl⟩
  have hdi : (b : Int) / 10 = (d : Int):=by omega
  have hal : a < 4611686018427387904:=ha ▸ ceilN_lt n1
  have hbl : b < 4611686018427387904:=hb ▸ floorN_lt hn2l
  have hdl : d < 4611686018427387904 / 10 + 1:=by omega
  have hrl : r < 4611686018427387904:=hr ▸ roundN_lt u3
  have HE : Hid (shortT m e p mn mx od = if a ≤ d * 10 then (d,-(p - 1)) else if a < b then (r,-p) else (a,-p)):=Lib.hid (by
    unfold shortT
    rw [hc,hu1,hu2,hu3,hn1,hn2,ha,hb,hr,hd])
  have U1 : Hid (∀ W,ScAt W w.heap.size c → _):=Lib.hid fun W h=>uscale_any mn w.heap.size c W hmnl hcok h
  have U2 : Hid (∀ W,ScAt W w.heap.size c → _):=Lib.hid fun W h=>uscale_any mx w.heap.size c W hmxl hcok h
  have U3 : Hid (∀ W,ScAt W w.heap.size c → _):=Lib.hid fun W h=>uscale_any m w.heap.size c W hml hcok h
  rw [hu1] at U1
  rw [hu2] at U2
  rw [hu3] at U3
  have N1:=Lib.hid fun W=>nudge_any u1 od W hu1l (by omega)
  have N2:=Lib.hid fun W=>nudge_any u2 (-od) W hu2l (by omega)
  rw [hn1] at N1
  rw [hn2] at N2
  have A1:=Lib.hid fun W=>ceil_any n1 W hn1l
  have F1:=Lib.hid fun W=>floor_any n2 W hn2l
  have R1:=Lib.hid fun W=>round_unr u3 W hu3l
  rw [ha] at A1
  rw [hb] at F1
  rw [hr] at R1
  have PR:=Lib.hid (prescale_any w.heap.size e p (.int .u64 0) (.int .u64 0) (.int .i64 0) (w.alloc (.cells #[.int .u64 0,.int .u64 0,.int .i64 0] 259)) (htab.alloc hpt _) (heap_alloc_new w _) (by omega) hp0 hp1 (by omega) (by omega) hs0)
  rw [hc] at PR
  obtain ⟨l0,hl0⟩ : ∃ l,l2I p = l:=⟨_,rfl⟩
  rw [hl0] at l2 PR
  have L2:=Lib.hid l2
  have BA : Hid (∀ w2,World.grownBy (w.alloc (.cells #[.int .u64 0,.int .u64 0,.int .i64 0] 259)) w2 (some w.heap.size) → Below w.heap.size w w2):=Lib.hid fun w2 hg=>((Below.refl _ w).alloc (Nat.le_refl _) _).grown hg (by simp) (fun k e=>by injection e with e; omega)
  clear l2 hc hu1 hu2 hu3 hn1 hn2 ha hb hr hd htab hl0 hs0 hs1 hcok
  clear l1 hq hl hod
  go_enter Tryz.func181,Tryz.ntmps181
  go_wp2_with fail
  refine (L1.out _).mono ?_
  rintro e' w' ⟨rfl,rfl⟩
  go_wp2_with fail
  refine (L2.out _).mono ?_
  rintro e' w' ⟨rfl,rfl⟩
  go_wp2_with fail
  refine PR.out.mono ?_
  rintro e' w2 ⟨rfl,hsc,hgr⟩
  have SC:=Lib.hid hsc
  have HB:=Lib.hid (BA.out w2 hgr)
  clear hsc hgr
  go_wp2_with fail
  refine (U1.out _ SC.out).mono ?_
  rintro e' w3 ⟨rfl,k1,rfl⟩
  go_wp2_with fail
  refine (N1.out _).mono ?_
  rintro e' w3 ⟨rfl,rfl⟩
  go_wp2_with fail
  refine (A1.out _).mono ?_
  rintro e' w3 ⟨rfl,rfl⟩
  go_wp2_with fail
  refine (U2.out _ (SC.out.drewN _)).mono ?_
  rintro e' w3 ⟨rfl,k2,rfl⟩
  go_wp2_with fail
  refine (N2.out _).mono ?_
  rintro e' w3 ⟨rfl,rfl⟩
  go_wp2_with fail
  refine (F1.out _).mono ?_
  rintro e' w3 ⟨rfl,rfl⟩
  by_cases hA : a ≤ d * 10
  · have HE2:=HE.out
    rw [if_pos hA] at HE2
    have HE3:=Lib.hid HE2
    clear HE2
    go_wp2
    go_ret2
    rw [HE3.out]
    exact ⟨rfl,below_drewN HB.out _⟩
  · have HE2:=HE.out
    rw [if_neg hA] at HE2
    by_cases hB : a < b
    · rw [if_pos hB] at HE2
      have HE3:=Lib.hid HE2
      clear HE2
      go_wp2_with fail
      refine (U3.out _ (SC.out.drewN _)).mono ?_
      rintro e' w3 ⟨rfl,k3,rfl⟩
      go_wp2_with fail
      refine (R1.out _).mono ?_
      rintro e' w3 ⟨rfl,rfl⟩
      go_wp2
      go_ret2
      rw [HE3.out]
      exact ⟨rfl,below_drewN HB.out _⟩
    · rw [if_neg hB] at HE2
      have HE3:=Lib.hid HE2
      clear HE2
      go_wp2
      go_ret2
      rw [HE3.out]
      exact ⟨rfl,below_drewN HB.out _⟩
theorem short_low (m : Nat) (e p : Int) (od : Nat) (w : World) (htab : PTab w) (hpt : 11 < w.heap.size) (hm0 : 9223372036854775808 = m)
    (he0 : -1085 < e) (he1 : e ≤ 1000) (hp : -(skI (e + 11)) = p) (hp0 : -348 ≤ p) (hp1 : p ≤ 347) (hs0 : e + l2I p + 3 ≤ 0) (hs1 : -63 ≤ e + l2I p + 3) (hod : od = 0) :
    Calls Tryz.prog 181 #[.int .u64 (m : Int),.int .i64 e] w fun r w'=>r = .returned (.tuple #[.int .u64 ((shortT m e p (m - 512) (m + 1024) od).1 : Int),.int .i64 (shortT m e p (m - 512) (m + 1024) od).2])∧Below w.heap.size w w':=by
  have d1 : ((m : Int) == 9223372036854775808) = true:=by rw [beq_iff_eq]; omega
  have d2 : decide (-1085 < e) = true:=decide_eq_true he0
  obtain ⟨mn,hmn⟩ : ∃ mn,m - 512 = mn:=⟨_,rfl⟩
  obtain ⟨mx,hmx⟩ : ∃ mx,m + 1024 = mx:=⟨_,rfl⟩
  have hmni : (m : Int) - 512 = (mn : Int):=by omega
  have hmxi : (m : Int) + 1024 = (mx : Int):=by omega
  rw [hmn,hmx]
  have l1:=fun W=>skewed_any (e + 11) W (by omega) (by omega)
  obtain ⟨l,hl⟩ : ∃ l,skI (e + 11) = l:=⟨_,rfl⟩
  rw [hl] at hp l1
  obtain ⟨q,hq⟩ : ∃ q,m / 2048 = q:=⟨_,rfl⟩
  have hqi : (m : Int) / 2048 = (q : Int):=by omega
  have hql : q < 9007199254740992:=by omega
  have hqo : bits .and .i64 (q : Int) 1 = (od : Int):=by
    have h:=i64_and_nat q 1 (by omega) (by decide)
    have h2 : q &&& 1 = od:=by rw [nat_mask1,hod]; omega
    rw [h2] at h
    exact h
  have hod2 : od ≤ 1:=by omega
  have L1:=Lib.hid l1
  have l2:=fun W=>l2_any p W (by omega) (by omega)
  have hcok:=mkSc_ok hp0 hp1 hs0 hs1
  have hmnl : mn < 18446744073709551616:=by omega
  have hmxl : mx < 18446744073709551616:=by omega
  have hml : m < 18446744073709551616:=by omega
  obtain ⟨c,hc⟩ : ∃ c,mkSc e p = c:=⟨_,rfl⟩
  obtain ⟨u1,hu1⟩ : ∃ u,uscaleN mn c = u:=⟨_,rfl⟩
  obtain ⟨u2,hu2⟩ : ∃ u,uscaleN mx c = u:=⟨_,rfl⟩
  obtain ⟨u3,hu3⟩ : ∃ u,uscaleN m c = u:=⟨_,rfl⟩
  rw [hc] at hcok
  have hu1l : u1 < 18446744073709551616:=hu1 ▸ uscaleN_lt mn c hmnl hcok
  have hu2l : u2 < 18446744073709551616:=hu2 ▸ uscaleN_lt mx c hmxl hcok
  have hu3l : u3 < 18446744073709551616:=hu3 ▸ uscaleN_lt m c hml hcok
  obtain ⟨n1,hn1⟩ : ∃ u,nudgeN u1 od = u:=⟨_,rfl⟩
  obtain ⟨n2,hn2⟩ : ∃ u,nudgeN u2 (-od) = u:=⟨_,rfl⟩
  have hn1l : n1 < 18446744073709551616:=hn1 ▸ nudgeN_lt u1 od
  have hn2l : n2 < 18446744073709551616:=hn2 ▸ nudgeN_lt u2 (-od)
  obtain ⟨a,ha⟩ : ∃ u,ceilN n1 = u:=⟨_,rfl⟩
  obtain ⟨b,hb⟩ : ∃ u,floorN n2 = u:=⟨_,rfl⟩
  obtain ⟨r,hr⟩ : ∃ u,roundN u3 = u:=⟨_,rfl⟩
  obtain ⟨d,hd⟩ : ∃ d,b / 10 = d:=⟨_,rfl⟩
  have hdi : (b : Int) / 10 = (d : Int):=by omega
  have hal : a < 4611686018427387904:=ha ▸ ceilN_lt n1
  have hbl : b < 4611686018427387904:=hb ▸ floorN_lt hn2l
  have hdl : d < 4611686018427387904 / 10 + 1:=by omega
  have hrl : r < 4611686018427387904:=hr ▸ roundN_lt u3
  have HE : Hid (shortT m e p mn mx od = if a ≤ d * 10 then (d,-(p - 1)) else if a < b then (r,-p) else (a,-p)):=Lib.hid (by
    unfold shortT
    rw [hc,hu1,hu2,hu3,hn1,hn2,ha,hb,hr,hd])
  have U1 : Hid (∀ W,ScAt W w.heap.size c → _):=Lib.hid fun W h=>uscale_any mn w.heap.size c W hmnl hcok h
  have U2 : Hid (∀ W,ScAt W w.heap.size c → _):=Lib.hid fun W h=>uscale_any mx w.heap.size c W hmxl hcok h
  have U3 : Hid (∀ W,ScAt W w.heap.size c → _):=Lib.hid fun W h=>uscale_any m w.heap.size c W hml hcok h
  rw [hu1] at U1
  rw [hu2] at U2
  rw [hu3] at U3
  have N1:=Lib.hid fun W=>nudge_any u1 od W hu1l (by omega)
  have N2:=Lib.hid fun W=>nudge_any u2 (-od) W hu2l (by omega)
  rw [hn1] at N1
  rw [hn2] at N2
  have A1:=Lib.hid fun W=>ceil_any n1 W hn1l
  have F1:=Lib.hid fun W=>floor_any n2 W hn2l
  have R1:=Lib.hid fun W=>round_unr u3 W hu3l
  rw [ha] at A1
  rw [hb] at F1
  rw [hr] at R1
  have PR:=Lib.hid (prescale_any w.heap.size e p (.int .u64 0) (.int .u64 0) (.int .i64 0) (w.alloc (.cells #[.int .u64 0,.int .u64 0,.int .i64 0] 259)) (htab.alloc hpt _) (heap_alloc_new w _) (by omega) hp0 hp1 (by omega) (by omega) hs0)
  rw [hc] at PR
  obtain ⟨l0,hl0⟩ : ∃ l,l2I p = l:=⟨_,rfl⟩
  rw [hl0] at l2 PR
  have L2:=Lib.hid l2
  have BA : Hid (∀ w2,World.grownBy (w.alloc (.cells #[.int .u64 0,.int .u64 0,.int .i64 0] 259)) w2 (some w.heap.size) → Below w.heap.size w w2):=Lib.hid fun w2 hg=>((Below.refl _ w).alloc (Nat.le_refl _) _).grown hg (by simp) (fun k e=>by injection e with e; omega)
  clear l2 hc hu1 hu2 hu3 hn1 hn2 ha hb hr hd htab hl0 hs0 hs1 hcok
  clear l1 hq hl hod
  go_enter Tryz.func181,Tryz.ntmps181
  go_wp2_with fail
  refine (L1.out _).mono ?_
  rintro e' w' ⟨rfl,rfl⟩
  go_wp2_with fail
  refine (L2.out _).mono ?_
  rintro e' w' ⟨rfl,rfl⟩
  go_wp2_with fail
  refine PR.out.mono ?_
  rintro e' w2 ⟨rfl,hsc,hgr⟩
  have SC:=Lib.hid hsc
  have HB:=Lib.hid (BA.out w2 hgr)
  clear hsc hgr
  go_wp2_with fail
  refine (U1.out _ SC.out).mono ?_
  rintro e' w3 ⟨rfl,k1,rfl⟩
  go_wp2_with fail
  refine (N1.out _).mono ?_
  rintro e' w3 ⟨rfl,rfl⟩
  go_wp2_with fail
  refine (A1.out _).mono ?_
  rintro e' w3 ⟨rfl,rfl⟩
  go_wp2_with fail
  refine (U2.out _ (SC.out.drewN _)).mono ?_
  rintro e' w3 ⟨rfl,k2,rfl⟩
  go_wp2_with fail
  refine (N2.out _).mono ?_
  rintro e' w3 ⟨rfl,rfl⟩
  go_wp2_with fail
  refine (F1.out _).mono ?_
  rintro e' w3 ⟨rfl,rfl⟩
  by_cases hA : a ≤ d * 10
  · have HE2:=HE.out
    rw [if_pos hA] at HE2
    have HE3:=Lib.hid HE2
    clear HE2
    go_wp2
    go_ret2
    rw [HE3.out]
    exact ⟨rfl,below_drewN HB.out _⟩
  · have HE2:=HE.out
    rw [if_neg hA] at HE2
    by_cases hB : a < b
    · rw [if_pos hB] at HE2
      have HE3:=Lib.hid HE2
      clear HE2
      go_wp2_with fail
      refine (U3.out _ (SC.out.drewN _)).mono ?_
      rintro e' w3 ⟨rfl,k3,rfl⟩
      go_wp2_with fail
      refine (R1.out _).mono ?_
      rintro e' w3 ⟨rfl,rfl⟩
      go_wp2
      go_ret2
      rw [HE3.out]
      exact ⟨rfl,below_drewN HB.out _⟩
    · rw [if_neg hB] at HE2
      have HE3:=Lib.hid HE2
      clear HE2
      go_wp2
      go_ret2
      rw [HE3.out]
      exact ⟨rfl,below_drewN HB.out _⟩
end LM
end Go.Proofs.YtihbgghlnppkiaaGreatDoor
namespace Go.Proofs.YtihbgghlnppkiaaGreatDoor
open Go Go.Shelf Go.RowKit Go.Sort Go.Lib
namespace LM
abbrev enc8 : UInt8 → Value:=fun b=>Value.int .u8 (b.toNat : Int)
def BufHas (w : World) (g : Nat) (ds : List UInt8) : Prop:=∀ j (h : j < ds.length),w.cell? ⟨g,j,none⟩ = some (.int .u8 (ds[j].toNat : Int))
theorem only_putRow (w : World) (g off : Nat) (d : Array UInt8) : w.grownBy (putRow enc8 w g off d) (some g) :=
  ⟨rfl,rfl,rfl,by simp,fun i hi hne=>by
    show (putRow enc8 w g off d).heap[i]? = w.heap[i]?
    have h : g ≠ i:=fun e=>hne (by rw [e])
    simp [putRow,mapBlock,Array.getElem?_modify,h]⟩
def nzd : List UInt8 → Nat
  | []=>0
  | d :: ds=>if nzd ds = 0 then (if d = 48 then 0 else 1) else nzd ds + 1
theorem nzd_le (ds : List UInt8) : nzd ds ≤ ds.length:=by
  induction ds with
  | nil=>exact Nat.le_refl _
  | cons d ds ih=>unfold nzd; simp only [List.length_cons]; split <;> (try split) <;> omega
theorem nzd_snoc_zero (ds : List UInt8) : nzd (ds ++ [48]) = nzd ds:=by
  induction ds with
  | nil=>rfl
  | cons d ds ih=>simp only [List.cons_append,nzd,ih]
theorem nzd_snoc_pos (ds : List UInt8) (d : UInt8) (h : d ≠ 48) : nzd (ds ++ [d]) = ds.length + 1:=by
  induction ds with
  | nil=>simp [nzd,h]
  | cons c ds ih=>simp only [List.cons_append,nzd,ih,List.length_cons]; simp
theorem nzd_take_zero (ds : List UInt8) (j : Nat) (h : j < ds.length) (hz : ds[j] = 48) : nzd (ds.take (j + 1)) = nzd (ds.take j):=by
  rw [List.take_succ_eq_append_getElem h,hz,nzd_snoc_zero]
theorem nzd_take_pos (ds : List UInt8) (j : Nat) (h : j < ds.length) (hz : ds[j] ≠ 48) : nzd (ds.take (j + 1)) = j + 1:=by
  rw [List.take_succ_eq_append_getElem h,nzd_snoc_pos _ _ hz,List.length_take,Nat.min_eq_left (by omega)]
def natV : Value → Nat | .int _ n=>n.toNat | _=>0
theorem setDigits_any (g u : Nat) (p : Int) (w : World) (hu : u < 18446744073709551616) (hH : Holds enc8 w g 0 (Array.replicate (nDigits u) 0)) (hn : nDigits u ≤ 20) (hp : -1000 ≤ p∧p ≤ 1000) :
    Calls Tryz.prog 175 #[.slice (some ⟨g,0,none⟩) 32 32,.int .u64 (u : Int),.int .i64 p,.int .i64 (nDigits u : Int)] w fun e w' =>
      e = .returned (.tuple #[.int .i64 ((nDigits u : Int) + p),.int .i64 (nzd (decDigits u) : Int)])∧BufHas w' g (decDigits u)∧w.grownBy w' (some g):=by
  have hfmt:=Tryz.internal_strconv_formatBase10 g 0 32 u (Array.replicate (nDigits u) 0) w hH (by rw [Array.size_replicate]; exact lt_pow_nDigits u) hu (by rw [Array.size_replicate]; omega)
  rw [Array.size_replicate] at hfmt
  have hlen:=decDigits_length u
  obtain ⟨n,hnn⟩ : ∃ n,nDigits u = n:=⟨_,rfl⟩
  obtain ⟨ds,hds⟩ : ∃ ds,decDigits u = ds:=⟨_,rfl⟩
  have HFIN : Hid (∀ (k v' : Nat) (dk : Array UInt8),FmtInv n u 0 v' dk → BufHas ((putRow enc8 w g 0 dk).drewN k) g ds∧w.grownBy ((putRow enc8 w g 0 dk).drewN k) (some g)):=Lib.hid fun k v' dk hF=>by
    refine ⟨fun j hj=>?_,only_drewN (only_putRow w g 0 dk) k⟩
    subst hnn
    subst hds
    have h1:=row_is_numeral hF j hj
    rw [h1]
    have h2:=cell?_putRow enc8 w g 0 _ dk hH (by rw [hF.size,Array.size_replicate]) j (by rw [hF.size]; omega)
    rw [Nat.zero_add] at h2
    exact h2
  rw [hnn] at hfmt hlen ⊢
  rw [hds] at hlen ⊢
  have HF:=Lib.hid hfmt
  have hn20 : n ≤ 20:=by omega
  have HDS:=Lib.hid hds
  clear hfmt hH hds hn
  go_enter Tryz.func175,Tryz.ntmps175
  go_wp2_with fail
  refine HF.out.mono ?_
  rintro e w' ⟨rfl,k,v',dk,rfl,hF⟩
  obtain ⟨hb,hg⟩:=HFIN.out k v' dk hF
  generalize (putRow (fun (b : UInt8)=>Value.int .u8 (b.toNat : Int)) w g 0 dk).drewN k = W at hb hg ⊢
  have HG:=Lib.hid hg
  have HBF:=Lib.hid hb
  clear hF hb hg HFIN HF
  go_wp2
  go_loop [3] (fun v=>∃ k : Nat,k ≤ n∧v = .int .i64 (k : Int)∧nzd (ds.take k) = nzd ds) (fun v=>natV v)
  case atStart=>exact ⟨n,Nat.le_refl _,rfl,by rw [List.take_of_length_le (by omega)]⟩
  case round =>
    obtain ⟨k,hk,rfl,ht⟩:=hrel
    have HT:=Lib.hid ht
    clear ht
    rcases k with _ | j
    · go_wp2
      go_ret2
      have h0 : nzd ds = 0:=by rw [← HT.out]; rfl
      rw [h0]
      exact ⟨rfl,HBF.out,HG.out⟩
    · have hjl : j < ds.length:=by omega
      have hc:=HBF.out j hjl
      by_cases hz : ds[j] = 48
      · have h1:=Lib.hid (nzd_take_zero ds j hjl hz)
        rw [hz] at hc
        have hc2 : W.cell? ⟨g,j,none⟩ = some (.int .u8 48):=hc
        clear hc hz
        go_wp2
        go_round
        case rel=>exact ⟨j,by omega,by go_num,by rw [← h1.out,HT.out]⟩
        case measure=>simp [natV]
      · have h1:=Lib.hid (nzd_take_pos ds j hjl hz)
        have hne : (((ds[j].toNat : Nat) : Int) == 48) = false:=by
          rw [beq_eq_false_iff_ne]
          intro h
          exact hz (UInt8.toNat_inj.1 (by have h48 : (48 : UInt8).toNat = 48:=rfl; omega))
        generalize ds[j].toNat = b at hc hne
        clear hz
        go_wp2
        go_ret2
        have h0 : nzd ds = j + 1:=by rw [← HT.out,h1.out]
        rw [h0]
        exact ⟨rfl,HBF.out,HG.out⟩
end LM
namespace LM
theorem u8_info : (Tryz.prog.info? 5).map (fun i=>(i.zero,i.size,i.bytes)) = some (some (.int .u8 0),1,1):=by kernel_rfl
theorem info_parts8 {P : Program} {t : TypeId} {z : Value} {s b : Nat} (h : (P.info? t).map (fun i=>(i.zero,i.size,i.bytes)) = some (some z,s,b)) : ∃ i,P.info? t = some i∧i.zero = some z∧i.size = s∧i.bytes = b:=by
  obtain ⟨i,hi,he⟩:=Option.map_eq_some_iff.1 h
  simp only [Prod.mk.injEq] at he
  exact ⟨i,hi,he.1,he.2.1,he.2.2⟩
def signB (neg : Bool) : List UInt8:=if neg then [45] else []
theorem enc_of (n : Nat) (h : n < 256) : enc8 (UInt8.ofNat n) = .int .u8 (n : Int):=by
  show Value.int .u8 ((UInt8.ofNat n).toNat : Int) = _
  rw [show (UInt8.ofNat n).toNat = n from by simp; omega]
def Aside (w : World) (g : Nat) (ds : List UInt8) (v : Value) : Prop:=ds = [] ∨ (g < w.heap.size∧v.ownBlock ≠ some g∧BufHas w g ds)
def OB (B : Nat) (W0 : World) (g : Nat) (ds : List UInt8) (v : Value) (bs : List UInt8) (w : World) : Prop :=
  w.ownsRow B 5 1 v bs.length (bs.map enc8)∧Below B W0 w∧B ≤ w.heap.size∧Aside w g ds v
theorem BufHas.grown {w w' : World} {g : Nat} {ds : List UInt8} {row : Option Nat} (h : BufHas w g ds) (hg : w.grownBy w' row) (hl : g < w.heap.size) (hr : some g ≠ row) : BufHas w' g ds:=fun j hj=>by
  rw [← h j hj]
  exact World.cell?_of_block (a:=⟨g,j,none⟩) (hg.block g hl hr)
theorem OB.alloc {B : Nat} {W0 : World} {g : Nat} {ds : List UInt8} {v : Value} {bs : List UInt8} {w : World} (h : OB B W0 g ds v bs w) (o : Obj) : OB B W0 g ds v bs (w.alloc o):=by
  obtain ⟨h1,h2,h3,h4⟩:=h
  refine ⟨h1.alloc o,h2.alloc h3 o,Nat.le_trans h3 (by simp),?_⟩
  rcases h4 with h4 | ⟨a,b,c⟩
  · exact .inl h4
  · exact .inr ⟨by simp; omega,b,c.grown (World.grownBy_alloc w o none) a (by simp)⟩
theorem OB.drewN {B : Nat} {W0 : World} {g : Nat} {ds : List UInt8} {v : Value} {bs : List UInt8} {w : World} (h : OB B W0 g ds v bs w) (n : Nat) : OB B W0 g ds v bs (w.drewN n):=by
  obtain ⟨h1,h2,h3,h4⟩:=h
  exact ⟨h1,below_drewN h2 n,h3,h4⟩
section
variable {P : Program}
theorem run_append_ob (t ty e : TypeId) (i : TypeInfo) (ht : P.underlying t = some (.slice e)) (hi : P.info? e = some i) (hz : i.zero = some (.int .u8 0)) (hsize : i.size = 1) (hby : i.bytes = 1)
    (base : Nat) (w : World) (v : Value) (n : Nat) (xs : List Value) (hown : w.ownsRow base e 1 v n xs) (ad : Addr) (m c : Nat) (news : List Value) (hl : news.length = m) (hnews : ∀ j u,news[j]? = some u → w.cell? (ad.add j) = some u) (h1 : ∀ u ∈ news,u.oneCell' = true)
    (hlen : n + m ≤ 1000000) (hbase : base ≤ w.heap.size) :
    ∃ v' w',(Builtin.append_ #[t,t] ty #[v,.slice (some ad) m c]).run P w = .ok v' w'∧w'.ownsRow base e 1 v' (n + m) (xs ++ news)∧w.grownBy w' v.ownBlock∧(v'.ownBlock = v.ownBlock ∨ v'.ownBlock = some w.heap.size):=by
  have hml : n + m ≤ maxLen:=by unfold maxLen; omega
  obtain ⟨v',w',hr,ho,hg,hnil⟩:=run_append_own (P:=P) w base t ty e i (.int .u8 0) 1 1 ht hi hz hsize hby rfl (by decide) v n xs hown ad m c news (by omega) hnews h1 hml (by omega) hbase
  refine ⟨v',w',hr,ho,hg,?_⟩
  rcases hown with ⟨hx,⟨rfl,rfl⟩ | ⟨g,cap,cur,rfl,hbg,hgc,hnc,hcm,hcs,htake⟩⟩
  · by_cases hm : m = 0
    · rw [hnil.2 ⟨rfl,hm⟩]
      exact .inl rfl
    · have h2:=run_append_nil (P:=P) w t ty e i (.int .u8 0) ht hi hz ad m c news (by rw [hsize]; omega) hnews (by omega) (by omega) (by rw [hby]; omega)
      rw [h2] at hr
      injection hr with e1 e2
      rw [← e1]
      exact .inr rfl
  · by_cases hroom : n + m ≤ cap
    · have h2:=run_append_room (P:=P) w t ty e i ht hi g n cap cur hgc ad m c news (by rw [hsize]; omega) hnews h1 hroom (by rw [hsize]; omega)
      rw [h2] at hr
      injection hr with e1 e2
      rw [← e1]
      exact .inl rfl
    · have holds : ∀ j u,xs[j]? = some u → w.cell? ((⟨g,0,none⟩ : Addr).add j) = some u :=
        World.ownsRow.cells (base:=base) (e:=e) (size:=1) (v:=.slice (some ⟨g,0,none⟩) n cap) (n:=n) ⟨hx,.inr ⟨g,cap,cur,rfl,hbg,hgc,hnc,hcm,hcs,htake⟩⟩ rfl
      have h2:=run_append_grow (P:=P) w t ty e i (.int .u8 0) ht hi hz ⟨g,0,none⟩ n cap xs (by rw [hsize]; omega) holds ad m c news (by rw [hsize]; omega) hnews (by omega) (by omega) (growslice_fits (by omega) (by rw [hby]; omega))
      rw [h2] at hr
      injection hr with e1 e2
      rw [← e1]
      exact .inr rfl
theorem wp_append_ob {o : Oper} {a : Act} {w : World} {K : Act → World → Prop} {Q : Exit → Act → World → Prop} (s x : Operand) (t e : TypeId)
    (ho : o.op = .call { callee:=.builtin .append,args:=#[s,x],argTypes:=#[t,t] })
    (i : TypeInfo) (ht : P.underlying t = some (.slice e)) (hi : P.info? e = some i) (hz : i.zero = some (.int .u8 0)) (hsize : i.size = 1) (hby : i.bytes = 1)
    (base : Nat) (v : Value) (n : Nat) (xs : List Value) (hs : a.eval s = v) (hown : w.ownsRow base e 1 v n xs) (ad : Addr) (m c : Nat) (news : List Value) (hx : a.eval x = .slice (some ad) m c) (hl : news.length = m)
    (hnews : ∀ j u,news[j]? = some u → w.cell? (ad.add j) = some u) (h1 : ∀ u ∈ news,u.oneCell' = true) (hlen : n + m ≤ 1000000) (hbase : base ≤ w.heap.size)
    (h : ∀ v' w',w'.ownsRow base e 1 v' (n + m) (xs ++ news) → w.grownBy w' v.ownBlock → (v'.ownBlock = v.ownBlock ∨ v'.ownBlock = some w.heap.size) → K (a.put o.dst v') w') : o.wp P a w K Q:=by
  obtain ⟨v',w',hr,h2,h3,h4⟩:=run_append_ob (P:=P) t o.type e i ht hi hz hsize hby base w v n xs hown ad m c news hl hnews h1 hlen hbase
  unfold Oper.wp execOp
  simp only [ho,resolve,invoke,builtin,Sem.run_bind,Sem.run_pure,Result.andThen_ok,List.map_toArray,List.map_cons,List.map_nil,hs,hx,hr]
  exact h v' w' h2 h3 h4
end
theorem OB.next {B : Nat} {W0 : World} {g : Nat} {ds : List UInt8} {v v' : Value} {bs nb : List UInt8} {w w' : World} (h : OB B W0 g ds v bs w) (ho : w'.ownsRow B 5 1 v' (bs.length + nb.length) (bs.map enc8 ++ nb.map enc8))
    (hg : w.grownBy w' v.ownBlock) (hv : v'.ownBlock = v.ownBlock ∨ v'.ownBlock = some w.heap.size) : OB B W0 g ds v' (bs ++ nb) w':=by
  obtain ⟨h1,h2,h3,h4⟩:=h
  refine ⟨by rw [List.map_append,List.length_append]; exact ho,h2.grown hg h3 (fun k hk=>(h1.lt k hk).1),Nat.le_trans h3 hg.size,?_⟩
  rcases h4 with h4 | ⟨a,b,c⟩
  · exact .inl h4
  · refine .inr ⟨Nat.lt_of_lt_of_le a hg.size,?_,c.grown hg a (fun e=>b e.symm)⟩
    rcases hv with hv | hv
    · rw [hv]; exact b
    · rw [hv]; intro e; injection e with e; omega
section
variable {P : Program}
theorem wpList_bytes {ops : Array Oper} {rest : List Oper} {o : Oper} {a : Act} {Q : Exit → Act → World → Prop} (hgd : o.guard = none) (s x : Operand) (t : TypeId)
    (ho : o.op = .call { callee:=.builtin .append,args:=#[s,x],argTypes:=#[t,t] })
    (i : TypeInfo) (ht : P.underlying t = some (.slice 5)) (hi : P.info? 5 = some i) (hz : i.zero = some (.int .u8 0)) (hsize : i.size = 1) (hby : i.bytes = 1)
    {B : Nat} {W0 : World} {g : Nat} {ds : List UInt8} {v : Value} {bs : List UInt8} {w0 : World} (nb : List UInt8) (cells : Array Value) (m : Nat) (hc : cells = (nb.map enc8).toArray) (hm : nb.length = m) (hs : a.eval s = v) (hb : OB B W0 g ds v bs w0)
    (hx : a.eval x = .slice (some ⟨w0.heap.size,0,none⟩) m m) (hlen : bs.length + m ≤ 1000000)
    (h : ∀ v' w',OB B W0 g ds v' (bs ++ nb) w' → wpList P ops Q rest (a.put o.dst v') w') : wpList P ops Q (o :: rest) a (w0.alloc (.cells cells 5)):=by
  subst hc
  subst hm
  have hb':=hb.alloc (.cells (nb.map enc8).toArray 5)
  refine wpList_plain hgd fun K hK=>wp_append_ob s x t 5 ho i ht hi hz hsize hby B v bs.length (bs.map enc8) hs hb'.1 ⟨w0.heap.size,0,none⟩ nb.length nb.length (nb.map enc8) hx (by simp) ?_ ?_ hlen hb'.2.2.1 fun v' w' h2 h3 h4=>hK _ _ (h v' w' (hb'.next h2 h3 h4))
  · intro j u hj
    rw [Lib.add_plain,World.cell?_alloc_new]
    simpa using hj
  · intro u hu
    obtain ⟨b,_,rfl⟩:=List.mem_map.1 hu
    rfl
theorem wpList_digits {ops : Array Oper} {rest : List Oper} {o : Oper} {a : Act} {Q : Exit → Act → World → Prop} (hgd : o.guard = none) (s x : Operand) (t : TypeId)
    (ho : o.op = .call { callee:=.builtin .append,args:=#[s,x],argTypes:=#[t,t] })
    (i : TypeInfo) (ht : P.underlying t = some (.slice 5)) (hi : P.info? 5 = some i) (hz : i.zero = some (.int .u8 0)) (hsize : i.size = 1) (hby : i.bytes = 1)
    {B : Nat} {W0 : World} {g : Nat} {ds : List UInt8} {v : Value} {bs : List UInt8} {w : World} (k m c : Nat) (hkm : k + m ≤ ds.length) (hs : a.eval s = v) (hb : OB B W0 g ds v bs w)
    (hx : a.eval x = .slice (some ⟨g,k,none⟩) m c) (hlen : bs.length + m ≤ 1000000)
    (h : ∀ v' w',OB B W0 g ds v' (bs ++ (ds.drop k).take m) w' → wpList P ops Q rest (a.put o.dst v') w') : wpList P ops Q (o :: rest) a w:=by
  have hl : ((ds.drop k).take m).length = m:=by rw [List.length_take,List.length_drop]; omega
  refine wpList_plain hgd fun K hK=>wp_append_ob s x t 5 ho i ht hi hz hsize hby B v bs.length (bs.map enc8) hs hb.1 ⟨g,k,none⟩ m c (((ds.drop k).take m).map enc8) hx (by rw [List.length_map,hl]) ?_ ?_ hlen hb.2.2.1 fun v' w' h2 h3 h4=>hK _ _ (h v' w' (hb.next (by rw [hl]; exact h2) h3 h4))
  · intro j u hj
    have hjl : j < m:=by
      have:=(List.getElem?_eq_some_iff.1 hj).1
      rw [List.length_map,hl] at this
      exact this
    rcases hb.2.2.2 with hd | ⟨_,_,hbh⟩
    · rw [hd] at hkm
      simp at hkm
      omega
    · rw [Lib.add_plain,hbh (k + j) (by omega),← hj,List.getElem?_map,List.getElem?_take,if_pos hjl,List.getElem?_drop,List.getElem?_eq_getElem (by omega : k + j < ds.length)]
      rfl
  · intro u hu
    obtain ⟨b,_,rfl⟩:=List.mem_map.1 hu
    rfl
end
end LM
namespace LM
def expB (x : Int) : List UInt8 :=
  (if x < 0 then 45 else 43) :: (if x.natAbs < 10 then [48,UInt8.ofNat (48 + x.natAbs)] else if x.natAbs < 100 then [UInt8.ofNat (48 + x.natAbs / 10),UInt8.ofNat (48 + x.natAbs % 10)]
    else [UInt8.ofNat (48 + x.natAbs / 100),UInt8.ofNat (48 + x.natAbs / 10 % 10),UInt8.ofNat (48 + x.natAbs % 10)])
def restB (l : List UInt8) : List UInt8:=if l.length ≤ 1 then [] else 46 :: l.drop 1
def fmtE (neg : Bool) (l : List UInt8) (dp : Int) : List UInt8:=signB neg ++ (l.take 1 ++ (restB l ++ (101 :: expB (dp - 1))))
theorem fmtE_any (B : Nat) (W0 : World) (g : Nat) (ds : List UInt8) (v : Value) (b0 : List UInt8) (w : World) (neg : Bool) (dp : Int) (nd : Nat)
    (hob : OB B W0 g ds v b0 w) (hb0 : b0.length ≤ 1000) (hnd : 1 ≤ nd) (hnl : nd ≤ ds.length) (hdl : ds.length ≤ 32) (hdp : -900 ≤ dp∧dp ≤ 900) :
    Calls Tryz.prog 172 #[v,.bool neg,.slice (some ⟨g,0,none⟩) 32 32,.int .i64 dp,.int .i64 (nd : Int),.int .i64 ((nd : Int) - 1),.int .u8 101,.bool true] w fun e w' =>
      ∃ v',e = .returned v'∧OB B W0 g ds v' (b0 ++ fmtE neg (ds.take nd) dp) w':=by
  obtain ⟨i0,hi0,hz0,hz1,hz2⟩:=info_parts8 u8_info
  have HOB:=Lib.hid hob
  have hds0 : 0 < ds.length:=by omega
  clear hob
  go_enter Tryz.func172,Tryz.ntmps172
  go_upto_if 78 with (fail)
  go_cut [0] (fun v1 wx=>OB B W0 g ds v1 (b0 ++ signB neg) wx)
  case first =>
    cases neg
    · go_wp2_with (fail)
      go_meet
      case rel=>simpa [signB] using HOB.out
    · go_wp2_with (at_builtin; refine wpList_bytes rfl _ _ 113 rfl i0 Tryz.underlying113 hi0 hz0 hz1 hz2 [45] _ 1 rfl rfl rfl HOB.out rfl (by omega) ?_; intro v1 w1 hob1)
      go_meet
      case rel=>exact hob1
  case rest =>
    have HO1:=Lib.hid hcut
    have hc0 : wc.cell? ⟨g,0,none⟩ = some (.int .u8 (ds[0].toNat : Int)):=by
      rcases hcut.2.2.2 with h | ⟨_,_,h⟩
      · rw [h] at hds0; cases hds0
      · exact h 0 hds0
    obtain ⟨c0,hc0e⟩ : ∃ c,ds[0] = c:=⟨_,rfl⟩
    rw [hc0e] at hc0
    have hsl : (signB neg).length ≤ 1:=by cases neg <;> decide
    have htk : (ds.take nd).take 1 = [c0]:=by
      rw [List.take_take,Nat.min_eq_left hnd,List.take_one,List.head?_eq_getElem?,List.getElem?_eq_getElem hds0,hc0e]; rfl
    have HTK:=Lib.hid htk
    have dnz : ((nd : Int) == 0) = false:=by rw [beq_eq_false_iff_ne]; omega
    clear hcut hc0e htk
    go_upto_if 92 with (at_builtin; refine wpList_bytes rfl _ _ 113 rfl i0 Tryz.underlying113 hi0 hz0 hz1 hz2 [c0] _ 1 rfl rfl rfl HO1.out rfl (by simp; omega) ?_; intro v2 w2 hob2)
    have HO2:=Lib.hid hob2
    clear hob2 hc0
    go_cut [0] (fun v3 wx=>OB B W0 g ds v3 (b0 ++ signB neg ++ [c0] ++ restB (ds.take nd)) wx)
    case first =>
      by_cases h1 : nd = 1
      · have hr : restB (ds.take nd) = []:=by unfold restB; rw [if_pos (by rw [List.length_take]; omega)]
        have HR:=Lib.hid hr
        clear hr
        go_wp2_with (fail)
        go_meet
        case rel=>rw [HR.out,List.append_nil]; exact HO2.out
      · have hr : restB (ds.take nd) = 46 :: (ds.drop 1).take (nd - 1):=by
          unfold restB
          rw [if_neg (by rw [List.length_take]; omega),List.drop_take]
        have HR:=Lib.hid hr
        have hm : min (nd : Int) ((nd : Int) - 1 + 1) = (nd : Int):=by omega
        clear hr
        go_wp2_with (first
          | (at_builtin; refine wpList_bytes rfl _ _ 113 rfl i0 Tryz.underlying113 hi0 hz0 hz1 hz2 [46] _ 1 rfl rfl rfl HO2.out rfl (by simp; omega) ?_; intro v3 w3 hob3)
          | (at_builtin; refine wpList_digits rfl _ _ 113 rfl i0 Tryz.underlying113 hi0 hz0 hz1 hz2 1 (nd - 1) _ (by omega) rfl hob3 rfl (by simp; omega) ?_; intro v4 w4 hob4))
        have HO4:=Lib.hid hob4
        clear hob3 hob4
        go_loopw [114,0] (fun i v3 wr=>i = .int .i64 0∧OB B W0 g ds v3 (b0 ++ signB neg ++ [c0] ++ [46] ++ (ds.drop 1).take (nd - 1)) wr) (fun _ _ _=>0)
        case atStart=>exact ⟨rfl,HO4.out⟩
        case round =>
          obtain ⟨rfl,hr1⟩:=hrel
          have HR1:=Lib.hid hr1
          clear hr1
          go_wp2_with (fail)
          go_meet
          case rel=>rw [HR.out]; simpa using HR1.out
    case rest =>
      have HO3:=Lib.hid hcut
      have hrl : (restB (ds.take nd)).length ≤ 33:=by
        unfold restB
        split
        · simp
        · simp; omega
      clear hcut HO1 HO2
      go_upto_if 129 with (at_builtin; refine wpList_bytes rfl _ _ 113 rfl i0 Tryz.underlying113 hi0 hz0 hz1 hz2 [101] _ 1 rfl rfl rfl HO3.out rfl (by simp; omega) ?_; intro v5 w5 hob5)
      have HO5:=Lib.hid hob5
      clear hob5
      obtain ⟨a,ha⟩ : ∃ a : Nat,(dp - 1).natAbs = a:=⟨_,rfl⟩
      have ha9 : a < 1000:=by omega
      obtain ⟨sg,hsg⟩ : ∃ sg : UInt8,(if dp - 1 < 0 then 45 else 43) = sg:=⟨_,rfl⟩
      have HSG:=Lib.hid hsg
      have HEX : Hid (expB (dp - 1) = sg :: (if a < 10 then [48,UInt8.ofNat (48 + a)] else if a < 100 then [UInt8.ofNat (48 + a / 10),UInt8.ofNat (48 + a % 10)] else [UInt8.ofNat (48 + a / 100),UInt8.ofNat (48 + a / 10 % 10),UInt8.ofNat (48 + a % 10)])):=Lib.hid (by
        unfold expB
        rw [hsg,ha])
      have HA:=Lib.hid ha
      clear hsg ha
      go_cut [19,22] (fun c x wx=>c = enc8 sg∧x = .int .i64 (a : Int)∧OB B W0 g ds v5 (b0 ++ signB neg ++ [c0] ++ restB (ds.take nd) ++ [101]) wx)
      case first =>
        by_cases hneg : dp - 1 < 0
        · have h1:=HSG.out
          rw [if_pos hneg] at h1
          have hx : -(dp - 1) = (a : Int):=by have:=HA.out; omega
          clear HSG
          go_wp2_with (fail)
          go_meet
          case rel=>exact ⟨by rw [← h1]; rfl,rfl,HO5.out⟩
        · have h1:=HSG.out
          rw [if_neg hneg] at h1
          have hx : dp - 1 = (a : Int):=by have:=HA.out; omega
          clear HSG
          go_wp2_with (fail)
          go_meet
          case rel=>exact ⟨by rw [← h1]; rfl,rfl,HO5.out⟩
      case rest =>
        obtain ⟨rfl,rfl,hob6⟩:=hcut
        have HO6:=Lib.hid hob6
        clear hob6 HO5 HO3
        go_upto_region 47 with (at_builtin; refine wpList_bytes rfl _ _ 113 rfl i0 Tryz.underlying113 hi0 hz0 hz1 hz2 [sg] _ 1 rfl rfl rfl HO6.out rfl (by simp; omega) ?_; intro v7 w7 hob7)
        have HO7:=Lib.hid hob7
        clear hob7 HO6
        have e0 : enc8 (UInt8.ofNat (48 + a % 10)) = .int .u8 ((a : Int) % 10 + 48):=by rw [enc_of _ (by omega)]; congr 1; omega
        have E0:=Lib.hid e0
        clear e0
        have hfin : fmtE neg (ds.take nd) dp = signB neg ++ ([c0] ++ (restB (ds.take nd) ++ (101 :: expB (dp - 1)))):=by unfold fmtE; rw [HTK.out]
        have HFIN:=Lib.hid hfin
        clear hfin
        by_cases h1 : a < 10
        · have e1 : enc8 (UInt8.ofNat (48 + a)) = .int .u8 ((a : Int) + 48):=by rw [enc_of _ (by omega)]; congr 1; omega
          have E1:=Lib.hid e1
          clear e1
          have h2:=HEX.out
          rw [if_pos h1] at h2
          have HEX2:=Lib.hid h2
          clear h2
          go_wp2_with (at_builtin; refine wpList_bytes rfl _ _ 113 rfl i0 Tryz.underlying113 hi0 hz0 hz1 hz2 [48,UInt8.ofNat (48 + a)] _ 2 (by simp only [List.map_cons,List.map_nil,E1.out]; rfl) rfl rfl HO7.out rfl (by simp; omega) ?_; intro v8 w8 hob8)
          go_ret
          refine ⟨_,rfl,?_⟩
          rw [HFIN.out,HEX2.out]
          simpa using hob8
        · by_cases h3 : a < 100
          · have e1 : enc8 (UInt8.ofNat (48 + a / 10)) = .int .u8 ((a : Int) / 10 + 48):=by rw [enc_of _ (by omega)]; congr 1; omega
            have E1:=Lib.hid e1
            clear e1
            have h2:=HEX.out
            rw [if_neg h1,if_pos h3] at h2
            have HEX2:=Lib.hid h2
            clear h2
            go_wp2_with (at_builtin; refine wpList_bytes rfl _ _ 113 rfl i0 Tryz.underlying113 hi0 hz0 hz1 hz2 [UInt8.ofNat (48 + a / 10),UInt8.ofNat (48 + a % 10)] _ 2 (by simp only [List.map_cons,List.map_nil,E1.out,E0.out]) rfl rfl HO7.out rfl (by simp; omega) ?_; intro v8 w8 hob8)
            go_ret
            refine ⟨_,rfl,?_⟩
            rw [HFIN.out,HEX2.out]
            simpa using hob8
          · have e1 : enc8 (UInt8.ofNat (48 + a / 100)) = .int .u8 ((a : Int) / 100 + 48):=by rw [enc_of _ (by omega)]; congr 1; omega
            have e2 : enc8 (UInt8.ofNat (48 + a / 10 % 10)) = .int .u8 ((a : Int) / 10 % 10 + 48):=by rw [enc_of _ (by omega)]; congr 1; omega
            have E1:=Lib.hid e1
            have E2:=Lib.hid e2
            clear e1 e2
            have h2:=HEX.out
            rw [if_neg h1,if_neg h3] at h2
            have HEX2:=Lib.hid h2
            clear h2
            go_wp2_with (at_builtin; refine wpList_bytes rfl _ _ 113 rfl i0 Tryz.underlying113 hi0 hz0 hz1 hz2 [UInt8.ofNat (48 + a / 100),UInt8.ofNat (48 + a / 10 % 10),UInt8.ofNat (48 + a % 10)] _ 3 (by simp only [List.map_cons,List.map_nil,E1.out,E2.out,E0.out]) rfl rfl HO7.out rfl (by simp; omega) ?_; intro v8 w8 hob8)
            go_ret
            refine ⟨_,rfl,?_⟩
            rw [HFIN.out,HEX2.out]
            simpa using hob8
end LM
namespace LM
def intB (l : List UInt8) (dp : Int) : List UInt8:=if 0 < dp then l.take dp.toNat ++ List.replicate (dp.toNat - l.length) 48 else [48]
def fracB (l : List UInt8) (dp : Int) : List UInt8:=if (l.length : Int) ≤ dp then [] else 46 :: (List.replicate (-dp).toNat 48 ++ l.drop dp.toNat)
def fmtF (neg : Bool) (l : List UInt8) (dp : Int) : List UInt8:=signB neg ++ (intB l dp ++ fracB l dp)
theorem fmtF_zero (B : Nat) (W0 : World) (v : Value) (b0 : List UInt8) (w : World) (neg : Bool) (g : Nat)
    (hob : OB B W0 g [] v b0 w) (hb0 : b0.length ≤ 1000) :
    Calls Tryz.prog 172 #[v,.bool neg,.slice none 0 0,.int .i64 0,.int .i64 0,.int .i64 (-1),.int .u8 102,.bool true] w fun e w' =>
      ∃ v',e = .returned v'∧OB B W0 g [] v' (b0 ++ fmtF neg [] 0) w':=by
  obtain ⟨i0,hi0,hz0,hz1,hz2⟩:=info_parts8 u8_info
  have HOB:=Lib.hid hob
  clear hob
  cases neg
  · go_enter Tryz.func172,Tryz.ntmps172
    go_wp2_with (at_builtin; refine wpList_bytes rfl _ _ 113 rfl i0 Tryz.underlying113 hi0 hz0 hz1 hz2 [48] _ 1 rfl rfl rfl HOB.out rfl (by omega) ?_; intro v2 w2 hob2)
    go_ret
    exact ⟨_,rfl,hob2⟩
  · go_enter Tryz.func172,Tryz.ntmps172
    go_wp2_with (first
      | (at_builtin; refine wpList_bytes rfl _ _ 113 rfl i0 Tryz.underlying113 hi0 hz0 hz1 hz2 [45] _ 1 rfl rfl rfl HOB.out rfl (by omega) ?_; intro v1 w1 hob1)
      | (at_builtin; refine wpList_bytes rfl _ _ 113 rfl i0 Tryz.underlying113 hi0 hz0 hz1 hz2 [48] _ 1 rfl rfl rfl hob1 rfl (by simp; omega) ?_; intro v2 w2 hob2))
    go_ret
    refine ⟨_,rfl,?_⟩
    rw [List.append_assoc] at hob2
    exact hob2
theorem fmtF_any (B : Nat) (W0 : World) (g : Nat) (ds : List UInt8) (v : Value) (b0 : List UInt8) (w : World) (neg : Bool) (dp prec : Int) (nd : Nat)
    (hob : OB B W0 g ds v b0 w) (hb0 : b0.length ≤ 1000) (hnl : nd ≤ ds.length) (hdl : ds.length ≤ 32) (hdp : -900 ≤ dp∧dp ≤ 900) (hprec : prec = max ((nd : Int) - dp) 0) :
    Calls Tryz.prog 172 #[v,.bool neg,.slice (some ⟨g,0,none⟩) 32 32,.int .i64 dp,.int .i64 (nd : Int),.int .i64 prec,.int .u8 102,.bool true] w fun e w' =>
      ∃ v',e = .returned v'∧OB B W0 g ds v' (b0 ++ fmtF neg (ds.take nd) dp) w':=by
  obtain ⟨i0,hi0,hz0,hz1,hz2⟩:=info_parts8 u8_info
  have HOB:=Lib.hid hob
  have HPR:=Lib.hid hprec
  have hpb : 0 ≤ prec∧prec ≤ 2000:=by omega
  obtain ⟨l,hl⟩ : ∃ l,ds.take nd = l:=⟨_,rfl⟩
  have hll : l.length = nd:=by rw [← hl,List.length_take]; omega
  have HL:=Lib.hid hl
  have HLL:=Lib.hid hll
  rw [hl]
  clear hob hprec hl hll
  go_enter Tryz.func172,Tryz.ntmps172
  go_upto_if 178 with (fail)
  go_cut [0] (fun v1 wx=>OB B W0 g ds v1 (b0 ++ signB neg) wx)
  case first =>
    cases neg
    · go_wp2_with (fail)
      go_meet
      case rel=>simpa [signB] using HOB.out
    · go_wp2_with (at_builtin; refine wpList_bytes rfl _ _ 113 rfl i0 Tryz.underlying113 hi0 hz0 hz1 hz2 [45] _ 1 rfl rfl rfl HOB.out rfl (by omega) ?_; intro v1 w1 hob1)
      go_meet
      case rel=>exact hob1
  case rest =>
    have HO1:=Lib.hid hcut
    have hsl : (signB neg).length ≤ 1:=by cases neg <;> decide
    clear hcut HOB
    go_upto_if 183 with (fail)
    go_cut [0] (fun v1 wx=>OB B W0 g ds v1 (b0 ++ signB neg ++ intB l dp) wx)
    case first =>
      by_cases h0 : 0 < dp
      · obtain ⟨D,rfl⟩ : ∃ D : Nat,dp = (D : Int):=⟨dp.toNat,by omega⟩
        obtain ⟨k,hk⟩ : ∃ k : Nat,min nd D = k:=⟨_,rfl⟩
        have hki : min (nd : Int) (D : Int) = (k : Int):=by omega
        have hkd : k ≤ D∧k ≤ nd:=by omega
        have hdk : (D : Int) - (k : Int) = ((D - k : Nat) : Int):=by omega
        obtain ⟨z,hz⟩ : ∃ z,D - k = z:=⟨_,rfl⟩
        have hzb : z ≤ 900:=by omega
        rw [hz] at hdk
        have hib : intB l (D : Int) = ds.take k ++ List.replicate z 48:=by
          unfold intB
          rw [if_pos h0,Int.toNat_natCast,HLL.out,← HL.out,List.take_take,← hz,← hk]
          congr 2
          · omega
          · omega
        have HIB:=Lib.hid hib
        clear hib hk hz
        go_wp2_with (fail)
        rw [show decide (0 < (D : Int)) = true from decide_eq_true h0]
        go_loopg [0,25,191] k (fun kk v3 _ i wr=>∃ j : Nat,kk + j = k∧i = .int .i64 (j : Int)∧OB B W0 g ds v3 (b0 ++ signB neg ++ ds.take j) wr)
        case atStart=>exact ⟨0,by omega,rfl,by simpa using HO1.out⟩
        case round =>
          obtain ⟨j,hj,rfl,hr1⟩:=hrel
          have HR1:=Lib.hid hr1
          by_cases hjk : j < k
          · have hjd : j < ds.length:=by omega
            have hc : wr.cell? ⟨g,j,none⟩ = some (.int .u8 (ds[j].toNat : Int)):=by
              rcases hr1.2.2.2 with h | ⟨_,_,h⟩
              · rw [h] at hjd; cases hjd
              · exact h j hjd
            have htk : ds.take (j + 1) = ds.take j ++ [ds[j]]:=List.take_succ_eq_append_getElem hjd
            have HTK:=Lib.hid htk
            have htl : (ds.take j).length ≤ 32:=by rw [List.length_take]; omega
            generalize ds[j] = c0 at hc HTK
            clear hr1 htk
            go_wp2_with (at_builtin; refine wpList_bytes rfl _ _ 113 rfl i0 Tryz.underlying113 hi0 hz0 hz1 hz2 [c0] _ 1 rfl rfl rfl HR1.out rfl (by simp; omega) ?_; intro v4 w4 hob4)
            go_roundg (gk - 1)
            case measure=>omega
            case rel=>exact ⟨j + 1,by omega,by go_num,by rw [HTK.out,← List.append_assoc]; exact hob4⟩
          · obtain rfl : j = k:=by omega
            have htl : (ds.take j).length ≤ 32:=by rw [List.length_take]; omega
            clear hr1
            go_wp2_with (fail)
            go_loopg [0,203] z (fun kk v3 i wr=>∃ y : Nat,kk + y = z∧i = .int .i64 (y : Int)∧OB B W0 g ds v3 (b0 ++ signB neg ++ ds.take j ++ List.replicate y 48) wr)
            case atStart=>exact ⟨0,by omega,rfl,by simpa using HR1.out⟩
            case round =>
              obtain ⟨y,hy,rfl,hr2⟩:=hrel
              have HR2:=Lib.hid hr2
              clear hr2
              by_cases hyz : y < z
              · go_wp2_with (at_builtin; refine wpList_bytes rfl _ _ 113 rfl i0 Tryz.underlying113 hi0 hz0 hz1 hz2 [48] _ 1 rfl rfl rfl HR2.out rfl (by simp; omega) ?_; intro v4 w4 hob4)
                go_roundg (gk - 1)
                case measure=>omega
                case rel=>exact ⟨y + 1,by omega,by go_num,by rw [List.replicate_succ',← List.append_assoc]; exact hob4⟩
              · obtain rfl : y = z:=by omega
                go_wp2_with (fail)
                go_meet
                case rel=>rw [HIB.out,← List.append_assoc]; exact HR2.out
      · have hib : intB l dp = [48]:=by unfold intB; rw [if_neg h0]
        have HIB:=Lib.hid hib
        clear hib
        go_wp2_with (at_builtin; refine wpList_bytes rfl _ _ 113 rfl i0 Tryz.underlying113 hi0 hz0 hz1 hz2 [48] _ 1 rfl rfl rfl HO1.out rfl (by simp; omega) ?_; intro v1 w1 hob1)
        go_meet
        case rel=>rw [HIB.out]; exact hob1
    case rest =>
      have HO2:=Lib.hid hcut
      have hil : (intB l dp).length ≤ 2000:=by
        unfold intB
        split
        · simp; omega
        · simp
      clear hcut HO1
      by_cases hp : (nd : Int) ≤ dp
      · have hpz : prec = 0:=by have:=HPR.out; omega
        subst hpz
        have hfb : fracB l dp = []:=by unfold fracB; rw [HLL.out,if_pos hp]
        have HFB:=Lib.hid hfb
        clear hfb
        go_wp2_with (fail)
        go_ret
        refine ⟨_,rfl,?_⟩
        unfold fmtF
        rw [HFB.out,List.append_nil,← List.append_assoc]
        exact HO2.out
      · have hpz : prec = (nd : Int) - dp:=by have:=HPR.out; omega
        subst hpz
        obtain ⟨lz,hlz⟩ : ∃ z : Nat,(-dp).toNat = z:=⟨_,rfl⟩
        obtain ⟨of,hof⟩ : ∃ z : Nat,dp.toNat = z:=⟨_,rfl⟩
        have hm1 : max (0 : Int) (-dp) = (lz : Int):=by omega
        have hm2 : min ((nd : Int) - dp) (lz : Int) = (lz : Int):=by omega
        have hm3 : dp + (lz : Int) = (of : Int):=by omega
        obtain ⟨m,hm⟩ : ∃ z : Nat,nd - of = z:=⟨_,rfl⟩
        have hm4 : (nd : Int) - (of : Int) = (m : Int):=by omega
        have hm5 : (nd : Int) - dp - (lz : Int) = (m : Int):=by omega
        have hofl : of + m = nd:=by omega
        have hlzb : lz ≤ 900:=by omega
        have hfb : fracB l dp = 46 :: (List.replicate lz 48 ++ l.drop of):=by unfold fracB; rw [HLL.out,if_neg hp,hlz,hof]
        have HFB:=Lib.hid hfb
        clear hfb hlz hof hm
        have hd0 : (0 : Int) < (nd : Int) - dp:=by omega
        have HFIN : Hid (fmtF neg l dp = signB neg ++ (intB l dp ++ fracB l dp)):=Lib.hid rfl
        have hlofd : l.drop of = (ds.drop of).take m:=by rw [← HL.out,List.drop_take,show nd - of = m from by omega]
        have HLOF:=Lib.hid hlofd
        clear hlofd
        go_wp2_with (at_builtin; refine wpList_bytes rfl _ _ 113 rfl i0 Tryz.underlying113 hi0 hz0 hz1 hz2 [46] _ 1 rfl rfl rfl HO2.out rfl (by simp; omega) ?_; intro v5 w5 hob5)
        first
          | rw [show decide (0 < (nd : Int) - dp) = true from decide_eq_true hd0]
          | skip
        have HO5:=Lib.hid hob5
        clear hob5
        go_loopg [0,240] lz (fun kk v3 i wr=>∃ y : Nat,kk + y = lz∧i = .int .i64 (y : Int)∧OB B W0 g ds v3 (b0 ++ signB neg ++ intB l dp ++ [46] ++ List.replicate y 48) wr)
        case atStart=>exact ⟨0,by omega,rfl,by simpa using HO5.out⟩
        case round =>
          obtain ⟨y,hy,rfl,hr2⟩:=hrel
          have HR2:=Lib.hid hr2
          clear hr2
          by_cases hyz : y < lz
          · go_wp2_with (at_builtin; refine wpList_bytes rfl _ _ 113 rfl i0 Tryz.underlying113 hi0 hz0 hz1 hz2 [48] _ 1 rfl rfl rfl HR2.out rfl (by simp; omega) ?_; intro v4 w4 hob4)
            go_roundg (gk - 1)
            case measure=>omega
            case rel=>exact ⟨y + 1,by omega,by go_num,by rw [List.replicate_succ',← List.append_assoc]; exact hob4⟩
          · obtain rfl : y = lz:=by omega
            go_wp2_with (fail)
            go_loopg [0,30,247] m (fun kk v3 _ i wr=>∃ x : Nat,kk + x = m∧i = .int .i64 (x : Int)∧OB B W0 g ds v3 (b0 ++ signB neg ++ intB l dp ++ [46] ++ List.replicate y 48 ++ (ds.drop of).take x) wr)
            case atStart=>exact ⟨0,by omega,rfl,by simpa using HR2.out⟩
            case round =>
              obtain ⟨x,hx,rfl,hr3⟩:=hrel
              have HR3:=Lib.hid hr3
              have htl : ((ds.drop of).take x).length ≤ 32:=by rw [List.length_take,List.length_drop]; omega
              by_cases hxm : x < m
              · have hjd : of + x < ds.length:=by omega
                have hc : wr.cell? ⟨g,of + x,none⟩ = some (.int .u8 (ds[of + x].toNat : Int)):=by
                  rcases hr3.2.2.2 with h | ⟨_,_,h⟩
                  · rw [h] at hjd; cases hjd
                  · exact h (of + x) hjd
                have htk : (ds.drop of).take (x + 1) = (ds.drop of).take x ++ [ds[of + x]]:=by
                  rw [List.take_succ_eq_append_getElem (by rw [List.length_drop]; omega),List.getElem_drop]
                have HTK:=Lib.hid htk
                generalize ds[of + x] = c0 at hc HTK
                clear hr3 htk
                go_wp2_with (at_builtin; refine wpList_bytes rfl _ _ 113 rfl i0 Tryz.underlying113 hi0 hz0 hz1 hz2 [c0] _ 1 rfl rfl rfl HR3.out rfl (by simp; omega) ?_; intro v6 w6 hob6)
                go_roundg (gk - 1)
                case measure=>omega
                case rel=>exact ⟨x + 1,by omega,by go_num,by rw [HTK.out,← List.append_assoc]; exact hob6⟩
              · obtain rfl : x = m:=by omega
                clear hr3
                go_wp2_with (fail)
                go_loopg [0,261] 0 (fun kk v3 i wr=>i = .int .i64 0∧OB B W0 g ds v3 (b0 ++ signB neg ++ intB l dp ++ [46] ++ List.replicate y 48 ++ (ds.drop of).take x) wr)
                case atStart=>exact ⟨rfl,HR3.out⟩
                case round =>
                  obtain ⟨rfl,hr4⟩:=hrel
                  have HR4:=Lib.hid hr4
                  clear hr4
                  go_wp2_with (fail)
                  go_ret
                  refine ⟨_,rfl,?_⟩
                  rw [HFIN.out,HFB.out,HLOF.out]
                  simpa using HR4.out
end LM
end Go.Proofs.YtihbgghlnppkiaaGreatDoor
namespace Go.Proofs.YtihbgghlnppkiaaGreatDoor
open Go.RowKit
namespace LM
theorem rows_ge : (Go.Pinned.pow10Rows.all fun x=>decide (9223372036854775808 ≤ x.1)) = true:=by kernel_rfl
theorem powRow_ge {p : Int} (h0 : -348 ≤ p) (h1 : p ≤ 347) : 9223372036854775808 ≤ (powRow p).1:=by
  have h:=List.all_eq_true.1 rows_ge _ (List.mem_of_getElem? (powRow_at h0 h1))
  simpa using h
theorem uscale_ge (x : Nat) (c : Sc) (hx : 4611686018427387904 ≤ x) (hh : 9223372036854775808 ≤ c.hi) (hs : c.s ≤ 58) (hxl : x < 18446744073709551616) (hc : c.hi < 18446744073709551616) : 7 ≤ uscaleN x c:=by
  have hH : 2305843009213693952 ≤ x * c.hi / 18446744073709551616 :=
    (Nat.le_div_iff_mul_le (by decide)).2 (Nat.le_trans (by decide) (Nat.mul_le_mul hx hh))
  have hp : 2 ^ c.s ≤ 288230376151711744:=Nat.le_trans (Nat.pow_le_pow_right (by decide) hs) (by decide)
  have hp0 : 0 < 2 ^ c.s:=Nat.pow_pos (by decide)
  have hHl : x * c.hi / 18446744073709551616 < 18446744073709551616 :=
    Nat.div_lt_of_lt_mul (Nat.lt_of_le_of_lt (Nat.mul_le_mul_right c.hi (Nat.le_of_lt hxl)) (Nat.mul_lt_mul_of_pos_left hc (by decide)))
  unfold uscaleN
  dsimp only
  generalize x * c.hi / 18446744073709551616 = H at *
  generalize 2 ^ c.s = P at *
  split
  · refine Nat.le_trans ?_ Nat.left_le_or
    refine (Nat.le_div_iff_mul_le hp0).2 ?_
    split <;> omega
  · refine Nat.le_trans ?_ Nat.left_le_or
    refine (Nat.le_div_iff_mul_le hp0).2 ?_
    omega
theorem uscale_lt (x : Nat) (c : Sc) (hxl : x < 18446744073709551616) (hc : c.hi < 18446744073709551616) (hs : 2 ≤ c.s) : uscaleN x c < 4611686018427387904:=by
  have hHl : x * c.hi / 18446744073709551616 < 18446744073709551616 :=
    Nat.div_lt_of_lt_mul (Nat.lt_of_le_of_lt (Nat.mul_le_mul_right c.hi (Nat.le_of_lt hxl)) (Nat.mul_lt_mul_of_pos_left hc (by decide)))
  have hp : 4 ≤ 2 ^ c.s:=Nat.le_trans (by decide) (Nat.pow_le_pow_right (n:=2) (by decide) hs)
  have hq : ∀ y,y < 18446744073709551616 → y / 2 ^ c.s < 4611686018427387904:=fun y hy=>by
    refine Nat.div_lt_of_lt_mul ?_
    refine Nat.lt_of_lt_of_le hy ?_
    exact Nat.mul_le_mul_right 4611686018427387904 hp
  have h62 : (4611686018427387904 : Nat) = 2 ^ 62:=by decide
  unfold uscaleN
  dsimp only
  split
  · rw [h62] at hq ⊢
    refine Nat.or_lt_two_pow (hq _ (Nat.mod_lt _ (by decide))) ?_
    split <;> decide
  · rw [h62] at hq ⊢
    exact Nat.or_lt_two_pow (hq _ hHl) (by decide)
theorem ceil_nudge {u : Nat} {d : Int} (hd : d = 0 ∨ d = 1 ∨ d = -1) (h0 : 7 ≤ u) (h1 : u < 4611686018427387904) : 1 ≤ ceilN (nudgeN u d):=by
  unfold ceilN nudgeN
  omega
theorem round_pos {u : Nat} (h0 : 7 ≤ u) (h1 : u < 4611686018427387904) : 1 ≤ roundN u:=by
  unfold roundN
  rw [Nat.mod_eq_of_lt (by omega)]
  omega
theorem short_pos (m : Nat) (e p : Int) (mn mx od : Nat) (hod : od ≤ 1) (hmn : 4611686018427387904 ≤ mn) (hm : 4611686018427387904 ≤ m) (hmnl : mn < 18446744073709551616) (hml : m < 18446744073709551616) (hmxl : mx < 18446744073709551616)
    (hp0 : -348 ≤ p) (hp1 : p ≤ 347) (hs0 : e + l2I p + 3 ≤ -2) (hs1 : -58 ≤ e + l2I p + 3) :
    1 ≤ (shortT m e p mn mx od).1∧(shortT m e p mn mx od).1 < 4611686018427387904∧((shortT m e p mn mx od).2 = -(p - 1) ∨ (shortT m e p mn mx od).2 = -p):=by
  have hok:=mkSc_ok hp0 hp1 (by omega) (by omega : -63 ≤ e + l2I p + 3)
  have hge : 9223372036854775808 ≤ (mkSc e p).hi:=powRow_ge hp0 hp1
  have hss : (mkSc e p).s = (-(e + l2I p + 3)).toNat:=rfl
  have a1:=uscale_ge mn (mkSc e p) hmn hge (by omega) hmnl hok.1
  have a2:=uscale_ge m (mkSc e p) hm hge (by omega) hml hok.1
  have b1:=uscale_lt mn (mkSc e p) hmnl hok.1 (by omega)
  have b2:=uscale_lt m (mkSc e p) hml hok.1 (by omega)
  have b3:=uscale_lt mx (mkSc e p) hmxl hok.1 (by omega)
  unfold shortT
  generalize uscaleN mn (mkSc e p) = u1 at *
  generalize uscaleN m (mkSc e p) = u2 at *
  generalize uscaleN mx (mkSc e p) = u3 at *
  have c1:=ceil_nudge (u:=u1) (d:=(od : Int)) (by omega) a1 b1
  have c2:=ceilN_lt (nudgeN u1 od)
  have c3:=floorN_lt (nudgeN_lt u3 (-od))
  have c4:=roundN_lt u2
  have c5:=round_pos a2 b2
  generalize ceilN (nudgeN u1 od) = a at *
  generalize floorN (nudgeN u3 (-od)) = b at *
  generalize roundN u2 = r at *
  split
  · exact ⟨by show 1 ≤ b / 10; omega,by show b / 10 < _; omega,.inl rfl⟩
  · split
    · exact ⟨c5,c4,.inr rfl⟩
    · exact ⟨c1,c2,.inr rfl⟩
theorem p_mid {e p : Int} (h0 : -1085 ≤ e) (h1 : e ≤ 1000) (hp : -(l10I (e + 11)) = p) : -348 ≤ p∧p ≤ 347∧e + l2I p + 3 ≤ -2∧-58 ≤ e + l2I p + 3:=by
  unfold l10I at hp
  unfold l2I
  omega
theorem p_low {e p : Int} (h0 : -1085 ≤ e) (h1 : e ≤ 1000) (hp : -(skI (e + 11)) = p) : -348 ≤ p∧p ≤ 347∧e + l2I p + 3 ≤ -2∧-58 ≤ e + l2I p + 3:=by
  unfold skI at hp
  unfold l2I
  omega
theorem p_sub {e : Int} {s : Nat} (h0 : 12 ≤ s) (h1 : s ≤ 63) (he : e = -1074 - s) : e + l2I 324 + 3 ≤ -2∧-58 ≤ e + l2I 324 + 3:=by
  rw [show l2I 324 = 1076 from by decide]
  omega
theorem short_lo2 (m : Nat) (e p : Int) (od : Nat) (w : World) (htab : PTab w) (hpt : 11 < w.heap.size) (hm0 : 9223372036854775808 = m)
    (he0 : e = -1085) (hp : -(l10I (e + 11)) = p) (hp0 : -348 ≤ p) (hp1 : p ≤ 347) (hs0 : e + l2I p + 3 ≤ 0) (hs1 : -63 ≤ e + l2I p + 3) (hod : m / 2048 % 2 = od) :
    Calls Tryz.prog 181 #[.int .u64 (m : Int),.int .i64 e] w fun r w'=>r = .returned (.tuple #[.int .u64 ((shortT m e p (m - 1024) (m + 1024) od).1 : Int),.int .i64 (shortT m e p (m - 1024) (m + 1024) od).2])∧Below w.heap.size w w':=by
  have d1 : ((m : Int) == 9223372036854775808) = true:=by rw [beq_iff_eq]; omega
  have d0 : decide (-1085 < e) = false:=decide_eq_false (by omega)
  have d2 : decide (-1085 ≤ e) = true:=decide_eq_true (by omega)
  have he1 : e ≤ 1000:=by omega
  have HEE:=Lib.hid he0
  have he2 : -1085 ≤ e:=by omega
  clear he0
  obtain ⟨mn,hmn⟩ : ∃ mn,m - 1024 = mn:=⟨_,rfl⟩
  obtain ⟨mx,hmx⟩ : ∃ mx,m + 1024 = mx:=⟨_,rfl⟩
  have hmni : (m : Int) - 1024 = (mn : Int):=by omega
  have hmxi : (m : Int) + 1024 = (mx : Int):=by omega
  rw [hmn,hmx]
  have l1:=fun W=>l10_any (e + 11) W (by omega) (by omega)
  obtain ⟨l,hl⟩ : ∃ l,l10I (e + 11) = l:=⟨_,rfl⟩
  rw [hl] at hp l1
  obtain ⟨q,hq⟩ : ∃ q,m / 2048 = q:=⟨_,rfl⟩
  have hqi : (m : Int) / 2048 = (q : Int):=by omega
  have hql : q < 9007199254740992:=by omega
  have hqo : bits .and .i64 (q : Int) 1 = (od : Int):=by
    have h:=i64_and_nat q 1 (by omega) (by decide)
    have h2 : q &&& 1 = od:=by rw [nat_mask1,← hod,hq]
    rw [h2] at h
    exact h
  have hod2 : od ≤ 1:=by omega
  have L1:=Lib.hid l1
  have l2:=fun W=>l2_any p W (by omega) (by omega)
  have hcok:=mkSc_ok hp0 hp1 hs0 hs1
  have hmnl : mn < 18446744073709551616:=by omega
  have hmxl : mx < 18446744073709551616:=by omega
  have hml : m < 18446744073709551616:=by omega
  obtain ⟨c,hc⟩ : ∃ c,mkSc e p = c:=⟨_,rfl⟩
  obtain ⟨u1,hu1⟩ : ∃ u,uscaleN mn c = u:=⟨_,rfl⟩
  obtain ⟨u2,hu2⟩ : ∃ u,uscaleN mx c = u:=⟨_,rfl⟩
  obtain ⟨u3,hu3⟩ : ∃ u,uscaleN m c = u:=⟨_,rfl⟩
  rw [hc] at hcok
  have hu1l : u1 < 18446744073709551616:=hu1 ▸ uscaleN_lt mn c hmnl hcok
  have hu2l : u2 < 18446744073709551616:=hu2 ▸ uscaleN_lt mx c hmxl hcok
  have hu3l : u3 < 18446744073709551616:=hu3 ▸ uscaleN_lt m c hml hcok
  obtain ⟨n1,hn1⟩ : ∃ u,nudgeN u1 od = u:=⟨_,rfl⟩
  obtain ⟨n2,hn2⟩ : ∃ u,nudgeN u2 (-od) = u:=⟨_,rfl⟩
  have hn1l : n1 < 18446744073709551616:=hn1 ▸ nudgeN_lt u1 od
  have hn2l : n2 < 18446744073709551616:=hn2 ▸ nudgeN_lt u2 (-od)
  obtain ⟨a,ha⟩ : ∃ u,ceilN n1 = u:=⟨_,rfl⟩
  obtain ⟨b,hb⟩ : ∃ u,floorN n2 = u:=⟨_,rfl⟩
  obtain ⟨r,hr⟩ : ∃ u,roundN u3 = u:=⟨_,rfl⟩
  obtain ⟨d,hd⟩ : ∃ d,b / 10 = d:=⟨_,rfl⟩
  have hdi : (b : Int) / 10 = (d : Int):=by omega
  have hal : a < 4611686018427387904:=ha ▸ ceilN_lt n1
  have hbl : b < 4611686018427387904:=hb ▸ floorN_lt hn2l
  have hdl : d < 4611686018427387904 / 10 + 1:=by omega
  have hrl : r < 4611686018427387904:=hr ▸ roundN_lt u3
  have HE : Hid (shortT m e p mn mx od = if a ≤ d * 10 then (d,-(p - 1)) else if a < b then (r,-p) else (a,-p)):=Lib.hid (by
    unfold shortT
    rw [hc,hu1,hu2,hu3,hn1,hn2,ha,hb,hr,hd])
  have U1 : Hid (∀ W,ScAt W w.heap.size c → _):=Lib.hid fun W h=>uscale_any mn w.heap.size c W hmnl hcok h
  have U2 : Hid (∀ W,ScAt W w.heap.size c → _):=Lib.hid fun W h=>uscale_any mx w.heap.size c W hmxl hcok h
  have U3 : Hid (∀ W,ScAt W w.heap.size c → _):=Lib.hid fun W h=>uscale_any m w.heap.size c W hml hcok h
  rw [hu1] at U1
  rw [hu2] at U2
  rw [hu3] at U3
  have N1:=Lib.hid fun W=>nudge_any u1 od W hu1l (by omega)
  have N2:=Lib.hid fun W=>nudge_any u2 (-od) W hu2l (by omega)
  rw [hn1] at N1
  rw [hn2] at N2
  have A1:=Lib.hid fun W=>ceil_any n1 W hn1l
  have F1:=Lib.hid fun W=>floor_any n2 W hn2l
  have R1:=Lib.hid fun W=>round_unr u3 W hu3l
  rw [ha] at A1
  rw [hb] at F1
  rw [hr] at R1
  have PR:=Lib.hid (prescale_any w.heap.size e p (.int .u64 0) (.int .u64 0) (.int .i64 0) (w.alloc (.cells #[.int .u64 0,.int .u64 0,.int .i64 0] 259)) (htab.alloc hpt _) (heap_alloc_new w _) (by omega) hp0 hp1 (by omega) (by omega) hs0)
  rw [hc] at PR
  obtain ⟨l0,hl0⟩ : ∃ l,l2I p = l:=⟨_,rfl⟩
  rw [hl0] at l2 PR
  have L2:=Lib.hid l2
  have BA : Hid (∀ w2,World.grownBy (w.alloc (.cells #[.int .u64 0,.int .u64 0,.int .i64 0] 259)) w2 (some w.heap.size) → Below w.heap.size w w2):=Lib.hid fun w2 hg=>((Below.refl _ w).alloc (Nat.le_refl _) _).grown hg (by simp) (fun k e=>by injection e with e; omega)
  clear l2 hc hu1 hu2 hu3 hn1 hn2 ha hb hr hd htab hl0 hs0 hs1 hcok
  clear l1 hq hl hod
  go_enter Tryz.func181,Tryz.ntmps181
  go_wp2_with fail
  refine (L1.out _).mono ?_
  rintro e' w' ⟨rfl,rfl⟩
  go_wp2_with fail
  refine (L2.out _).mono ?_
  rintro e' w' ⟨rfl,rfl⟩
  go_wp2_with fail
  refine PR.out.mono ?_
  rintro e' w2 ⟨rfl,hsc,hgr⟩
  have SC:=Lib.hid hsc
  have HB:=Lib.hid (BA.out w2 hgr)
  clear hsc hgr
  go_wp2_with fail
  refine (U1.out _ SC.out).mono ?_
  rintro e' w3 ⟨rfl,k1,rfl⟩
  go_wp2_with fail
  refine (N1.out _).mono ?_
  rintro e' w3 ⟨rfl,rfl⟩
  go_wp2_with fail
  refine (A1.out _).mono ?_
  rintro e' w3 ⟨rfl,rfl⟩
  go_wp2_with fail
  refine (U2.out _ (SC.out.drewN _)).mono ?_
  rintro e' w3 ⟨rfl,k2,rfl⟩
  go_wp2_with fail
  refine (N2.out _).mono ?_
  rintro e' w3 ⟨rfl,rfl⟩
  go_wp2_with fail
  refine (F1.out _).mono ?_
  rintro e' w3 ⟨rfl,rfl⟩
  by_cases hA : a ≤ d * 10
  · have HE2:=HE.out
    rw [if_pos hA] at HE2
    have HE3:=Lib.hid HE2
    clear HE2
    go_wp2
    go_ret2
    rw [HE3.out]
    exact ⟨rfl,below_drewN HB.out _⟩
  · have HE2:=HE.out
    rw [if_neg hA] at HE2
    by_cases hB : a < b
    · rw [if_pos hB] at HE2
      have HE3:=Lib.hid HE2
      clear HE2
      go_wp2_with fail
      refine (U3.out _ (SC.out.drewN _)).mono ?_
      rintro e' w3 ⟨rfl,k3,rfl⟩
      go_wp2_with fail
      refine (R1.out _).mono ?_
      rintro e' w3 ⟨rfl,rfl⟩
      go_wp2
      go_ret2
      rw [HE3.out]
      exact ⟨rfl,below_drewN HB.out _⟩
    · rw [if_neg hB] at HE2
      have HE3:=Lib.hid HE2
      clear HE2
      go_wp2
      go_ret2
      rw [HE3.out]
      exact ⟨rfl,below_drewN HB.out _⟩
end LM
namespace LM
theorem short_sub (m s z2 pw ph : Nat) (e p : Int) (od : Nat) (q0 : Bool) (w : World) (htab : PTab w) (hpt : 11 < w.heap.size) (hm0 : 9223372036854775808 ≤ m) (hq0 : ((m : Int) == 9223372036854775808) = q0) (hm1 : m + ph < 18446744073709551616) (hph0 : ph ≤ m)
    (hs12 : 12 ≤ s) (hs63 : s ≤ 63) (hzz : s = z2 + 1) (hpw : 2 ^ s = pw) (hph : 2 ^ z2 = ph) (he : e = -1074 - (s : Int)) (hp : -(l10I (-1074)) = p) (hp0 : -348 ≤ p) (hp1 : p ≤ 347) (hs0 : e + l2I p + 3 ≤ 0) (hs1 : -63 ≤ e + l2I p + 3) (hod : m / pw % 2 = od) :
    Calls Tryz.prog 181 #[.int .u64 (m : Int),.int .i64 e] w fun r w'=>r = .returned (.tuple #[.int .u64 ((shortT m e p (m - ph) (m + ph) od).1 : Int),.int .i64 (shortT m e p (m - ph) (m + ph) od).2])∧Below w.heap.size w w':=by
  have d0 : decide (-1085 < e) = false:=decide_eq_false (by omega)
  have d2 : decide (-1085 ≤ e) = false:=decide_eq_false (by omega)
  have hphi : (1 : Int) * 2 ^ z2 = (ph : Int):=by rw [← hph]; push_cast; omega
  have hpwi : (2 : Int) ^ s = (pw : Int):=by rw [← hpw]; push_cast; rfl
  have hmin : min s 64 = s:=Nat.min_eq_left (by omega)
  have hmin2 : min z2 64 = z2:=Nat.min_eq_left (by omega)
  have ez : (11 : Int) + (-1085 - e) = (s : Int):=by omega
  have ez1 : (s : Int) - 1 = (z2 : Int):=by omega
  have ezp : e + (s : Int) = -1074:=by omega
  have heb : -1200 ≤ e∧e ≤ -1086:=by omega
  obtain ⟨mn,hmn⟩ : ∃ mn,m - ph = mn:=⟨_,rfl⟩
  obtain ⟨mx,hmx⟩ : ∃ mx,m + ph = mx:=⟨_,rfl⟩
  have hmni : (m : Int) - (ph : Int) = (mn : Int):=by omega
  have hmxi : (m : Int) + (ph : Int) = (mx : Int):=by omega
  rw [hmn,hmx]
  have l1:=fun W=>l10_any (-1074) W (by omega) (by omega)
  obtain ⟨l,hl⟩ : ∃ l,l10I (-1074) = l:=⟨_,rfl⟩
  rw [hl] at hp l1
  obtain ⟨q,hq⟩ : ∃ q,m / pw = q:=⟨_,rfl⟩
  have hqi : (m : Int) / (pw : Int) = (q : Int):=by rw [← hq]; push_cast; rfl
  have hpwl : 4096 ≤ pw:=hpw ▸ Nat.le_trans (by decide) (Nat.pow_le_pow_right (n:=2) (by decide) hs12)
  have hql : q < 9007199254740992:=by
    rw [← hq]
    refine Nat.div_lt_of_lt_mul ?_
    have : 4096 * 9007199254740992 ≤ pw * 9007199254740992:=Nat.mul_le_mul_right _ hpwl
    omega
  have hqo : bits .and .i64 (q : Int) 1 = (od : Int):=by
    have h:=i64_and_nat q 1 (by omega) (by decide)
    have h2 : q &&& 1 = od:=by rw [nat_mask1,← hod,hq]
    rw [h2] at h
    exact h
  have hod2 : od ≤ 1:=by omega
  have L1:=Lib.hid l1
  have l2:=fun W=>l2_any p W (by omega) (by omega)
  have hcok:=mkSc_ok hp0 hp1 hs0 hs1
  have hmnl : mn < 18446744073709551616:=by omega
  have hmxl : mx < 18446744073709551616:=by omega
  have hml : m < 18446744073709551616:=by omega
  obtain ⟨c,hc⟩ : ∃ c,mkSc e p = c:=⟨_,rfl⟩
  obtain ⟨u1,hu1⟩ : ∃ u,uscaleN mn c = u:=⟨_,rfl⟩
  obtain ⟨u2,hu2⟩ : ∃ u,uscaleN mx c = u:=⟨_,rfl⟩
  obtain ⟨u3,hu3⟩ : ∃ u,uscaleN m c = u:=⟨_,rfl⟩
  rw [hc] at hcok
  have hu1l : u1 < 18446744073709551616:=hu1 ▸ uscaleN_lt mn c hmnl hcok
  have hu2l : u2 < 18446744073709551616:=hu2 ▸ uscaleN_lt mx c hmxl hcok
  have hu3l : u3 < 18446744073709551616:=hu3 ▸ uscaleN_lt m c hml hcok
  obtain ⟨n1,hn1⟩ : ∃ u,nudgeN u1 od = u:=⟨_,rfl⟩
  obtain ⟨n2,hn2⟩ : ∃ u,nudgeN u2 (-od) = u:=⟨_,rfl⟩
  have hn1l : n1 < 18446744073709551616:=hn1 ▸ nudgeN_lt u1 od
  have hn2l : n2 < 18446744073709551616:=hn2 ▸ nudgeN_lt u2 (-od)
  obtain ⟨a,ha⟩ : ∃ u,ceilN n1 = u:=⟨_,rfl⟩
  obtain ⟨b,hb⟩ : ∃ u,floorN n2 = u:=⟨_,rfl⟩
  obtain ⟨r,hr⟩ : ∃ u,roundN u3 = u:=⟨_,rfl⟩
  obtain ⟨d,hd⟩ : ∃ d,b / 10 = d:=⟨_,rfl⟩
  have hdi : (b : Int) / 10 = (d : Int):=by omega
  have hal : a < 4611686018427387904:=ha ▸ ceilN_lt n1
  have hbl : b < 4611686018427387904:=hb ▸ floorN_lt hn2l
  have hdl : d < 4611686018427387904 / 10 + 1:=by omega
  have hrl : r < 4611686018427387904:=hr ▸ roundN_lt u3
  have HE : Hid (shortT m e p mn mx od = if a ≤ d * 10 then (d,-(p - 1)) else if a < b then (r,-p) else (a,-p)):=Lib.hid (by
    unfold shortT
    rw [hc,hu1,hu2,hu3,hn1,hn2,ha,hb,hr,hd])
  have U1 : Hid (∀ W,ScAt W w.heap.size c → _):=Lib.hid fun W h=>uscale_any mn w.heap.size c W hmnl hcok h
  have U2 : Hid (∀ W,ScAt W w.heap.size c → _):=Lib.hid fun W h=>uscale_any mx w.heap.size c W hmxl hcok h
  have U3 : Hid (∀ W,ScAt W w.heap.size c → _):=Lib.hid fun W h=>uscale_any m w.heap.size c W hml hcok h
  rw [hu1] at U1
  rw [hu2] at U2
  rw [hu3] at U3
  have N1:=Lib.hid fun W=>nudge_any u1 od W hu1l (by omega)
  have N2:=Lib.hid fun W=>nudge_any u2 (-od) W hu2l (by omega)
  rw [hn1] at N1
  rw [hn2] at N2
  have A1:=Lib.hid fun W=>ceil_any n1 W hn1l
  have F1:=Lib.hid fun W=>floor_any n2 W hn2l
  have R1:=Lib.hid fun W=>round_unr u3 W hu3l
  rw [ha] at A1
  rw [hb] at F1
  rw [hr] at R1
  have PR:=Lib.hid (prescale_any w.heap.size e p (.int .u64 0) (.int .u64 0) (.int .i64 0) (w.alloc (.cells #[.int .u64 0,.int .u64 0,.int .i64 0] 259)) (htab.alloc hpt _) (heap_alloc_new w _) (by omega) hp0 hp1 (by omega) (by omega) hs0)
  rw [hc] at PR
  obtain ⟨l0,hl0⟩ : ∃ l,l2I p = l:=⟨_,rfl⟩
  rw [hl0] at l2 PR
  have L2:=Lib.hid l2
  have BA : Hid (∀ w2,World.grownBy (w.alloc (.cells #[.int .u64 0,.int .u64 0,.int .i64 0] 259)) w2 (some w.heap.size) → Below w.heap.size w w2):=Lib.hid fun w2 hg=>((Below.refl _ w).alloc (Nat.le_refl _) _).grown hg (by simp) (fun k e=>by injection e with e; omega)
  clear l2 hc hu1 hu2 hu3 hn1 hn2 ha hb hr hd htab hl0 hs0 hs1 hcok
  clear l1 hq hl hod hph hpw he hpwl hzz
  cases q0
  all_goals
    go_enter Tryz.func181,Tryz.ntmps181
    go_wp2_with fail
    refine (L1.out _).mono ?_
    rintro e' w' ⟨rfl,rfl⟩
    go_wp2_with fail
    refine (L2.out _).mono ?_
    rintro e' w' ⟨rfl,rfl⟩
    go_wp2_with fail
    refine PR.out.mono ?_
    rintro e' w2 ⟨rfl,hsc,hgr⟩
    have SC:=Lib.hid hsc
    have HB:=Lib.hid (BA.out w2 hgr)
    clear hsc hgr
    go_wp2_with fail
    refine (U1.out _ SC.out).mono ?_
    rintro e' w3 ⟨rfl,k1,rfl⟩
    go_wp2_with fail
    refine (N1.out _).mono ?_
    rintro e' w3 ⟨rfl,rfl⟩
    go_wp2_with fail
    refine (A1.out _).mono ?_
    rintro e' w3 ⟨rfl,rfl⟩
    go_wp2_with fail
    refine (U2.out _ (SC.out.drewN _)).mono ?_
    rintro e' w3 ⟨rfl,k2,rfl⟩
    go_wp2_with fail
    refine (N2.out _).mono ?_
    rintro e' w3 ⟨rfl,rfl⟩
    go_wp2_with fail
    refine (F1.out _).mono ?_
    rintro e' w3 ⟨rfl,rfl⟩
    by_cases hA : a ≤ d * 10
    · have HE2:=HE.out
      rw [if_pos hA] at HE2
      have HE3:=Lib.hid HE2
      clear HE2
      go_wp2
      go_ret2
      rw [HE3.out]
      exact ⟨rfl,below_drewN HB.out _⟩
    · have HE2:=HE.out
      rw [if_neg hA] at HE2
      by_cases hB : a < b
      · rw [if_pos hB] at HE2
        have HE3:=Lib.hid HE2
        clear HE2
        go_wp2_with fail
        refine (U3.out _ (SC.out.drewN _)).mono ?_
        rintro e' w3 ⟨rfl,k3,rfl⟩
        go_wp2_with fail
        refine (R1.out _).mono ?_
        rintro e' w3 ⟨rfl,rfl⟩
        go_wp2
        go_ret2
        rw [HE3.out]
        exact ⟨rfl,below_drewN HB.out _⟩
      · rw [if_neg hB] at HE2
        have HE3:=Lib.hid HE2
        clear HE2
        go_wp2
        go_ret2
        rw [HE3.out]
        exact ⟨rfl,below_drewN HB.out _⟩
end LM
end Go.Proofs.YtihbgghlnppkiaaGreatDoor
