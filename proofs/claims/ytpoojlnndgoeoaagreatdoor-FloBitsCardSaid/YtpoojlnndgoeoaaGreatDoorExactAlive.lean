/- What every statement of layer 2 asks first. -/
import Derived.Test.YtpoojlnndgoeoaaGreatDoorLimbY
import Derived.Test.YtpoojlnndgoeoaaGreatDoorLimbO
import Derived.Test.YtpoojlnndgoeoaaGreatDoorLimbMath
import Derived.Test.YtpoojlnndgoeoaaGreatDoorLimbT
import Derived.Test.YtpoojlnndgoeoaaGreatDoorLimbL
import Derived.Test.YtpoojlnndgoeoaaGreatDoorLimbM
import Derived.Handy
import Derived.Test.YtpoojlnndgoeoaaGreatDoorExactF
namespace Go.Proofs.YtpoojlnndgoeoaaGreatDoor
open Go.RowKit
namespace LM

/-- where the loop stands when k limbs are done -/
def MiRel (w : World) (xs ys : List Nat) (v b i : Value) (wr : World) : Prop :=
  ∃ (k : Nat) (zs : List Nat) (br : Nat), k ≤ xs.length ∧ i = .int .i64 (k : Int) ∧ b = .int .u64 (br : Int) ∧ br ≤ 1 ∧ zs.length = k ∧ Lm zs ∧
    val zs + val (ys.take k) = val (xs.take k) + 4294967296 ^ k * br ∧ wr.ownsRow w.heap.size 88 1 v zs.length (U zs) ∧ Below w.heap.size w wr

theorem take_same {xs ys : List Nat} (hx : Lm xs) (h : val ys ≤ val xs) : val (ys.take xs.length) = val ys := by
  have e := val_split ys xs.length
  have h1 := val_lt hx
  rcases Nat.lt_or_ge ys.length xs.length with h2 | h2
  · rw [List.take_of_length_le (by omega)]
  · rw [Nat.min_eq_left h2] at e
    have h0 : val (ys.drop xs.length) = 0 := by
      rcases Nat.eq_zero_or_pos (val (ys.drop xs.length)) with h3 | h3
      · exact h3
      · have := Nat.mul_le_mul_left (4294967296 ^ xs.length) h3
        omega
    rw [h0] at e; omega
theorem minus_end {xs ys zs : List Nat} {br : Nat} (hz : zs.length = xs.length) (hzL : Lm zs) (hx : Lm xs) (hb : br ≤ 1) (hle : val ys ≤ val xs)
    (h : val zs + val (ys.take xs.length) = val (xs.take xs.length) + 4294967296 ^ xs.length * br) : val zs = val xs - val ys := by
  rw [take_same hx hle, List.take_length] at h
  have e1 := val_lt hzL
  rw [hz] at e1
  generalize 4294967296 ^ xs.length = P at *
  have h3 : br = 0 ∨ br = 1 := by omega
  rcases h3 with rfl | rfl
  · rw [Nat.mul_zero] at h; omega
  · rw [Nat.mul_one] at h; omega

set_option maxRecDepth 100000 in
set_option maxHeartbeats 1000000 in
theorem rminus_any (A B : Option Addr) (ca cb : Nat) (xs ys : List Nat) (w : World) (ha : Rd w A xs) (hb : Rd w B ys) (hx : Lm xs) (hy : Lm ys) (hlx : xs.length ≤ 10000) (hly : ys.length ≤ 10000) (hle : val ys ≤ val xs) :
    Calls Tryz.prog 101 #[.slice A xs.length ca, .slice B ys.length cb] w fun e w' => (∃ v, e = .returned v ∧ NumR w' v (val xs - val ys)) ∧ Below w.heap.size w w' := by
  obtain ⟨i0, hi0, hz0, hz1, hz2⟩ := info_parts u32_info
  have K1 := Lib.hid (fun k y W h hk (hy : xs[k]?.getD 0 = y) => rat_any A ca xs k y W h hk (by omega) hy (by rw [← hy]; exact hx.get k))
  have K2 := Lib.hid (fun k y W h hk (hv : ys[k]?.getD 0 = y) => rat_any B cb ys k y W h hk (by omega) hv (by rw [← hv]; exact hy.get k))
  have HLE := Lib.hid hle
  have hrow : (w.alloc (.cells #[] 88)).ownsRow w.heap.size 88 1 (.slice (some ⟨w.heap.size, 0, none⟩) 0 0) 0 [] :=
    ⟨rfl, .inr ⟨w.heap.size, 0, #[], rfl, Nat.le_refl _, heap_alloc_new w _, Nat.le_refl _, by decide, rfl, rfl⟩⟩
  clear hle
  go_enter Tryz.func101, Tryz.ntmps101
  go_wp2
  go_loopw [5, 6, 12] (fun v b i wr => MiRel w xs ys v b i wr) (fun _ _ i _ => xs.length - (intOf i).toNat)
  case atStart => exact ⟨0, [], 0, Nat.zero_le _, rfl, rfl, by decide, rfl, Lm.nil, by simp [val], hrow, (Below.refl _ _).alloc (Nat.le_refl _) _⟩
  case round =>
    clear hrow
    obtain ⟨k, zs, br, hk, rfl, rfl, hbr, hzl, hzL, hv, hown, hbe⟩ := hrel
    have HV := Lib.hid hv
    have HZ := Lib.hid hzl
    clear hv
    have hra := ha.below hbe
    have hrb := hb.below hbe
    have hbs := hbe.size
    by_cases hlt : k < xs.length
    · have hxk := hx.get k
      have hyk := hy.get k
      have hst := sub_step (xs := xs) (ys := ys) (d := (xs[k]?.getD 0 + 4294967296 - ys[k]?.getD 0 - br) % 4294967296) (b' := 1 - (xs[k]?.getD 0 + 4294967296 - ys[k]?.getD 0 - br) / 4294967296) hzl HV.out (dif_step hxk hyk hbr).1
      have c1 := K1.out k
      have c2 := K2.out k
      generalize hxe : xs[k]?.getD 0 = x at *
      generalize hye : ys[k]?.getD 0 = y at *
      have HST := Lib.hid hst
      have C1 := Lib.hid c1
      have C2 := Lib.hid c2
      clear hst c1 c2 hxe hye hzl
      rw [HZ.out] at hown
      go_wp2_with fail
      refine (C1.out _ _ hra (by omega) rfl).mono ?_; rintro e w1 ⟨rfl, rfl⟩
      go_wp2_with fail
      refine (C2.out _ _ hrb (by omega) rfl).mono ?_; rintro e w1 ⟨rfl, rfl⟩
      go_wp2_with (at_builtin; refine wpList_append_own _ rfl _ _ 39 rfl w.heap.size 88 i0 (.int .u32 0) 1 4 Tryz.underlying39 hi0 hz0 hz1 hz2 rfl (by decide) _ _ _ rfl (hown.alloc _) ⟨wr.heap.size, 0, none⟩ 1 1 [.int .u32 (((x : Int) + 4294967296 - (y : Int) - (br : Int)) % 4294967296)] rfl rfl (cell_one_new _ _ _) (by simp [Value.oneCell']) (by unfold maxLen; omega) (by omega) (by simp; omega) ?_; intro v1 w1 hown1 hg1 _)
      go_roundw
      case rel =>
        refine ⟨k + 1, zs ++ [(x + 4294967296 - y - br) % 4294967296], 1 - (x + 4294967296 - y - br) / 4294967296, by omega, by go_num, by congr 1; omega, by omega, by simp [HZ.out], hzL.snoc (Nat.mod_lt _ (by decide)), HST.out, ?_, ?_⟩
        · have e : (zs ++ [(x + 4294967296 - y - br) % 4294967296]).length = k + 1 := by simp [HZ.out]
          rw [e, U_append]
          have e2 : (((x : Int) + 4294967296 - (y : Int) - (br : Int)) % 4294967296) = (((x + 4294967296 - y - br) % 4294967296 : Nat) : Int) := by omega
          rw [e2] at hown1
          exact hown1
        · exact (hbe.alloc hbs _).grown hg1 (by simp; omega) (fun b e => plus_block hown e)
      case measure => simp [intOf]; omega
    · obtain rfl : k = xs.length := by omega
      have hend := minus_end hzl hzL hx hbr HLE.out HV.out
      obtain ⟨A1, c1, rfl, hrz, hnz⟩ := own_rd hown
      have HEND := Lib.hid hend
      have HOW := Lib.hid hown
      have hzn : zs.length ≤ 20002 := by omega
      clear hend hown hzl
      go_wp2_with fail
      refine (rtrim_any A1 c1 zs wr hrz hzL (by omega) hnz).mono ?_
      rintro e w1 ⟨⟨v, rfl, hn⟩, hb1⟩
      rw [HEND.out] at hn
      have HN := Lib.hid hn
      have HB := Lib.hid hb1
      clear hn hb1
      go_wp2
      go_ret
      exact ⟨⟨v, rfl, HN.out⟩, hbe.trans (HB.out.mono hbs)⟩

end LM
end Go.Proofs.YtpoojlnndgoeoaaGreatDoor

namespace Go.Proofs.YtpoojlnndgoeoaaGreatDoor
open Go.RowKit
namespace LM

theorem numR_keep {w w' : World} {v : Value} {n : Nat} (h : NumR w v n) (hb : Below w.heap.size w w') : NumR w' v n := by
  obtain ⟨A, c, r, e, h1, h2, h3, h4⟩ := h
  exact ⟨A, c, r, e, h1, h2.below hb, h3, h4⟩
theorem num_len {r : List Nat} {n k : Nat} (hc : Can r) (hv : val r = n) (hn : n < 4294967296 ^ k) : r.length ≤ k := by
  rcases Nat.lt_or_ge k r.length with h | h
  · have := (can_len hc k).1 h
    omega
  · exact h

theorem plus_len {r2 r s : List Nat} (h2 : Can r2) (hr : Lm r) (hs : Lm s) (hv : val r2 = val r + val s) : r2.length ≤ max r.length s.length + 1 := by
  refine num_len h2 rfl ?_
  have e1 := val_len_lt hr (Nat.le_max_left r.length s.length)
  have e2 := val_len_lt hs (Nat.le_max_right r.length s.length)
  rw [hv, Nat.pow_succ]
  generalize 4294967296 ^ max r.length s.length = P at *
  omega
theorem times_bound {xs ys : List Nat} (hx : Lm xs) (hy : Lm ys) (n : Nat) : val xs * (val ys / 2 ^ n) < 4294967296 ^ (xs.length + ys.length) := by
  have h1 := val_lt hx
  have h2 := val_lt hy
  have h3 := Nat.div_le_self (val ys) (2 ^ n)
  rw [Nat.pow_add]
  exact Nat.mul_lt_mul'' h1 (Nat.lt_of_le_of_lt h3 h2)
theorem times_len {xs ys r : List Nat} {n : Nat} (hx : Lm xs) (hy : Lm ys) (hr : Can r) (hv : val r = val xs * (val ys / 2 ^ n)) : r.length ≤ xs.length + ys.length := num_len hr hv (times_bound hx hy n)
theorem bit_and {ys : List Nat} (hy : Lm ys) (m : Nat) : bits .and .u32 (((ys[m / 32]?.getD 0 : Nat) : Int) / 2 ^ (m % 32)) 1 = ((bitAt ys m : Nat) : Int) := by
  have h := hy.get (m / 32)
  have h1 := b32_and (ys[m / 32]?.getD 0 / 2 ^ (m % 32)) 1 (Nat.lt_of_le_of_lt (Nat.div_le_self _ _) h) (by decide)
  rw [Nat.and_one_is_mod, ← cast_div] at h1
  exact h1

theorem bit0 (a b : Nat) : a * b + a * b = a * (2 * b + 0) := by grind
theorem bit1 (a b : Nat) : a * b + a * b + a = a * (2 * b + 1) := by grind

/-- where the loop stands when the bits from n on are done -/
def TiRel (w : World) (xs ys : List Nat) (v i : Value) (wr : World) : Prop :=
  ∃ n : Nat, n ≤ 32 * ys.length ∧ i = .int .i64 ((n : Int) - 1) ∧ NumR wr v (val xs * (val ys / 2 ^ n)) ∧ Below w.heap.size w wr

end LM
end Go.Proofs.YtpoojlnndgoeoaaGreatDoor

namespace Go.Proofs.YtpoojlnndgoeoaaGreatDoor
open Go.RowKit
namespace LM

/-- the order of two numbers with signs -/
def cmpS (a : Bool) (m : Nat) (b : Bool) (n : Nat) : Int := if a then (if b then cmpN n m else -1) else (if b then 1 else cmpN m n)

set_option maxRecDepth 100000 in
set_option maxHeartbeats 1000000 in
theorem ecmp_any (a b : Bool) (A B : Option Addr) (ca cb : Nat) (xs ys : List Nat) (w : World) (ha : Rd w A xs) (hb : Rd w B ys) (hx : Lm xs) (hy : Lm ys) (hca : xs.length ≤ ca) (hcb : ys.length ≤ cb) (hcam : ca ≤ 9223372036854775807) (hcbm : cb ≤ 9223372036854775807) (hxl : xs.length ≤ 1000000) (hyl : ys.length ≤ 1000000) :
    Calls Tryz.prog 59 #[.agg #[.bool a, .slice A xs.length ca], .agg #[.bool b, .slice B ys.length cb]] w fun e w' => e = .returned (.int .i64 (cmpS a (val xs) b (val ys))) ∧ Below w.heap.size w w' := by
  have h1 := fun W (k : Below w.heap.size w W) => cmp_any A B ca cb xs ys W (ha.below k) (hb.below k) hx hy hca hcb hcam hcbm hxl
  have h2 := fun W (k : Below w.heap.size w W) => cmp_any B A cb ca ys xs W (hb.below k) (ha.below k) hy hx hcb hca hcbm hcam hyl
  have H1 := Lib.hid h1
  have H2 := Lib.hid h2
  have bw : ∀ o1 o2 : Obj, Below w.heap.size w ((w.alloc o1).alloc o2) := fun o1 o2 => ((Below.refl _ w).alloc (Nat.le_refl _) _).alloc (by simp) _
  have BW := Lib.hid bw
  clear h1 h2 ha hb bw
  cases a <;> cases b
  · go_enter Tryz.func59, Tryz.ntmps59
    go_wp2_with fail
    refine (H1.out _ (BW.out _ _)).mono ?_
    rintro e w1 ⟨rfl, b1⟩
    go_wp2
    go_ret
    exact ⟨rfl, (BW.out _ _).trans (b1.mono (by simp; omega))⟩
  · go_enter Tryz.func59, Tryz.ntmps59
    go_wp2
    go_ret
    exact ⟨rfl, BW.out _ _⟩
  · go_enter Tryz.func59, Tryz.ntmps59
    go_wp2
    go_ret
    exact ⟨rfl, BW.out _ _⟩
  · go_enter Tryz.func59, Tryz.ntmps59
    go_wp2_with fail
    refine (H2.out _ (BW.out _ _)).mono ?_
    rintro e w1 ⟨rfl, b1⟩
    go_wp2
    go_ret
    exact ⟨rfl, (BW.out _ _).trans (b1.mono (by simp; omega))⟩


theorem cmpI_sg2 (s t : Bool) (m n : Nat) (hs : s = (s && decide (0 < m))) (ht : t = (t && decide (0 < n))) : cmpI (sg s m) (sg t n) = cmpS s m t n := by
  refine cmpI_sg s t m n (fun h => ?_) (fun h => ?_)
  · subst h; simp at hs; exact hs
  · subst h; simp at ht; exact ht
theorem ecmp_int {va vb : Value} {x y : Int} {w : World} (ha : IntV w va x) (hb : IntV w vb y) (hx : ¬ BigI x) (hy : ¬ BigI y) :
    Calls Tryz.prog 59 #[va, vb] w fun e w' => e = .returned (.int .i64 (cmpI x y)) ∧ Below w.heap.size w w' := by
  obtain ⟨A, ca, xs, rfl, h1, h2, h3, h4, h5⟩ := ha
  obtain ⟨B, cb, ys, rfl, k1, k2, k3, k4, k5⟩ := hb
  have l1 : xs.length ≤ 64 := len_not_big h4 (by rw [h5]; exact hx)
  have l2 : ys.length ≤ 64 := len_not_big k4 (by rw [k5]; exact hy)
  have h := ecmp_any (decide (x < 0)) (decide (y < 0)) A B ca cb xs ys w h3 k3 h4.1 k4.1 h1 k1 h2 k2 (by omega) (by omega)
  rw [h5, k5, ← cmpI_sg2 _ _ _ _ (by rw [← sg_neg, sg_of]) (by rw [← sg_neg, sg_of]), sg_of, sg_of] at h
  exact h
theorem cmpI_zero {x y : Int} : (cmpI x y == 0) = decide (x = y) := by
  unfold cmpI
  by_cases h : x < y
  · rw [if_pos h, decide_eq_false (by omega)]; rfl
  · rw [if_neg h]
    by_cases h2 : y < x
    · rw [if_pos h2, decide_eq_false (by omega)]; rfl
    · rw [if_neg h2, decide_eq_true (by omega)]; rfl
theorem cmpI_lt {x y : Int} (h : x < y) : cmpI x y = -1 := if_pos h
theorem cmpI_gt {x y : Int} (h : y < x) : cmpI x y = 1 := by unfold cmpI; rw [if_neg (by omega), if_pos h]
theorem cmpI_eq {x y : Int} (h : x = y) : cmpI x y = 0 := by unfold cmpI; rw [if_neg (by omega), if_neg (by omega)]
theorem IntV.bx {w : World} {v : Value} {z : Int} (h : IntV w v z) : ∃ A n c, v = .agg #[.bool (decide (z < 0)), .slice A n c] := by
  obtain ⟨A, n, c, e, _⟩ := h.open
  exact ⟨A, n, c, e⟩
theorem newp2 (w : World) (s t : Bool) (A B : Option Addr) (n c m d : Nat) :
    Below w.heap.size w ((w.alloc (.cells #[.bool s, .slice A n c] 41)).alloc (.cells #[.bool t, .slice B m d] 41)) ∧
    Bx ((w.alloc (.cells #[.bool s, .slice A n c] 41)).alloc (.cells #[.bool t, .slice B m d] 41)) w.heap.size s A n c ∧
    Bx ((w.alloc (.cells #[.bool s, .slice A n c] 41)).alloc (.cells #[.bool t, .slice B m d] 41)) (w.heap.size + 1) t B m d := by
  refine ⟨((Below.refl _ w).alloc (Nat.le_refl _) _).alloc (by simp) _, (Bx.new w s A n c).alloc _, ?_⟩
  have h := Bx.new (w.alloc (.cells #[.bool s, .slice A n c] 41)) t B m d
  rw [World.size_alloc] at h
  exact h

end LM
end Go.Proofs.YtpoojlnndgoeoaaGreatDoor

namespace Go.Proofs.YtpoojlnndgoeoaaGreatDoor
open Go.RowKit
namespace LM

theorem RetI.gen {w w' : World} {z : Int} {e : Ending} (h : RetI w z e w') : ∃ s A n c, e = .returned (.agg #[.bool s, .slice A n c]) ∧ IntV w' (.agg #[.bool s, .slice A n c]) z ∧ Below w.heap.size w w' := by
  obtain ⟨A, n, c, h1, h2, h3⟩ := h
  exact ⟨_, A, n, c, h1, h2, h3⟩
theorem small_not_big {z : Int} (h : z.natAbs < 18446744073709551616 * 4294967296) : ¬ BigI z := by
  intro hb
  have h1 : 4294967296 ^ 3 ≤ 4294967296 ^ 64 := Nat.pow_le_pow_right (by decide) (by decide)
  have h2 : (4294967296 : Nat) ^ 3 = 18446744073709551616 * 4294967296 := by decide
  unfold BigI BIG at hb
  omega
theorem dec_small {n : Nat} (h : n < 10) : Lib.decDigits n = [UInt8.ofNat (48 + n)] := Lib.decDigits_one h

end LM
end Go.Proofs.YtpoojlnndgoeoaaGreatDoor
