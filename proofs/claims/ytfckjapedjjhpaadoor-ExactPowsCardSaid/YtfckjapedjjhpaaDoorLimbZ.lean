/- Walks: the document's answer Minus. -/
import Derived.Test.YtfckjapedjjhpaaDoorLimbY
import Derived.Test.YtfckjapedjjhpaaDoorLimbO
namespace Go.Proofs.YtfckjapedjjhpaaDoor
open Go.RowKit
namespace LM

/-- where the loop stands when k limbs are done -/
def MiRel (w : World) (xs ys : List Nat) (v b i : Value) (wr : World) : Prop :=
  ∃ (k : Nat) (zs : List Nat) (br : Nat), k ≤ xs.length ∧ i = .int .i64 (k : Int) ∧ b = .int .u64 (br : Int) ∧ br ≤ 1 ∧ zs.length = k ∧ Lm zs ∧
    val zs + val (ys.take k) = val (xs.take k) + 4294967296 ^ k * br ∧ wr.ownsRow w.heap.size 51 1 v zs.length (U zs) ∧ Below w.heap.size w wr

theorem take_same {xs ys : List Nat} (hx : Lm xs) (h : val ys ≤ val xs) : val (ys.take xs.length) = val ys := by
  have e := val_split ys xs.length
  have h1 := val_lt hx
  rcases Nat.lt_or_ge ys.length xs.length with h2 | h2
  · rw [List.take_of_length_le (by omega)]
  · rw [Nat.min_eq_left h2] at e
    have h0 : val (ys.drop xs.length) = 0 := by
      rcases Nat.eq_zero_or_pos (val (ys.drop xs.length)) with h3 | h3
      · exact h3
      · have := Nat.mul_le_mul_left (4294967296 ^ xs.length) h3
        omega
    rw [h0] at e; omega
theorem minus_end {xs ys zs : List Nat} {br : Nat} (hz : zs.length = xs.length) (hzL : Lm zs) (hx : Lm xs) (hb : br ≤ 1) (hle : val ys ≤ val xs)
    (h : val zs + val (ys.take xs.length) = val (xs.take xs.length) + 4294967296 ^ xs.length * br) : val zs = val xs - val ys := by
  rw [take_same hx hle, List.take_length] at h
  have e1 := val_lt hzL
  rw [hz] at e1
  generalize 4294967296 ^ xs.length = P at *
  have h3 : br = 0 ∨ br = 1 := by omega
  rcases h3 with rfl | rfl
  · rw [Nat.mul_zero] at h; omega
  · rw [Nat.mul_one] at h; omega

set_option maxRecDepth 100000 in
set_option maxHeartbeats 1000000 in
theorem rminus_any (A B : Option Addr) (ca cb : Nat) (xs ys : List Nat) (w : World) (ha : Rd w A xs) (hb : Rd w B ys) (hx : Lm xs) (hy : Lm ys) (hlx : xs.length ≤ 10000) (hly : ys.length ≤ 10000) (hle : val ys ≤ val xs) :
    Calls Tryd.prog 78 #[.slice A xs.length ca, .slice B ys.length cb] w fun e w' => (∃ v, e = .returned v ∧ NumR w' v (val xs - val ys)) ∧ Below w.heap.size w w' := by
  obtain ⟨i0, hi0, hz0, hz1, hz2⟩ := info_parts u32_info
  have K1 := Lib.hid (fun k y W h hk (hy : xs[k]?.getD 0 = y) => rat_any A ca xs k y W h hk (by omega) hy (by rw [← hy]; exact hx.get k))
  have K2 := Lib.hid (fun k y W h hk (hv : ys[k]?.getD 0 = y) => rat_any B cb ys k y W h hk (by omega) hv (by rw [← hv]; exact hy.get k))
  have HLE := Lib.hid hle
  have hrow : (w.alloc (.cells #[] 51)).ownsRow w.heap.size 51 1 (.slice (some ⟨w.heap.size, 0, none⟩) 0 0) 0 [] :=
    ⟨rfl, .inr ⟨w.heap.size, 0, #[], rfl, Nat.le_refl _, heap_alloc_new w _, Nat.le_refl _, by decide, rfl, rfl⟩⟩
  clear hle
  go_enter Tryd.func78, Tryd.ntmps78
  go_wp2
  go_loopw [5, 6, 12] (fun v b i wr => MiRel w xs ys v b i wr) (fun _ _ i _ => xs.length - (intOf i).toNat)
  case atStart => exact ⟨0, [], 0, Nat.zero_le _, rfl, rfl, by decide, rfl, Lm.nil, by simp [val], hrow, (Below.refl _ _).alloc (Nat.le_refl _) _⟩
  case round =>
    clear hrow
    obtain ⟨k, zs, br, hk, rfl, rfl, hbr, hzl, hzL, hv, hown, hbe⟩ := hrel
    have HV := Lib.hid hv
    have HZ := Lib.hid hzl
    clear hv
    have hra := ha.below hbe
    have hrb := hb.below hbe
    have hbs := hbe.size
    by_cases hlt : k < xs.length
    · have hxk := hx.get k
      have hyk := hy.get k
      have hst := sub_step (xs := xs) (ys := ys) (d := (xs[k]?.getD 0 + 4294967296 - ys[k]?.getD 0 - br) % 4294967296) (b' := 1 - (xs[k]?.getD 0 + 4294967296 - ys[k]?.getD 0 - br) / 4294967296) hzl HV.out (dif_step hxk hyk hbr).1
      have c1 := K1.out k
      have c2 := K2.out k
      generalize hxe : xs[k]?.getD 0 = x at *
      generalize hye : ys[k]?.getD 0 = y at *
      have HST := Lib.hid hst
      have C1 := Lib.hid c1
      have C2 := Lib.hid c2
      clear hst c1 c2 hxe hye hzl
      rw [HZ.out] at hown
      go_wp2_with fail
      refine (C1.out _ _ hra (by omega) rfl).mono ?_; rintro e w1 ⟨rfl, rfl⟩
      go_wp2_with fail
      refine (C2.out _ _ hrb (by omega) rfl).mono ?_; rintro e w1 ⟨rfl, rfl⟩
      go_wp2_with (at_builtin; refine wpList_append_own _ rfl _ _ 22 rfl w.heap.size 51 i0 (.int .u32 0) 1 4 Tryd.underlying22 hi0 hz0 hz1 hz2 rfl (by decide) _ _ _ rfl (hown.alloc _) ⟨wr.heap.size, 0, none⟩ 1 1 [.int .u32 (((x : Int) + 4294967296 - (y : Int) - (br : Int)) % 4294967296)] rfl rfl (cell_one_new _ _ _) (by simp [Value.oneCell']) (by unfold maxLen; omega) (by omega) (by simp; omega) ?_; intro v1 w1 hown1 hg1 _)
      go_roundw
      case rel =>
        refine ⟨k + 1, zs ++ [(x + 4294967296 - y - br) % 4294967296], 1 - (x + 4294967296 - y - br) / 4294967296, by omega, by go_num, by congr 1; omega, by omega, by simp [HZ.out], hzL.snoc (Nat.mod_lt _ (by decide)), HST.out, ?_, ?_⟩
        · have e : (zs ++ [(x + 4294967296 - y - br) % 4294967296]).length = k + 1 := by simp [HZ.out]
          rw [e, U_append]
          have e2 : (((x : Int) + 4294967296 - (y : Int) - (br : Int)) % 4294967296) = (((x + 4294967296 - y - br) % 4294967296 : Nat) : Int) := by omega
          rw [e2] at hown1
          exact hown1
        · exact (hbe.alloc hbs _).grown hg1 (by simp; omega) (fun b e => plus_block hown e)
      case measure => simp [intOf]; omega
    · obtain rfl : k = xs.length := by omega
      have hend := minus_end hzl hzL hx hbr HLE.out HV.out
      obtain ⟨A1, c1, rfl, hrz, hnz⟩ := own_rd hown
      have HEND := Lib.hid hend
      have HOW := Lib.hid hown
      have hzn : zs.length ≤ 20002 := by omega
      clear hend hown hzl
      go_wp2_with fail
      refine (rtrim_any A1 c1 zs wr hrz hzL (by omega) hnz).mono ?_
      rintro e w1 ⟨⟨v, rfl, hn⟩, hb1⟩
      rw [HEND.out] at hn
      have HN := Lib.hid hn
      have HB := Lib.hid hb1
      clear hn hb1
      go_wp2
      go_ret
      exact ⟨⟨v, rfl, HN.out⟩, hbe.trans (HB.out.mono hbs)⟩

end LM
end Go.Proofs.YtfckjapedjjhpaaDoor
