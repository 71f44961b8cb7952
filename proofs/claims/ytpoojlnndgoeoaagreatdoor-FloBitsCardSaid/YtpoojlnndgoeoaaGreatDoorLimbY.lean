/- Walks: the document's answer Plus. -/
import Derived.Test.YtpoojlnndgoeoaaGreatDoorLimbU
import Derived.Test.YtpoojlnndgoeoaaGreatDoorLimbL
namespace Go.Proofs.YtpoojlnndgoeoaaGreatDoor
open Go.RowKit
namespace LM

def padV (xs : List Nat) (n : Nat) : List Nat := xs ++ List.replicate (n - xs.length) 0
theorem padV_val (xs : List Nat) (n : Nat) : val (padV xs n) = val xs := by rw [padV, val_append, val_replicate]; simp
theorem padV_len {xs : List Nat} {n : Nat} (h : xs.length ≤ n) : (padV xs n).length = n := by simp [padV]; omega
theorem padV_lm {xs : List Nat} (h : Lm xs) (n : Nat) : Lm (padV xs n) := h.append (Lm.replicate _)
theorem padV_get (xs : List Nat) (n j : Nat) : (padV xs n)[j]?.getD 0 = xs[j]?.getD 0 := by
  unfold padV
  rcases Nat.lt_or_ge j xs.length with h | h
  · rw [List.getElem?_append_left h]
  · rw [List.getElem?_append_right h, List.getElem?_eq_none (l := xs) h, List.getElem?_replicate]
    split <;> rfl
theorem get_lt_at {xs ys : List Nat} (hx : Lm xs) {k : Nat} (he : ∀ j, k < j → xs[j]?.getD 0 = ys[j]?.getD 0) (h : xs[k]?.getD 0 < ys[k]?.getD 0) : val xs < val ys := by
  have hk : k < ys.length := by
    rcases Nat.lt_or_ge k ys.length with h1 | h1
    · exact h1
    · rw [List.getElem?_eq_none h1] at h; simp at h
  have h1 := val_lt_at (xt := padV xs (max xs.length ys.length)) (yt := padV ys (max xs.length ys.length)) (padV_lm hx _) (by rw [padV_len (by omega), padV_len (by omega)]) (k := k) (by rw [padV_len (by omega)]; omega)
    (fun j hj => by rw [padV_get, padV_get]; exact he j hj) (by rw [padV_get, padV_get]; exact h)
  rwa [padV_val, padV_val] at h1
theorem get_eq_all {xs ys : List Nat} (he : ∀ j : Nat, xs[j]?.getD 0 = ys[j]?.getD 0) : val xs = val ys := by
  rw [← padV_val xs (max xs.length ys.length), ← padV_val ys (max xs.length ys.length)]
  congr 1
  refine eq_all (by rw [padV_len (by omega), padV_len (by omega)]) (fun j _ => ?_)
  rw [padV_get, padV_get]; exact he j

/-- all limbs from this place on are the same -/
def EqFrom (xs ys : List Nat) (j : Nat) : Prop := ∀ i, j ≤ i → xs[i]?.getD 0 = ys[i]?.getD 0

set_option maxRecDepth 100000 in
set_option maxHeartbeats 1000000 in
theorem rcmp_any (A B : Option Addr) (ca cb : Nat) (xs ys : List Nat) (w : World) (ha : Rd w A xs) (hb : Rd w B ys) (hx : Lm xs) (hy : Lm ys) (hlx : xs.length ≤ 10000) (hly : ys.length ≤ 10000) :
    Calls Tryz.prog 100 #[.slice A xs.length ca, .slice B ys.length cb] w fun e w' => e = .returned (.int .i64 (cmpN (val xs) (val ys))) ∧ w = w' := by
  have K1 := Lib.hid (fun k y W h hk (hy : xs[k]?.getD 0 = y) => rat_any A ca xs k y W h hk (by omega) hy (by rw [← hy]; exact hx.get k))
  have K2 := Lib.hid (fun k y W h hk (hv : ys[k]?.getD 0 = y) => rat_any B cb ys k y W h hk (by omega) hv (by rw [← hv]; exact hy.get k))
  go_enter Tryz.func100, Tryz.ntmps100
  go_wp2
  go_loopw [5] (fun i wr => ∃ j : Nat, j ≤ xs.length + ys.length + 1 ∧ i = .int .i64 ((j : Int) - 1) ∧ EqFrom xs ys j ∧ w = wr) (fun i _ => (intOf i + 1).toNat)
  case atStart =>
    refine ⟨xs.length + ys.length + 1, Nat.le_refl _, by congr 1; omega, fun i hi => ?_, rfl⟩
    rw [List.getElem?_eq_none (by omega), List.getElem?_eq_none (by omega)]
  case round =>
    obtain ⟨j, hj, rfl, he, rfl⟩ := hrel
    have HE := Lib.hid he
    clear he
    rcases j with _ | k
    · have hv := get_eq_all (fun i => HE.out i (Nat.zero_le _))
      have HV := Lib.hid hv
      clear hv
      go_wp2
      go_ret
      exact ⟨by rw [cmpN_eq HV.out]; rfl, rfl⟩
    · rw [show ((k + 1 : Nat) : Int) - 1 = (k : Int) from by omega]
      have hxk := hx.get k
      have hyk := hy.get k
      have hl1 := fun h => get_lt_at (xs := xs) (ys := ys) hx (fun i hi => HE.out i hi) h
      have hl2 := fun h => get_lt_at (xs := ys) (ys := xs) hy (fun i hi => (HE.out i hi).symm) h
      have hl3 : xs[k]?.getD 0 = ys[k]?.getD 0 → EqFrom xs ys k := fun h i hi => by
        rcases Nat.lt_or_ge k i with h1 | h1
        · exact HE.out i h1
        · obtain rfl : i = k := by omega
          exact h
      have c1 := K1.out k
      have c2 := K2.out k
      generalize hxe : xs[k]?.getD 0 = x at *
      generalize hye : ys[k]?.getD 0 = y at *
      have HXE := Lib.hid hxe
      have HYE := Lib.hid hye
      have C1 := Lib.hid c1
      have C2 := Lib.hid c2
      have L1 := Lib.hid hl1
      have L2 := Lib.hid hl2
      have L3 := Lib.hid hl3
      clear c1 c2 hl1 hl2 hl3 hxe hye
      rcases Nat.lt_trichotomy x y with h | h | h
      · have HV := Lib.hid (L1.out h)
        go_wp2_with fail
        refine (C1.out _ _ ha (by omega) rfl).mono ?_; rintro e w1 ⟨rfl, rfl⟩
        go_wp2_with fail
        refine (C2.out _ _ hb (by omega) rfl).mono ?_; rintro e w1 ⟨rfl, rfl⟩
        go_wp2
        go_ret
        exact ⟨by rw [cmpN_lt HV.out]; rfl, rfl⟩
      · have H3 := Lib.hid (L3.out h)
        subst h
        go_wp2_with fail
        refine (C1.out _ _ ha (by omega) rfl).mono ?_; rintro e w1 ⟨rfl, rfl⟩
        go_wp2_with fail
        refine (C2.out _ _ hb (by omega) rfl).mono ?_; rintro e w1 ⟨rfl, rfl⟩
        go_wp2_with fail
        refine (C1.out _ _ ha (by omega) rfl).mono ?_; rintro e w1 ⟨rfl, rfl⟩
        go_wp2_with fail
        refine (C2.out _ _ hb (by omega) rfl).mono ?_; rintro e w1 ⟨rfl, rfl⟩
        go_wp2
        go_roundw
        case rel => exact ⟨k, by omega, rfl, H3.out, trivial⟩
        case measure => simp [intOf]
      · have HV := Lib.hid (L2.out h)
        go_wp2_with fail
        refine (C1.out _ _ ha (by omega) rfl).mono ?_; rintro e w1 ⟨rfl, rfl⟩
        go_wp2_with fail
        refine (C2.out _ _ hb (by omega) rfl).mono ?_; rintro e w1 ⟨rfl, rfl⟩
        go_wp2_with fail
        refine (C1.out _ _ ha (by omega) rfl).mono ?_; rintro e w1 ⟨rfl, rfl⟩
        go_wp2_with fail
        refine (C2.out _ _ hb (by omega) rfl).mono ?_; rintro e w1 ⟨rfl, rfl⟩
        go_wp2
        go_ret
        exact ⟨by rw [cmpN_gt HV.out]; rfl, rfl⟩

end LM
end Go.Proofs.YtpoojlnndgoeoaaGreatDoor

namespace Go.Proofs.YtpoojlnndgoeoaaGreatDoor
open Go.RowKit
namespace LM

/-- where the loop stands when k limbs are done -/
def PlRel (w : World) (xs ys : List Nat) (v c i : Value) (wr : World) : Prop :=
  ∃ (k : Nat) (zs : List Nat) (cy : Nat), k ≤ max xs.length ys.length + 1 ∧ i = .int .i64 (k : Int) ∧ c = .int .u64 (cy : Int) ∧ cy ≤ 1 ∧ (max xs.length ys.length < k → cy = 0) ∧ zs.length = k ∧ Lm zs ∧
    val zs + 4294967296 ^ k * cy = val (xs.take k) + val (ys.take k) ∧ wr.ownsRow w.heap.size 88 1 v zs.length (U zs) ∧ Below w.heap.size w wr

/-- an owned row reads as its limbs -/
theorem own_rd {w : World} {base : Nat} {v : Value} {zs : List Nat} (h : w.ownsRow base 88 1 v zs.length (U zs)) : ∃ A c, v = .slice A zs.length c ∧ Rd w A zs ∧ (A = none → zs.length = 0 ∧ c = 0) := by
  rcases own_cases h with ⟨rfl, rfl⟩ | ⟨g, cap, rest, rfl, _, hB, _, _, _⟩
  · exact ⟨none, 0, rfl, Rd.nil, fun _ => ⟨rfl, rfl⟩⟩
  · exact ⟨_, cap, rfl, fun _ => ⟨g, 0, rfl, hB.lt, fun k hk => by
      rw [Nat.zero_add, hB.cell, List.getElem?_append_left (by rw [U_len]; exact hk), U_get _ _ hk]⟩, fun h => by cases h⟩

theorem plus_block {w : World} {base n b : Nat} {v : Value} {xs : List Value} (h : w.ownsRow base 88 1 v n xs) (e : v.ownBlock = some b) : base ≤ b := by
  rcases h.2 with ⟨rfl, _⟩ | ⟨g, cap, cur, rfl, hb, _⟩
  · cases e
  · have e2 : some g = some b := e
    injection e2 with e2
    omega

set_option maxRecDepth 100000 in
set_option maxHeartbeats 1000000 in
theorem rplus_any (A B : Option Addr) (ca cb : Nat) (xs ys : List Nat) (w : World) (ha : Rd w A xs) (hb : Rd w B ys) (hx : Lm xs) (hy : Lm ys) (hlx : xs.length ≤ 10000) (hly : ys.length ≤ 10000) :
    Calls Tryz.prog 89 #[.slice A xs.length ca, .slice B ys.length cb] w fun e w' => (∃ v, e = .returned v ∧ NumR w' v (val xs + val ys)) ∧ Below w.heap.size w w' := by
  obtain ⟨i0, hi0, hz0, hz1, hz2⟩ := info_parts u32_info
  have K1 := Lib.hid (fun k y W h hk (hy : xs[k]?.getD 0 = y) => rat_any A ca xs k y W h hk (by omega) hy (by rw [← hy]; exact hx.get k))
  have K2 := Lib.hid (fun k y W h hk (hv : ys[k]?.getD 0 = y) => rat_any B cb ys k y W h hk (by omega) hv (by rw [← hv]; exact hy.get k))
  have hrow : (w.alloc (.cells #[] 88)).ownsRow w.heap.size 88 1 (.slice (some ⟨w.heap.size, 0, none⟩) 0 0) 0 [] :=
    ⟨rfl, .inr ⟨w.heap.size, 0, #[], rfl, Nat.le_refl _, heap_alloc_new w _, Nat.le_refl _, by decide, rfl, rfl⟩⟩
  go_enter Tryz.func89, Tryz.ntmps89
  go_wp2
  go_loopw [5, 6, 7] (fun v c i wr => PlRel w xs ys v c i wr) (fun _ _ i _ => max xs.length ys.length + 1 - (intOf i).toNat)
  case atStart => exact ⟨0, [], 0, Nat.zero_le _, rfl, rfl, by decide, fun _ => rfl, rfl, Lm.nil, by simp [val], hrow, (Below.refl _ _).alloc (Nat.le_refl _) _⟩
  case round =>
    clear hrow
    obtain ⟨k, zs, cy, hk, rfl, rfl, hcy, h0, hzl, hzL, hv, hown, hbe⟩ := hrel
    have HV := Lib.hid hv
    have HZ := Lib.hid hzl
    have H0 := Lib.hid h0
    clear hv h0
    have hra := ha.below hbe
    have hrb := hb.below hbe
    have hxk := hx.get k
    have hyk := hy.get k
    have hst := addTo_step (xs := xs) (ys := ys) hzl HV.out
    have hy0 : max xs.length ys.length < k + 1 → xs[k]?.getD 0 = 0 ∧ ys[k]?.getD 0 = 0 := fun h => ⟨by rw [List.getElem?_eq_none (by omega)]; rfl, by rw [List.getElem?_eq_none (by omega)]; rfl⟩
    have c1 := K1.out k
    have c2 := K2.out k
    generalize hxe : xs[k]?.getD 0 = x at *
    generalize hye : ys[k]?.getD 0 = y at *
    have HST := Lib.hid hst
    have HY0 := Lib.hid hy0
    have C1 := Lib.hid c1
    have C2 := Lib.hid c2
    clear hst hy0 c1 c2 hxe hye hzl
    rw [HZ.out] at hown
    have hbs := hbe.size
    by_cases t1 : k < xs.length
    · have hm : k ≤ max xs.length ys.length := by omega
      go_wp2_with fail
      refine (C1.out _ _ hra (by omega) rfl).mono ?_; rintro e w1 ⟨rfl, rfl⟩
      go_wp2_with fail
      refine (C2.out _ _ hrb (by omega) rfl).mono ?_; rintro e w1 ⟨rfl, rfl⟩
      go_wp2_with (at_builtin; refine wpList_append_own _ rfl _ _ 39 rfl w.heap.size 88 i0 (.int .u32 0) 1 4 Tryz.underlying39 hi0 hz0 hz1 hz2 rfl (by decide) _ _ _ rfl (hown.alloc _) ⟨wr.heap.size, 0, none⟩ 1 1 [.int .u32 (((x : Int) + (y : Int) + (cy : Int)) % 4294967296)] rfl rfl (cell_one_new _ _ _) (by simp [Value.oneCell']) (by unfold maxLen; omega) (by omega) (by simp; omega) ?_; intro v1 w1 hown1 hg1 _)
      go_roundw
      case rel =>
        refine ⟨k + 1, zs ++ [(x + y + cy) % 4294967296], (x + y + cy) / 4294967296, by omega, by go_num, by congr 1, by omega, fun h => ?_, by simp [HZ.out], hzL.snoc (Nat.mod_lt _ (by decide)), HST.out, ?_, ?_⟩
        · obtain ⟨rfl, rfl⟩ := HY0.out h
          omega
        · have e : (zs ++ [(x + y + cy) % 4294967296]).length = k + 1 := by simp [HZ.out]
          rw [e, U_append]
          exact hown1
        · exact (hbe.alloc hbs _).grown hg1 (by simp; omega) (fun b e => plus_block hown e)
      case measure => simp [intOf]; omega
    · by_cases t2 : k < ys.length
      · have hm : k ≤ max xs.length ys.length := by omega
        go_wp2_with fail
        refine (C1.out _ _ hra (by omega) rfl).mono ?_; rintro e w1 ⟨rfl, rfl⟩
        go_wp2_with fail
        refine (C2.out _ _ hrb (by omega) rfl).mono ?_; rintro e w1 ⟨rfl, rfl⟩
        go_wp2_with (at_builtin; refine wpList_append_own _ rfl _ _ 39 rfl w.heap.size 88 i0 (.int .u32 0) 1 4 Tryz.underlying39 hi0 hz0 hz1 hz2 rfl (by decide) _ _ _ rfl (hown.alloc _) ⟨wr.heap.size, 0, none⟩ 1 1 [.int .u32 (((x : Int) + (y : Int) + (cy : Int)) % 4294967296)] rfl rfl (cell_one_new _ _ _) (by simp [Value.oneCell']) (by unfold maxLen; omega) (by omega) (by simp; omega) ?_; intro v1 w1 hown1 hg1 _)
        go_roundw
        case rel =>
          refine ⟨k + 1, zs ++ [(x + y + cy) % 4294967296], (x + y + cy) / 4294967296, by omega, by go_num, by congr 1, by omega, fun h => ?_, by simp [HZ.out], hzL.snoc (Nat.mod_lt _ (by decide)), HST.out, ?_, ?_⟩
          · obtain ⟨rfl, rfl⟩ := HY0.out h
            omega
          · have e : (zs ++ [(x + y + cy) % 4294967296]).length = k + 1 := by simp [HZ.out]
            rw [e, U_append]
            exact hown1
          · exact (hbe.alloc hbs _).grown hg1 (by simp; omega) (fun b e => plus_block hown e)
        case measure => simp [intOf]; omega
      · rcases Nat.eq_zero_or_pos cy with rfl | t3
        · have hv := HV.out
          rw [List.take_of_length_le (by omega : xs.length ≤ k), List.take_of_length_le (by omega : ys.length ≤ k), Nat.mul_zero, Nat.add_zero] at hv
          rw [← HZ.out] at hown
          obtain ⟨A1, c1, rfl, hrz, hnz⟩ := own_rd hown
          have HVV := Lib.hid hv
          have HOW := Lib.hid hown
          have hzn : zs.length ≤ 20002 := by rw [HZ.out]; omega
          clear hv hown
          go_wp2_with fail
          refine (rtrim_any A1 c1 zs wr hrz hzL (by omega) hnz).mono ?_
          rintro e w1 ⟨⟨v, rfl, hn⟩, hb1⟩
          rw [HVV.out] at hn
          have HN := Lib.hid hn
          have HB := Lib.hid hb1
          clear hn hb1
          go_wp2
          go_ret
          exact ⟨⟨v, rfl, HN.out⟩, hbe.trans (HB.out.mono hbs)⟩
        · have hm : k ≤ max xs.length ys.length := by
            rcases Nat.lt_or_ge (max xs.length ys.length) k with h | h
            · have := H0.out h; omega
            · exact h
          go_wp2_with fail
          refine (C1.out _ _ hra (by omega) rfl).mono ?_; rintro e w1 ⟨rfl, rfl⟩
          go_wp2_with fail
          refine (C2.out _ _ hrb (by omega) rfl).mono ?_; rintro e w1 ⟨rfl, rfl⟩
          go_wp2_with (at_builtin; refine wpList_append_own _ rfl _ _ 39 rfl w.heap.size 88 i0 (.int .u32 0) 1 4 Tryz.underlying39 hi0 hz0 hz1 hz2 rfl (by decide) _ _ _ rfl (hown.alloc _) ⟨wr.heap.size, 0, none⟩ 1 1 [.int .u32 (((x : Int) + (y : Int) + (cy : Int)) % 4294967296)] rfl rfl (cell_one_new _ _ _) (by simp [Value.oneCell']) (by unfold maxLen; omega) (by omega) (by simp; omega) ?_; intro v1 w1 hown1 hg1 _)
          go_roundw
          case rel =>
            refine ⟨k + 1, zs ++ [(x + y + cy) % 4294967296], (x + y + cy) / 4294967296, by omega, by go_num, by congr 1, by omega, fun h => ?_, by simp [HZ.out], hzL.snoc (Nat.mod_lt _ (by decide)), HST.out, ?_, ?_⟩
            · obtain ⟨rfl, rfl⟩ := HY0.out h
              omega
            · have e : (zs ++ [(x + y + cy) % 4294967296]).length = k + 1 := by simp [HZ.out]
              rw [e, U_append]
              exact hown1
            · exact (hbe.alloc hbs _).grown hg1 (by simp; omega) (fun b e => plus_block hown e)
          case measure => simp [intOf]; omega

end LM
end Go.Proofs.YtpoojlnndgoeoaaGreatDoor
