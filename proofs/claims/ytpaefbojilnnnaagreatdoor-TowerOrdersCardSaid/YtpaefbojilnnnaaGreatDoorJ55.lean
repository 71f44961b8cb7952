/- Walks: the document's Of once more, with what is known of the room. -/
import Derived.Test.YtpaefbojilnnnaaGreatDoorJ29
import Derived.Test.YtpaefbojilnnnaaGreatDoorJ26
import Derived.Test.YtpaefbojilnnnaaGreatDoorJ27
import Derived.LoopTactic
namespace Go.Proofs.YtpaefbojilnnnaaGreatDoor
open Go.RowKit
namespace LM
set_option linter.unusedVariables false

/-- a slice that reads as this number, without leading zeros, with its room -/
def NumC (w : World) (v : Value) (n : Nat) : Prop := ∃ A c r, v = .slice A (List.length r) c ∧ (List.length r ≤ c ∧ c ≤ 9223372036854775807) ∧ Rd w A r ∧ Can r ∧ val r = n
def RetO (w : World) (z : Int) (e : Ending) (w' : World) : Prop := ∃ s A n c, e = .returned (.agg #[.bool s, .slice A n c]) ∧ IntV w' (.agg #[.bool s, .slice A n c]) z ∧ Below w.heap.size w w'

set_option maxRecDepth 100000 in
set_option maxHeartbeats 1000000 in
theorem rtrimc_any (A : Option Addr) (c : Nat) (xs : List Nat) (w : World) (hr : Rd w A xs) (hx : Lm xs) (hl : xs.length ≤ 1000000) (hnil : A = none → xs.length = 0 ∧ c = 0) :
    Calls Tryz.prog 69 #[.slice A xs.length c] w fun e w' => (∃ v, e = .returned v ∧ NumC w' v (val xs)) ∧ Below w.heap.size w w' := by
  obtain ⟨i0, hi0, hz0, hz1, hz2⟩ := info_parts u32_info
  rcases A with _ | ad
  · obtain ⟨hx0, rfl⟩ := hnil rfl
    obtain rfl : xs = [] := List.eq_nil_of_length_eq_zero hx0
    have hrow : (w.alloc (.cells #[] 133)).ownsRow w.heap.size 133 1 (.slice (some ⟨w.heap.size, 0, none⟩) 0 0) 0 [] :=
      ⟨rfl, .inr ⟨w.heap.size, 0, #[], rfl, Nat.le_refl _, heap_alloc_new w _, Nat.le_refl _, by decide, rfl, rfl⟩⟩
    go_enter Tryz.func69, Tryz.ntmps69
    go_wp2_with (at_builtin; refine wpList_append_own_none _ rfl _ _ 36 rfl w.heap.size 133 i0 1 Tryz.underlying36 hi0 _ _ _ rfl hrow rfl ?_)
    go_loopw [3] (fun v wr => v = .slice (some ⟨w.heap.size, 0, none⟩) 0 0 ∧ w.alloc (.cells #[] 133) = wr) (fun _ _ => 0)
    case atStart => exact ⟨rfl, rfl⟩
    case round =>
      obtain ⟨rfl, rfl⟩ := hrel
      go_wp2
      go_ret
      exact ⟨⟨_, rfl, _, _, [], rfl, ⟨by decide, by decide⟩, Rd.nil, can_nil, rfl⟩, (Below.refl _ _).alloc (Nat.le_refl _) _⟩
  · have hrow : (w.alloc (.cells #[] 133)).ownsRow w.heap.size 133 1 (.slice (some ⟨w.heap.size, 0, none⟩) 0 0) 0 [] :=
      ⟨rfl, .inr ⟨w.heap.size, 0, #[], rfl, Nat.le_refl _, heap_alloc_new w _, Nat.le_refl _, by decide, rfl, rfl⟩⟩
    have hsrc : ∀ j u, (U xs)[j]? = some u → (w.alloc (.cells #[] 133)).cell? (ad.add j) = some u := by
      intro j u hu
      have hj : j < xs.length := by
        rcases Nat.lt_or_ge j xs.length with h | h
        · exact h
        · rw [List.getElem?_eq_none (by rw [U_len]; exact h)] at hu; cases hu
      obtain ⟨b, off, e, hb, hc⟩ := hr.at_ hj
      injection e with e
      subst e
      rw [U_get _ _ hj] at hu
      rw [← hu, ← hc, addr_add]
      exact World.cell?_of_block (a := ⟨b, off + j, none⟩) (Below.heap_alloc w _ b hb)
    go_enter Tryz.func69, Tryz.ntmps69
    go_wp2_with (at_builtin; refine wpList_append_own _ rfl _ _ 36 rfl w.heap.size 133 i0 (.int .u32 0) 1 4 Tryz.underlying36 hi0 hz0 hz1 hz2 rfl (by decide) _ _ _ rfl hrow ad xs.length c (U xs) rfl (by simp [U_len]) hsrc (u_one xs) (by unfold maxLen; omega) (by omega) (by simp) ?_; intro v1 w1 hown1 hg1 hiff)
    have hb1 : Below w.heap.size w w1 := ((Below.refl _ w).alloc (Nat.le_refl _) _).grown hg1 (by simp) (fun k e => by have e2 : (Value.slice (some ⟨w.heap.size, 0, none⟩) 0 0).ownBlock = some k := e; have e3 : some w.heap.size = some k := e2; injection e3 with e3; omega)
    simp only [Nat.zero_add, List.nil_append] at hown1
    have hfin : ∀ v2, (∃ k cap g, v2 = .slice (some ⟨g, 0, none⟩) k cap ∧ k = (trim xs).length ∧ (xs.length ≤ cap ∧ cap ≤ 9223372036854775807) ∧ Rd w1 (some ⟨g, 0, none⟩) xs) → NumC w1 v2 (val xs) := by
      rintro v2 ⟨k, cap, g, rfl, rfl, hc9, hrd⟩
      exact ⟨_, _, trim xs, rfl, ⟨Nat.le_trans (trim_length_le xs) hc9.1, hc9.2⟩, hrd.trim, can_trim hx, val_trim xs⟩
    have HFIN := Lib.hid hfin
    clear hfin
    rcases own_cases hown1 with ⟨rfl, rfl⟩ | ⟨g, cap, rest, rfl, hgb, hB1, hcap, hcm, hlen⟩
    · have h := (hiff.1 rfl).1
      have h2 : Value.slice (some ⟨w.heap.size, 0, none⟩) 0 0 = .slice none 0 0 := h
      cases h2
    · clear hiff
      have hrd : Rd w1 (some ⟨g, 0, none⟩) xs := fun hl0 => ⟨g, 0, rfl, hB1.lt, fun k hk => by
        rw [Nat.zero_add, hB1.cell, List.getElem?_append_left (by rw [U_len]; exact hk), U_get _ _ hk]⟩
      have hlen2 := Lib.hid hlen
      have HOWN := Lib.hid hown1
      clear hlen hown1 hg1
      unfold maxLen at hcm
      have HCAP := Lib.hid (show xs.length ≤ cap ∧ cap ≤ 9223372036854775807 from ⟨hcap, by omega⟩)
      go_wp2_with fail
      go_loopw [3] (fun v wr => RtRel xs w1 g cap v wr) (fun v _ => lenS v)
      case atStart => exact ⟨xs.length, Nat.le_refl _, rfl, by rw [List.take_length], rfl⟩
      case round =>
        obtain ⟨k, hk, rfl, ht, rfl⟩ := hrel
        have HT := Lib.hid ht
        clear ht
        rcases k with _ | j
        · go_wp2
          go_ret
          refine ⟨⟨_, rfl, HFIN.out _ ⟨0, cap, g, rfl, ?_, HCAP.out, hrd⟩⟩, hb1⟩
          exact congrArg List.length HT.out
        · obtain ⟨b, off, e, hb, hcell⟩ := hrd.at_ (by omega : j < xs.length)
          cases e
          rw [Nat.zero_add] at hcell
          by_cases hz : xs[j]?.getD 0 = 0
          · have h1 := trim_take_zero xs j (by omega) hz
            rw [hz] at hcell
            clear hz
            have H1 := Lib.hid h1
            clear h1
            go_wp2
            go_roundw
            case rel => exact ⟨j, by omega, by go_num, by rw [← H1.out, HT.out], rfl⟩
            case measure => simp [lenS]
          · have hzz : (((xs[j]?.getD 0 : Nat) : Int) == 0) = false := by rw [beq_eq_false_iff_ne]; omega
            have h1 := trim_take_pos xs j (by omega) hz
            clear hz
            have H1 := Lib.hid h1
            clear h1
            go_wp2
            go_ret
            refine ⟨⟨_, rfl, HFIN.out _ ⟨j + 1, cap, g, rfl, ?_, HCAP.out, hrd⟩⟩, hb1⟩
            have h := congrArg List.length (H1.out.symm.trans HT.out)
            rw [List.length_take, Nat.min_eq_left hk] at h
            exact h

set_option maxHeartbeats 400000 in
theorem rofc_any (n : Nat) (w : World) (hn : n < 18446744073709551616) :
    Calls Tryz.prog 77 #[.int .u64 (n : Int)] w fun e w' => (∃ v, e = .returned v ∧ NumC w' v n) ∧ Below w.heap.size w w' := by
  have e1 : (n : Int) % 4294967296 = ((n % 4294967296 : Nat) : Int) := by simp
  have e2 : (n : Int) / 4294967296 = ((n / 4294967296 : Nat) : Int) := by simp
  have l1 : n % 4294967296 < 4294967296 := Nat.mod_lt _ (by decide)
  have l2 : n / 4294967296 < 4294967296 := by omega
  have hv : val [n % 4294967296, n / 4294967296] = n := by simp [val]; omega
  generalize n % 4294967296 = lo at *
  generalize n / 4294967296 = hi at *
  have HV := Lib.hid hv
  clear hv
  have hrd : Rd (w.alloc (.cells #[.int .u32 (lo : Int), .int .u32 (hi : Int)] 133)) (some ⟨w.heap.size, 0, none⟩) [lo, hi] := by
    have h := Rd.of_blk (w := w.alloc (.cells #[.int .u32 (lo : Int), .int .u32 (hi : Int)] 133)) (g := w.heap.size) (pre := []) (xs := [lo, hi]) (post := []) (by simpa [U] using Blk.new w (U [lo, hi]))
    simpa using h
  go_enter Tryz.func77, Tryz.ntmps77
  go_wp2_with fail
  refine (rtrimc_any (some ⟨w.heap.size, 0, none⟩) 2 [lo, hi] _ hrd (Lm.cons l1 (Lm.cons l2 Lm.nil)) (by simp) (fun h => by cases h)).mono ?_
  rintro e w1 ⟨⟨v, rfl, hnv⟩, hb⟩
  rw [HV.out] at hnv
  have HN := Lib.hid hnv
  have HB := Lib.hid hb
  clear hnv hb
  go_wp2
  go_ret
  exact ⟨⟨v, rfl, HN.out⟩, ((Below.refl _ _).alloc (Nat.le_refl _) _).trans (HB.out.mono (by simp))⟩

set_option maxRecDepth 100000 in
set_option maxHeartbeats 1000000 in
theorem rplusc_any (A B : Option Addr) (ca cb : Nat) (xs ys : List Nat) (w : World) (ha : Rd w A xs) (hb : Rd w B ys) (hx : Lm xs) (hy : Lm ys) (hlx : xs.length ≤ 10000) (hly : ys.length ≤ 10000) :
    Calls Tryz.prog 143 #[.slice A xs.length ca, .slice B ys.length cb] w fun e w' => (∃ v, e = .returned v ∧ NumC w' v (val xs + val ys)) ∧ Below w.heap.size w w' := by
  obtain ⟨i0, hi0, hz0, hz1, hz2⟩ := info_parts u32_info
  have K1 := Lib.hid (fun k y W h hk (hy : xs[k]?.getD 0 = y) => rat_any A ca xs k y W h hk (by omega) hy (by rw [← hy]; exact hx.get k))
  have K2 := Lib.hid (fun k y W h hk (hv : ys[k]?.getD 0 = y) => rat_any B cb ys k y W h hk (by omega) hv (by rw [← hv]; exact hy.get k))
  have hrow : (w.alloc (.cells #[] 133)).ownsRow w.heap.size 133 1 (.slice (some ⟨w.heap.size, 0, none⟩) 0 0) 0 [] :=
    ⟨rfl, .inr ⟨w.heap.size, 0, #[], rfl, Nat.le_refl _, heap_alloc_new w _, Nat.le_refl _, by decide, rfl, rfl⟩⟩
  go_enter Tryz.func143, Tryz.ntmps143
  go_wp2
  go_loopw [5, 6, 7] (fun v c i wr => PlRel w xs ys v c i wr) (fun _ _ i _ => max xs.length ys.length + 1 - (intOf i).toNat)
  case atStart => exact ⟨0, [], 0, Nat.zero_le _, rfl, rfl, by decide, fun _ => rfl, rfl, Lm.nil, by simp [val], hrow, (Below.refl _ _).alloc (Nat.le_refl _) _⟩
  case round =>
    clear hrow
    obtain ⟨k, zs, cy, hk, rfl, rfl, hcy, h0, hzl, hzL, hv, hown, hbe⟩ := hrel
    have HV := Lib.hid hv
    have HZ := Lib.hid hzl
    have H0 := Lib.hid h0
    clear hv h0
    have hra := ha.below hbe
    have hrb := hb.below hbe
    have hxk := hx.get k
    have hyk := hy.get k
    have hst := addTo_step (xs := xs) (ys := ys) hzl HV.out
    have hy0 : max xs.length ys.length < k + 1 → xs[k]?.getD 0 = 0 ∧ ys[k]?.getD 0 = 0 := fun h => ⟨by rw [List.getElem?_eq_none (by omega)]; rfl, by rw [List.getElem?_eq_none (by omega)]; rfl⟩
    have c1 := K1.out k
    have c2 := K2.out k
    generalize hxe : xs[k]?.getD 0 = x at *
    generalize hye : ys[k]?.getD 0 = y at *
    have HST := Lib.hid hst
    have HY0 := Lib.hid hy0
    have C1 := Lib.hid c1
    have C2 := Lib.hid c2
    clear hst hy0 c1 c2 hxe hye hzl
    rw [HZ.out] at hown
    have hbs := hbe.size
    by_cases t1 : k < xs.length
    · have hm : k ≤ max xs.length ys.length := by omega
      go_wp2_with fail
      refine (C1.out _ _ hra (by omega) rfl).mono ?_; rintro e w1 ⟨rfl, rfl⟩
      go_wp2_with fail
      refine (C2.out _ _ hrb (by omega) rfl).mono ?_; rintro e w1 ⟨rfl, rfl⟩
      go_wp2_with (at_builtin; refine wpList_append_own _ rfl _ _ 36 rfl w.heap.size 133 i0 (.int .u32 0) 1 4 Tryz.underlying36 hi0 hz0 hz1 hz2 rfl (by decide) _ _ _ rfl (hown.alloc _) ⟨wr.heap.size, 0, none⟩ 1 1 [.int .u32 (((x : Int) + (y : Int) + (cy : Int)) % 4294967296)] rfl rfl (cell_one_new _ _ _) (by simp [Value.oneCell']) (by unfold maxLen; omega) (by omega) (by simp; omega) ?_; intro v1 w1 hown1 hg1 _)
      go_roundw
      case rel =>
        refine ⟨k + 1, zs ++ [(x + y + cy) % 4294967296], (x + y + cy) / 4294967296, by omega, by go_num, by congr 1, by omega, fun h => ?_, by simp [HZ.out], hzL.snoc (Nat.mod_lt _ (by decide)), HST.out, ?_, ?_⟩
        · obtain ⟨rfl, rfl⟩ := HY0.out h
          omega
        · have e : (zs ++ [(x + y + cy) % 4294967296]).length = k + 1 := by simp [HZ.out]
          rw [e, U_append]
          exact hown1
        · exact (hbe.alloc hbs _).grown hg1 (by simp; omega) (fun b e => plus_block hown e)
      case measure => simp [intOf]; omega
    · by_cases t2 : k < ys.length
      · have hm : k ≤ max xs.length ys.length := by omega
        go_wp2_with fail
        refine (C1.out _ _ hra (by omega) rfl).mono ?_; rintro e w1 ⟨rfl, rfl⟩
        go_wp2_with fail
        refine (C2.out _ _ hrb (by omega) rfl).mono ?_; rintro e w1 ⟨rfl, rfl⟩
        go_wp2_with (at_builtin; refine wpList_append_own _ rfl _ _ 36 rfl w.heap.size 133 i0 (.int .u32 0) 1 4 Tryz.underlying36 hi0 hz0 hz1 hz2 rfl (by decide) _ _ _ rfl (hown.alloc _) ⟨wr.heap.size, 0, none⟩ 1 1 [.int .u32 (((x : Int) + (y : Int) + (cy : Int)) % 4294967296)] rfl rfl (cell_one_new _ _ _) (by simp [Value.oneCell']) (by unfold maxLen; omega) (by omega) (by simp; omega) ?_; intro v1 w1 hown1 hg1 _)
        go_roundw
        case rel =>
          refine ⟨k + 1, zs ++ [(x + y + cy) % 4294967296], (x + y + cy) / 4294967296, by omega, by go_num, by congr 1, by omega, fun h => ?_, by simp [HZ.out], hzL.snoc (Nat.mod_lt _ (by decide)), HST.out, ?_, ?_⟩
          · obtain ⟨rfl, rfl⟩ := HY0.out h
            omega
          · have e : (zs ++ [(x + y + cy) % 4294967296]).length = k + 1 := by simp [HZ.out]
            rw [e, U_append]
            exact hown1
          · exact (hbe.alloc hbs _).grown hg1 (by simp; omega) (fun b e => plus_block hown e)
        case measure => simp [intOf]; omega
      · rcases Nat.eq_zero_or_pos cy with rfl | t3
        · have hv := HV.out
          rw [List.take_of_length_le (by omega : xs.length ≤ k), List.take_of_length_le (by omega : ys.length ≤ k), Nat.mul_zero, Nat.add_zero] at hv
          rw [← HZ.out] at hown
          obtain ⟨A1, c1, rfl, hrz, hnz⟩ := own_rd hown
          have HVV := Lib.hid hv
          have HOW := Lib.hid hown
          have hzn : zs.length ≤ 20002 := by rw [HZ.out]; omega
          clear hv hown
          go_wp2_with fail
          refine (rtrimc_any A1 c1 zs wr hrz hzL (by omega) hnz).mono ?_
          rintro e w1 ⟨⟨v, rfl, hn⟩, hb1⟩
          rw [HVV.out] at hn
          have HN := Lib.hid hn
          have HB := Lib.hid hb1
          clear hn hb1
          go_wp2
          go_ret
          exact ⟨⟨v, rfl, HN.out⟩, hbe.trans (HB.out.mono hbs)⟩
        · have hm : k ≤ max xs.length ys.length := by
            rcases Nat.lt_or_ge (max xs.length ys.length) k with h | h
            · have := H0.out h; omega
            · exact h
          go_wp2_with fail
          refine (C1.out _ _ hra (by omega) rfl).mono ?_; rintro e w1 ⟨rfl, rfl⟩
          go_wp2_with fail
          refine (C2.out _ _ hrb (by omega) rfl).mono ?_; rintro e w1 ⟨rfl, rfl⟩
          go_wp2_with (at_builtin; refine wpList_append_own _ rfl _ _ 36 rfl w.heap.size 133 i0 (.int .u32 0) 1 4 Tryz.underlying36 hi0 hz0 hz1 hz2 rfl (by decide) _ _ _ rfl (hown.alloc _) ⟨wr.heap.size, 0, none⟩ 1 1 [.int .u32 (((x : Int) + (y : Int) + (cy : Int)) % 4294967296)] rfl rfl (cell_one_new _ _ _) (by simp [Value.oneCell']) (by unfold maxLen; omega) (by omega) (by simp; omega) ?_; intro v1 w1 hown1 hg1 _)
          go_roundw
          case rel =>
            refine ⟨k + 1, zs ++ [(x + y + cy) % 4294967296], (x + y + cy) / 4294967296, by omega, by go_num, by congr 1, by omega, fun h => ?_, by simp [HZ.out], hzL.snoc (Nat.mod_lt _ (by decide)), HST.out, ?_, ?_⟩
            · obtain ⟨rfl, rfl⟩ := HY0.out h
              omega
            · have e : (zs ++ [(x + y + cy) % 4294967296]).length = k + 1 := by simp [HZ.out]
              rw [e, U_append]
              exact hown1
            · exact (hbe.alloc hbs _).grown hg1 (by simp; omega) (fun b e => plus_block hown e)
          case measure => simp [intOf]; omega

set_option maxRecDepth 100000 in
set_option maxHeartbeats 1000000 in
theorem rmadec_nil (neg : Bool) (A : Option Addr) (c : Nat) (w : World) :
    Calls Tryz.prog 149 #[.bool neg, .slice A 0 c] w (RetO w 0) := by
  obtain ⟨hb0, x0⟩ := newc1 w
  have HB0 := Lib.hid hb0
  have X0 := Lib.hid x0
  clear hb0 x0
  go_enter Tryz.func149, Tryz.ntmps149
  go_wp2
  refine bodyPost_ret (v := .agg #[.bool false, .slice none 0 0]) (by simp [results, Tryz.results149, go_sem]) rfl ?_
  exact ⟨_, _, _, _, rfl, ⟨none, 0, [], rfl, by decide, by decide, Rd.nil, can_nil, rfl⟩, HB0.out⟩

set_option maxRecDepth 100000 in
set_option maxHeartbeats 1000000 in
theorem rmadec_some (neg : Bool) (A : Option Addr) (c : Nat) (r : List Nat) (w : World) (h0 : 0 < r.length) (hl : r.length ≤ 10000) (h1 : r.length ≤ c) (h2 : c ≤ 9223372036854775807) (h3 : Rd w A r) (h4 : Can r) :
    Calls Tryz.prog 149 #[.bool neg, .slice A r.length c] w (RetO w (sg neg (val r))) := by
  have hz : ((r.length : Int) == 0) = false := by simp; intro h; rw [h] at h0; simp at h0
  have HR := Lib.hid (h3.alloc (.cells #[.bool neg, .slice A r.length c] 38))
  have HP := Lib.hid ((can_pos h4).1 h0)
  have HC := Lib.hid h4
  have HK := Lib.hid (show r.length ≤ c ∧ c ≤ 9223372036854775807 from ⟨h1, h2⟩)
  clear h0 h3 h4
  go_enter Tryz.func149, Tryz.ntmps149
  go_wp2
  refine bodyPost_ret (v := .agg #[.bool neg, .slice A r.length c]) (by simp [results, Tryz.results149, go_sem]) rfl ?_
  refine ⟨_, _, _, _, rfl, ⟨A, c, r, ?_, HK.out.1, HK.out.2, HR.out, HC.out, (sg_abs _ _).symm⟩, (Below.refl _ _).alloc (Nat.le_refl _) _⟩
  rw [sg_neg, decide_eq_true HP.out, Bool.and_true]

theorem rmadec_num (neg : Bool) (A : Option Addr) (c : Nat) (r : List Nat) (w : World) (hl : r.length ≤ 10000) (h1 : r.length ≤ c) (h2 : c ≤ 9223372036854775807) (h3 : Rd w A r) (h4 : Can r) :
    Calls Tryz.prog 149 #[.bool neg, .slice A r.length c] w (RetO w (sg neg (val r))) := by
  rcases Nat.eq_zero_or_pos r.length with h | h
  · have hv : val r = 0 := (can_zero h4).1 h
    rw [h, hv, sg_zero]
    exact rmadec_nil neg A c w
  · exact rmadec_some neg A c r w h hl h1 h2 h3 h4

theorem small_len {r : List Nat} (hc : Can r) (h : val r < 18446744073709551616 * 2) : r.length ≤ 3 := by
  rcases Nat.lt_or_ge 3 r.length with h1 | h1
  · have h2 := (can_len hc 3).1 h1
    have h3 : (4294967296 : Nat) ^ 3 = 18446744073709551616 * 4294967296 := by decide
    omega
  · exact h1

set_option maxRecDepth 100000 in
set_option maxHeartbeats 2000000 in
theorem rof2c_pos (m : Nat) (hm : m ≤ 9223372036854775807) (w : World) :
    Calls Tryz.prog 108 #[.int .i64 (m : Int)] w (RetO w (sg false m)) := by
  obtain ⟨hb0, x0⟩ := newc1 w
  have HB0 := Lib.hid hb0
  have X0 := Lib.hid x0
  have H1 := Lib.hid (rofc_any m (w.alloc (.cells #[.bool false, .slice none 0 0] 38)) (by omega))
  have hneg : decide (0 ≤ (m : Int)) = true := decide_eq_true (by omega)
  clear hb0 x0
  go_enter Tryz.func108, Tryz.ntmps108
  go_wp2_with fail
  refine H1.out.mono ?_
  rintro e w2 ⟨⟨v, rfl, A1, c1, r1, rfl, ⟨hcc, hcm⟩, h3, h4, h5⟩, hb2⟩
  have hl := small_len h4 (by omega)
  have HM := Lib.hid (rmadec_num false A1 c1 r1 w2 (by omega) hcc hcm h3 h4)
  rw [h5] at HM
  have Z2 := Lib.hid (X0.out.below hb2)
  have HB2 := Lib.hid (HB0.out.trans (hb2.mono HB0.out.size))
  clear h3 h4 h5 hb2
  go_wp2_with fail
  refine HM.out.mono ?_
  rintro e w3 ⟨s3, A3, n3, c3, rfl, hv3, hb3⟩
  have Z3 := Lib.hid (Z2.out.below hb3)
  obtain ⟨q0, q1, z0, z1, zl⟩ := Z3.out.facts
  have HB3 := Lib.hid (HB2.out.trans (hb3.mono HB2.out.size))
  have HV3 := Lib.hid hv3
  clear hv3 hb3
  go_wp2
  obtain ⟨W4, hW4, Z, hb4, hv4, -, -, -⟩ := stored_world Z3.out HB3.out (by omega) s3 A3 n3 c3
  rw [hW4]
  have HV4 := Lib.hid (hv4 _ _ HV3.out)
  obtain ⟨c0, c1', -, -, -⟩ := Z.facts
  clear q0 q1 z0 z1 zl hW4 hv4
  refine bodyPost_ret (v := .agg #[.bool s3, .slice A3 n3 c3]) (by simp [results, Tryz.results108, go_sem, c0, c1']) rfl ?_
  exact ⟨_, _, _, _, rfl, HV4.out, hb4⟩

set_option maxRecDepth 100000 in
set_option maxHeartbeats 2000000 in
theorem rof2c_neg (k : Nat) (hm : k ≤ 9223372036854775807) (w : World) :
    Calls Tryz.prog 108 #[.int .i64 (-(k : Int) - 1)] w (RetO w (sg true (k + 1))) := by
  obtain ⟨hb0, x0⟩ := newc1 w
  have HB0 := Lib.hid hb0
  have X0 := Lib.hid x0
  have H1 := Lib.hid (rofc_any k (w.alloc (.cells #[.bool false, .slice none 0 0] 38)) (by omega))
  have hneg : decide (0 ≤ -(k : Int) - 1) = false := decide_eq_false (by omega)
  have hsub : -1 - (-(k : Int) - 1) = (k : Int) := by omega
  clear hb0 x0
  go_enter Tryz.func108, Tryz.ntmps108
  go_wp2_with fail
  refine H1.out.mono ?_
  rintro e w2 ⟨⟨v, rfl, A1, c1, r1, rfl, ⟨hcc, hcm⟩, h3, h4, h5⟩, hb2⟩
  have hl := small_len h4 (by omega)
  have hb3 : Below w.heap.size w (w2.alloc (.cells #[.int .u32 1] 133)) := (HB0.out.trans (hb2.mono HB0.out.size)).alloc (HB0.out.trans (hb2.mono HB0.out.size)).size _
  have r1n : Rd (w2.alloc (.cells #[.int .u32 1] 133)) (some ⟨w2.heap.size, 0, none⟩) [1] := rd_new w2 [1]
  have HP := Lib.hid (rplusc_any A1 (some ⟨w2.heap.size, 0, none⟩) c1 1 r1 [1] _ (h3.alloc _) r1n h4.1 (lm_of (by decide)) (by omega) (by decide))
  rw [h5, show val [1] = 1 from rfl] at HP
  have Z1 := Lib.hid ((X0.out.below hb2).alloc (.cells #[.int .u32 1] 133))
  have HB1 := Lib.hid hb3
  clear h3 h4 h5 hb2 hb3 r1n
  go_wp2_with fail
  refine HP.out.mono ?_
  rintro e w5 ⟨⟨v, rfl, A2, c2, r2, rfl, ⟨hcc, hcm⟩, h3, h4, h5⟩, hb5⟩
  have hl2 := small_len h4 (by omega)
  have HM := Lib.hid (rmadec_num true A2 c2 r2 w5 (by omega) hcc hcm h3 h4)
  rw [h5] at HM
  have Z2 := Lib.hid (Z1.out.below hb5)
  have HB2 := Lib.hid (HB1.out.trans (hb5.mono HB1.out.size))
  clear h3 h4 h5 hb5
  go_wp2_with fail
  refine HM.out.mono ?_
  rintro e w3 ⟨s3, A3, n3, c3, rfl, hv3, hb3⟩
  have Z3 := Lib.hid (Z2.out.below hb3)
  obtain ⟨q0, q1, z0, z1, zl⟩ := Z3.out.facts
  have HB3 := Lib.hid (HB2.out.trans (hb3.mono HB2.out.size))
  have HV3 := Lib.hid hv3
  clear hv3 hb3
  go_wp2
  obtain ⟨W4, hW4, Z, hb4, hv4, -, -, -⟩ := stored_world Z3.out HB3.out (by omega) s3 A3 n3 c3
  rw [hW4]
  have HV4 := Lib.hid (hv4 _ _ HV3.out)
  obtain ⟨c0, c1', -, -, -⟩ := Z.facts
  clear q0 q1 z0 z1 zl hW4 hv4
  refine bodyPost_ret (v := .agg #[.bool s3, .slice A3 n3 c3]) (by simp [results, Tryz.results108, go_sem, c0, c1']) rfl ?_
  exact ⟨_, _, _, _, rfl, HV4.out, hb4⟩

theorem rof2c_int (z : Int) (h1 : -9223372036854775808 ≤ z) (h2 : z ≤ 9223372036854775807) (w : World) : Calls Tryz.prog 108 #[.int .i64 z] w (RetO w z) := by
  by_cases h : z < 0
  · obtain ⟨k, rfl⟩ : ∃ k : Nat, z = -(k : Int) - 1 := ⟨(-z - 1).toNat, by omega⟩
    have := rof2c_neg k (by omega) w
    rw [show sg true (k + 1) = -(k : Int) - 1 from by simp [sg]; omega] at this
    exact this
  · obtain ⟨m, rfl⟩ : ∃ m : Nat, z = (m : Int) := ⟨z.natAbs, by omega⟩
    have := rof2c_pos m (by omega) w
    rw [show sg false m = (m : Int) from rfl] at this
    exact this

end LM
end Go.Proofs.YtpaefbojilnnnaaGreatDoor
