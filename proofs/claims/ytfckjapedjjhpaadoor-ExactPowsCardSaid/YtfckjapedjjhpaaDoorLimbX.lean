/- Walks: the document's answer Cmp. -/
import Derived.Test.YtfckjapedjjhpaaDoorLimbU
import Derived.Test.YtfckjapedjjhpaaDoorLimbL
namespace Go.Proofs.YtfckjapedjjhpaaDoor
open Go.RowKit
namespace LM

def padV (xs : List Nat) (n : Nat) : List Nat := xs ++ List.replicate (n - xs.length) 0
theorem padV_val (xs : List Nat) (n : Nat) : val (padV xs n) = val xs := by rw [padV, val_append, val_replicate]; simp
theorem padV_len {xs : List Nat} {n : Nat} (h : xs.length ≤ n) : (padV xs n).length = n := by simp [padV]; omega
theorem padV_lm {xs : List Nat} (h : Lm xs) (n : Nat) : Lm (padV xs n) := h.append (Lm.replicate _)
theorem padV_get (xs : List Nat) (n j : Nat) : (padV xs n)[j]?.getD 0 = xs[j]?.getD 0 := by
  unfold padV
  rcases Nat.lt_or_ge j xs.length with h | h
  · rw [List.getElem?_append_left h]
  · rw [List.getElem?_append_right h, List.getElem?_eq_none (l := xs) h, List.getElem?_replicate]
    split <;> rfl
theorem get_lt_at {xs ys : List Nat} (hx : Lm xs) {k : Nat} (he : ∀ j, k < j → xs[j]?.getD 0 = ys[j]?.getD 0) (h : xs[k]?.getD 0 < ys[k]?.getD 0) : val xs < val ys := by
  have hk : k < ys.length := by
    rcases Nat.lt_or_ge k ys.length with h1 | h1
    · exact h1
    · rw [List.getElem?_eq_none h1] at h; simp at h
  have h1 := val_lt_at (xt := padV xs (max xs.length ys.length)) (yt := padV ys (max xs.length ys.length)) (padV_lm hx _) (by rw [padV_len (by omega), padV_len (by omega)]) (k := k) (by rw [padV_len (by omega)]; omega)
    (fun j hj => by rw [padV_get, padV_get]; exact he j hj) (by rw [padV_get, padV_get]; exact h)
  rwa [padV_val, padV_val] at h1
theorem get_eq_all {xs ys : List Nat} (he : ∀ j : Nat, xs[j]?.getD 0 = ys[j]?.getD 0) : val xs = val ys := by
  rw [← padV_val xs (max xs.length ys.length), ← padV_val ys (max xs.length ys.length)]
  congr 1
  refine eq_all (by rw [padV_len (by omega), padV_len (by omega)]) (fun j _ => ?_)
  rw [padV_get, padV_get]; exact he j

/-- all limbs from this place on are the same -/
def EqFrom (xs ys : List Nat) (j : Nat) : Prop := ∀ i, j ≤ i → xs[i]?.getD 0 = ys[i]?.getD 0

set_option maxRecDepth 100000 in
set_option maxHeartbeats 1000000 in
theorem rcmp_any (A B : Option Addr) (ca cb : Nat) (xs ys : List Nat) (w : World) (ha : Rd w A xs) (hb : Rd w B ys) (hx : Lm xs) (hy : Lm ys) (hlx : xs.length ≤ 10000) (hly : ys.length ≤ 10000) :
    Calls Tryd.prog 77 #[.slice A xs.length ca, .slice B ys.length cb] w fun e w' => e = .returned (.int .i64 (cmpN (val xs) (val ys))) ∧ w = w' := by
  have K1 := Lib.hid (fun k y W h hk (hy : xs[k]?.getD 0 = y) => rat_any A ca xs k y W h hk (by omega) hy (by rw [← hy]; exact hx.get k))
  have K2 := Lib.hid (fun k y W h hk (hv : ys[k]?.getD 0 = y) => rat_any B cb ys k y W h hk (by omega) hv (by rw [← hv]; exact hy.get k))
  go_enter Tryd.func77, Tryd.ntmps77
  go_wp2
  go_loopw [5] (fun i wr => ∃ j : Nat, j ≤ xs.length + ys.length + 1 ∧ i = .int .i64 ((j : Int) - 1) ∧ EqFrom xs ys j ∧ w = wr) (fun i _ => (intOf i + 1).toNat)
  case atStart =>
    refine ⟨xs.length + ys.length + 1, Nat.le_refl _, by congr 1; omega, fun i hi => ?_, rfl⟩
    rw [List.getElem?_eq_none (by omega), List.getElem?_eq_none (by omega)]
  case round =>
    obtain ⟨j, hj, rfl, he, rfl⟩ := hrel
    have HE := Lib.hid he
    clear he
    rcases j with _ | k
    · have hv := get_eq_all (fun i => HE.out i (Nat.zero_le _))
      have HV := Lib.hid hv
      clear hv
      go_wp2
      go_ret
      exact ⟨by rw [cmpN_eq HV.out]; rfl, rfl⟩
    · rw [show ((k + 1 : Nat) : Int) - 1 = (k : Int) from by omega]
      have hxk := hx.get k
      have hyk := hy.get k
      have hl1 := fun h => get_lt_at (xs := xs) (ys := ys) hx (fun i hi => HE.out i hi) h
      have hl2 := fun h => get_lt_at (xs := ys) (ys := xs) hy (fun i hi => (HE.out i hi).symm) h
      have hl3 : xs[k]?.getD 0 = ys[k]?.getD 0 → EqFrom xs ys k := fun h i hi => by
        rcases Nat.lt_or_ge k i with h1 | h1
        · exact HE.out i h1
        · obtain rfl : i = k := by omega
          exact h
      have c1 := K1.out k
      have c2 := K2.out k
      generalize hxe : xs[k]?.getD 0 = x at *
      generalize hye : ys[k]?.getD 0 = y at *
      have HXE := Lib.hid hxe
      have HYE := Lib.hid hye
      have C1 := Lib.hid c1
      have C2 := Lib.hid c2
      have L1 := Lib.hid hl1
      have L2 := Lib.hid hl2
      have L3 := Lib.hid hl3
      clear c1 c2 hl1 hl2 hl3 hxe hye
      rcases Nat.lt_trichotomy x y with h | h | h
      · have HV := Lib.hid (L1.out h)
        go_wp2_with fail
        refine (C1.out _ _ ha (by omega) rfl).mono ?_; rintro e w1 ⟨rfl, rfl⟩
        go_wp2_with fail
        refine (C2.out _ _ hb (by omega) rfl).mono ?_; rintro e w1 ⟨rfl, rfl⟩
        go_wp2
        go_ret
        exact ⟨by rw [cmpN_lt HV.out]; rfl, rfl⟩
      · have H3 := Lib.hid (L3.out h)
        subst h
        go_wp2_with fail
        refine (C1.out _ _ ha (by omega) rfl).mono ?_; rintro e w1 ⟨rfl, rfl⟩
        go_wp2_with fail
        refine (C2.out _ _ hb (by omega) rfl).mono ?_; rintro e w1 ⟨rfl, rfl⟩
        go_wp2_with fail
        refine (C1.out _ _ ha (by omega) rfl).mono ?_; rintro e w1 ⟨rfl, rfl⟩
        go_wp2_with fail
        refine (C2.out _ _ hb (by omega) rfl).mono ?_; rintro e w1 ⟨rfl, rfl⟩
        go_wp2
        go_roundw
        case rel => exact ⟨k, by omega, rfl, H3.out, trivial⟩
        case measure => simp [intOf]
      · have HV := Lib.hid (L2.out h)
        go_wp2_with fail
        refine (C1.out _ _ ha (by omega) rfl).mono ?_; rintro e w1 ⟨rfl, rfl⟩
        go_wp2_with fail
        refine (C2.out _ _ hb (by omega) rfl).mono ?_; rintro e w1 ⟨rfl, rfl⟩
        go_wp2_with fail
        refine (C1.out _ _ ha (by omega) rfl).mono ?_; rintro e w1 ⟨rfl, rfl⟩
        go_wp2_with fail
        refine (C2.out _ _ hb (by omega) rfl).mono ?_; rintro e w1 ⟨rfl, rfl⟩
        go_wp2
        go_ret
        exact ⟨by rw [cmpN_gt HV.out]; rfl, rfl⟩

end LM
end Go.Proofs.YtfckjapedjjhpaaDoor
