/- Walks: the document's answer Same, and package limb's Of and Small. -/
import Derived.Test.YtfckjapedjjhpaaDoorLimbO
import Derived.Test.YtfckjapedjjhpaaDoorLimbMath
namespace Go.Proofs.YtfckjapedjjhpaaDoor
open Go.RowKit
namespace LM

def sameB (xs ys : List Nat) : Bool := decide (xs = ys)

theorem take_succ_eq {xs ys : List Nat} {k : Nat} (h : xs.take k = ys.take k) (hx : k < xs.length) (hy : k < ys.length) (he : xs[k]?.getD 0 = ys[k]?.getD 0) : xs.take (k + 1) = ys.take (k + 1) := by
  rw [List.getElem?_eq_getElem hx, List.getElem?_eq_getElem hy] at he
  have e : xs[k] = ys[k] := he
  rw [List.take_succ_eq_append_getElem hx, List.take_succ_eq_append_getElem hy, h, e]

set_option maxRecDepth 100000 in
set_option maxHeartbeats 400000 in
theorem same_any (A B : Option Addr) (ca cb : Nat) (xs ys : List Nat) (w : World) (ha : Rd w A xs) (hb : Rd w B ys) (hl : xs.length ≤ 1000000) :
    Calls Tryd.prog 43 #[.slice A xs.length ca, .slice B ys.length cb] w fun e w' => e = .returned (.bool (sameB xs ys)) ∧ Below w.heap.size w w' := by
  by_cases hne : xs.length = ys.length
  · have HNE := Lib.hid hne
    have hbn : ((xs.length : Int) != (ys.length : Int)) = false := by simp [hne]
    clear hne
    go_enter Tryd.func43, Tryd.ntmps43
    go_wp2
    go_loopw [13] (fun i wr => ∃ k q : Nat, k ≤ xs.length ∧ i = .int .i64 (k : Int) ∧ Hid (xs.take k = ys.take k) ∧ wr = w.drewN q) (fun i _ => xs.length - (intOf i).toNat)
    case atStart => exact ⟨0, 0, Nat.zero_le _, rfl, Lib.hid rfl, rfl⟩
    case round =>
      obtain ⟨k, q, hk, rfl, HT, hwr⟩ := hrel
      have hra : Rd wr A xs := by rw [hwr]; exact ha.drewN q
      have hrb : Rd wr B ys := by rw [hwr]; exact hb.drewN q
      have HWR := Lib.hid hwr
      clear hwr
      by_cases hlt : k < xs.length
      · have hly : k < ys.length := by have := HNE.out; omega
        obtain ⟨b1, o1, rfl, _, c1⟩ := hra.at_ hlt
        obtain ⟨b2, o2, rfl, _, c2⟩ := hrb.at_ hly
        have hst := fun he => take_succ_eq HT.out hlt hly he
        have hfx : sameB xs ys = true → xs[k]?.getD 0 = ys[k]?.getD 0 := fun h => by rw [of_decide_eq_true h]
        generalize hxe : xs[k]?.getD 0 = x at *
        generalize hye : ys[k]?.getD 0 = y at *
        have HST := Lib.hid hst
        have HFX := Lib.hid hfx
        clear hst hfx hxe hye
        by_cases hxy : x = y
        · have hnb : ((x : Int) != (y : Int)) = false := by simp [hxy]
          have HT2 := Lib.hid (HST.out hxy)
          clear hxy
          go_wp2_with fail
          go_quiet (fail)
          go_wp2
          go_roundw
          case rel => exact ⟨k + 1, q + nq, by omega, by go_num, HT2, by rw [HWR.out, World.drewN_drewN]⟩
          case measure => simp [intOf]; omega
        · have hnb : ((x : Int) != (y : Int)) = true := by simp; omega
          have hf : sameB xs ys = false := by
            cases h : sameB xs ys with
            | false => rfl
            | true => exact absurd (HFX.out h) hxy
          have HF := Lib.hid hf
          clear hxy hf
          go_wp2_with fail
          go_quiet (fail)
          go_wp2
          go_ret
          exact ⟨by rw [HF.out]; rfl, by rw [HWR.out]; exact below_drewN (below_drewN (Below.refl _ _) _) _⟩
      · obtain rfl : k = xs.length := by omega
        have hf : sameB xs ys = true := by
          have h := HT.out
          rw [List.take_length, List.take_of_length_le (by have := HNE.out; omega)] at h
          exact decide_eq_true h
        have HF := Lib.hid hf
        clear hf
        go_wp2
        go_ret
        exact ⟨by rw [HF.out]; rfl, by rw [HWR.out]; exact below_drewN (Below.refl _ _) _⟩
  · have hbn : ((xs.length : Int) != (ys.length : Int)) = true := by simp; omega
    have hf : sameB xs ys = false := decide_eq_false (fun h => hne (by rw [h]))
    rw [hf]
    clear hf hne
    go_enter Tryd.func43, Tryd.ntmps43
    go_wp2
    go_ret
    exact ⟨rfl, Below.refl _ _⟩

end LM
end Go.Proofs.YtfckjapedjjhpaaDoor
