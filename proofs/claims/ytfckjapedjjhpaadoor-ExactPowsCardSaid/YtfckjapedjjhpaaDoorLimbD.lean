/- Walks of package limb: subTimes: a number, some times, is taken away in its place. -/
import Derived.Test.YtfckjapedjjhpaaDoorLimbC
namespace Go.Proofs.YtfckjapedjjhpaaDoor
open Go.RowKit
namespace LM

theorem at_nat (A : Option Addr) (c : Nat) (xs : List Nat) (k y : Nat) (w : World) (hr : Rd w A xs) (hk : k ≤ 4096) (hy : xs[k]?.getD 0 = y) :
    Calls Tryd.prog 71 #[.slice A xs.length c, .int .i64 (k : Int)] w fun e w' => e = .returned (.int .u32 (y : Int)) ∧ w = w' := by
  have h := at_any A c xs (k : Int) w hr (by omega) (by omega)
  rw [atI_nat, hy] at h
  exact h

/-- where the loop stands when k limbs are done -/
def StRel (w : World) (g : Nat) (pre post xs ys : List Nat) (n : Nat) (c b i : Value) (wr : World) : Prop :=
  ∃ (k : Nat) (zs : List Nat) (cy br : Nat), k ≤ xs.length ∧ i = .int .i64 (k : Int) ∧ c = .int .u64 (cy : Int) ∧ b = .int .u32 (br : Int) ∧ cy < 4294967296 ∧ br ≤ 1 ∧ zs.length = k ∧ Lm zs ∧
    (ys.length < k → cy = 0) ∧
    val zs + val (ys.take k) * n = val (xs.take k) + 4294967296 ^ k * (cy + br) ∧ Blk wr g (U (pre ++ (zs ++ xs.drop k) ++ post)) ∧ w.grownBy wr (some g)

theorem difHi_le (x y z : Nat) : difHi x y z ≤ 1 := by unfold difHi; omega
theorem difLo_lt (x y z : Nat) : difLo x y z < 4294967296 := Nat.mod_lt _ (by decide)
theorem carry2_lt {c p : Nat} (hc : c < 4294967296) (hp : p ≤ 18446744065119617025) : (c + p) / 4294967296 < 4294967296 := by omega

set_option maxHeartbeats 400000 in
theorem subTimes_any (g cap : Nat) (pre xs post : List Nat) (B : Option Addr) (cb : Nat) (ys : List Nat) (n : Nat) (w : World)
    (hg : Blk w g (U (pre ++ xs ++ post))) (hb : Rd w B ys) (hBg : 0 < ys.length → Off B g) (hl : ys.length < xs.length) (hx : Lm xs) (hy : Lm ys) (hn : n < 4294967296) (hxl : xs.length ≤ 4096) :
    Calls Tryd.prog 103 #[.slice (some ⟨g, pre.length, none⟩) xs.length cap, .slice B ys.length cb, .int .u32 (n : Int)] w fun e w' =>
      ∃ (zs : List Nat) (br : Nat), e = .returned (.int .u32 (br : Int)) ∧ br ≤ 1 ∧ zs.length = xs.length ∧ Lm zs ∧ val zs + val ys * n = val xs + 4294967296 ^ xs.length * br ∧
        Blk w' g (U (pre ++ zs ++ post)) ∧ w.grownBy w' (some g) := by
  go_enter Tryd.func103, Tryd.ntmps103
  go_wp2
  go_loopw [7, 8, 12] (fun c b i wr => StRel w g pre post xs ys n c b i wr) (fun _ _ i _ => xs.length - (intOf i).toNat)
  case atStart => exact ⟨0, [], 0, 0, Nat.zero_le _, rfl, rfl, rfl, by decide, by decide, rfl, Lm.nil, fun _ => rfl, by simp [val], by simpa using hg, only_refl _ _⟩
  case round =>
    obtain ⟨k, zs, cy, br, hk, rfl, rfl, rfl, hcy, hbr, hzl, hzL, h0, hv, hB, hG⟩ := hrel
    have HV := Lib.hid hv
    have HZ := Lib.hid hzl
    have H0 := Lib.hid h0
    clear hv h0
    by_cases hlt : k < xs.length
    · have hc1 := blk_mid_cell hB hzl (by omega : k < xs.length)
      have hf1 := hB.frozen (pre.length + k)
      have hb2 := hb.grownG hG hBg
      have hxk := hx.get k
      have hyk := hy.get k
      have hp : (((ys[k]?.getD 0 : Nat) : Int) * (n : Int)) = ((ys[k]?.getD 0 * n : Nat) : Int) := by simp
      have hpl := prod_le hyk hn
      have hy0 : ys.length < k + 1 → ys[k]?.getD 0 = 0 := fun h => by rw [List.getElem?_eq_none (by omega)]; rfl
      have HY0 := Lib.hid hy0
      have hst := subTimes_step (xs := xs) (ys := ys) (n := n) (cy := cy) (br := br) (d := difLo (xs[k]?.getD 0) ((cy + ys[k]?.getD 0 * n) % 4294967296) br) (b' := difHi (xs[k]?.getD 0) ((cy + ys[k]?.getD 0 * n) % 4294967296) br) hzl HV.out (dif_step hxk (Nat.mod_lt _ (by decide)) hbr).1
      clear hy0
      generalize hxe : xs[k]?.getD 0 = x at *
      generalize hye : ys[k]?.getD 0 = y at *
      generalize hpe : y * n = p at *
      have HST := Lib.hid hst
      have HXE := Lib.hid hxe
      have HYE := Lib.hid hye
      have HPE := Lib.hid hpe
      clear hst hxe hye hpe hzl
      go_wp2_with fail
      refine (at_nat B cb ys k y _ hb2 (by omega) HYE.out).mono ?_; rintro e w1 ⟨rfl, rfl⟩
      go_wp2_with fail
      rw [show ((cy : Int) + (p : Int)) % 4294967296 = (((cy + p) % 4294967296 : Nat) : Int) from by omega]
      refine (sub32_any _ _ _ _ hxk (Nat.mod_lt _ (by decide)) hbr).mono ?_; rintro e w1 ⟨rfl, rfl⟩
      go_wp2
      go_roundw
      case rel =>
        refine ⟨k + 1, zs ++ [difLo x ((cy + p) % 4294967296) br], (cy + p) / 4294967296, difHi x ((cy + p) % 4294967296) br, by omega, by go_num, by congr 1, rfl, carry2_lt hcy hpl, difHi_le _ _ _, by simp [HZ.out], hzL.snoc (difLo_lt _ _ _), ?_, HST.out, ?_, ?_⟩
        · intro h
          have h1 := HY0.out h
          have h2 := HPE.out
          rw [h1, Nat.zero_mul] at h2
          subst h2
          omega
        · exact blk_mid_set hB HZ.out (by omega) _ rfl
        · exact only_setCell hG (.inl rfl) _
      case measure => simp [intOf]; omega
    · go_wp2
      go_ret
      obtain rfl : k = xs.length := by omega
      have h0 := H0.out hl
      subst h0
      refine ⟨zs, br, rfl, hbr, HZ.out, hzL, ?_, by simpa using hB, hG⟩
      have h := HV.out
      rw [List.take_of_length_le (by omega : ys.length ≤ xs.length), List.take_length (l := xs), Nat.zero_add] at h
      exact h

end LM
end Go.Proofs.YtfckjapedjjhpaaDoor
