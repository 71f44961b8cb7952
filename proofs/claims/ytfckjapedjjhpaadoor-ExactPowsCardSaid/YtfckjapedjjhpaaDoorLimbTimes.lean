/- Walks: the document's answer Times. -/
import Derived.Test.YtfckjapedjjhpaaDoorLimbZ
import Derived.Test.YtfckjapedjjhpaaDoorLimbMath
namespace Go.Proofs.YtfckjapedjjhpaaDoor
open Go.RowKit
namespace LM

theorem numR_keep {w w' : World} {v : Value} {n : Nat} (h : NumR w v n) (hb : Below w.heap.size w w') : NumR w' v n := by
  obtain ⟨A, c, r, e, h1, h2, h3, h4⟩ := h
  exact ⟨A, c, r, e, h1, h2.below hb, h3, h4⟩
theorem num_len {r : List Nat} {n k : Nat} (hc : Can r) (hv : val r = n) (hn : n < 4294967296 ^ k) : r.length ≤ k := by
  rcases Nat.lt_or_ge k r.length with h | h
  · have := (can_len hc k).1 h
    omega
  · exact h

theorem plus_len {r2 r s : List Nat} (h2 : Can r2) (hr : Lm r) (hs : Lm s) (hv : val r2 = val r + val s) : r2.length ≤ max r.length s.length + 1 := by
  refine num_len h2 rfl ?_
  have e1 := val_len_lt hr (Nat.le_max_left r.length s.length)
  have e2 := val_len_lt hs (Nat.le_max_right r.length s.length)
  rw [hv, Nat.pow_succ]
  generalize 4294967296 ^ max r.length s.length = P at *
  omega
theorem times_bound {xs ys : List Nat} (hx : Lm xs) (hy : Lm ys) (n : Nat) : val xs * (val ys / 2 ^ n) < 4294967296 ^ (xs.length + ys.length) := by
  have h1 := val_lt hx
  have h2 := val_lt hy
  have h3 := Nat.div_le_self (val ys) (2 ^ n)
  rw [Nat.pow_add]
  exact Nat.mul_lt_mul'' h1 (Nat.lt_of_le_of_lt h3 h2)
theorem times_len {xs ys r : List Nat} {n : Nat} (hx : Lm xs) (hy : Lm ys) (hr : Can r) (hv : val r = val xs * (val ys / 2 ^ n)) : r.length ≤ xs.length + ys.length := num_len hr hv (times_bound hx hy n)
theorem bit_and {ys : List Nat} (hy : Lm ys) (m : Nat) : bits .and .u32 (((ys[m / 32]?.getD 0 : Nat) : Int) / 2 ^ (m % 32)) 1 = ((bitAt ys m : Nat) : Int) := by
  have h := hy.get (m / 32)
  have h1 := b32_and (ys[m / 32]?.getD 0 / 2 ^ (m % 32)) 1 (Nat.lt_of_le_of_lt (Nat.div_le_self _ _) h) (by decide)
  rw [Nat.and_one_is_mod, ← cast_div] at h1
  exact h1

theorem bit0 (a b : Nat) : a * b + a * b = a * (2 * b + 0) := by grind
theorem bit1 (a b : Nat) : a * b + a * b + a = a * (2 * b + 1) := by grind

/-- where the loop stands when the bits from n on are done -/
def TiRel (w : World) (xs ys : List Nat) (v i : Value) (wr : World) : Prop :=
  ∃ n : Nat, n ≤ 32 * ys.length ∧ i = .int .i64 ((n : Int) - 1) ∧ NumR wr v (val xs * (val ys / 2 ^ n)) ∧ Below w.heap.size w wr

set_option maxRecDepth 100000 in
set_option maxHeartbeats 1000000 in
theorem rtimes_any (A B : Option Addr) (ca cb : Nat) (xs ys : List Nat) (w : World) (ha : Rd w A xs) (hb : Rd w B ys) (hx : Lm xs) (hy : Lm ys) (hlx : xs.length ≤ 1000) (hly : ys.length ≤ 1000) :
    Calls Tryd.prog 79 #[.slice A xs.length ca, .slice B ys.length cb] w fun e w' => (∃ v, e = .returned v ∧ NumR w' v (val xs * val ys)) ∧ Below w.heap.size w w' := by
  have hrow : NumR (w.alloc (.cells #[] 51)) (.slice (some ⟨w.heap.size, 0, none⟩) 0 0) (val xs * (val ys / 2 ^ (32 * ys.length))) :=
    ⟨_, 0, [], rfl, (fun h => by cases h), Rd.nil, can_nil, by rw [bit_top hy]; rfl⟩
  have HR := Lib.hid hrow
  clear hrow
  go_enter Tryd.func79, Tryd.ntmps79
  go_wp2
  go_loopw [5, 6] (fun v i wr => TiRel w xs ys v i wr) (fun _ i _ => (intOf i + 1).toNat)
  case atStart => exact ⟨32 * ys.length, Nat.le_refl _, by congr 1, HR.out, (Below.refl _ _).alloc (Nat.le_refl _) _⟩
  case round =>
    clear HR
    obtain ⟨n, hn, rfl, hnum, hbe⟩ := hrel
    have hra := ha.below hbe
    have hrb := hb.below hbe
    have hbs := hbe.size
    rcases n with _ | m
    · obtain ⟨A1, c1, r, rfl, hnz, hr1, hcr, hvr⟩ := hnum
      have hrl := times_len hx hy hcr hvr
      rw [Nat.pow_zero, Nat.div_one] at hvr
      have HV := Lib.hid hvr
      clear hvr
      go_wp2_with fail
      refine (rtrim_any A1 c1 r wr hr1 hcr.1 (by omega) hnz).mono ?_
      rintro e w1 ⟨⟨v, rfl, hn1⟩, hb1⟩
      rw [HV.out] at hn1
      have HN := Lib.hid hn1
      have HB1 := Lib.hid hb1
      clear hn1 hb1
      go_wp2
      go_ret
      exact ⟨⟨v, rfl, HN.out⟩, hbe.trans (HB1.out.mono hbs)⟩
    · rw [show ((m + 1 : Nat) : Int) - 1 = (m : Int) from by omega]
      have hbv := bit_val hy (n := m) (by omega)
      obtain ⟨A1, c1, r, rfl, hnz, hr1, hcr, hvr⟩ := hnum
      have hrl := times_len hx hy hcr hvr
      obtain ⟨b2, o2, rfl, _, hcell⟩ := hrb.at_ (k := m / 32) (by omega)
      have HV := Lib.hid hvr
      have HBV := Lib.hid hbv
      clear hvr hbv
      go_wp2_with fail
      refine (rplus_any A1 A1 c1 c1 r r wr hr1 hr1 hcr.1 hcr.1 (by omega) (by omega)).mono ?_
      rintro e w1 ⟨⟨v1, rfl, hn1⟩, hb1⟩
      have hcell1 : w1.cell? ⟨b2, o2 + m / 32, none⟩ = some (.int .u32 ((ys[m / 32]?.getD 0 : Nat) : Int)) := by
        obtain ⟨b3, o3, e3, _, h3⟩ := (hrb.below hb1).at_ (k := m / 32) (by omega)
        cases e3; exact h3
      have hbit := bit_and hy m
      have hb1le := bit_le ys m
      obtain ⟨A2, c2, r2, rfl, hnz2, hr2, hcr2, hvr2⟩ := hn1
      have hr2l := plus_len hcr2 hcr.1 hcr.1 hvr2
      rw [Nat.max_self] at hr2l
      have HV2 := Lib.hid hvr2
      generalize bitAt ys m = bt at *
      clear hvr2
      have hbe1 : Below w.heap.size w w1 := hbe.trans (hb1.mono hbs)
      have hra1 := hra.below hb1
      have hbs1 := hbe1.size
      have h3 : bt = 0 ∨ bt = 1 := by omega
      rcases h3 with rfl | rfl
      · have hfin : val r2 = val xs * (val ys / 2 ^ m) := by
          rw [HV2.out, HV.out, HBV.out]; exact bit0 _ _
        have HF := Lib.hid hfin
        clear hfin
        go_wp2
        go_roundw
        case rel => exact ⟨m, by omega, rfl, ⟨A2, c2, r2, rfl, hnz2, hr2, hcr2, HF.out⟩, hbe1⟩
        case measure => simp [intOf]
      · have hfin : val r2 + val xs = val xs * (val ys / 2 ^ m) := by
          rw [HV2.out, HV.out, HBV.out]; exact bit1 _ _
        have HF := Lib.hid hfin
        clear hfin
        go_wp2_with fail
        refine (rplus_any A2 A c2 ca r2 xs w1 hr2 hra1 hcr2.1 hx (by omega) (by omega)).mono ?_
        rintro e w2 ⟨⟨v2, rfl, hn2⟩, hb2⟩
        rw [HF.out] at hn2
        have HN2 := Lib.hid hn2
        have HB2 := Lib.hid hb2
        clear hn2 hb2
        go_wp2
        go_roundw
        case rel => exact ⟨m, by omega, rfl, HN2.out, hbe1.trans (HB2.out.mono hbs1)⟩
        case measure => simp [intOf]

end LM
end Go.Proofs.YtfckjapedjjhpaaDoor
