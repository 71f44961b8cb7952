/- The walk of the statement LimbDigits. -/
import Derived.Test.YtkkogmgboehfdaaDoorLimbAlive
import Derived.Test.YtkkogmgboehfdaaDoorLimbParse
import Derived.Test.YtkkogmgboehfdaaDoorLimbX
import Derived.LoopTactic
namespace Go.Proofs.YtkkogmgboehfdaaDoor
open Go.RowKit
namespace LM

set_option maxHeartbeats 1000000 in
theorem text_row (A : Option Addr) (cap : Nat) (xs : List Nat) (w : World) (ha : Rd w A xs) (hx : Lm xs) (hca : xs.length ≤ cap) (hcam : cap ≤ 9223372036854775807)
    (htab : Lib.TabIs Tryd.prog w "internal/strconv.uint64pow10" .u64 Lib.pow10Tab) :
    Calls Tryd.prog 15 #[.slice A xs.length cap] w fun e w' => TextE (val xs) e ∧ Below w.heap.size w w' := by
  rcases Nat.eq_zero_or_pos xs.length with h0 | h0
  · obtain rfl := List.eq_nil_of_length_eq_zero h0
    have H1 := Lib.hid (trimmed_any A cap [] w ha hca (by unfold maxLen; omega))
    rw [show trim [] = [] from rfl] at H1
    have I1 : ∀ W, Calls Tryd.prog 35 #[.slice A ([] : List Nat).length cap] W fun e w' => e = .returned (.bool (decide (64 < ([] : List Nat).length))) ∧ W = w' := fun W => isBig_any A _ cap W (by unfold maxLen; simp)
    have HI := Lib.hid I1
    clear I1 h0 htab
    go_enter Tryd.func15, Tryd.ntmps15
    go_wp2_with fail
    refine H1.out.mono ?_; rintro e w1 ⟨rfl, rfl⟩
    go_wp2_with fail
    refine (HI.out _).mono ?_; rintro e w1 ⟨rfl, rfl⟩
    go_wp2
    go_ret
    refine ⟨⟨[48], rfl, .inr ⟨fun h => ?_, by rw [show val [] = 0 from rfl, Lib.decDigits_one (by decide)]; rfl⟩⟩, Below.refl _ _⟩
    have := Nat.lt_of_lt_of_le (Nat.pow_pos (show 0 < 4294967296 from by decide)) h
    cases this
  · refine text_any A cap xs w ha (fun ad e => ?_) hx hca hcam htab
    obtain ⟨b, off, e1, hb, _⟩ := ha h0
    rw [e1] at e
    injection e with e
    subst e
    exact hb

theorem dec_first (u : Nat) (hu : 0 < u) : ∃ c r, Lib.decDigits u = c :: r ∧ c ≠ 48 := by
  induction u using Nat.strongRecOn with
  | ind u ih =>
    by_cases h : u < 10
    · rw [Lib.decDigits_one h]
      refine ⟨_, [], rfl, fun e => ?_⟩
      have e1 : (UInt8.ofNat (48 + u)).toNat = 48 + u := by simp; omega
      rw [e] at e1
      have e2 : (48 : UInt8).toNat = 48 := rfl
      omega
    · rw [dec_big h]
      obtain ⟨c, r, e, hc⟩ := ih (u / 10) (by omega) (by omega)
      rw [e]
      exact ⟨c, r ++ [_], rfl, hc⟩
theorem pow_fits : (4294967296 : Nat) ^ 64 ≤ 10 ^ (616 + 1) := of_decide_eq_true (by kernel_rfl)
theorem dec_fits {u : Nat} (h : ¬ BIG u) : 1 ≤ (Lib.decDigits u).length ∧ (Lib.decDigits u).length ≤ 617 := by
  have h2 : Lib.nDigits u ≤ 616 + 1 := nDigits_le (k := 616) (Nat.lt_of_lt_of_le (Nat.lt_of_not_le h) pow_fits)
  rw [Lib.decDigits_length]
  refine ⟨?_, by omega⟩
  rw [← Lib.decDigits_length]
  rcases Nat.eq_zero_or_pos u with rfl | hp
  · rw [Lib.decDigits_one (by decide)]; simp
  · obtain ⟨c, r, e, _⟩ := dec_first u hp
    rw [e]; simp

set_option maxRecDepth 100000 in
set_option maxHeartbeats 8000000 in
theorem digits_walk (A : Option Addr) (ca : Nat) (xs : List Nat) (z : Int) (w : World) (ha : Rd w A xs) (hx : Lm xs) (hca : xs.length ≤ ca) (hcam : ca ≤ 9223372036854775807) (hz1 : -9223372036854775808 ≤ z) (hz2 : z < 9223372036854775808)
    (htab : Lib.TabIs Tryd.prog w "internal/strconv.uint64pow10" .u64 Lib.pow10Tab) :
    Calls Tryd.prog 11 #[.slice A xs.length ca, .int .i64 z] w fun e w' => e = .returned (.bool true) ∧ Below w.heap.size w w' := by
  have HAL := Lib.hid (alive_any w htab)
  have HTAB := Lib.hid htab
  clear htab
  by_cases h1 : 64 < xs.length
  · have hd : decide (64 < xs.length) = true := decide_eq_true h1
    go_enter Tryd.func11, Tryd.ntmps11
    go_wp2_with fail
    refine HAL.out.mono ?_
    rintro e w1 ⟨rfl, b1⟩
    go_wp2
    go_ret
    exact ⟨rfl, b1⟩
  have hd : decide (64 < (xs.length : Int)) = false := decide_eq_false (by omega)
  by_cases h2 : z < 0
  · have hd2 : decide (z < 0) = true := decide_eq_true h2
    go_enter Tryd.func11, Tryd.ntmps11
    go_wp2_with fail
    refine HAL.out.mono ?_
    rintro e w1 ⟨rfl, b1⟩
    go_wp2
    go_ret
    exact ⟨rfl, b1⟩
  have hd2 : decide (z < 0) = false := decide_eq_false h2
  by_cases h3 : 50 < z
  · have hd3 : decide (50 < z) = true := decide_eq_true h3
    go_enter Tryd.func11, Tryd.ntmps11
    go_wp2_with fail
    refine HAL.out.mono ?_
    rintro e w1 ⟨rfl, b1⟩
    go_wp2
    go_ret
    exact ⟨rfl, b1⟩
  have hd3 : decide (50 < z) = false := decide_eq_false h3
  have nb : ¬ BIG (val xs) := by
    have := val_len_lt hx (n := 64) (by omega)
    unfold BIG; omega
  have hdl := dec_fits nb
  have hdd := dec_digs (val xs)
  have NB := Lib.hid nb
  clear nb h1
  go_enter Tryd.func11, Tryd.ntmps11
  go_wp2_with fail
  refine HAL.out.mono ?_
  rintro e w1 ⟨rfl, b1⟩
  go_wp2_with fail
  refine (text_row A ca xs w1 (ha.below b1) hx hca hcam (tab_below HTAB.out b1)).mono ?_
  rintro e w2 ⟨⟨ds, rfl, ⟨hbad, _⟩ | ⟨_, hds⟩⟩, b2⟩
  · exact absurd hbad NB.out
  rw [← hds] at hdl hdd
  obtain ⟨s, hs⟩ : ∃ s : ByteArray, s = ⟨ds.toArray⟩ := ⟨_, rfl⟩
  rw [← hs]
  have hsl : s.data.toList = ds := by rw [hs]
  have hsz : s.size = ds.length := by rw [Lib.size_eq, hsl]
  have B2 := b1.trans (b2.mono b1.size)
  have hp1 := parse_any s w2 (by omega) (fun h => absurd (by rw [hsl]; exact hdd.1) h)
  have HP1 := Lib.hid hp1
  have HDS := Lib.hid hds
  have HSL := Lib.hid hsl
  have HS := Lib.hid hs
  have HDD := Lib.hid hdd
  clear hp1 hds hsl hs hdd
  go_wp2_with fail
  refine HP1.out.mono ?_
  rintro e w3 ⟨⟨v, er, rfl, hpe⟩, b3⟩
  rw [HSL.out, HDD.out.2] at hpe
  have hok : OkText ds := ⟨hdl.1, by omega, HDD.out.1⟩
  rcases hpe with ⟨hbad, _⟩ | ⟨_, hbad, _⟩ | ⟨_, _, rfl, A1, k1, r, rfl, r1, r2, r3, r4, r5⟩
  · exact absurd hok hbad
  · exact absurd hbad NB.out
  have HR5 := Lib.hid r5
  have hrl : r.length ≤ 64 := by
    rcases Nat.lt_or_ge 64 r.length with h | h
    · exact absurd ((big_iff r4).1 h) (by rw [HR5.out]; exact NB.out)
    · exact h
  have B3 := B2.trans (b3.mono B2.size)
  have ha3 := ((ha.below b1).below b2).below b3
  clear ha b1 b2 b3 r5 hok
  go_wp2_with fail
  go_loop [8, 9] (fun lo k => ∃ (j : Nat) (t : ByteArray), (j : Int) ≤ z ∧ lo = .string t ∧ k = .int .i64 (j : Int) ∧ t.data.toList = List.replicate j 48 ++ ds) (fun _ k => (z - intOf k).toNat)
  case atStart => exact ⟨0, s, by omega, rfl, rfl, HSL.out⟩
  case round =>
    obtain ⟨j, t, hj, rfl, rfl, ht⟩ := hrel
    have htz : t.size = j + ds.length := by rw [Lib.size_eq, ht]; simp
    have HT := Lib.hid ht
    clear ht
    by_cases hlt : (j : Int) < z
    · have hdj : decide ((j : Int) < z) = true := decide_eq_true hlt
      go_wp2
      refine ⟨⟨j + 1, _, by omega, rfl, by congr 1, ?_⟩, by simp [intOf]; omega⟩
      have e : (({ data := #[48] } : ByteArray) ++ t).data.toList = 48 :: t.data.toList := by simp [ByteArray.data_append]
      rw [e, HT.out]
      rfl
    · have hdj : decide ((j : Int) < z) = false := decide_eq_false hlt
      have hp2 := parse_any t w3 (by omega) (fun h => absurd (by rw [HT.out]; exact (digs_zeros j).append HDD.out.1) h)
      rw [HT.out] at hp2
      have HP2 := Lib.hid hp2
      clear hp2
      go_wp2_with fail
      refine HP2.out.mono ?_
      rintro e w4 ⟨⟨v, er, rfl, hpe⟩, b4⟩
      rw [dval_zeros, HDD.out.2] at hpe
      have hok : OkText (List.replicate j 48 ++ ds) := ⟨by simp; omega, by simp; omega, (digs_zeros j).append HDD.out.1⟩
      rcases hpe with ⟨hbad, _⟩ | ⟨_, hbad, _⟩ | ⟨_, _, rfl, A2, k2, q, rfl, q1, q2, q3, q4, q5⟩
      · exact absurd hok hbad
      · exact absurd hbad NB.out
      have HQ5 := Lib.hid q5
      have B4 := B3.trans (b4.mono B3.size)
      have ha4 := ha3.below b4
      have hr4 := r3.below b4
      clear hok b4 q5 ha3 r3
      have hl1 : decide (1 ≤ s.size) = true := decide_eq_true (by omega)
      have hl2 : decide (s.size ≤ 617) = true := decide_eq_true (by omega)
      have hcm := cmp_any A1 A k1 ca r xs w4 hr4 ha4 r4.1 hx r1 hca r2 hcam (by omega)
      rw [cmpN_eq HR5.out] at hcm
      have HCM := Lib.hid hcm
      clear hcm
      go_wp2_with fail
      refine HCM.out.mono ?_
      rintro e w5 ⟨rfl, b5⟩
      have hsm := same_any A1 A2 k1 k2 r q w5 (hr4.below b5) (q3.below b5) (by omega)
      have hse : sameB r q = true := by rw [can_ext r4 q4 (by rw [HR5.out, HQ5.out])]; exact sameB_self _
      rw [hse] at hsm
      have HSM := Lib.hid hsm
      have B5 := B4.trans (b5.mono B4.size)
      clear hsm b5
      rcases Nat.eq_zero_or_pos (val xs) with h0 | h0
      · have hs0 : s = { data := #[48] } := by rw [HS.out, HDS.out, h0, Lib.decDigits_one (by decide)]; rfl
        have hse0 : (s.toList == [48]) = true := by rw [Lib.toList_data, hs0]; rfl
        have HS0 := Lib.hid hse0
        clear hs0 h0 hse0
        go_wp2_with fail
        refine HSM.out.mono ?_
        rintro e w6 ⟨rfl, b6⟩
        go_wp2_with fail
        · go_ret
          refine ⟨?_, B5.trans (b6.mono B5.size)⟩
          show Ending.returned (.bool (s.toList == [48])) = _
          rw [HS0.out]
        · go_ret
          exact ⟨rfl, B5.trans (b6.mono B5.size)⟩
      · obtain ⟨c, cr, hcr, hc⟩ := dec_first (val xs) h0
        have hfi : ∀ h : 0 < s.size, s[0].toNat ≠ 48 := fun h e => by
          have e1 : s.data.toList = c :: cr := by rw [HSL.out, HDS.out, hcr]
          have e2 : s.data.toList[0]? = some s[0] := by rw [Array.getElem?_toList, Array.getElem?_eq_getElem h]; rfl
          rw [e1] at e2
          injection e2 with e2
          rw [← e2] at e
          exact hc (UInt8.toNat_inj.1 e)
        have HFI := Lib.hid hfi
        clear hc hcr h0 hfi
        go_wp2_with fail
        refine HSM.out.mono ?_
        rintro e w6 ⟨rfl, b6⟩
        go_wp2_with fail
        · rename_i hbad
          exact (HFI.out _ (by exact_mod_cast hbad)).elim
        · go_ret
          exact ⟨rfl, B5.trans (b6.mono B5.size)⟩

end LM
end Go.Proofs.YtkkogmgboehfdaaDoor
