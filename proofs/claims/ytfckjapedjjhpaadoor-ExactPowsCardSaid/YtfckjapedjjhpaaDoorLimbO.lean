/- Walks of package limb: Sub: the difference; Trim. -/
import Derived.Test.YtfckjapedjjhpaaDoorLimbN
namespace Go.Proofs.YtfckjapedjjhpaaDoor
open Go.RowKit
namespace LM

/-- where the loop stands when k limbs are done -/
def SbRel (w : World) (g : Nat) (xt yt : List Nat) (b i : Value) (wr : World) : Prop :=
  ∃ (k : Nat) (zs : List Nat) (br : Nat), k ≤ xt.length ∧ i = .int .i64 (k : Int) ∧ b = .int .u32 (br : Int) ∧ br ≤ 1 ∧ zs.length = k ∧ Lm zs ∧ val zs + val (yt.take k) = val (xt.take k) + 4294967296 ^ k * br ∧
    Blk wr g (U ([] ++ (zs ++ (List.replicate xt.length 0).drop k) ++ [])) ∧ w.grownBy wr (some g)

theorem sub_step {xs ys zs : List Nat} {k br d b' : Nat} (hz : zs.length = k) (h : val zs + val (ys.take k) = val (xs.take k) + 4294967296 ^ k * br)
    (hd : d + ys[k]?.getD 0 + br = xs[k]?.getD 0 + 4294967296 * b') : val (zs ++ [d]) + val (ys.take (k + 1)) = val (xs.take (k + 1)) + 4294967296 ^ (k + 1) * b' := by
  rw [val_snoc, val_take_succ, val_take_succ, hz, Nat.pow_succ]
  generalize xs[k]?.getD 0 = x at *
  generalize ys[k]?.getD 0 = y at *
  generalize 4294967296 ^ k = P at h ⊢
  grind
theorem sub_end {xt yt zs : List Nat} {br : Nat} (hz : zs.length = xt.length) (hzL : Lm zs) (hb : br ≤ 1) (hl : yt.length ≤ xt.length) (hle : val yt ≤ val xt)
    (h : val zs + val (yt.take xt.length) = val (xt.take xt.length) + 4294967296 ^ xt.length * br) : val zs = val xt - val yt := by
  rw [List.take_of_length_le hl, List.take_length] at h
  have e1 := val_lt hzL
  rw [hz] at e1
  generalize 4294967296 ^ xt.length = P at *
  have h3 : br = 0 ∨ br = 1 := by omega
  rcases h3 with rfl | rfl
  · rw [Nat.mul_zero] at h; omega
  · rw [Nat.mul_one] at h; omega
theorem can_le_len {xt yt : List Nat} (hx : Can xt) (hy : Can yt) (h : val yt ≤ val xt) : yt.length ≤ xt.length := by
  rcases Nat.lt_or_ge xt.length yt.length with h1 | h1
  · have := can_len_lt hx hy h1; omega
  · exact h1

def SubE (w : World) (x y : Nat) (e : Ending) (w' : World) : Prop :=
  ∃ v ok, e = .returned (.tuple #[v, .bool ok]) ∧ ((x < y ∧ v = .slice none 0 0 ∧ ok = false) ∨ (y ≤ x ∧ ok = true ∧ NumV w' v (x - y))) ∧ Below w.heap.size w w'

theorem trimmed_num {g N : Nat} {us : List Nat} {w : World} (hB : Blk w g (U us)) (hul : us.length = N) (huL : Lm us) (hN : N ≤ 100000) :
    Calls Tryd.prog 62 #[.slice (some ⟨g, 0, none⟩) N N] w fun e w' => (∃ v, e = .returned v ∧ NumV w' v (val us)) ∧ w = w' := by
  subst hul
  have hr : Rd w (some ⟨g, 0, none⟩) us := by
    have h := Rd.of_blk (w := w) (g := g) (pre := []) (xs := us) (post := []) (by simpa using hB)
    simpa using h
  exact (trimmed_any _ _ us w hr (Nat.le_refl _) (by unfold maxLen; omega)).mono fun e w' ⟨he, hw⟩ => by
    subst hw
    exact ⟨⟨_, he, _, _, trim us, rfl, by have := trim_length_le us; omega, by omega, hr.trim, can_trim huL, val_trim us⟩, rfl⟩

set_option maxRecDepth 100000 in
set_option maxHeartbeats 1000000 in
theorem sub_any (A B : Option Addr) (ca cb : Nat) (xs ys : List Nat) (w : World) (ha : Rd w A xs) (hb : Rd w B ys) (hx : Lm xs) (hy : Lm ys) (hca : xs.length ≤ ca) (hcb : ys.length ≤ cb) (hcam : ca ≤ 9223372036854775807) (hcbm : cb ≤ 9223372036854775807) (hxl : xs.length ≤ 1000) :
    Calls Tryd.prog 50 #[.slice A xs.length ca, .slice B ys.length cb] w fun e w' => SubE w (val xs) (val ys) e w' := by
  have H1 := Lib.hid (trimmed_any A ca xs w ha hca (by unfold maxLen; omega))
  have H2 := Lib.hid (trimmed_any B cb ys w hb hcb (by unfold maxLen; omega))
  have hta := ha.trim
  have htb := hb.trim
  have hcx := can_trim hx
  have hcy := can_trim hy
  rw [← val_trim xs, ← val_trim ys]
  have hlx := trim_length_le xs
  have hly := trim_length_le ys
  generalize trim xs = xt at *
  generalize trim ys = yt at *
  have H3 := Lib.hid (cmp_any A B ca cb xt yt w hta htb hcx.1 hcy.1 (by omega) (by omega) hcam hcbm (by omega))
  clear ha hb
  by_cases hlt : val xt < val yt
  · rw [cmpN_lt hlt] at H3
    go_enter Tryd.func50, Tryd.ntmps50
    go_wp2_with fail
    refine H1.out.mono ?_; rintro e w' ⟨rfl, rfl⟩
    go_wp2_with fail
    refine H2.out.mono ?_; rintro e w' ⟨rfl, rfl⟩
    go_wp2_with fail
    refine H3.out.mono ?_; rintro e w1 ⟨rfl, hb1⟩
    go_wp2
    go_ret2
    exact ⟨_, _, rfl, .inl ⟨hlt, rfl, rfl⟩, hb1⟩
  · have hge : val yt ≤ val xt := by omega
    have hll := can_le_len hcx hcy hge
    obtain ⟨cv, hcv, hcv0⟩ : ∃ cv : Int, cmpN (val xt) (val yt) = cv ∧ 0 ≤ cv := ⟨_, rfl, by unfold cmpN; rw [if_neg hlt]; split <;> decide⟩
    rw [hcv] at H3
    have HGE := Lib.hid hge
    clear hcv hlt hge
    have hmk := fun W => run_make_row' (P := Tryd.prog) 22 51 (.int .u32 0) 4 Tryd.underlying22 u32_info rfl .i64 .i64 xt.length (by omega) (by omega) W
    simp only [made_zero] at hmk
    go_enter Tryd.func50, Tryd.ntmps50
    go_wp2_with fail
    refine H1.out.mono ?_; rintro e w' ⟨rfl, rfl⟩
    go_wp2_with fail
    refine H2.out.mono ?_; rintro e w' ⟨rfl, rfl⟩
    go_wp2_with fail
    refine H3.out.mono ?_; rintro e w1 ⟨rfl, hb1⟩
    go_wp2_with fail
    clear H1 H2 H3 hmk
    go_loopw [7, 22] (fun b i wr => SbRel w1 w1.heap.size xt yt b i wr) (fun _ i _ => xt.length - (intOf i).toNat)
    case atStart => exact ⟨0, [], 0, Nat.zero_le _, rfl, rfl, by decide, rfl, Lm.nil, by simp [val], by simpa using Blk.new w1 _, only_alloc (only_refl _ _) _⟩
    case round =>
      obtain ⟨k, zs, br, hk, rfl, rfl, hbr, hzl, hzL, hv, hB, hG⟩ := hrel
      have HV := Lib.hid hv
      have HZ := Lib.hid hzl
      clear hv
      have hbe : Below w.heap.size w wr := below_of_only hb1 hG hb1.size hb1.size
      by_cases hlt : k < xt.length
      · have hc1 := blk_mid_cell hB hzl (by simpa using hlt)
        have hf1 := hB.frozen k
        simp only [List.length_nil, Nat.zero_add] at hc1
        have hra := hta.below hbe
        have hrb := htb.below hbe
        obtain ⟨b2, o2, rfl, _, hc2⟩ := hra.at_ hlt
        have hxk := hcx.1.get k
        have hyk := hcy.1.get k
        have hst := sub_step (xs := xt) (ys := yt) (d := difLo (xt[k]?.getD 0) (yt[k]?.getD 0) br) (b' := difHi (xt[k]?.getD 0) (yt[k]?.getD 0) br) hzl HV.out (dif_step hxk hyk hbr).1
        generalize hxe : xt[k]?.getD 0 = x at *
        generalize hye : yt[k]?.getD 0 = y at *
        have HST := Lib.hid hst
        have HXE := Lib.hid hxe
        have HYE := Lib.hid hye
        clear hst hxe hye hzl
        go_wp2_with fail
        go_region_with (first | (go_at_call 71; refine (at_nat B cb yt k y _ hrb.drew (by omega) HYE.out).mono ?_; rintro e w2 ⟨rfl, rfl⟩) | (go_at_call 75; refine (sub32_any _ _ _ _ hxk hyk hbr).mono ?_; rintro e w2 ⟨rfl, rfl⟩))
        all_goals
          go_wp2
          go_roundw
          case rel =>
            refine ⟨k + 1, zs ++ [difLo x y br], difHi x y br, by omega, by go_num, rfl, difHi_le _ _ _, by simp [HZ.out], hzL.snoc (difLo_lt _ _ _), HST.out, ?_, ?_⟩
            · have h := blk_mid_set (w := wr.drew) hB.drew HZ.out (by simpa using hlt) (difLo x y br) rfl
              simp only [List.length_nil, Nat.zero_add] at h
              exact h
            · exact only_setCell (only_drew hG) (.inl rfl) _
          case measure => simp [intOf]; omega
      · obtain rfl : k = xt.length := by omega
        have hend := sub_end hzl hzL hbr hll HGE.out HV.out
        have hB1 : Blk wr w1.heap.size (U zs) := by simpa using hB
        have HEND := Lib.hid hend
        clear hend hB
        go_wp2_with fail
        refine (trimmed_num hB1 hzl hzL (by omega)).mono ?_
        rintro e w3 ⟨⟨v, rfl, hn⟩, rfl⟩
        have HN := Lib.hid hn
        clear hn
        go_wp2
        go_ret2
        exact ⟨_, _, rfl, .inr ⟨HGE.out, rfl, by have h := HN.out; rw [HEND.out] at h; exact h⟩, hbe⟩

set_option maxHeartbeats 400000 in
theorem trimUp_any (A : Option Addr) (ca : Nat) (xs : List Nat) (w : World) (ha : Rd w A xs) (hx : Lm xs) (hca : xs.length ≤ ca) (hcam : ca ≤ 9223372036854775807) (hxl : xs.length ≤ 1000) :
    Calls Tryd.prog 56 #[.slice A xs.length ca] w fun e w' => ∃ r, e = .returned (.slice (some ⟨w.heap.size, 0, none⟩) (List.length r) r.length) ∧ Blk w' w.heap.size (U r) ∧ Can r ∧ val r = val xs ∧ r.length ≤ xs.length ∧ Below w.heap.size w w' := by
  have hta := ha.trim
  have hcx := can_trim hx
  have hvx := val_trim xs
  have hlx := trim_length_le xs
  have H1 := Lib.hid (trimmed_any A ca xs w ha hca (by unfold maxLen; omega))
  generalize trim xs = xt at *
  have HV := Lib.hid hvx
  clear hvx ha
  go_enter Tryd.func56, Tryd.ntmps56
  go_wp2_with fail
  refine H1.out.mono ?_; rintro e w' ⟨rfl, rfl⟩
  go_wp2_with fail
  refine (widened_any A ca xt.length xt _ hta (Nat.le_refl _) (by omega)).mono ?_; rintro e w1 ⟨rfl, hB1, hb1⟩
  go_wp2
  go_ret
  exact ⟨xt, rfl, by simpa using hB1, hcx, HV.out, hlx, hb1⟩

end LM
end Go.Proofs.YtfckjapedjjhpaaDoor
