/- Walks of package limb: Sub: the difference; Trim. -/
import Derived.Test.YtpoojlnndgoeoaaGreatDoorLimbM
namespace Go.Proofs.YtpoojlnndgoeoaaGreatDoor
open Go.RowKit
namespace LM

/-- where the loop stands when k limbs of the one are done -/
def MuRel (w : World) (g : Nat) (xt yt : List Nat) (i : Value) (wr : World) : Prop :=
  ∃ (k : Nat) (zs : List Nat), k ≤ yt.length ∧ i = .int .i64 (k : Int) ∧ zs.length = k + xt.length ∧ Lm zs ∧ val zs = val xt * val (yt.take k) ∧
    Blk wr g (U (zs ++ List.replicate (yt.length - k) 0)) ∧ w.grownBy wr (some g) ∧ Below w.heap.size w wr

theorem mul_step {xt yt zs zs' : List Nat} {k c : Nat} (hk : k ≤ zs.length) (hl : zs'.length = xt.length) (h : val zs = val xt * val (yt.take k))
    (h2 : val zs' + 4294967296 ^ xt.length * c = val (zs.drop k) + val xt * yt[k]?.getD 0) :
    val (zs.take k ++ (zs' ++ [c])) = val xt * val (yt.take (k + 1)) := by
  have e := val_split zs k
  rw [Nat.min_eq_left hk] at e
  rw [val_append, val_snoc, val_take_succ, List.length_take, Nat.min_eq_left hk, hl]
  generalize yt[k]?.getD 0 = y at *
  generalize 4294967296 ^ xt.length = Q at *
  generalize 4294967296 ^ k = P at *
  grind

theorem mul_blk {w : World} {g k n m : Nat} {zs zs' : List Nat} (hz : zs.length = k + n) (hz' : zs'.length = n) (hk : k < m) (h : Blk w g (U (zs.take k ++ (zs' ++ (zs.drop k ++ List.replicate (m - k) 0).drop n) ++ []))) :
    Blk w g (U ([] ++ ((zs.take k ++ zs') ++ (List.replicate (m + n) 0).drop (k + n)) ++ [])) := by
  have e : (zs.drop k ++ List.replicate (m - k) (0 : Nat)).drop n = (List.replicate (m + n) 0).drop (k + n) := by
    rw [List.drop_left' (by simp; omega), List.drop_replicate]
    congr 1; omega
  rw [e] at h
  simpa using h
theorem mul_cell {w : World} {g k n m : Nat} {zs zs' : List Nat} (hz : zs.length = k + n) (hz' : zs'.length = n) (hk : k < m) (h : Blk w g (U ([] ++ ((zs.take k ++ zs') ++ (List.replicate (m + n) 0).drop (k + n)) ++ []))) :
    w.cell? ⟨g, k + n, none⟩ = some (.int .u32 0) := by
  have h1 := blk_mid_cell h (by simp; omega) (by simp; omega)
  simpa [List.getElem?_replicate, show k + n < m + n from by omega] using h1
theorem mul_set {w : World} {g k n m : Nat} {zs zs' : List Nat} (hz : zs.length = k + n) (hz' : zs'.length = n) (hk : k < m) (h : Blk w g (U ([] ++ ((zs.take k ++ zs') ++ (List.replicate (m + n) 0).drop (k + n)) ++ []))) (c : Nat) {v : Value} (hv : v = .int .u32 (c : Int)) :
    Blk (w.setCell ⟨g, k + n, none⟩ v) g (U ((zs.take k ++ (zs' ++ [c])) ++ List.replicate (m - (k + 1)) 0)) := by
  have h1 := blk_mid_set h (by simp; omega) (by simp; omega) c hv
  rw [List.drop_replicate, show m + n - (k + n + 1) = m - (k + 1) from by omega] at h1
  simpa using h1

set_option maxRecDepth 100000 in
set_option maxHeartbeats 1000000 in
theorem mul_any (A B : Option Addr) (ca cb : Nat) (xs ys : List Nat) (w : World) (ha : Rd w A xs) (hb : Rd w B ys) (hx : Lm xs) (hy : Lm ys) (hca : xs.length ≤ ca) (hcb : ys.length ≤ cb) (hcam : ca ≤ 9223372036854775807) (hcbm : cb ≤ 9223372036854775807) :
    Calls Tryz.prog 88 #[.slice A xs.length ca, .slice B ys.length cb] w fun e w' => AnsE w (BIG (val xs) ∨ BIG (val ys) ∨ BIG (val xs * val ys)) (val xs * val ys) e w' := by
  have H1 := Lib.hid (trimmed_any A ca xs w ha hca (by unfold maxLen; omega))
  have H2 := Lib.hid (trimmed_any B cb ys w hb hcb (by unfold maxLen; omega))
  have hta := ha.trim
  have htb := hb.trim
  have hcx := can_trim hx
  have hcy := can_trim hy
  rw [← val_trim xs, ← val_trim ys]
  have hlx := trim_length_le xs
  have hly := trim_length_le ys
  generalize trim xs = xt at *
  generalize trim ys = yt at *
  have I1 : ∀ n, n ≤ 9223372036854775807 → ∀ A c W, Calls Tryz.prog 117 #[.slice A n c] W fun e w' => e = .returned (.bool (decide (64 < n))) ∧ W = w' := fun n hn A c W => isBig_any A n c W (by unfold maxLen; omega)
  have HI := Lib.hid I1
  clear I1 ha hb
  by_cases b1 : 64 < xt.length
  · have hd : decide (64 < xt.length) = true := decide_eq_true b1
    go_enter Tryz.func88, Tryz.ntmps88
    go_wp2_with fail
    refine H1.out.mono ?_; rintro e w' ⟨rfl, rfl⟩
    go_wp2_with fail
    refine H2.out.mono ?_; rintro e w' ⟨rfl, rfl⟩
    go_wp2_with fail
    refine (HI.out xt.length (by omega) _ _ _).mono ?_; rintro e w' ⟨rfl, rfl⟩
    go_wp2
    go_ret2
    exact ⟨_, _, rfl, .inl ⟨.inl ((big_iff hcx).1 b1), rfl, rfl⟩, Below.refl _ _⟩
  · have hd : decide (64 < xt.length) = false := decide_eq_false b1
    by_cases b2 : 64 < yt.length
    · have hd2 : decide (64 < yt.length) = true := decide_eq_true b2
      go_enter Tryz.func88, Tryz.ntmps88
      go_wp2_with fail
      refine H1.out.mono ?_; rintro e w' ⟨rfl, rfl⟩
      go_wp2_with fail
      refine H2.out.mono ?_; rintro e w' ⟨rfl, rfl⟩
      go_wp2_with fail
      refine (HI.out xt.length (by omega) _ _ _).mono ?_; rintro e w' ⟨rfl, rfl⟩
      go_wp2_with fail
      refine (HI.out yt.length (by omega) _ _ _).mono ?_; rintro e w' ⟨rfl, rfl⟩
      go_wp2
      go_ret2
      exact ⟨_, _, rfl, .inl ⟨.inr (.inl ((big_iff hcy).1 b2)), rfl, rfl⟩, Below.refl _ _⟩
    · have hd2 : decide (64 < yt.length) = false := decide_eq_false b2
      have nb1 : ¬ BIG (val xt) := fun h => b1 ((big_iff hcx).2 h)
      have nb2 : ¬ BIG (val yt) := fun h => b2 ((big_iff hcy).2 h)
      have hmk := fun W => run_make_row' (P := Tryz.prog) 39 88 (.int .u32 0) 4 Tryz.underlying39 u32_info rfl .i64 .i64 (xt.length + yt.length) (by omega) (by omega) W
      simp only [made_zero] at hmk
      rw [show ((xt.length + yt.length : Nat) : Int) = (xt.length : Int) + (yt.length : Int) from by omega] at hmk
      go_enter Tryz.func88, Tryz.ntmps88
      go_wp2_with fail
      refine H1.out.mono ?_; rintro e w' ⟨rfl, rfl⟩
      go_wp2_with fail
      refine H2.out.mono ?_; rintro e w' ⟨rfl, rfl⟩
      go_wp2_with fail
      refine (HI.out xt.length (by omega) _ _ _).mono ?_; rintro e w' ⟨rfl, rfl⟩
      go_wp2_with fail
      refine (HI.out yt.length (by omega) _ _ _).mono ?_; rintro e w' ⟨rfl, rfl⟩
      go_wp2_with fail
      clear H1 H2 hmk
      go_loopw [26] (fun i wr => MuRel w w.heap.size xt yt i wr) (fun i _ => yt.length - (intOf i).toNat)
      case atStart =>
        refine ⟨0, List.replicate xt.length 0, Nat.zero_le _, rfl, by simp, Lm.replicate _, by simp [val_replicate, val], ?_, only_alloc (only_refl _ _) _, (Below.refl _ _).alloc (Nat.le_refl _) _⟩
        rw [Nat.sub_zero, List.replicate_append_replicate]
        exact Blk.new w _
      case round =>
        obtain ⟨k, zs, hk, rfl, hzl, hzL, hv, hB, hG, hBe⟩ := hrel
        have HV := Lib.hid hv
        clear hv
        by_cases hlt : k < yt.length
        · obtain ⟨b2, o2, rfl, _, hc2⟩ := (htb.below hBe).at_ hlt
          have hyk := hcy.1.get k
          have hw1 : IntKind.i64.wrap ((k : Int) + (xt.length : Int)) = ((k + xt.length : Nat) : Int) := by rw [IntWalk.i64_in _ (by omega)]; omega
          have hB2 : Blk wr w.heap.size (U (zs.take k ++ (zs.drop k ++ List.replicate (yt.length - k) 0) ++ [])) := by
            rw [List.append_nil, ← List.append_assoc, List.take_append_drop]; exact hB
          have hst := fun (zs' : List Nat) (c : Nat) h1 h2 => mul_step (xt := xt) (yt := yt) (zs := zs) (zs' := zs') (k := k) (c := c) (by omega) h1 HV.out h2
          have hc := addTimes_any w.heap.size (xt.length + yt.length - k) (zs.take k) (zs.drop k ++ List.replicate (yt.length - k) 0) [] A ca xt (yt[k]?.getD 0) wr.drew hB2.drew (hta.below hBe).drew (fun h0 ad e => by have := addr_lt hta h0 ad e; omega) (by simp; omega) (hzL.drop k |>.append (Lm.replicate _)) hcx.1 hyk (by simp; omega)
          rw [List.length_take, Nat.min_eq_left (by omega), show (zs.drop k ++ List.replicate (yt.length - k) (0 : Nat)).length = xt.length + yt.length - k from by simp; omega] at hc
          have HC := Lib.hid hc
          have HST := Lib.hid hst
          have HZ := Lib.hid hzl
          generalize hye : yt[k]?.getD 0 = y at *
          clear hc hst hzl hye hB2
          go_wp2_with fail
          go_region_with (go_at_call 118; refine HC.out.mono ?_; rintro e w2 ⟨zs', c, rfl, hc, hzl', hzL', hv', hB3, hG3⟩; have HZ' := Lib.hid hzl'; have HV' := Lib.hid hv'; have hB4 := mul_blk HZ.out hzl' hlt hB3; have hq1 := mul_cell HZ.out hzl' hlt hB4; have hq2 := hB4.frozen (k + xt.length); clear hzl' hv')
          all_goals
            go_wp2
            go_roundw
            case rel =>
              refine ⟨k + 1, zs.take k ++ (zs' ++ [c]), by omega, by go_num, by have := HZ.out; have := HZ'.out; simp; omega, (hzL.take k).append (hzL'.snoc hc), ?_, ?_, ?_, ?_⟩
              · have h := HV'.out
                rw [List.take_left' (by have := HZ.out; simp; omega)] at h
                exact HST.out zs' c HZ'.out h
              · exact mul_set HZ.out HZ'.out hlt hB4 c rfl
              · exact only_setCell (only_trans (only_drew hG) hG3) (.inl rfl) _
              · exact (below_of_only hBe.drew hG3 (Nat.le_refl _) hBe.size).setCell (p := ⟨w.heap.size, _, none⟩) (Nat.le_refl _) _
            case measure => simp [intOf]; omega
        · obtain rfl : k = yt.length := by omega
          have hzv : val zs = val xt * val yt := by
            have h := HV.out
            rwa [List.take_length (l := yt)] at h
          rw [Nat.sub_self, List.replicate_zero, List.append_nil] at hB
          have HZV := Lib.hid hzv
          clear hzv
          go_wp2_with fail
          rw [show xt.length + yt.length = yt.length + xt.length from Nat.add_comm _ _]
          refine (bounded_ans hB hzl hzL (by omega) (bad := BIG (val xt) ∨ BIG (val yt) ∨ BIG (val xt * val yt)) ?_).mono ?_
          · rw [HZV.out]; exact ⟨fun h => h.elim (fun h => absurd h nb1) fun h => h.elim (fun h => absurd h nb2) id, fun h => .inr (.inr h)⟩
          rintro e w3 ⟨⟨v, er, rfl, hans⟩, rfl⟩
          have HANS := Lib.hid hans
          clear hans
          go_wp2
          go_ret2
          exact ⟨_, _, rfl, by have h := HANS.out; rw [HZV.out] at h; exact h, hBe⟩

end LM
end Go.Proofs.YtpoojlnndgoeoaaGreatDoor

namespace Go.Proofs.YtpoojlnndgoeoaaGreatDoor
open Go.RowKit
namespace LM

/-- where the loop stands when k limbs are done -/
def SbRel (w : World) (g : Nat) (xt yt : List Nat) (b i : Value) (wr : World) : Prop :=
  ∃ (k : Nat) (zs : List Nat) (br : Nat), k ≤ xt.length ∧ i = .int .i64 (k : Int) ∧ b = .int .u32 (br : Int) ∧ br ≤ 1 ∧ zs.length = k ∧ Lm zs ∧ val zs + val (yt.take k) = val (xt.take k) + 4294967296 ^ k * br ∧
    Blk wr g (U ([] ++ (zs ++ (List.replicate xt.length 0).drop k) ++ [])) ∧ w.grownBy wr (some g)

theorem sub_step {xs ys zs : List Nat} {k br d b' : Nat} (hz : zs.length = k) (h : val zs + val (ys.take k) = val (xs.take k) + 4294967296 ^ k * br)
    (hd : d + ys[k]?.getD 0 + br = xs[k]?.getD 0 + 4294967296 * b') : val (zs ++ [d]) + val (ys.take (k + 1)) = val (xs.take (k + 1)) + 4294967296 ^ (k + 1) * b' := by
  rw [val_snoc, val_take_succ, val_take_succ, hz, Nat.pow_succ]
  generalize xs[k]?.getD 0 = x at *
  generalize ys[k]?.getD 0 = y at *
  generalize 4294967296 ^ k = P at h ⊢
  grind
theorem sub_end {xt yt zs : List Nat} {br : Nat} (hz : zs.length = xt.length) (hzL : Lm zs) (hb : br ≤ 1) (hl : yt.length ≤ xt.length) (hle : val yt ≤ val xt)
    (h : val zs + val (yt.take xt.length) = val (xt.take xt.length) + 4294967296 ^ xt.length * br) : val zs = val xt - val yt := by
  rw [List.take_of_length_le hl, List.take_length] at h
  have e1 := val_lt hzL
  rw [hz] at e1
  generalize 4294967296 ^ xt.length = P at *
  have h3 : br = 0 ∨ br = 1 := by omega
  rcases h3 with rfl | rfl
  · rw [Nat.mul_zero] at h; omega
  · rw [Nat.mul_one] at h; omega
theorem can_le_len {xt yt : List Nat} (hx : Can xt) (hy : Can yt) (h : val yt ≤ val xt) : yt.length ≤ xt.length := by
  rcases Nat.lt_or_ge xt.length yt.length with h1 | h1
  · have := can_len_lt hx hy h1; omega
  · exact h1

def SubE (w : World) (x y : Nat) (e : Ending) (w' : World) : Prop :=
  ∃ v ok, e = .returned (.tuple #[v, .bool ok]) ∧ ((x < y ∧ v = .slice none 0 0 ∧ ok = false) ∨ (y ≤ x ∧ ok = true ∧ NumV w' v (x - y))) ∧ Below w.heap.size w w'

theorem trimmed_num {g N : Nat} {us : List Nat} {w : World} (hB : Blk w g (U us)) (hul : us.length = N) (huL : Lm us) (hN : N ≤ 100000) :
    Calls Tryz.prog 95 #[.slice (some ⟨g, 0, none⟩) N N] w fun e w' => (∃ v, e = .returned v ∧ NumV w' v (val us)) ∧ w = w' := by
  subst hul
  have hr : Rd w (some ⟨g, 0, none⟩) us := by
    have h := Rd.of_blk (w := w) (g := g) (pre := []) (xs := us) (post := []) (by simpa using hB)
    simpa using h
  exact (trimmed_any _ _ us w hr (Nat.le_refl _) (by unfold maxLen; omega)).mono fun e w' ⟨he, hw⟩ => by
    subst hw
    exact ⟨⟨_, he, _, _, trim us, rfl, by have := trim_length_le us; omega, by omega, hr.trim, can_trim huL, val_trim us⟩, rfl⟩

set_option maxHeartbeats 400000 in
theorem trimUp_any (A : Option Addr) (ca : Nat) (xs : List Nat) (w : World) (ha : Rd w A xs) (hx : Lm xs) (hca : xs.length ≤ ca) (hcam : ca ≤ 9223372036854775807) (hxl : xs.length ≤ 1000) :
    Calls Tryz.prog 62 #[.slice A xs.length ca] w fun e w' => ∃ r, e = .returned (.slice (some ⟨w.heap.size, 0, none⟩) (List.length r) r.length) ∧ Blk w' w.heap.size (U r) ∧ Can r ∧ val r = val xs ∧ r.length ≤ xs.length ∧ Below w.heap.size w w' := by
  have hta := ha.trim
  have hcx := can_trim hx
  have hvx := val_trim xs
  have hlx := trim_length_le xs
  have H1 := Lib.hid (trimmed_any A ca xs w ha hca (by unfold maxLen; omega))
  generalize trim xs = xt at *
  have HV := Lib.hid hvx
  clear hvx ha
  go_enter Tryz.func62, Tryz.ntmps62
  go_wp2_with fail
  refine H1.out.mono ?_; rintro e w' ⟨rfl, rfl⟩
  go_wp2_with fail
  refine (widened_any A ca xt.length xt _ hta (Nat.le_refl _) (by omega)).mono ?_; rintro e w1 ⟨rfl, hB1, hb1⟩
  go_wp2
  go_ret
  exact ⟨xt, rfl, by simpa using hB1, hcx, HV.out, hlx, hb1⟩

end LM
end Go.Proofs.YtpoojlnndgoeoaaGreatDoor
