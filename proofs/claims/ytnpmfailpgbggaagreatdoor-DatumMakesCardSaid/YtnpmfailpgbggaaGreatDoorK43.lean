/- Walks of the document: Right of any datum. -/
import Derived.Test.YtnpmfailpgbggaaGreatDoorK42
import Derived.Deep.RegionHeld3
import Derived.Test.YtnpmfailpgbggaaGreatDoorK10
import Derived.Test.YtnpmfailpgbggaaGreatDoorK33
import Derived.Test.YtnpmfailpgbggaaGreatDoorK17
import Derived.BigQuiet
import Derived.Test.YtnpmfailpgbggaaGreatDoorK54
import Derived.Laws.Cover4
import Derived.Lib.OthersKept
namespace Go.Proofs.YtnpmfailpgbggaaGreatDoor
open Go Go.RowKit
namespace LM
set_option linter.unusedVariables false

theorem raw_ok {h : Hd} {n : Nat} (hr : h.Raw n) (hx : h.xs.length ≤ 200) (ht : h.t.size ≤ 5000) : h.Ok n :=
  ⟨hr.k, hr.n, hr.f, hr.lm, hr.c, hr.nA, by omega, by omega, hr.cap, hr.nB, hr.sA, hr.sB⟩
theorem not_big5 {deep most : Int} {h : Hd} {n : Nat} (hb : ¬ bigB deep most h n = true) : 0 ≤ most ∧ (n : Int) ≤ most ∧ h.t.size ≤ 5000 ∧ h.xs.length ≤ 200 := by
  unfold bigB at hb
  simp only [Bool.or_eq_true, decide_eq_true_eq, not_or] at hb
  omega
theorem small_ok : ∀ (fr : Fr) (deep most : Int), fr.Raw → most ≤ 4000 → 0 ≤ smallF deep most fr → fr.Ok ∧ FewF fr ∧ SmF fr := by
  intro fr
  induction fr with
  | nil => intro deep most _ _ _; exact ⟨trivial, trivial, trivial⟩
  | cons h k r ihk ihr =>
    intro deep most hr hm hs
    unfold smallF at hs
    split at hs
    · omega
    · rename_i hb
      split at hs
      · omega
      · rename_i h0
        obtain ⟨b1, b2, b3, b4⟩ := not_big5 hb
        have hbd := dsmall_bd k (deep + 1) (most - 1) (by omega)
        obtain ⟨k1, k2, k3⟩ := ihk (deep + 1) (most - 1) hr.2.1 (by omega) (by omega)
        obtain ⟨r1, r2, r3⟩ := ihr deep _ hr.2.2 (by omega) hs
        exact ⟨⟨raw_ok hr.1 b4 b3, k1, r1⟩, ⟨by omega, k2, r2⟩, ⟨by omega, by omega, k3, r3⟩⟩
theorem smallD_ok {deep most : Int} {h : Hd} {k : Fr} (hr : h.Raw k.len) (hk : k.Raw) (hm : most ≤ 4000) (hs : ¬ smallD deep most h k < 0) : h.Ok k.len ∧ k.Ok ∧ FewF k ∧ SmF k ∧ k.len ≤ 4000 ∧ h.xs.length ≤ 200 := by
  unfold smallD at hs
  split at hs
  · exact absurd (by decide) hs
  · rename_i hb
    split at hs
    · exact absurd (by decide) hs
    · rename_i h0
      obtain ⟨b1, b2, b3, b4⟩ := not_big5 hb
      obtain ⟨k1, k2, k3⟩ := small_ok k (deep + 1) (most - 1) hk (by omega) (by omega)
      exact ⟨raw_ok hr b4 b3, k1, k2, k3, by omega, b4⟩

theorem cnt_more5 : ∀ (fr : Fr) (m M n : Int), cnt m n fr < m → m ≤ M → cnt M n fr = cnt m n fr := by
  intro fr
  induction fr with
  | nil => intro m M n _ _; rfl
  | cons h k r ihk ihr =>
    intro m M n hc hM
    unfold cnt at hc ⊢
    split at hc
    · omega
    · rename_i hn
      rw [if_neg (by omega), if_neg (by omega)]
      have h1 := (cnt_bd r m (n + cnt (m - n) 1 k)).1
      have h2 := ihk (m - n) (M - n) 1 (by omega) (by omega)
      rw [h2]
      exact ihr m M _ hc hM
theorem rightD_cnt {nm : ByteArray → Bool} {h : Hd} {kids : Fr} (hr : rightD nm h kids = true) : cnt 65536 1 kids < 65536 := by
  unfold rightD at hr
  rw [Bool.and_eq_true, decide_eq_true_eq] at hr
  rw [cnt_more5 kids 3001 65536 1 (by omega) (by decide)]
  omega

theorem rightK_num {nm : ByteArray → Bool} {d : Int} {h : Hd} {kids : Fr} {sub : Bool} (hr : rightK nm d h kids sub = true) : rightN h.fl h.f h.s h.xs = true := by
  unfold rightK elseB nothB at hr
  by_cases h0 : h.k = 0
  · simp [h0] at hr
    exact hr.2
  · simp [h0] at hr
    exact hr.1.1.1.2.2
theorem rightK_sub {nm : ByteArray → Bool} {d : Int} {h : Hd} {kids : Fr} {sub : Bool} (hr : rightK nm d h kids sub = true) : kids = .nil ∨ sub = true := by
  cases kids with
  | nil => exact .inl rfl
  | cons x y z =>
    refine .inr ?_
    unfold rightK elseB at hr
    rw [Bool.and_eq_true] at hr
    obtain ⟨h1, h2⟩ := hr
    have hl : (((Fr.cons x y z).len : Nat) : Int) ≠ 0 := by show ((z.len + 1 : Nat) : Int) ≠ 0; omega
    have hb : ((((Fr.cons x y z).len : Nat) : Int) == 0) = false := by simpa using hl
    rw [hb] at h1
    rw [Bool.and_eq_true] at h1
    have hk : 5 ≤ h.k ∧ h.k ≤ 7 := by simpa using h1.2
    rw [if_neg (by omega), if_neg (by omega), if_neg (by omega), if_neg (by omega), if_neg (by omega)] at h2
    rw [Bool.and_eq_true] at h2
    exact h2.2
theorem rightF_nums {nm : ByteArray → Bool} : ∀ (fr : Fr) (d : Int), rightF nm d fr = true → NumsR fr := by
  intro fr
  induction fr with
  | nil => intro _ _; exact trivial
  | cons h k r ihk ihr =>
    intro d hr
    unfold rightF at hr
    rw [Bool.and_eq_true] at hr
    refine ⟨rightK_num hr.1, ?_, ihr d hr.2⟩
    rcases rightK_sub hr.1 with rfl | h1
    · exact trivial
    · exact ihk _ h1
theorem rightD_nums {nm : ByteArray → Bool} {h : Hd} {kids : Fr} (hr : rightD nm h kids = true) : rightN h.fl h.f h.s h.xs = true ∧ NumsR kids := by
  unfold rightD at hr
  rw [Bool.and_eq_true] at hr
  refine ⟨rightK_num hr.2, ?_⟩
  rcases rightK_sub hr.2 with rfl | h1
  · exact trivial
  · exact rightF_nums _ _ h1
theorem numS_alike {h h' : Hd} (a : AlikeH h h') : headS h h' = true := by
  obtain ⟨a1, a2, a3, a4, a5, a6, a7⟩ := a
  unfold headS numS
  rw [a1, a2, a3, a4, a5, a6, a7]
  cases h.fl <;> simp
theorem numS_alike' {h h' : Hd} (a : AlikeH h h') : headS h' h = true := by
  obtain ⟨a1, a2, a3, a4, a5, a6, a7⟩ := a
  unfold headS numS
  rw [a1, a2, a3, a4, a5, a6, a7]
  cases h.fl <;> simp
theorem sameF_alike : ∀ {a b : Fr}, AlikeF a b → sameF a b = true ∧ sameF b a = true := by
  intro a
  induction a with
  | nil => intro b hb; cases b with
    | nil => exact ⟨rfl, rfl⟩
    | cons _ _ _ => exact absurd hb id
  | cons h k r ihk ihr => intro b hb; cases b with
    | nil => exact absurd hb id
    | cons h' k' r' =>
      have h1 := ihk hb.2.1
      have h2 := ihr hb.2.2
      refine ⟨?_, ?_⟩
      · unfold sameF; rw [numS_alike hb.1, h1.1, h2.1]; rfl
      · unfold sameF; rw [numS_alike' hb.1, h1.2, h2.2]; rfl
end LM
end Go.Proofs.YtnpmfailpgbggaaGreatDoor

namespace Go.Proofs.YtnpmfailpgbggaaGreatDoor
open Go Go.RowKit
namespace LM
set_option linter.unusedVariables false

theorem rtsame_any {w : World} {h h' : Hd} (ha : NumOk w h.fl h.f h.s h.A h.xs.length h.c) (hb : NumOk w h'.fl h'.f h'.s h'.A h'.xs.length h'.c) (hx : rightN h.fl h.f h.s h.xs = true) (hx' : rightN h'.fl h'.f h'.s h'.xs = true) (rx : Rd w h.A h.xs) (rx' : Rd w h'.A h'.xs) (lx : Lm h.xs) (lx' : Lm h'.xs) (cx : h.xs.length ≤ h.c ∧ h.c ≤ 9223372036854775807) (cx' : h'.xs.length ≤ h'.c ∧ h'.c ≤ 9223372036854775807) :
    CallB w 33 #[numA h.fl h.f h.s h.A h.xs.length h.c, numA h'.fl h'.f h'.s h'.A h'.xs.length h'.c] (.bool (numS h h')) := by
  obtain ⟨k, n, fl, f, s, A, xs, c, t, B, cap⟩ := h
  obtain ⟨k', n', fl', f', s', A', xs', c', t', B', cap'⟩ := h'
  simp only at *
  unfold numS
  simp only
  cases fl <;> cases fl'
  · simp only [Bool.false_eq_true, if_false]
    unfold rightN at hx hx'
    rw [if_neg (by decide), Bool.and_eq_true] at hx hx'
    have h1 := intV_of hx.2 rx lx cx.1 cx.2
    have h2 := intV_of hx'.2 rx' lx' cx'.1 cx'.2
    exact fun W hW => rtsame_ii f f' s A xs.length c s' A' xs'.length c' W _ (fun V hV => rsame2_int ((h1.1.keep hW).keep hV).toR ((h2.1.keep hW).keep hV).toR (fit_of h1.2))
  · simp only [Bool.false_eq_true, if_false, if_true]
    exact fun W _ => rtsame_if f f' s A xs.length c s' A' xs'.length c' W
  · simp only [Bool.false_eq_true, if_false, if_true]
    exact fun W _ => rtsame_fi f f' s A xs.length c s' A' xs'.length c' W
  · simp only [if_true]
    exact fun W _ => rtsame_ff f f' s A xs.length c s' A' xs'.length c' W _ (fun V => rsame_flo f f' V ha.1 hb.1)


set_option maxRecDepth 100000 in
set_option maxHeartbeats 16000000 in
theorem rdsame_go (h h' : Hd) (kids kids' : Fr) (sub : Bool) (w : World)
    (hT : CallB w 33 #[numA h.fl h.f h.s h.A h.xs.length h.c, numA h'.fl h'.f h'.s h'.A h'.xs.length h'.c] (.bool (numS h h')))
    (hE : CallB w 34 #[.slice h.B kids.len h.cap, .slice h'.B kids'.len h'.cap] (.bool sub)) :
    Calls Tryz.prog 13 #[datA h kids.len, datA h' kids'.len] w fun e w' => e = .returned (.bool (headS h h' && sub)) ∧ Below w.heap.size w w' := by
  obtain ⟨W0, hW0⟩ : ∃ W0, (w.alloc (datO h kids.len)).alloc (datO h' kids'.len) = W0 := ⟨_, rfl⟩
  have hb0 : Below w.heap.size w W0 := by rw [← hW0]; exact ((Below.refl _ w).alloc (Nat.le_refl _) _).alloc (by simp) _
  have hO : Obs W0 [(w.heap.size + 1, datO h' kids'.len), (w.heap.size, datO h kids.len)] := by
    rw [← hW0]
    have h1 := (Obs.nil.new (w := w) (datO h kids.len)).new (datO h' kids'.len)
    simp only [World.size_alloc] at h1
    exact h1
  obtain ⟨x0, x1, x2, x3, x4, x5, x6, x7⟩ := C8.of_block hO.tl.hd
  obtain ⟨y0, y1, y2, y3, y4, y5, y6, y7⟩ := C8.of_block hO.hd
  have HW0 := Lib.hid hW0
  have HB0 := Lib.hid hb0
  have O0 := Lib.hid hO
  have HT := Lib.hid hT
  have HE := Lib.hid hE
  clear hW0 hb0 hO hT hE
  obtain ⟨b1, e1⟩ : ∃ b, (h.k == h'.k) = b := ⟨_, rfl⟩
  obtain ⟨b2, e2⟩ : ∃ b, (h.n == h'.n) = b := ⟨_, rfl⟩
  obtain ⟨b3, e3⟩ : ∃ b, (h.t.toList == h'.t.toList) = b := ⟨_, rfl⟩
  obtain ⟨b4, e4⟩ : ∃ b, numS h h' = b := ⟨_, rfl⟩
  have HQ : Hid (headS h h' = (b1 && b2 && b3 && b4)) := Lib.hid (by unfold headS; rw [e1, e2, e3, e4])
  rw [e4] at HT
  have f1 : (h.k != h'.k) = !b1 := by rw [← e1]; rfl
  have f2 : (h.n != h'.n) = !b2 := by rw [← e2]; rfl
  have f3 : (h.t.toList != h'.t.toList) = !b3 := by rw [← e3]; rfl
  clear e4
  cases b1
  · go_enter Tryz.func13, Tryz.ntmps13
    go_wp2_with (fail)
    go_ret
    exact ⟨by rw [HQ.out]; rfl, HW0.out ▸ HB0.out⟩
  cases b2
  · go_enter Tryz.func13, Tryz.ntmps13
    go_wp2_with (fail)
    go_ret
    exact ⟨by rw [HQ.out]; rfl, HW0.out ▸ HB0.out⟩
  cases b3
  · go_enter Tryz.func13, Tryz.ntmps13
    go_wp2_with (fail)
    go_ret
    exact ⟨by rw [HQ.out]; rfl, HW0.out ▸ HB0.out⟩
  go_enter Tryz.func13, Tryz.ntmps13
  go_wp2_with (fail)
  rw [HW0.out]
  refine (HT.out _ HB0.out).mono ?_
  rintro e w1 ⟨rfl, hb1⟩
  have HB1 := Lib.hid (bel_trans (B := w.heap.size) HB0.out hb1)
  obtain ⟨u0, u1, u2, u3, u4, u5, u6, u7⟩ := C8.of_block (O0.out.below hb1).tl.hd
  obtain ⟨v0, v1, v2, v3, v4, v5, v6, v7⟩ := C8.of_block (O0.out.below hb1).hd
  clear hb1 x0 x1 x2 x3 x4 x5 x6 x7 y0 y1 y2 y3 y4 y5 y6 y7
  cases b4
  · go_wp2_with (fail)
    go_ret
    exact ⟨by rw [HQ.out]; rfl, HB1.out⟩
  · go_wp2_with (fail)
    refine (HE.out _ HB1.out).mono ?_
    rintro e w2 ⟨rfl, hb2⟩
    have HB2 := Lib.hid (bel_trans (B := w.heap.size) HB1.out hb2)
    clear hb2
    go_wp2_with (fail)
    go_ret
    exact ⟨by rw [HQ.out]; rfl, HB2.out⟩


set_option maxRecDepth 100000 in
set_option maxHeartbeats 8000000 in
theorem rdlist_any (kids kids' : Fr) (B B' : Option Addr) (cap cap' b off b' off' : Nat) (w : World) (hB : 0 < kids.len → B = some ⟨b, off, none⟩) (hB' : 0 < kids'.len → B' = some ⟨b', off', none⟩) (hF : FAt w b off kids) (hF' : FAt w b' off' kids') (hc1 : kids.len ≤ cap) (hc2 : cap ≤ 9223372036854775807) (hc1' : kids'.len ≤ cap') (hc2' : cap' ≤ 9223372036854775807)
    (hcl : ∀ hh k hh' k' j r r', kids.drop j = .cons hh k r → kids'.drop j = .cons hh' k' r' → ∀ W, Below w.heap.size w W → DatV W hh k → DatV W hh' k' → Calls Tryz.prog 13 #[datA hh k.len, datA hh' k'.len] W fun e w' => e = .returned (.bool (headS hh hh' && sameF k k')) ∧ Below W.heap.size W w') :
    Calls Tryz.prog 34 #[.slice B kids.len cap, .slice B' kids'.len cap'] w fun e w' => e = .returned (.bool (sameF kids kids')) ∧ Below w.heap.size w w' := by
  by_cases hl : kids.len = kids'.len
  · rcases Nat.eq_zero_or_pos kids.len with h0 | hpos
    · have hk : ∀ fr : Fr, fr.len = 0 → fr = .nil := fun fr h => by
        cases fr with
        | nil => rfl
        | cons x y z => have h3 : z.len + 1 = 0 := h; omega
      obtain rfl := hk kids h0
      obtain rfl := hk kids' (by omega)
      show Calls Tryz.prog 34 #[.slice B 0 cap, .slice B' 0 cap'] w fun e w' => e = .returned (.bool true) ∧ Below w.heap.size w w'
      clear hcl hF hB hF' hB' hl h0 hc1 hc1' hk
      go_enter Tryz.func34, Tryz.ntmps34
      go_wp2_with (fail)
      go_loopg [13] 0 (fun kk i wr => wr = w ∧ i = .int .i64 0)
      case atStart => exact ⟨rfl, rfl⟩
      case round =>
        obtain ⟨rfl, rfl⟩ := hrel
        go_wp2_with (fail)
        go_ret
        exact ⟨rfl, Below.refl _ _⟩
    · obtain rfl := hB hpos
      obtain rfl := hB' (by omega)
      have HF := Lib.hid hF
      have HF' := Lib.hid hF'
      have HCL := Lib.hid hcl
      have HL := Lib.hid hl
      have g1 : ((kids.len : Int) != (kids'.len : Int)) = false := by rw [hl]; simp
      clear hF hF' hcl hB hB' hl
      go_enter Tryz.func34, Tryz.ntmps34
      go_wp2_with (fail)
      go_loopg [13] kids.len (fun kk i wr => Below w.heap.size w wr ∧ ∃ j : Nat, j ≤ kids.len ∧ kk = kids.len - j ∧ i = .int .i64 (j : Int) ∧ sameF (kids.drop j) (kids'.drop j) = sameF kids kids')
      case atStart => exact ⟨Below.refl _ _, 0, Nat.zero_le _, rfl, rfl, rfl⟩
      case round =>
        obtain ⟨hbr, j, hj, rfl, rfl, hrf⟩ := hrel
        have HBR := Lib.hid hbr
        clear hbr
        by_cases hjl : j < kids.len
        · obtain ⟨hh, k, r, hdr, hdr1⟩ := Fr.cons_of_lt hjl
          have hjl' : j < kids'.len := by have := HL.out; omega
          obtain ⟨hh', k', r', hdr', hdr1'⟩ := Fr.cons_of_lt hjl'
          rw [hdr, hdr'] at hrf
          obtain ⟨hbl, ⟨x0, x1, x2, x3, x4, x5, x6, x7⟩, D⟩ := counted_item (FAt.below HBR.out _ _ _ HF.out) hdr
          obtain ⟨hbl', hC', D'⟩ := counted_item (FAt.below HBR.out _ _ _ HF'.out) hdr'
          obtain ⟨y0, y1, y2, y3, y4, y5, y6, y7⟩ := hC'
          have CL := Lib.hid fun W (hW : Below wr.heap.size wr W) => HCL.out hh k hh' k' j r r' hdr hdr' W (bel_trans (B := w.heap.size) HBR.out hW) (D.below hW) (D'.below hW)
          have hrf2 : (headS hh hh' && sameF k k' && sameF r r') = sameF kids kids' := hrf
          obtain ⟨q, hq⟩ : ∃ q, (headS hh hh' && sameF k k') = q := ⟨_, rfl⟩
          rw [hq] at CL hrf2
          have HRF := Lib.hid hrf2
          have HDR := Lib.hid hdr1
          have HDR' := Lib.hid hdr1'
          clear hrf hdr hdr1 D hrf2 hq hdr' hdr1' D'
          go_wp2_with (fail)
          go_region_with (go_at_call 13; (first | refine (CL.out _ (Below.refl _ _)).mono ?_ | refine (CL.out _ (below_drewN (Below.refl _ _) _)).mono ?_ | refine (CL.out _ (Below.refl _ _).drew).mono ?_); rintro e w3 ⟨rfl, hb3⟩; have HB3 : Hid (Below w.heap.size w w3) := Lib.hid (by first | exact bel_trans (B := w.heap.size) HBR.out hb3 | exact bel_trans (B := w.heap.size) HBR.out.drew hb3); clear hb3)
          all_goals
            cases q
            · go_wp2_with (fail)
              go_ret
              exact ⟨by rw [← HRF.out]; simp, HB3.out⟩
            · go_wp2_with (fail)
              go_roundg (kids.len - (j + 1))
              case measure => omega
              case rel => exact ⟨HB3.out, j + 1, by omega, rfl, by go_num, by rw [HDR.out, HDR'.out]; exact HRF.out⟩
        · have hje : j = kids.len := by omega
          subst hje
          have hnil : ∀ fr : Fr, fr.drop fr.len = .nil := fun fr => by
            have h1 := Fr.len_drop fr.len fr
            cases h2 : fr.drop fr.len with
            | nil => rfl
            | cons x y z => rw [h2] at h1; have h3 : z.len + 1 = fr.len - fr.len := h1; omega
          have hl := HL.out
          rw [hnil kids, hl, hnil kids'] at hrf
          have HR : Hid (true = sameF kids kids') := Lib.hid hrf
          clear hrf hnil hl
          go_wp2_with (fail)
          go_ret
          exact ⟨by rw [← HR.out]; rfl, HBR.out⟩
  · have g1 : ((kids.len : Int) != (kids'.len : Int)) = true := by rw [bne_iff_ne]; omega
    rw [sameF_len _ _ hl]
    clear hcl hF hB hF' hB' hl
    go_enter Tryz.func34, Tryz.ntmps34
    go_wp2_with (fail)
    go_ret
    exact ⟨rfl, Below.refl _ _⟩


theorem rdsame_any : ∀ (m : Nat) (kids kids' : Fr), kids.size < m → kids.Ok → kids'.Ok → NumsR kids → NumsR kids' → ∀ (h h' : Hd) (w : World), DatV w h kids → DatV w h' kids' → h.Ok kids.len → h'.Ok kids'.len → rightN h.fl h.f h.s h.xs = true → rightN h'.fl h'.f h'.s h'.xs = true →
    Calls Tryz.prog 13 #[datA h kids.len, datA h' kids'.len] w fun e w' => e = .returned (.bool (headS h h' && sameF kids kids')) ∧ Below w.heap.size w w' := by
  intro m
  induction m with
  | zero => intro kids _ h; omega
  | succ m ih =>
    intro kids kids' hsz hok hok' hn hn' h h' w hd hd' hho hho' hr hr'
    refine rdsame_go h h' kids kids' _ w (rtsame_any (numOk_of hr hho.f hd.xs hho.lm hho.c.1 hho.c.2) (numOk_of hr' hho'.f hd'.xs hho'.lm hho'.c.1 hho'.c.2) hr hr' hd.xs hd'.xs hho.lm hho'.lm hho.c hho'.c) fun W hW => ?_
    obtain ⟨b, off, hB, hF⟩ := (hd.below hW).items
    obtain ⟨b', off', hB', hF'⟩ := (hd'.below hW).items
    refine rdlist_any kids kids' h.B h'.B h.cap h'.cap b off b' off' W hB hB' hF hF' hho.cap.1 hho.cap.2 hho'.cap.1 hho'.cap.2 fun hh k hh' k' j r r' e1 e2 W2 hW2 hD hD' => ?_
    have o1 := Fr.Ok.drop j hok
    have o2 := Fr.Ok.drop j hok'
    have n1 := NumsR.drop j hn
    have n2 := NumsR.drop j hn'
    rw [e1] at o1 n1
    rw [e2] at o2 n2
    exact ih k k' (by have := size_item e1; omega) o1.2.1 o2.2.1 n1.2.1 n2.2.1 hh hh' W2 hD hD' o1.1 o2.1 n1.1 n2.1


end LM
end Go.Proofs.YtnpmfailpgbggaaGreatDoor

namespace Go.Proofs.YtnpmfailpgbggaaGreatDoor
open Go Go.RowKit
namespace LM
set_option linter.unusedVariables false
attribute [local go_sem] run_store_flt

set_option maxRecDepth 100000 in
set_option maxHeartbeats 4000000 in
theorem dbounded_any (kids : Fr) (hok : kids.Ok) (h : Hd) (w : World) (hd : DatV w h kids) (hho : h.Ok kids.len) :
    Calls Tryz.prog 31 #[datA h kids.len] w fun e w' => e = .returned (.bool (decide (cnt 65536 1 kids < 65536))) ∧ Below w.heap.size w w' := by
  obtain ⟨W0, hW0, hb0, ho, hs0⟩ := dat_block w h kids.len
  have HC := Lib.hid (counted_any (kids.size + 1) kids (by omega) hok h 65536 W0 (hd.below hb0) hho.cap.1 hho.cap.2 (by decide) (by decide))
  have HW0 := Lib.hid hW0
  have HB0 := Lib.hid hb0
  clear hW0 hb0 ho hd hho hok hs0
  go_enter Tryz.func31, Tryz.ntmps31
  go_wp2_with (fail)
  rw [HW0.out]
  refine HC.out.mono ?_
  rintro e w1 ⟨rfl, hb1⟩
  have HB1 := Lib.hid (bel_trans (B := w.heap.size) HB0.out hb1)
  clear hb1
  go_wp2_with (fail)
  go_ret
  exact ⟨rfl, HB1.out⟩
set_option maxRecDepth 100000 in
set_option maxHeartbeats 4000000 in
theorem dnodes_any (kids : Fr) (hok : kids.Ok) (h : Hd) (w : World) (hd : DatV w h kids) (hho : h.Ok kids.len) :
    Calls Tryz.prog 14 #[datA h kids.len] w fun e w' => e = .returned (.int .i64 (cnt 65536 1 kids)) ∧ Below w.heap.size w w' := by
  obtain ⟨W0, hW0, hb0, ho, hs0⟩ := dat_block w h kids.len
  have HC := Lib.hid (counted_any (kids.size + 1) kids (by omega) hok h 65536 W0 (hd.below hb0) hho.cap.1 hho.cap.2 (by decide) (by decide))
  have HW0 := Lib.hid hW0
  have HB0 := Lib.hid hb0
  clear hW0 hb0 ho hd hho hok hs0
  go_enter Tryz.func14, Tryz.ntmps14
  go_wp2_with (fail)
  rw [HW0.out]
  refine HC.out.mono ?_
  rintro e w1 ⟨rfl, hb1⟩
  have HB1 := Lib.hid (bel_trans (B := w.heap.size) HB0.out hb1)
  clear hb1
  go_wp2_with (fail)
  go_ret
  exact ⟨rfl, HB1.out⟩

set_option maxRecDepth 100000 in
set_option maxHeartbeats 4000000 in
theorem dSame_any (kids kids' : Fr) (hok : kids.Ok) (hok' : kids'.Ok) (hn : NumsR kids) (hn' : NumsR kids') (hbd : cnt 65536 1 kids < 65536) (h h' : Hd) (w : World) (hd : DatV w h kids) (hd' : DatV w h' kids') (hho : h.Ok kids.len) (hho' : h'.Ok kids'.len) (hr : rightN h.fl h.f h.s h.xs = true) (hr' : rightN h'.fl h'.f h'.s h'.xs = true) :
    Calls Tryz.prog 12 #[datA h kids.len, datA h' kids'.len] w fun e w' => e = .returned (.bool (headS h h' && sameF kids kids')) ∧ Below w.heap.size w w' := by
  obtain ⟨W0, hW0⟩ : ∃ W0, (w.alloc (datO h kids.len)).alloc (datO h' kids'.len) = W0 := ⟨_, rfl⟩
  have hb0 : Below w.heap.size w W0 := by rw [← hW0]; exact ((Below.refl _ w).alloc (Nat.le_refl _) _).alloc (by simp) _
  have hO : Obs W0 [(w.heap.size + 1, datO h' kids'.len), (w.heap.size, datO h kids.len)] := by
    rw [← hW0]
    have h1 := (Obs.nil.new (w := w) (datO h kids.len)).new (datO h' kids'.len)
    simp only [World.size_alloc] at h1
    exact h1
  have HC := Lib.hid (dbounded_any kids hok h W0 (hd.below hb0) hho)
  rw [decide_eq_true hbd] at HC
  have HS := Lib.hid fun W (hW : Below w.heap.size w W) => dsame_any (kids.size + 1) kids kids' (by omega) hok hok' hn hn' h h' W (hd.below hW) (hd'.below hW) hho hho' hr hr'
  have HW0 := Lib.hid hW0
  have HB0 := Lib.hid hb0
  have O0 := Lib.hid hO
  clear hW0 hb0 hO hd hd' hho hho' hok hok' hn hn' hbd hr hr'
  go_enter Tryz.func12, Tryz.ntmps12
  go_wp2_with (fail)
  rw [HW0.out]
  refine HC.out.mono ?_
  rintro e w1 ⟨rfl, hb1⟩
  have HB1 := Lib.hid (bel_trans (B := w.heap.size) HB0.out hb1)
  obtain ⟨x0, x1, x2, x3, x4, x5, x6, x7⟩ := C8.of_block (O0.out.below hb1).tl.hd
  obtain ⟨y0, y1, y2, y3, y4, y5, y6, y7⟩ := C8.of_block (O0.out.below hb1).hd
  clear hb1
  go_wp2_with (fail)
  refine (HS.out _ HB1.out).mono ?_
  rintro e w2 ⟨rfl, hb2⟩
  have HB2 := Lib.hid (bel_trans (B := w.heap.size) HB1.out hb2)
  clear hb2
  go_wp2_with (fail)
  go_ret
  exact ⟨rfl, HB2.out⟩

set_option maxRecDepth 100000 in
set_option maxHeartbeats 4000000 in
theorem dCopy_any (kids : Fr) (hok : kids.Ok) (hfew : FewF kids) (hl : kids.len ≤ 1000000) (hbd : cnt 65536 1 kids < 65536) (h : Hd) (w : World) (hd : DatV w h kids) (hho : h.Ok kids.len) :
    Calls Tryz.prog 23 #[datA h kids.len] w (RetCopy w h kids) := by
  obtain ⟨W0, hW0⟩ : ∃ W0, (w.alloc (datO h kids.len)).alloc zeroO = W0 := ⟨_, rfl⟩
  have hb0 : Below w.heap.size w W0 := by rw [← hW0]; exact ((Below.refl _ w).alloc (Nat.le_refl _) _).alloc (by simp) _
  have hO : Obs W0 [(w.heap.size + 1, zeroO), (w.heap.size, datO h kids.len)] := by
    rw [← hW0]
    have h1 := (Obs.nil.new (w := w) (datO h kids.len)).new zeroO
    simp only [World.size_alloc] at h1
    exact h1
  have HC := Lib.hid (dbounded_any kids hok h W0 (hd.below hb0) hho)
  rw [decide_eq_true hbd] at HC
  have HS := Lib.hid fun W (hW : Below w.heap.size w W) => dcopied_any (kids.size + 1) kids (by omega) hok hfew hl h W (hd.below hW) hho
  have HW0 := Lib.hid hW0
  have HB0 := Lib.hid hb0
  have O0 := Lib.hid hO
  clear hW0 hb0 hO hd hho hok hbd hfew hl
  go_enter Tryz.func23, Tryz.ntmps23
  go_wp2_with (fail)
  rw [HW0.out]
  refine HC.out.mono ?_
  rintro e w1 ⟨rfl, hb1⟩
  have HB1 := Lib.hid (bel_trans (B := w.heap.size) HB0.out hb1)
  have O1 := Lib.hid (O0.out.below hb1)
  obtain ⟨x0, x1, x2, x3, x4, x5, x6, x7⟩ := C8.of_block (O0.out.below hb1).tl.hd
  clear hb1
  go_wp2_with (fail)
  refine (HS.out _ HB1.out).mono ?_
  rintro e w2 ⟨hc, kc, rfl, dc, ac, afc, okc, okf, frc, frf, bc, sfc, sff⟩
  have iz := (O1.out.below bc).hd
  have hlz := heap_lt O1.out.hd
  have ib := bel_trans (B := w.heap.size) HB1.out bc
  obtain ⟨WF, hWF, CF, OF, hbF, sWF⟩ := result_dat (h := hc) (n := kc.len) iz ib (Nat.le_succ _)
  have dF := OF.dat dc ⟨fun hx ad e => by have := frc.1 hx ad e; show ad.block ≠ _; omega, fun hx ad e => by have := frc.2 hx ad e; show ad.block ≠ _; omega⟩ (FreshF.away (by omega) frf)
  have hs1 := HB1.out.size
  have FRC := Lib.hid (show FreshH w.heap.size hc kc.len from ⟨fun hx ad e => by have := frc.1 hx ad e; omega, fun hx ad e => by have := frc.2 hx ad e; omega⟩)
  have FRF := Lib.hid (FreshF.mono hs1 frf)
  dsimp only [set8z] at hWF
  have HWF := Lib.hid hWF
  have DF := Lib.hid dF
  have HBF := Lib.hid hbF
  have SFC := Lib.hid (sfc.still sWF)
  have SFF := Lib.hid (sff.still sWF)
  have AC := Lib.hid ac
  have AFC := Lib.hid afc
  have OKC := Lib.hid okc
  have OKF := Lib.hid okf
  obtain ⟨q0, q1, q2, q3, q4, q5, q6, q7⟩ := CF
  try dsimp only [Nat.zero_add] at q0 q1 q2 q3 q4 q5 q6 q7
  obtain ⟨z0, z1, z2, z3, z4, z5, z6, z7, e0, e1, e2, e3, e4, e5, e6, e7, el⟩ := zero_facts iz
  clear sfc sff sWF hWF OF hbF dF dc ac afc okc okf frc frf bc iz ib hs1 hlz
  go_wp2_with (fail)
  rw [HWF.out]
  refine bodyPost_ret (v := datA hc kc.len) (by simp [results, Tryz.results23, go_sem, q0, q1, q2, q3, q4, q5, q6, q7]) rfl ?_
  exact ⟨hc, kc, rfl, DF.out, AC.out, AFC.out, OKC.out, OKF.out, FRC.out, FRF.out, HBF.out, SFC.out, SFF.out⟩

end LM
end Go.Proofs.YtnpmfailpgbggaaGreatDoor

namespace Go.Proofs.YtnpmfailpgbggaaGreatDoor
open Go Go.RowKit
namespace LM
set_option linter.unusedVariables false
attribute [local go_sem] run_store_flt

theorem rightN_alike {h h' : Hd} (a : AlikeH h h') (r : rightN h.fl h.f h.s h.xs = true) : rightN h'.fl h'.f h'.s h'.xs = true := by
  obtain ⟨a1, a2, a3, a4, a5, a6, a7⟩ := a
  rw [a3, a4, a5, a6]
  exact r
theorem nums_alike : ∀ {a b : Fr}, AlikeF a b → NumsR a → NumsR b := by
  intro a
  induction a with
  | nil => intro b hb _; cases b with
    | nil => exact trivial
    | cons _ _ _ => exact absurd hb id
  | cons h k r ihk ihr => intro b hb n; cases b with
    | nil => exact absurd hb id
    | cons h' k' r' => exact ⟨rightN_alike hb.1 n.1, ihk hb.2.1 n.2.1, ihr hb.2.2 n.2.2⟩
theorem cnt_alike : ∀ {a b : Fr}, AlikeF a b → ∀ m n, cnt m n b = cnt m n a := by
  intro a
  induction a with
  | nil => intro b hb m n; cases b with
    | nil => rfl
    | cons _ _ _ => exact absurd hb id
  | cons h k r ihk ihr => intro b hb m n; cases b with
    | nil => exact absurd hb id
    | cons h' k' r' => unfold cnt; rw [ihk hb.2.1, ihr hb.2.2]
theorem smf_alike : ∀ {a b : Fr}, AlikeF a b → SmF a → SmF b := by
  intro a
  induction a with
  | nil => intro b hb _; cases b with
    | nil => exact trivial
    | cons _ _ _ => exact absurd hb id
  | cons h k r ihk ihr => intro b hb n; cases b with
    | nil => exact absurd hb id
    | cons h' k' r' => exact ⟨by rw [hb.1.2.2.2.2.2.1]; exact n.1, by rw [hb.2.1.len]; exact n.2.1, ihk hb.2.1 n.2.2.1, ihr hb.2.2 n.2.2.2⟩

set_option maxRecDepth 100000 in
set_option maxHeartbeats 8000000 in
theorem dcopies_by (nm : ByteArray → Bool) (h : Hd) (kids : Fr) (w : World) (hd : DatV w h kids) (hr : h.Raw kids.len) (hk : kids.Raw) (hu : UT w)
    (hnm : ∀ t, (h.k = 4 ∧ t = h.t) ∨ SymIn t kids → CallB w 53 #[.string t] (.bool (nm t)))
    (hal : ∀ W, Below w.heap.size w W → Calls Tryz.prog 6 #[] W fun e w' => e = .returned (.bool true) ∧ Below W.heap.size W w') :
    Calls Tryz.prog 5 #[datA h kids.len] w fun e w' => e = .returned (.bool true) ∧ Below w.heap.size w w' := by
  obtain ⟨W0, hW0, hb0, ho, hs0⟩ := dat_block w h kids.len
  obtain ⟨v, hv⟩ : ∃ v, smallD 0 4000 h kids = v := ⟨_, rfl⟩
  have AL := Lib.hid hal
  have SM : Hid (∀ W, Below w.heap.size w W → Calls Tryz.prog 7 #[datA h kids.len, .int .i64 0, .int .i64 4000] W fun e w' => e = .returned (.int .i64 v) ∧ Below W.heap.size W w') := Lib.hid fun W hW => by
    have := dsmall_any (kids.size + 1) kids (by omega) hk h 0 4000 W (hd.below hW) hr (by decide) (by decide) (by decide) (by decide)
    rw [hv] at this
    exact this
  have HV := Lib.hid hv
  have HB0 := Lib.hid hb0
  have HD := Lib.hid hd
  have HR := Lib.hid hr
  have HK := Lib.hid hk
  have HU := Lib.hid hu
  have HN := Lib.hid hnm
  have BLK : Hid (∀ W, Below W0.heap.size W0 W → C8 W w.heap.size 0 h kids.len) := Lib.hid fun W hW => C8.of_block ((hW.block _ hs0).trans ho)
  clear hal hv hd hr hk hu hnm
  go_enter Tryz.func5, Tryz.ntmps5
  go_wp2_with (fail)
  refine (AL.out _ HB0.out).mono ?_
  rintro e w1 ⟨rfl, hb1⟩
  have hb1' : Below W0.heap.size W0 w1 := hb1
  have HB1 := Lib.hid hb1'
  obtain ⟨x0, x1, x2, x3, x4, x5, x6, x7⟩ := BLK.out _ hb1'
  clear hb1 hb1' hb0 ho hW0
  go_wp2_with (fail)
  refine (SM.out _ (bel_trans (B := w.heap.size) HB0.out HB1.out)).mono ?_
  rintro e w2 ⟨rfl, hb2⟩
  have HB2 := Lib.hid (bel_trans (B := W0.heap.size) HB1.out hb2)
  clear hb2 x0 x1 x2 x3 x4 x5 x6 x7
  by_cases hv0 : v < 0
  · have d1 : decide (v < 0) = true := decide_eq_true hv0
    go_wp2_with (fail)
    go_ret
    exact ⟨rfl, bel_trans (B := w.heap.size) HB0.out HB2.out⟩
  · have d1 : decide (v < 0) = false := decide_eq_false hv0
    obtain ⟨x0, x1, x2, x3, x4, x5, x6, x7⟩ := BLK.out _ HB2.out
    obtain ⟨ok, kok, few, smf, kl, xl⟩ := smallD_ok HR.out HK.out (Int.le_refl _) (by rw [HV.out]; exact hv0)
    have HOK := Lib.hid ok
    have KOK := Lib.hid kok
    have FEW := Lib.hid few
    have SMF := Lib.hid smf
    have KL := Lib.hid kl
    have XL := Lib.hid xl
    clear ok kok few smf kl xl
    go_wp2_with (fail)
    have hB2 := bel_trans (B := w.heap.size) HB0.out HB2.out
    refine (dRight_any nm kids KOK.out h _ (HD.out.below hB2) HOK.out (HU.out.keep hB2) (fun t ht => callB_keep (HN.out t ht) hB2)).mono ?_
    clear hB2
    rintro e w3 ⟨rfl, hb3⟩
    have HB3 := Lib.hid (bel_trans (B := W0.heap.size) HB2.out hb3)
    clear hb3 x0 x1 x2 x3 x4 x5 x6 x7
    obtain ⟨q, hq⟩ : ∃ q, rightD nm h kids = q := ⟨_, rfl⟩
    rw [hq]
    cases q
    · go_wp2_with (fail)
      go_ret
      exact ⟨rfl, bel_trans (B := w.heap.size) HB0.out HB3.out⟩
    · obtain ⟨rn, nr⟩ := rightD_nums hq
      have RN := Lib.hid rn
      have NR := Lib.hid nr
      have CN := Lib.hid (rightD_cnt hq)
      obtain ⟨x0, x1, x2, x3, x4, x5, x6, x7⟩ := BLK.out _ HB3.out
      clear rn nr hq
      go_wp2_with (fail)
      have hB3 := bel_trans (B := w.heap.size) HB0.out HB3.out
      refine (rdcopy_any (kids.size + 1) kids (by omega) KOK.out FEW.out (by have := KL.out; omega) h w3 (HD.out.below hB3) HOK.out).mono ?_
      rintro e w4 ⟨hw, kw, rfl, dw, aw, afw, okw, okfw, frw, frfw, b4⟩
      have hB4 := bel_trans (B := W0.heap.size) HB3.out b4
      have hlt4 : w.heap.size < w4.heap.size := by have := hB4.size; omega
      have hba4 : Below w4.heap.size w4 (w4.alloc (datO hw kw.len)) := (Below.refl _ w4).alloc (Nat.le_refl _) _
      obtain ⟨w4a, hw4a⟩ : ∃ W, w4.alloc (datO hw kw.len) = W := ⟨_, rfl⟩
      have hob4 : w4a.heap[w4.heap.size]? = some (datO hw kw.len) := by rw [← hw4a]; exact heap_alloc_new w4 _
      rw [hw4a] at hba4
      have hlt4a := heap_lt hob4
      have WBLK : Hid (∀ W, Below w4a.heap.size w4a W → C8 W w4.heap.size 0 hw kw.len) := Lib.hid fun W hW => C8.of_block ((hW.block _ hlt4a).trans hob4)
      have HB4 := Lib.hid (bel_trans (B := W0.heap.size) hB4 hba4)
      have DW := Lib.hid (dw.below hba4)
      have HW4A := Lib.hid hw4a
      have AW := Lib.hid aw
      have AFW := Lib.hid afw
      have OKW := Lib.hid okw
      have OKFW := Lib.hid okfw
      have XB4 := Lib.hid (BLK.out _ hB4)
      clear hB3 b4 dw aw afw okw okfw frw frfw x0 x1 x2 x3 x4 x5 x6 x7 hba4 hw4a hob4 hB4
      obtain ⟨x0, x1, x2, x3, x4, x5, x6, x7⟩ := XB4.out
      go_wp2_with (fail)
      rw [HW4A.out]
      refine (dCopy_any kids KOK.out FEW.out (by have := KL.out; omega) CN.out h w4a (HD.out.below (bel_trans (B := w.heap.size) HB0.out HB4.out)) HOK.out).mono ?_
      rintro e w5 ⟨hc, kc, rfl, dc, ac, afc, okc, okfc, frc, frfc, b5, sfc, sff⟩
      have hB5 := bel_trans (B := W0.heap.size) HB4.out b5
      have hlt5 : w.heap.size < w5.heap.size := by have := hB5.size; omega
      have hba5 : Below w5.heap.size w5 (w5.alloc (datO hc kc.len)) := (Below.refl _ w5).alloc (Nat.le_refl _) _
      obtain ⟨w5a, hw5a⟩ : ∃ W, w5.alloc (datO hc kc.len) = W := ⟨_, rfl⟩
      have hob5 : w5a.heap[w5.heap.size]? = some (datO hc kc.len) := by rw [← hw5a]; exact heap_alloc_new w5 _
      rw [hw5a] at hba5
      have hlt5a := heap_lt hob5
      have CBLK : Hid (∀ W, Below w5a.heap.size w5a W → C8 W w5.heap.size 0 hc kc.len) := Lib.hid fun W hW => C8.of_block ((hW.block _ hlt5a).trans hob5)
      have HB5 := Lib.hid (bel_trans (B := W0.heap.size) hB5 hba5)
      have DC := Lib.hid (dc.below hba5)
      have HW5A := Lib.hid hw5a
      have AC := Lib.hid ac
      have AFC := Lib.hid afc
      have OKC := Lib.hid okc
      have OKFC := Lib.hid okfc
      have FRC := Lib.hid frc
      have FRFC := Lib.hid frfc
      have B5 := Lib.hid (bel_trans (B := w4a.heap.size) b5 hba5)
      have SFC := Lib.hid (sfc.still (.of_below hba5))
      have SFF := Lib.hid (sff.still (.of_below hba5))
      have XB5 := Lib.hid (BLK.out _ hB5)
      have YB5 : Hid (C8 (w5.alloc (datO hc kc.len)) w5.heap.size 0 hc kc.len) := Lib.hid (C8.of_block (heap_alloc_new w5 (datO hc kc.len)))
      clear b5 dc ac afc okc okfc frc frfc sfc sff x0 x1 x2 x3 x4 x5 x6 x7 hba5 hob5 hB5 hw5a
      obtain ⟨x0, x1, x2, x3, x4, x5, x6, x7⟩ := XB5.out
      obtain ⟨y0, y1, y2, y3, y4, y5, y6, y7⟩ := YB5.out
      go_wp2_with (fail)
      rw [HW5A.out]
      have hS := dSame_any kc kids OKFC.out KOK.out (nums_alike AFC.out NR.out) NR.out (by rw [cnt_alike AFC.out]; exact CN.out) hc h w5a DC.out (HD.out.below (bel_trans (B := w.heap.size) HB0.out HB5.out)) OKC.out HOK.out (rightN_alike AC.out RN.out) RN.out
      rw [numS_alike' AC.out, (sameF_alike AFC.out).2] at hS
      refine hS.mono ?_
      clear hS
      rintro e w6 ⟨rfl, b6⟩
      have B6 := Lib.hid b6
      have HB6 := Lib.hid (bel_trans (B := W0.heap.size) HB5.out b6)
      clear b6 x0 x1 x2 x3 x4 x5 x6 x7 y0 y1 y2 y3 y4 y5 y6 y7
      obtain ⟨y0, y1, y2, y3, y4, y5, y6, y7⟩ := CBLK.out _ B6.out
      go_wp2_with (fail)
      have hsz4 : w4a.heap.size ≤ w6.heap.size := Nat.le_trans B5.out.size B6.out.size
      refine (spoil_any (kc.size + 1) kc (by omega) w4a.heap.size hc w6 hsz4 (DC.out.below B6.out) FRC.out FRFC.out (SFC.out.still (.of_below B6.out)) (SFF.out.still (.of_below B6.out)) (by have := XL.out; have := AC.out.2.2.2.2.2.1; rw [this]; omega) (by have := KL.out; have := AFC.out.len; omega) (smf_alike AFC.out SMF.out)).mono ?_
      rintro e w7 ⟨rfl, -, b7⟩
      have b47 : Below w4a.heap.size w4a w7 := (bel_trans (B := w4a.heap.size) B5.out B6.out).trans b7
      have B47 := Lib.hid b47
      have HB7 := Lib.hid (bel_trans (B := W0.heap.size) HB4.out b47)
      clear b7 b47 hsz4 y0 y1 y2 y3 y4 y5 y6 y7
      obtain ⟨x0, x1, x2, x3, x4, x5, x6, x7⟩ := BLK.out _ HB7.out
      obtain ⟨y0, y1, y2, y3, y4, y5, y6, y7⟩ := WBLK.out _ B47.out
      go_wp2_with (fail)
      have hS := rdsame_any (kids.size + 1) kids kw (by omega) KOK.out OKFW.out NR.out (nums_alike AFW.out NR.out) h hw w7 (HD.out.below (bel_trans (B := w.heap.size) HB0.out HB7.out)) (DW.out.below B47.out) HOK.out OKW.out RN.out (rightN_alike AW.out RN.out)
      rw [numS_alike AW.out, (sameF_alike AFW.out).1] at hS
      refine hS.mono ?_
      clear hS
      rintro e w8 ⟨rfl, b8⟩
      have HB8 := Lib.hid (bel_trans (B := W0.heap.size) HB7.out b8)
      clear b8 x0 x1 x2 x3 x4 x5 x6 x7
      go_wp2_with (fail)
      go_ret
      exact ⟨rfl, bel_trans (B := w.heap.size) HB0.out HB8.out⟩
end LM
end Go.Proofs.YtnpmfailpgbggaaGreatDoor

namespace Go.Proofs.YtnpmfailpgbggaaGreatDoor
open Go Go.RowKit
namespace LM
set_option linter.unusedVariables false
attribute [local go_sem] run_store_flt

/-- a builder that holds these bytes; it is block b -/
def WR (b : Nat) (bs : List UInt8) (W : World) : Prop := Lib.IsBuilderF 50 5 b b (Lib.byteCells bs) W ∧ b < W.heap.size
/-- these bytes were written, too -/
def Wrote (b : Nat) (bs add : List UInt8) (W : World) (e : Ending) (W' : World) : Prop := (∃ v, e = .returned v) ∧ WR b (bs ++ add) W' ∧ Below b W W' ∧ Keeps8 (b + 1) W W'
theorem strCells_eq (s : ByteArray) : Lib.strCells s = Lib.byteCells s.data.toList := rfl
theorem wrstr_any (b : Nat) (bs : List UInt8) (s : ByteArray) (w : World) (h : WR b bs w) (hl : bs.length + s.size ≤ 140737488355328) :
    Calls Tryz.prog 39 #[.pointer (some ⟨b, 0, none⟩), .string s] w (Wrote b bs s.data.toList w) := by
  refine (wstr_any b b (Lib.byteCells bs) s w h.1 (by rw [Lib.byteCells_length]; exact hl) (Nat.le_of_lt h.2)).mono ?_
  rintro e w' ⟨rfl, h1, h2, h3⟩
  refine ⟨⟨_, rfl⟩, ⟨?_, Nat.lt_of_lt_of_le h.2 h2.size⟩, h2, keeps8_others h3 h2.size (Nat.lt_succ_self _)⟩
  rw [Lib.byteCells_append]
  rw [strCells_eq] at h1
  exact .inr h1
theorem WR.below {b : Nat} {bs : List UInt8} {w w' : World} (h : WR b bs w) (hb : Below w.heap.size w w') : WR b bs w' := ⟨builder_below h.1 hb, Nat.lt_of_lt_of_le h.2 hb.size⟩

/-- a leaf -/
def leafK (k : Int) : Prop := k ≠ 5 ∧ k ≠ 6 ∧ k ≠ 7
instance (k : Int) : Decidable (leafK k) := by unfold leafK; infer_instance
def Fr.isNil : Fr → Bool
  | .nil => true
  | .cons _ _ _ => false
/-- the text of data one behind the other: is the last one a tail, is it the first one -/
def txF (lf : Hd → List UInt8) : Bool → Bool → Fr → List UInt8
  | _, _, .nil => []
  | dot, fst, .cons h k r => (if dot && r.isNil then [32, 46, 32] else if fst then [] else [32]) ++
      (if h.k = 5 then [40] ++ txF lf false true k ++ [41] else if h.k = 6 then [40] ++ txF lf true true k ++ [41] else if h.k = 7 then [35, 40] ++ txF lf false true k ++ [41] else lf h) ++ txF lf dot false r
def txD (lf : Hd → List UInt8) (h : Hd) (k : Fr) : List UInt8 :=
  if h.k = 5 then [40] ++ txF lf false true k ++ [41] else if h.k = 6 then [40] ++ txF lf true true k ++ [41] else if h.k = 7 then [35, 40] ++ txF lf false true k ++ [41] else lf h

set_option maxRecDepth 100000 in
set_option maxHeartbeats 8000000 in
/-- Items with blanks between; n of them: all, or all but the last -/
theorem dwitems_any (lf : Hd → List UInt8) (kids : Fr) (n : Nat) (hn : n ≤ kids.len) (o : ByteArray) (B : Option Addr) (cap bb off b : Nat) (bs : List UInt8) (w0 w : World) (h0 : Below b w0 w) (hw0 : b = w0.heap.size) (hB : 0 < n → B = some ⟨bb, off, none⟩) (hF : FAt w0 bb off kids) (hc1 : n ≤ cap) (hc2 : cap ≤ 9223372036854775807)
    (tx : Nat → List UInt8) (ht0 : tx 0 = []) (hts : ∀ hh k j r, j < n → kids.drop j = .cons hh k r → tx (j + 1) = tx j ++ ((if j = 0 then [] else [32]) ++ txD lf hh k)) (htl : ∀ j, j ≤ n → (tx j).length ≤ (tx n).length)
    (hW : WR b bs w) (hl : bs.length + o.size + (tx n).length ≤ 100000000000)
    (hcl : ∀ hh k j r, j < n → kids.drop j = .cons hh k r → ∀ W cs, Below b w0 W → WR b cs W → cs.length + (txD lf hh k).length ≤ 100000000000 → Calls Tryz.prog 25 #[.pointer (some ⟨b, 0, none⟩), datA hh k.len] W (Wrote b cs (txD lf hh k) W)) :
    Calls Tryz.prog 44 #[.pointer (some ⟨b, 0, none⟩), .string o, .slice B n cap] w (Wrote b bs (o.data.toList ++ tx n) w) := by
  rcases Nat.eq_zero_or_pos n with hn0 | hpos
  · subst hn0
    have H1 := Lib.hid (wrstr_any b bs o w hW (by omega))
    have HT := Lib.hid ht0
    clear hw0 hcl hts htl h0 hF hB ht0 hW
    go_enter Tryz.func44, Tryz.ntmps44
    go_wp2_with (fail)
    refine H1.out.mono ?_
    rintro e w1 ⟨⟨v, rfl⟩, hr⟩
    have HR := Lib.hid hr
    clear hr
    go_wp2_with (fail)
    go_loopg [13] 0 (fun kk i wr => wr = w1 ∧ i = .int .i64 0)
    case atStart => exact ⟨rfl, rfl⟩
    case round =>
      obtain ⟨rfl, rfl⟩ := hrel
      go_wp2_with (fail)
      go_end0
      refine ⟨⟨_, rfl⟩, ?_, HR.out.2.1, HR.out.2.2⟩
      show WR b (bs ++ (o.data.toList ++ tx 0)) _
      rw [HT.out, List.append_nil]
      exact HR.out.1
  · obtain rfl := hB hpos
    have H1 := Lib.hid (wrstr_any b bs o w hW (by omega))
    have HF := Lib.hid hF
    have HCL := Lib.hid hcl
    have HTS := Lib.hid hts
    have HTL := Lib.hid htl
    have H0 := Lib.hid h0
    have HT := Lib.hid ht0
    have HWB := Lib.hid hW.2
    have HW0 := Lib.hid hw0
    clear hw0 hcl hts htl h0 hF hB ht0 hW
    go_enter Tryz.func44, Tryz.ntmps44
    go_wp2_with (fail)
    refine H1.out.mono ?_
    rintro e w1 ⟨⟨v, rfl⟩, hr⟩
    have HR := Lib.hid hr
    clear hr
    go_wp2_with (fail)
    go_loopg [13] n (fun kk i wr => ∃ j : Nat, j ≤ n ∧ kk = n - j ∧ i = .int .i64 (j : Int) ∧ WR b (bs ++ (o.data.toList ++ tx j)) wr ∧ Below b w wr ∧ Keeps8 (b + 1) w wr)
    case atStart => exact ⟨0, Nat.zero_le _, rfl, rfl, by rw [HT.out, List.append_nil]; exact HR.out.1, HR.out.2.1, HR.out.2.2⟩
    case round =>
      obtain ⟨j, hj, rfl, rfl, hI1, hI2, hI3⟩ := hrel
      have J1 := Lib.hid hI1
      have J2 := Lib.hid hI2
      have J3 := Lib.hid hI3
      clear hI1 hI2 hI3
      by_cases hjl : j < n
      · obtain ⟨hh, k, r, hdr, hdr1⟩ := Fr.cons_of_lt (show j < kids.len by omega)
        have hbel : Below b w0 wr := H0.out.trans J2.out
        obtain ⟨hbl, ⟨x0, x1, x2, x3, x4, x5, x6, x7⟩, -⟩ := counted_item (FAt.below (HW0.out ▸ hbel) _ _ _ HF.out) hdr
        obtain ⟨W2, hW2⟩ : ∃ W2, wr.alloc (datO hh k.len) = W2 := ⟨_, rfl⟩
        have hba : Below wr.heap.size wr W2 := by rw [← hW2]; exact (Below.refl _ wr).alloc (Nat.le_refl _) _
        have hbo : W2.heap[wr.heap.size]? = some (datO hh k.len) := by rw [← hW2]; unfold World.alloc; simp
        have hwb := J1.out.2
        have A1 := Lib.hid (J1.out.below hba)
        have A2 := Lib.hid (bel_trans (B := b) J2.out hba (by have := HWB.out; omega))
        have A3 := Lib.hid (J3.out.trans (keeps8_below hba))
        have A0 := Lib.hid (bel_trans (B := b) hbel hba (by have := HW0.out; omega))
        have BO := Lib.hid hbo
        have HW2 := Lib.hid hW2
        have ts := HTS.out hh k j r hjl hdr
        have tl := HTL.out (j + 1) (by omega)
        rw [ts, List.length_append, List.length_append] at tl
        obtain ⟨u0, u1, u2, u3, u4, u5, u6, u7⟩ := C8.of_block hbo
        have CL := Lib.hid fun (W : World) (cs : List UInt8) (h1 : Below b w0 W) (h2 : WR b cs W) (h3 : cs.length + (txD lf hh k).length ≤ 100000000000) => HCL.out hh k j r hjl hdr W cs h1 h2 h3
        have TS := Lib.hid ts
        have TL := Lib.hid tl
        have HJ := Lib.hid hjl
        clear hdr hdr1 ts tl hbel hba hbo hW2 hwb
        by_cases hj0 : j = 0
        · have dj : decide (0 < j) = false := decide_eq_false (by omega)
          have HJ0 := Lib.hid hj0
          have ET := Lib.hid (show tx (j + 1) = tx j ++ txD lf hh k by rw [TS.out, if_pos hj0, List.nil_append])
          clear hj0
          go_wp2_with (fail)
          rw [HW2.out]
          refine (CL.out W2 _ A0.out A1.out (by have := TL.out; rw [List.length_append, List.length_append, ← Lib.size_eq]; omega)).mono ?_
          rintro e w3 ⟨⟨v3, rfl⟩, h31, h32, h33⟩
          have B1 := Lib.hid h31
          have B2 := Lib.hid (A2.out.trans h32)
          have B3 := Lib.hid (A3.out.trans h33)
          clear h31 h32 h33
          go_wp2_with (fail)
          go_roundg (n - (j + 1))
          case measure => omega
          case rel => exact ⟨j + 1, by omega, rfl, by go_num, by rw [ET.out]; have := B1.out; rw [List.append_assoc, List.append_assoc] at this; exact this, B2.out, B3.out⟩
        · have dj : decide (0 < j) = true := decide_eq_true (by omega)
          have ET := Lib.hid (show tx (j + 1) = tx j ++ ([32] ++ txD lf hh k) by rw [TS.out, if_neg hj0])
          have H2 := Lib.hid (wrstr_any b _ ⟨#[32]⟩ W2 A1.out (by have := TL.out; rw [if_neg hj0] at this; have t2 : ([32] : List UInt8).length = 1 := rfl; rw [List.length_append, List.length_append, ← Lib.size_eq]; show _ + 1 ≤ _; omega))
          have TL2 := Lib.hid (show (tx j).length + (1 + (txD lf hh k).length) ≤ (tx n).length by have := TL.out; rw [if_neg hj0] at this; exact this)
          clear hj0
          go_wp2_with (fail)
          rw [HW2.out]
          refine H2.out.mono ?_
          rintro e w3 ⟨⟨v3, rfl⟩, h31, h32, h33⟩
          have B1 := Lib.hid h31
          have B2 := Lib.hid (A2.out.trans h32)
          have B3 := Lib.hid (A3.out.trans h33)
          have B0 := Lib.hid (A0.out.trans h32)
          have hbo3 := h33.same wr.heap.size _ (by have := J1.out.2; omega) BO.out rfl
          obtain ⟨q0, q1, q2, q3, q4, q5, q6, q7⟩ := C8.of_block hbo3
          clear h31 h32 h33 hbo3 u0 u1 u2 u3 u4 u5 u6 u7
          go_wp2_with (fail)
          refine (CL.out w3 _ B0.out B1.out (by have := TL2.out; rw [List.length_append, List.length_append, List.length_append, ← Lib.size_eq]; show _ + 1 + _ ≤ _; omega)).mono ?_
          rintro e w4 ⟨⟨v4, rfl⟩, h31, h32, h33⟩
          have C1 := Lib.hid h31
          have C2 := Lib.hid (B2.out.trans h32)
          have C3 := Lib.hid (B3.out.trans h33)
          clear h31 h32 h33
          go_wp2_with (fail)
          go_roundg (n - (j + 1))
          case measure => omega
          case rel => exact ⟨j + 1, by omega, rfl, by go_num, by rw [ET.out]; have := C1.out; simp only [List.append_assoc] at this ⊢; exact this, C2.out, C3.out⟩
      · obtain rfl : j = n := by omega
        go_wp2_with (fail)
        go_end0
        exact ⟨⟨_, rfl⟩, J1.out, J2.out, J3.out⟩

end LM
end Go.Proofs.YtnpmfailpgbggaaGreatDoor

namespace Go.Proofs.YtnpmfailpgbggaaGreatDoor
open Go Go.RowKit
namespace LM
set_option linter.unusedVariables false
attribute [local go_sem] run_store_flt

/-- the texts of the first j Items -/
def txI (lf : Hd → List UInt8) : Nat → Bool → Fr → List UInt8
  | 0, _, _ => []
  | _ + 1, _, .nil => []
  | j + 1, fst, .cons h k r => (if fst then [] else [32]) ++ txD lf h k ++ txI lf j false r
theorem txI_step (lf : Hd → List UInt8) : ∀ (j : Nat) (fst : Bool) (fr : Fr) (hh : Hd) (k r : Fr), fr.drop j = .cons hh k r → txI lf (j + 1) fst fr = txI lf j fst fr ++ ((if (j = 0 ∧ fst = true) then [] else [32]) ++ txD lf hh k) := by
  intro j
  induction j with
  | zero =>
    intro fst fr hh k r hd
    cases fr with
    | nil => cases hd
    | cons a b c =>
      obtain ⟨rfl, rfl, rfl⟩ : a = hh ∧ b = k ∧ c = r := by cases hd; exact ⟨rfl, rfl, rfl⟩
      show (if fst then [] else [32]) ++ txD lf a b ++ [] = [] ++ _
      cases fst <;> simp
  | succ j ih =>
    intro fst fr hh k r hd
    cases fr with
    | nil => cases hd
    | cons a b c =>
      have h1 := ih false c hh k r hd
      show (if fst then [] else [32]) ++ txD lf a b ++ txI lf (j + 1) false c = ((if fst then [] else [32]) ++ txD lf a b ++ txI lf j false c) ++ _
      rw [h1]
      simp
theorem txI_all (lf : Hd → List UInt8) : ∀ (fr : Fr) (fst : Bool), txI lf fr.len fst fr = txF lf false fst fr := by
  intro fr
  induction fr with
  | nil => intro fst; rfl
  | cons h k r _ ih =>
    intro fst
    show (if fst then [] else [32]) ++ txD lf h k ++ txI lf r.len false r = _
    rw [ih]
    unfold txD
    show _ = (if (false && r.isNil) then [32, 46, 32] else if fst then [] else [32]) ++ _ ++ txF lf false false r
    rw [Bool.false_and]
    cases fst <;> rfl
theorem txI_dot (lf : Hd → List UInt8) : ∀ (fr : Fr) (fst : Bool) (hh : Hd) (k : Fr), 0 < fr.len → fr.drop (fr.len - 1) = .cons hh k .nil → txF lf true fst fr = txI lf (fr.len - 1) fst fr ++ [32, 46, 32] ++ txD lf hh k := by
  intro fr
  induction fr with
  | nil => intro fst hh k h; exact absurd h (by show ¬ 0 < 0; omega)
  | cons a b c _ ih =>
    intro fst hh k _ hd
    cases c with
    | nil =>
      obtain ⟨rfl, rfl⟩ : a = hh ∧ b = k := by cases hd; exact ⟨rfl, rfl⟩
      show [32, 46, 32] ++ _ ++ [] = [] ++ [32, 46, 32] ++ txD lf a b
      unfold txD
      simp
    | cons a2 b2 c2 =>
      have hl : (Fr.cons a2 b2 c2).len = c2.len + 1 := rfl
      have hl2 : (Fr.cons a b (Fr.cons a2 b2 c2)).len - 1 = c2.len + 1 := by show c2.len + 1 + 1 - 1 = _; omega
      rw [hl2] at hd ⊢
      have h1 := ih false hh k (by rw [hl]; omega) (by rw [hl]; exact hd)
      rw [hl, Nat.add_sub_cancel] at h1
      show (if fst then [] else [32]) ++ _ ++ txF lf true false (Fr.cons a2 b2 c2) = ((if fst then [] else [32]) ++ txD lf a b ++ txI lf c2.len false (Fr.cons a2 b2 c2)) ++ _ ++ _
      rw [h1]
      unfold txD
      simp

end LM
end Go.Proofs.YtnpmfailpgbggaaGreatDoor

namespace Go.Proofs.YtnpmfailpgbggaaGreatDoor
open Go Go.RowKit
namespace LM
set_option linter.unusedVariables false
attribute [local go_sem] run_store_flt

/-- what must be known of a datum that is printed: P of its leaves -/
def WH (P : Hd → Prop) (h : Hd) (k : Fr) : Prop := (leafK h.k → k = .nil ∧ P h) ∧ (h.k = 6 → 2 ≤ k.len)
def WOk (P : Hd → Prop) : Fr → Prop
  | .nil => True
  | .cons h k r => WH P h k ∧ WOk P k ∧ WOk P r
theorem WOk.drop {P : Hd → Prop} : ∀ (j : Nat) {fr : Fr}, WOk P fr → WOk P (fr.drop j) := by
  intro j
  induction j with
  | zero => intro fr h; exact h
  | succ j ih =>
    intro fr h
    cases fr with
    | nil => exact trivial
    | cons hh k r => exact ih h.2.2
theorem txI_mono (lf : Hd → List UInt8) : ∀ (j n : Nat) (fst : Bool) (fr : Fr), j ≤ n → (txI lf j fst fr).length ≤ (txI lf n fst fr).length := by
  intro j
  induction j with
  | zero => intro n fst fr _; show 0 ≤ _; omega
  | succ j ih =>
    intro n fst fr hn
    obtain ⟨m, rfl⟩ : ∃ m, n = m + 1 := ⟨n - 1, by omega⟩
    cases fr with
    | nil => exact Nat.le_refl _
    | cons a b c =>
      have := ih m false c (by omega)
      show ((if fst then [] else [32]) ++ txD lf a b ++ txI lf j false c).length ≤ ((if fst then [] else [32]) ++ txD lf a b ++ txI lf m false c).length
      simp only [List.length_append]
      omega

abbrev WriteC (b : Nat) (w0 : World) (h : Hd) (n : Nat) (t : List UInt8) : Prop := ∀ W cs, Below b w0 W → WR b cs W → cs.length + t.length ≤ 100000000000 → Calls Tryz.prog 25 #[.pointer (some ⟨b, 0, none⟩), datA h n] W (Wrote b cs t W)

set_option maxRecDepth 100000 in
set_option maxHeartbeats 8000000 in
/-- a list or a vector -/
theorem dwrite_row (b : Nat) (w0 : World) (h : Hd) (kids : Fr) (t : List UInt8) (o : ByteArray) (ho : (h.k = 5 ∧ o = ⟨#[40]⟩) ∨ (h.k = 7 ∧ o = ⟨#[35, 40]⟩)) (W : World) (cs : List UInt8) (hb : Below b w0 W) (hr : WR b cs W)
    (hI : ∀ W, Below b w0 W → WR b cs W → Calls Tryz.prog 44 #[.pointer (some ⟨b, 0, none⟩), .string o, .slice h.B kids.len h.cap] W (Wrote b cs (o.data.toList ++ t) W)) (hl : cs.length + (o.data.toList ++ t ++ [41]).length ≤ 100000000000) :
    Calls Tryz.prog 25 #[.pointer (some ⟨b, 0, none⟩), datA h kids.len] W (Wrote b cs (o.data.toList ++ t ++ [41]) W) := by
  obtain ⟨W0, hW0, hb0, hO, hs0⟩ := dat_block W h kids.len
  have hbw := hr.2
  have A1 := Lib.hid (hr.below hb0)
  have A2 := Lib.hid (hb0.mono (Nat.le_of_lt hbw))
  have A3 := Lib.hid (keeps8_below (B := b + 1) hb0)
  have HI := Lib.hid (hI W0 (hb.trans (hb0.mono (Nat.le_of_lt hbw))) (hr.below hb0))
  have HW0 := Lib.hid hW0
  have HL := Lib.hid hl
  clear hW0 hb0 hO hI hb hr hl hs0
  rcases ho with ⟨hk, rfl⟩ | ⟨hk, rfl⟩
  all_goals
    have f0 : (h.k == 0) = false := by rw [hk]; rfl
    have f1 : (h.k == 1) = false := by rw [hk]; rfl
    have f2 : (h.k == 2) = false := by rw [hk]; rfl
    have f3 : (h.k == 3) = false := by rw [hk]; rfl
    have f4 : (h.k == 4) = false := by rw [hk]; rfl
    have f5 : (h.k == 5) = decide (h.k = 5) := by rw [hk]; rfl
    have f6 : (h.k == 6) = false := by rw [hk]; rfl
    have f7 : (h.k == 7) = decide (h.k = 7) := by rw [hk]; rfl
  · have g5 : decide (h.k = 5) = true := decide_eq_true hk
    rw [g5] at f5
    clear hk g5 f7
    go_enter Tryz.func25, Tryz.ntmps25
    go_wp2_with (fail)
    rw [HW0.out]
    refine HI.out.mono ?_
    rintro e w1 ⟨⟨v, rfl⟩, h1, h2, h3⟩
    have H2 := Lib.hid (wrstr_any b _ ⟨#[41]⟩ w1 h1 (by have := HL.out; simp only [List.length_append] at this ⊢; show _ + 1 ≤ _; omega))
    have B2 := Lib.hid (A2.out.trans h2)
    have B3 := Lib.hid (A3.out.trans h3)
    clear h1 h2 h3
    go_wp2_with (fail)
    refine H2.out.mono ?_
    rintro e w2 ⟨⟨v2, rfl⟩, h1, h2, h3⟩
    have C1 := Lib.hid h1
    have C2 := Lib.hid (B2.out.trans h2)
    have C3 := Lib.hid (B3.out.trans h3)
    clear h1 h2 h3
    go_wp2_with (fail)
    go_end0
    exact ⟨⟨_, rfl⟩, by have := C1.out; rw [List.append_assoc] at this; exact this, C2.out, C3.out⟩
  · have g5 : decide (h.k = 5) = false := decide_eq_false (by omega)
    have g7 : decide (h.k = 7) = true := decide_eq_true hk
    rw [g5] at f5
    rw [g7] at f7
    clear hk g5 g7
    go_enter Tryz.func25, Tryz.ntmps25
    go_wp2_with (fail)
    rw [HW0.out]
    refine HI.out.mono ?_
    rintro e w1 ⟨⟨v, rfl⟩, h1, h2, h3⟩
    have H2 := Lib.hid (wrstr_any b _ ⟨#[41]⟩ w1 h1 (by have := HL.out; simp only [List.length_append] at this ⊢; show _ + 1 ≤ _; omega))
    have B2 := Lib.hid (A2.out.trans h2)
    have B3 := Lib.hid (A3.out.trans h3)
    clear h1 h2 h3
    go_wp2_with (fail)
    refine H2.out.mono ?_
    rintro e w2 ⟨⟨v2, rfl⟩, h1, h2, h3⟩
    have C1 := Lib.hid h1
    have C2 := Lib.hid (B2.out.trans h2)
    have C3 := Lib.hid (B3.out.trans h3)
    clear h1 h2 h3
    go_wp2_with (fail)
    go_end0
    exact ⟨⟨_, rfl⟩, by have := C1.out; rw [List.append_assoc] at this; exact this, C2.out, C3.out⟩

set_option maxRecDepth 100000 in
set_option maxHeartbeats 8000000 in
/-- a list with a tail -/
theorem dwrite_dot (b : Nat) (w0 : World) (h : Hd) (kids : Fr) (t : List UInt8) (bb off : Nat) (hk : h.k = 6) (hB : h.B = some ⟨bb, off, none⟩) (hn2 : 2 ≤ kids.len) (hcap : kids.len ≤ h.cap) (hcap2 : h.cap ≤ 9223372036854775807) (hh : Hd) (k : Fr) (hC : ∀ W, Below b w0 W → C8 W bb (off + (kids.len - 1) * 8) hh k.len)
    (tl : List UInt8) (W : World) (cs : List UInt8) (hb : Below b w0 W) (hr : WR b cs W)
    (hI : ∀ W, Below b w0 W → WR b cs W → Calls Tryz.prog 44 #[.pointer (some ⟨b, 0, none⟩), .string ⟨#[40]⟩, .slice (some ⟨bb, off, none⟩) ((kids.len - 1 : Nat) : Nat) h.cap] W (Wrote b cs ([40] ++ t) W))
    (hw : WriteC b w0 hh k.len tl) (hl : cs.length + ([40] ++ (t ++ [32, 46, 32] ++ tl) ++ [41]).length ≤ 100000000000) :
    Calls Tryz.prog 25 #[.pointer (some ⟨b, 0, none⟩), datA h kids.len] W (Wrote b cs ([40] ++ (t ++ [32, 46, 32] ++ tl) ++ [41]) W) := by
  obtain ⟨W0, hW0, hb0, hO, hs0⟩ := dat_block W h kids.len
  have hbw := hr.2
  have A0 := Lib.hid (hb.trans (hb0.mono (Nat.le_of_lt hbw)))
  have A1 := Lib.hid (hr.below hb0)
  have A2 := Lib.hid (hb0.mono (Nat.le_of_lt hbw))
  have A3 := Lib.hid (keeps8_below (B := b + 1) hb0)
  have HI := Lib.hid (hI W0 (hb.trans (hb0.mono (Nat.le_of_lt hbw))) (hr.below hb0))
  have HC := Lib.hid hC
  have HW := Lib.hid hw
  have HO := Lib.hid hO
  have HW0 := Lib.hid hW0
  have HL := Lib.hid hl
  have HBW := Lib.hid hbw
  have f0 : (h.k == 0) = false := by rw [hk]; rfl
  have f1 : (h.k == 1) = false := by rw [hk]; rfl
  have f2 : (h.k == 2) = false := by rw [hk]; rfl
  have f3 : (h.k == 3) = false := by rw [hk]; rfl
  have f4 : (h.k == 4) = false := by rw [hk]; rfl
  have f5 : (h.k == 5) = false := by rw [hk]; rfl
  have f6 : (h.k == 6) = true := by rw [hk]; rfl
  have w1 : IntKind.i64.wrap ((kids.len : Int) - 1) = ((kids.len - 1 : Nat) : Int) := by rw [IntKind.wrap_i64]; omega
  obtain ⟨q, hq⟩ : ∃ q, kids.len - 1 = q := ⟨_, rfl⟩
  rw [hq] at w1 HI HC
  have hqn : q < kids.len := by omega
  have hqc : q ≤ h.cap := by omega
  obtain ⟨k0, n0, fl0, ff0, s0, AA0, xs0, c0, t0, B0, cap0⟩ := h
  dsimp only at hB hcap hcap2 hqc HI HO HW0 f0 f1 f2 f3 f4 f5 f6 ⊢
  subst hB
  obtain ⟨u0, u1, u2, u3, u4, u5, u6, u7⟩ := C8.of_block HO.out
  clear hW0 hb0 hO hI hb hr hl hs0 hC hw hk hbw hq hn2
  go_enter Tryz.func25, Tryz.ntmps25
  go_wp2_with (fail)
  rw [HW0.out]
  go_wp2_with (fail)
  refine HI.out.mono ?_
  rintro e w1 ⟨⟨v, rfl⟩, h1, h2, h3⟩
  have H2 := Lib.hid (wrstr_any b _ ⟨#[32, 46, 32]⟩ w1 h1 (by have := HL.out; simp only [List.length_append] at this ⊢; have t3 : ([32, 46, 32] : List UInt8).length = 3 := rfl; show _ + 3 ≤ _; omega))
  have B0 := Lib.hid (A0.out.trans h2)
  have B2 := Lib.hid (A2.out.trans h2)
  have B3 := Lib.hid (A3.out.trans h3)
  have BO := Lib.hid (h3.same W.heap.size _ (by have := HBW.out; omega) HO.out rfl)
  clear h1 h2 h3 u0 u1 u2 u3 u4 u5 u6 u7
  go_wp2_with (fail)
  refine H2.out.mono ?_
  rintro e w2 ⟨⟨v2, rfl⟩, h1, h2, h3⟩
  have C0 := Lib.hid (B0.out.trans h2)
  have C1 := Lib.hid h1
  have C2 := Lib.hid (B2.out.trans h2)
  have C3 := Lib.hid (B3.out.trans h3)
  have H3 := Lib.hid (HW.out w2 _ C0.out h1 (by have := HL.out; simp only [List.length_append] at this ⊢; have t3 : ([32, 46, 32] : List UInt8).length = 3 := rfl; omega))
  have hbo := h3.same W.heap.size _ (by have := HBW.out; omega) BO.out rfl
  obtain ⟨u0, u1, u2, u3, u4, u5, u6, u7⟩ := C8.of_block hbo
  obtain ⟨x0, x1, x2, x3, x4, x5, x6, x7⟩ := HC.out w2 C0.out
  clear h1 h2 h3 hbo
  go_wp2_with (fail)
  refine H3.out.mono ?_
  rintro e w3 ⟨⟨v3, rfl⟩, h1, h2, h3⟩
  have H4 := Lib.hid (wrstr_any b _ ⟨#[41]⟩ w3 h1 (by have := HL.out; simp only [List.length_append] at this ⊢; have t3 : ([32, 46, 32] : List UInt8).length = 3 := rfl; show _ + 1 ≤ _; omega))
  have D2 := Lib.hid (C2.out.trans h2)
  have D3 := Lib.hid (C3.out.trans h3)
  clear h1 h2 h3 u0 u1 u2 u3 u4 u5 u6 u7 x0 x1 x2 x3 x4 x5 x6 x7
  go_wp2_with (fail)
  refine H4.out.mono ?_
  rintro e w4 ⟨⟨v4, rfl⟩, h1, h2, h3⟩
  have E1 := Lib.hid h1
  have E2 := Lib.hid (D2.out.trans h2)
  have E3 := Lib.hid (D3.out.trans h3)
  clear h1 h2 h3
  go_wp2_with (fail)
  go_end0
  exact ⟨⟨_, rfl⟩, by have := E1.out; simp only [List.append_assoc] at this ⊢; exact this, E2.out, E3.out⟩

end LM
end Go.Proofs.YtnpmfailpgbggaaGreatDoor

namespace Go.Proofs.YtnpmfailpgbggaaGreatDoor
open Go Go.Shelf Go.RowKit Go.Sort Go.Lib
namespace LM
set_option linter.unusedVariables false
attribute [local go_sem] run_store_flt

set_option maxRecDepth 100000 in
set_option maxHeartbeats 2000000 in
theorem cutAtE_a (s : ByteArray) (w : World) (h : s.data.toList = [97]) :
    Calls Tryz.prog 178 #[.string s] w fun e w' => e = .returned (.tuple #[.string s, .string ⟨#[]⟩, .bool false]) ∧ Below w.heap.size w w' := by
  have hz : s.size = 1 := by rw [Lib.size_eq, h]; rfl
  have hI := fun W => Tryz.strings_IndexAny_short s ⟨#[101, 69]⟩ W (by decide) (by omega) (fun j b hb => by
    rw [h] at hb
    have := List.mem_of_getElem? hb
    simp at this
    rcases this with rfl; decide)
  rw [show indexAny s.data.toList (⟨#[101, 69]⟩ : ByteArray).data.toList = -1 from by rw [h]; decide] at hI
  have I1 := Lib.hid hI
  clear hI h
  go_enter Tryz.func178, Tryz.ntmps178
  go_wp2_with (fail)
  refine (I1.out _).mono ?_
  rintro e w' ⟨rfl, pos, rfl⟩
  have HB := Lib.hid (below_iter w s pos)
  go_wp2_with (fail)
  go_returns
  exact ⟨rfl, HB.out⟩

set_option maxRecDepth 100000 in
set_option maxHeartbeats 1000000 in
theorem isNumeral_a (s : ByteArray) (w : World) (h : s.data.toList = [97]) :
    Calls Tryz.prog 143 #[.string s] w fun e w' => e = .returned (.bool false) ∧ Below w.heap.size w w' := by
  have hz : s.size = 1 := by rw [Lib.size_eq, h]; rfl
  have U1 := Lib.hid fun W => unsigned_any s W (by omega)
  have CE := Lib.hid fun t W (ht : t.data.toList = [97]) => cutAtE_a t W ht
  have CU := Lib.hid fun t W (ht : t.data.toList = [97]) => scut_no t 46 W (by rw [Lib.size_eq, ht]; decide) (by rw [ht]; decide)
  have HH := Lib.hid h
  clear h hz
  go_enter Tryz.func143, Tryz.ntmps143
  go_wp2_with (fail)
  refine (U1.out _).mono ?_
  rintro e w1 ⟨⟨t, rfl, ht, _⟩, k1, rfl⟩
  have ht2 := ht.trans (show unsigB s.data.toList = [97] from by rw [HH.out]; decide)
  have CE2 := Lib.hid fun W => CE.out t W ht2
  have CU2 := Lib.hid fun W => CU.out t W ht2
  clear ht ht2
  go_wp2_with (fail)
  refine (CE2.out _).mono ?_
  rintro e w2 ⟨rfl, hb2⟩
  have HB2 := Lib.hid ((below_drewN (Below.refl _ w) k1).trans hb2)
  clear hb2
  go_wp2_with (fail)
  refine (CU2.out _).mono ?_
  rintro e w' ⟨rfl, rfl⟩
  go_wp2_with (fail)
  go_ret
  exact ⟨rfl, HB2.out⟩

set_option maxRecDepth 100000 in
set_option maxHeartbeats 1000000 in
theorem floparse_a (w : World) :
    Calls Tryz.prog 116 #[.string ⟨#[97]⟩] w fun e w' => e = .returned (.tuple #[.float .f64 0, .int .i64 31]) ∧ Below w.heap.size w w' := by
  obtain ⟨s, hs⟩ : ∃ s, (⟨#[97]⟩ : ByteArray) = s := ⟨_, rfl⟩
  have c1 : (s.toList == [43, 110, 97, 110, 46, 48]) = false := by rw [← hs, Go.ByteArray.toList_eq]; rfl
  have c2 : (s.toList == [43, 105, 110, 102, 46, 48]) = false := by rw [← hs, Go.ByteArray.toList_eq]; rfl
  have c3 : (s.toList == [45, 105, 110, 102, 46, 48]) = false := by rw [← hs, Go.ByteArray.toList_eq]; rfl
  have hl : s.data.toList = [97] := by rw [← hs]
  have hz : s.size = 1 := by rw [Lib.size_eq, hl]; rfl
  rw [hs]
  have N1 := Lib.hid (isNumeral_a s w hl)
  clear hs hl
  go_enter Tryz.func116, Tryz.ntmps116
  go_wp2_with (fail)
  refine N1.out.mono ?_
  rintro e w1 ⟨rfl, hb1⟩
  go_wp2_with (fail)
  go_returns
  exact ⟨rfl, hb1⟩

set_option maxRecDepth 100000 in
set_option maxHeartbeats 4000000 in
theorem tparse_a (w : World) (hs : SynCell w) :
    Calls Tryz.prog 85 #[.string ⟨#[97]⟩] w fun e w' => e = .returned (.tuple #[numA false 0 false none 0 0, .int .i64 13]) ∧ Below w.heap.size w w' := by
  have hp := fun W (hW : Below w.heap.size w W) => eparse_any ⟨#[97]⟩ W (by decide) (fun W2 hW2 _ => (hs.below hW).below hW2)
  have hnd : ¬ OkText (signOf [97]).2 := by
    rintro ⟨_, _, h⟩
    have := h 97 (by unfold signOf; decide)
    exact absurd this.2 (by decide)
  have EP : Hid (∀ W, Below w.heap.size w W → Calls Tryz.prog 115 #[.string ⟨#[97]⟩] W fun e w' => (∃ s A n c, e = .returned (.tuple #[.agg #[.bool s, .slice A n c], .int .i64 13])) ∧ Below W.heap.size W w') := Lib.hid fun W hW => (hp W hW).mono (by
    rintro e w' ⟨s, A, n, c, er, z, rfl, -, hpo, hb⟩
    rcases hpo with ⟨_, _, rfl⟩ | ⟨h, _⟩ | ⟨h, _⟩
    · exact ⟨⟨s, A, n, c, rfl⟩, hb⟩
    · exact absurd h hnd
    · exact absurd h hnd)
  have FP := Lib.hid floparse_a
  have hb0 : Below w.heap.size w (w.alloc (numO false 0 false none 0 0)) := (Below.refl _ w).alloc (Nat.le_refl _) _
  have Y0 := Nx.new w false 0 false none 0 0
  have HB0 := Lib.hid hb0
  have HY0 := Lib.hid Y0
  clear hp hs hb0 Y0
  go_enter Tryz.func85, Tryz.ntmps85
  go_wp2_with (fail)
  refine (EP.out _ HB0.out).mono ?_
  rintro e w1 ⟨⟨s, A, n, c, rfl⟩, hb1⟩
  have HY1 := Lib.hid (HY0.out.below hb1)
  have HB1 := Lib.hid (bel_trans (B := w.heap.size) HB0.out hb1)
  clear hb1
  go_wp2_with (fail)
  refine (FP.out _).mono ?_
  rintro e w2 ⟨rfl, hb2⟩
  have hba : Below w1.heap.size w1 (w1.alloc (.cells #[.bool s, .slice A n c] 25)) := (Below.refl _ w1).alloc (Nat.le_refl _) _
  have HY2 := Lib.hid ((HY1.out.below hba).below hb2)
  have HB2 := Lib.hid (bel_trans (B := w.heap.size) (bel_trans (B := w.heap.size) HB1.out hba) hb2)
  obtain ⟨y0, y1, y2, y3, y4, y5, y6, y7, yl⟩ := HY2.out.facts
  obtain ⟨W, hW, ZR, hbW, -, -⟩ := stored_num HY2.out HB2.out (Nat.le_refl _) false 0 false none 0 0
  obtain ⟨z0, z1, z2, z3, -, -, -, -, zl⟩ := ZR.facts
  have HW := Lib.hid hW
  have HBW := Lib.hid hbW
  clear hb2 hba hW hbW ZR
  go_wp2_with (fail)
  rw [HW.out]
  refine bodyPost_ret (v := .tuple #[numA false 0 false none 0 0, .int .i64 13]) (by simp [results, Tryz.results85, go_sem, z0, z1, z2, z3]) rfl ?_
  exact ⟨rfl, HBW.out⟩

set_option maxRecDepth 100000 in
set_option maxHeartbeats 2000000 in
theorem dnamebyte_a (w : World) : Calls Tryz.prog 84 #[.int .u8 97] w fun e w' => e = .returned (.bool true) ∧ w' = w := by
  go_enter Tryz.func84, Tryz.ntmps84
  go_wp2_with (fail)
  go_ret
  exact ⟨rfl, rfl⟩

set_option maxRecDepth 100000 in
set_option maxHeartbeats 4000000 in
theorem dname_a (w : World) (hs : SynCell w) :
    Calls Tryz.prog 53 #[.string ⟨#[97]⟩] w fun e w' => e = .returned (.bool true) ∧ Below w.heap.size w w' := by
  have TP := Lib.hid (tparse_a w hs)
  have NB := Lib.hid dnamebyte_a
  obtain ⟨s, hse⟩ : ∃ s, (⟨#[97]⟩ : ByteArray) = s := ⟨_, rfl⟩
  have c1 : (s.toList == [46]) = false := by rw [← hse, Go.ByteArray.toList_eq]; rfl
  have hl : s.data.toList = [97] := by rw [← hse]
  have hz : s.size = 1 := by rw [Lib.size_eq, hl]; rfl
  have b0 : (s[0]'(by omega)).toNat = 97 := byte_at hl 0 (by omega) 97 rfl
  rw [hse] at TP ⊢
  clear hs hse hl
  go_enter Tryz.func53, Tryz.ntmps53
  go_wp2_with (fail)
  go_loopg [20] 1 (fun kk i wr => wr = w ∧ ((kk = 1 ∧ i = .int .i64 0) ∨ (kk = 0 ∧ i = .int .i64 1)))
  case atStart => exact ⟨rfl, .inl ⟨rfl, rfl⟩⟩
  case round =>
    obtain ⟨rfl, ⟨rfl, rfl⟩ | ⟨rfl, rfl⟩⟩ := hrel
    · go_wp2_with (fail)
      refine (NB.out _).mono ?_
      rintro e w1 ⟨rfl, rfl⟩
      go_wp2_with (fail)
      go_roundg 0
      case measure => omega
      case rel => exact ⟨rfl, .inr ⟨rfl, rfl⟩⟩
    · go_wp2_with (fail)
      refine TP.out.mono ?_
      rintro e w1 ⟨rfl, hb1⟩
      have HB1 := Lib.hid (hb1.alloc hb1.size (numO false 0 false none 0 0))
      clear hb1
      go_wp2_with (fail)
      go_ret
      exact ⟨rfl, HB1.out⟩

end LM
end Go.Proofs.YtnpmfailpgbggaaGreatDoor

namespace Go.Proofs.YtnpmfailpgbggaaGreatDoor
open Go Go.RowKit
namespace LM
set_option linter.unusedVariables false
attribute [local go_sem] run_store_flt

set_option maxRecDepth 100000 in
theorem dwrite_any (lf : Hd → List UInt8) (b : Nat) (w0 : World) (hw0 : b = w0.heap.size) (P : Hd → Prop) (hP : ∀ hh, P hh → WriteC b w0 hh 0 (lf hh)) :
    ∀ (m : Nat) (kids : Fr), kids.size < m → kids.Ok → WOk P kids → ∀ h : Hd, h.Ok kids.len → WH P h kids → DatV w0 h kids → WriteC b w0 h kids.len (txD lf h kids) := by
  intro m
  induction m with
  | zero => intro kids h; omega
  | succ m ih =>
    intro kids hsz hok hwok h hho hwh hd W cs hb hr hl
    obtain ⟨bb, off, hB, hF⟩ := hd.items
    have rows : ∀ (n : Nat) (o : ByteArray), n ≤ kids.len → cs.length + o.size + (txI lf n true kids).length ≤ 100000000000 → ∀ W, Below b w0 W → WR b cs W → Calls Tryz.prog 44 #[.pointer (some ⟨b, 0, none⟩), .string o, .slice h.B n h.cap] W (Wrote b cs (o.data.toList ++ txI lf n true kids) W) := fun n o hn hlo W hb hr =>
      dwitems_any lf kids n hn o h.B h.cap bb off b cs w0 W hb hw0 (fun hp => hB (by omega)) hF (by have := hho.cap.1; omega) hho.cap.2 (fun j => txI lf j true kids) rfl (fun hh k j r _ e => by
        have := txI_step lf j true kids hh k r e
        simpa using this) (fun j hj => txI_mono lf j n true kids hj) hr hlo (fun hh k j r hj e W2 cs2 hb2 hr2 hl2 => by
        have o1 := Fr.Ok.drop j hok
        have o2 := WOk.drop j hwok
        rw [e] at o1 o2
        exact ih k (by have := size_item e; omega) o1.2.1 o2.2.1 hh o1.1 o2.1 (counted_item hF e).2.2 W2 cs2 hb2 hr2 hl2)
    by_cases hlk : leafK h.k
    · obtain ⟨rfl, hp⟩ := hwh.1 hlk
      have e : txD lf h .nil = lf h := by unfold txD; rw [if_neg hlk.1, if_neg hlk.2.1, if_neg hlk.2.2]
      rw [e] at hl ⊢
      exact hP h hp W cs hb hr hl
    · by_cases h5 : h.k = 5
      · have e : txD lf h kids = [40] ++ txF lf false true kids ++ [41] := by unfold txD; rw [if_pos h5]
        rw [e] at hl ⊢
        refine dwrite_row b w0 h kids (txF lf false true kids) ⟨#[40]⟩ (.inl ⟨h5, rfl⟩) W cs hb hr (fun W2 hb2 hr2 => ?_) hl
        have := rows kids.len ⟨#[40]⟩ (Nat.le_refl _) (by rw [txI_all]; simp only [List.length_append] at hl; show _ + 1 + _ ≤ _; have t1 : ([40] : List UInt8).length = 1 := rfl; omega) W2 hb2 hr2
        rw [txI_all] at this
        exact this
      · by_cases h7 : h.k = 7
        · have h6 : h.k ≠ 6 := by omega
          have e : txD lf h kids = [35, 40] ++ txF lf false true kids ++ [41] := by unfold txD; rw [if_neg h5, if_neg h6, if_pos h7]
          rw [e] at hl ⊢
          refine dwrite_row b w0 h kids (txF lf false true kids) ⟨#[35, 40]⟩ (.inr ⟨h7, rfl⟩) W cs hb hr (fun W2 hb2 hr2 => ?_) hl
          have := rows kids.len ⟨#[35, 40]⟩ (Nat.le_refl _) (by rw [txI_all]; simp only [List.length_append] at hl; show _ + 2 + _ ≤ _; have t1 : ([35, 40] : List UInt8).length = 2 := rfl; omega) W2 hb2 hr2
          rw [txI_all] at this
          exact this
        · have h6 : h.k = 6 := by
            unfold leafK at hlk
            omega
          have hn2 := hwh.2 h6
          obtain ⟨hh, k, e1, e2⟩ := last_item kids (by omega)
          have e : txD lf h kids = [40] ++ (txI lf (kids.len - 1) true kids ++ [32, 46, 32] ++ txD lf hh k) ++ [41] := by
            rw [← txI_dot lf kids true hh k (by omega) e1]
            unfold txD
            rw [if_neg h5, if_pos h6]
          rw [e] at hl ⊢
          have o1 := Fr.Ok.drop (kids.len - 1) hok
          have o2 := WOk.drop (kids.len - 1) hwok
          rw [e1] at o1 o2
          have hBs := hB (by omega)
          refine dwrite_dot b w0 h kids _ bb off h6 hBs hn2 hho.cap.1 hho.cap.2 hh k (fun W2 hb2 => (counted_item (FAt.below (hw0 ▸ hb2) _ _ _ hF) e1).2.1) _ W cs hb hr (fun W2 hb2 hr2 => ?_) (ih k (by have := size_item e1; omega) o1.2.1 o2.2.1 hh o1.1 o2.1 (counted_item hF e1).2.2) hl
          have := rows (kids.len - 1) ⟨#[40]⟩ (by omega) (by simp only [List.length_append] at hl; show _ + 1 + _ ≤ _; have t1 : ([40] : List UInt8).length = 1 := rfl; omega) W2 hb2 hr2
          rw [hBs] at this
          exact this

end LM
end Go.Proofs.YtnpmfailpgbggaaGreatDoor

namespace Go.Proofs.YtnpmfailpgbggaaGreatDoor
open Go Go.RowKit
namespace LM
set_option linter.unusedVariables false
attribute [local go_sem] run_store_flt

set_option maxRecDepth 100000 in
set_option maxHeartbeats 8000000 in
theorem dwrite_sym (b : Nat) (w0 : World) (h : Hd) (hk : h.k = 4) (hs : h.t.size ≤ 281474976710656) : WriteC b w0 h 0 h.t.data.toList := by
  intro W cs hb hr hl
  obtain ⟨W0, hW0, hb0, hO, hs0⟩ := dat_block W h 0
  have hbw := hr.2
  have A2 := Lib.hid (hb0.mono (Nat.le_of_lt hbw))
  have A3 := Lib.hid (keeps8_below (B := b + 1) hb0)
  have H1 := Lib.hid (wrstr_any b cs h.t W0 (hr.below hb0) (by rw [Lib.size_eq]; omega))
  have HW0 := Lib.hid hW0
  have f0 : (h.k == 0) = false := by rw [hk]; rfl
  have f1 : (h.k == 1) = false := by rw [hk]; rfl
  have f2 : (h.k == 2) = false := by rw [hk]; rfl
  have f3 : (h.k == 3) = false := by rw [hk]; rfl
  have f4 : (h.k == 4) = true := by rw [hk]; rfl
  clear hW0 hb0 hO hb hr hl hs0 hk hbw
  go_enter Tryz.func25, Tryz.ntmps25
  go_wp2_with (fail)
  rw [HW0.out]
  refine H1.out.mono ?_
  rintro e w1 ⟨⟨v, rfl⟩, h1, h2, h3⟩
  have B1 := Lib.hid h1
  have B2 := Lib.hid (A2.out.trans h2)
  have B3 := Lib.hid (A3.out.trans h3)
  clear h1 h2 h3
  go_wp2_with (fail)
  go_end0
  exact ⟨⟨_, rfl⟩, B1.out, B2.out, B3.out⟩

set_option maxRecDepth 100000 in
set_option maxHeartbeats 8000000 in
theorem dwrite_num (b : Nat) (w0 : World) (h : Hd) (hk : h.k = 0) (t : ByteArray) (hT : ∀ W, Below b w0 W → Calls Tryz.prog 40 #[numA h.fl h.f h.s h.A h.xs.length h.c] W fun e w' => e = .returned (.string t) ∧ Below W.heap.size W w') : WriteC b w0 h 0 t.data.toList := by
  intro W cs hb hr hl
  obtain ⟨W0, hW0, hb0, hO, hs0⟩ := dat_block W h 0
  have hbw := hr.2
  have A2 := Lib.hid (hb0.mono (Nat.le_of_lt hbw))
  have A3 := Lib.hid (keeps8_below (B := b + 1) hb0)
  have AR := Lib.hid (hr.below hb0)
  have HT := Lib.hid (hT W0 (hb.trans (hb0.mono (Nat.le_of_lt hbw))))
  have HL := Lib.hid hl
  have HW0 := Lib.hid hW0
  have HBW := Lib.hid hbw
  have f0 : (h.k == 0) = true := by rw [hk]; rfl
  clear hW0 hb0 hO hb hr hl hk hbw hT
  go_enter Tryz.func25, Tryz.ntmps25
  go_wp2_with (fail)
  rw [HW0.out]
  refine HT.out.mono ?_
  rintro e w1 ⟨rfl, hb1⟩
  have H1 := Lib.hid (wrstr_any b cs t w1 (AR.out.below hb1) (by have := HL.out; rw [Lib.size_eq]; omega))
  have A22 := Lib.hid (bel_trans (B := b) A2.out hb1 (by have := HBW.out; omega))
  have A32 := Lib.hid (A3.out.trans (keeps8_below (B := b + 1) hb1))
  clear hb1
  go_wp2_with (fail)
  refine H1.out.mono ?_
  rintro e w2 ⟨⟨v, rfl⟩, h1, h2, h3⟩
  have B1 := Lib.hid h1
  have B2 := Lib.hid (A22.out.trans h2)
  have B3 := Lib.hid (A32.out.trans h3)
  clear h1 h2 h3
  go_wp2_with (fail)
  go_end0
  exact ⟨⟨_, rfl⟩, B1.out, B2.out, B3.out⟩

set_option maxRecDepth 100000 in
set_option maxHeartbeats 8000000 in
theorem dsigntext_q (w : World) : Calls Tryz.prog 74 #[.int .i32 34] w fun e w' => e = .returned (.string ⟨#[92, 34]⟩) ∧ w' = w := by
  go_enter Tryz.func74, Tryz.ntmps74
  go_wp2_with (fail)
  go_ret
  exact ⟨by rfl, rfl⟩

set_option maxRecDepth 100000 in
set_option maxHeartbeats 8000000 in
theorem dwtext_q (b : Nat) (cs : List UInt8) (w : World) (hr : WR b cs w) (hl : cs.length ≤ 100000000000) : Calls Tryz.prog 43 #[.pointer (some ⟨b, 0, none⟩), .string ⟨#[34]⟩] w (Wrote b cs [34, 92, 34, 34] w) := by
  have H1 := Lib.hid (wrstr_any b cs ⟨#[34]⟩ w hr (by show _ + 1 ≤ _; omega))
  have hbw := hr.2
  clear hr
  go_enter Tryz.func43, Tryz.ntmps43
  go_wp2_with (fail)
  refine H1.out.mono ?_
  rintro e w1 ⟨⟨v, rfl⟩, h1, h2, h3⟩
  have B1 := Lib.hid h1
  have B2 := Lib.hid h2
  have B3 := Lib.hid h3
  clear h1 h2 h3
  obtain ⟨s, hse⟩ : ∃ s, (⟨#[34]⟩ : ByteArray) = s := ⟨_, rfl⟩
  have hdl : s.data.toList = [34] := by rw [← hse]
  have hz : s.size = 1 := by rw [Lib.size_eq, hdl]; rfl
  have b0 : (s[0]'(by omega)).toNat = 34 := byte_at hdl 0 (by omega) 34 rfl
  have ST := Lib.hid dsigntext_q
  have hlt := B1.out.2
  have hws : w.heap.size ≤ w1.heap.size := B2.out.size
  rw [hse]
  clear hse hdl
  go_wp2_with (fail)
  obtain ⟨WI, hWI⟩ : ∃ WI, w1.iter s 0 = WI := ⟨_, rfl⟩
  have hbi : Below w1.heap.size w1 WI := by rw [← hWI]; exact below_iterD w1 s 0
  have hit : WI.heap[w1.heap.size]? = some (.stringIter s 0) := by rw [← hWI]; exact World.iter_heap w1 s 0
  have I1 := Lib.hid (B1.out.below hbi)
  have I2 := Lib.hid (bel_trans (B := b) B2.out hbi (by omega))
  have I3 := Lib.hid (B3.out.trans (keeps8_below (B := b + 1) hbi))
  have IT := Lib.hid hit
  rw [hWI]
  clear hbi hit hWI
  go_loopg [] 1 (fun kk wr => Below b w wr ∧ Keeps8 (b + 1) w wr ∧ ((kk = 1 ∧ wr.heap[w1.heap.size]? = some (.stringIter s 0) ∧ WR b (cs ++ [34]) wr) ∨ (kk = 0 ∧ wr.heap[w1.heap.size]? = some (.stringIter s 1) ∧ WR b (cs ++ [34] ++ [92, 34]) wr)))
  case atStart => exact ⟨I2.out, I3.out, .inl ⟨rfl, IT.out, I1.out⟩⟩
  case round =>
    obtain ⟨r1, r2, ⟨rfl, r3, r4⟩ | ⟨rfl, r3, r4⟩⟩ := hrel
    · have hnx : ∀ ty, (Instr.next (.pointer (some ⟨w1.heap.size, 0, none⟩)) true ty).run Tryz.prog wr = .ok (.tuple #[.bool true, .int .i64 ((0 : Nat) : Int), .int .i32 ((34 : Nat) : Int)]) (wr.iterAt w1.heap.size s 1) := fun ty => by
        rw [Lib.run_next_ascii_at wr w1.heap.size s 0 ty r3 (by omega) (by rw [b0]; decide), b0]
      have q4 : WR b (cs ++ [34]) (wr.iterAt w1.heap.size s 1) := ⟨r4.1.iterAt r3 1, by rw [Lib.iterAt_size]; exact r4.2⟩
      have q3 := Lib.iterAt_heap wr w1.heap.size s 0 1 r3
      have q1 := Lib.below_iterAt r1 (k := w1.heap.size) (by omega) s 1
      have q2 : Keeps8 (b + 1) w (wr.iterAt w1.heap.size s 1) := ⟨by rw [Lib.iterAt_size]; exact r2.size, fun k o hB hk ho => by
        have hkl := heap_lt hk
        rw [Lib.iterAt_other _ _ _ _ _ (by omega)]
        exact r2.same k o hB hk ho⟩
      have H2 := Lib.hid (wrstr_any b _ ⟨#[92, 34]⟩ _ q4 (by simp only [List.length_append]; show _ + 1 + 2 ≤ _; omega))
      have Q1 := Lib.hid q1
      have Q2 := Lib.hid q2
      have Q3 := Lib.hid q3
      clear q1 q2 q3 q4 r1 r2 r3 r4
      go_wp2_with (fail)
      refine (ST.out _).mono ?_
      rintro e w2 ⟨rfl, rfl⟩
      go_wp2_with (fail)
      refine H2.out.mono ?_
      rintro e w3 ⟨⟨v3, rfl⟩, h1, h2, h3⟩
      have C1 := Lib.hid h1
      have C2 := Lib.hid (Q1.out.trans h2)
      have C3 := Lib.hid (Q2.out.trans h3)
      have C4 := Lib.hid (h3.same w1.heap.size _ (by omega) Q3.out rfl)
      clear h1 h2 h3 hnx
      go_wp2_with (fail)
      go_roundg 0
      case measure => omega
      case rel => exact ⟨C2.out, C3.out, .inr ⟨rfl, C4.out, C1.out⟩⟩
    · have hnx : ∀ ty, (Instr.next (.pointer (some ⟨w1.heap.size, 0, none⟩)) true ty).run Tryz.prog wr = .ok (.tuple #[.bool false]) wr := fun ty => Lib.run_next_end_at wr w1.heap.size s 1 ty r3 (by omega)
      have H2 := Lib.hid (wrstr_any b _ ⟨#[34]⟩ _ r4 (by simp only [List.length_append]; show _ + 1 + 2 + 1 ≤ _; omega))
      have R1 := Lib.hid r1
      have R2 := Lib.hid r2
      clear r1 r2 r3 r4
      go_wp2_with (fail)
      refine H2.out.mono ?_
      rintro e w3 ⟨⟨v3, rfl⟩, h1, h2, h3⟩
      have C1 := Lib.hid h1
      have C2 := Lib.hid (R1.out.trans h2)
      have C3 := Lib.hid (R2.out.trans h3)
      clear h1 h2 h3 hnx
      go_wp2_with (fail)
      go_end0
      exact ⟨⟨_, rfl⟩, by have := C1.out; simp only [List.append_assoc] at this; exact this, C2.out, C3.out⟩
end LM
end Go.Proofs.YtnpmfailpgbggaaGreatDoor

namespace Go.Proofs.YtnpmfailpgbggaaGreatDoor
open Go Go.RowKit
namespace LM
set_option linter.unusedVariables false
attribute [local go_sem] run_store_flt

set_option maxRecDepth 100000 in
set_option maxHeartbeats 8000000 in
theorem dwrite_str (b : Nat) (w0 : World) (h : Hd) (hk : h.k = 3) (t : List UInt8) (hT : ∀ W cs, WR b cs W → cs.length + t.length ≤ 100000000000 → Calls Tryz.prog 43 #[.pointer (some ⟨b, 0, none⟩), .string h.t] W (Wrote b cs t W)) : WriteC b w0 h 0 t := by
  intro W cs hb hr hl
  obtain ⟨W0, hW0, hb0, hO, hs0⟩ := dat_block W h 0
  have hbw := hr.2
  have A2 := Lib.hid (hb0.mono (Nat.le_of_lt hbw))
  have A3 := Lib.hid (keeps8_below (B := b + 1) hb0)
  have H1 := Lib.hid (hT W0 cs (hr.below hb0) hl)
  have HW0 := Lib.hid hW0
  have f0 : (h.k == 0) = false := by rw [hk]; rfl
  have f1 : (h.k == 1) = false := by rw [hk]; rfl
  have f2 : (h.k == 2) = false := by rw [hk]; rfl
  have f3 : (h.k == 3) = true := by rw [hk]; rfl
  clear hW0 hb0 hO hb hr hl hs0 hk hbw hT
  go_enter Tryz.func25, Tryz.ntmps25
  go_wp2_with (fail)
  rw [HW0.out]
  refine H1.out.mono ?_
  rintro e w1 ⟨⟨v, rfl⟩, h1, h2, h3⟩
  have B1 := Lib.hid h1
  have B2 := Lib.hid (A2.out.trans h2)
  have B3 := Lib.hid (A3.out.trans h3)
  clear h1 h2 h3
  go_wp2_with (fail)
  go_end0
  exact ⟨⟨_, rfl⟩, B1.out, B2.out, B3.out⟩

/-- a new builder -/
theorem new_builder (w : World) : ∃ W0, w.alloc (.cells #[.pointer none, .slice none 0 0] 50) = W0 ∧ Below w.heap.size w W0 ∧ WR w.heap.size [] W0 :=
  ⟨_, rfl, (Below.refl _ w).alloc (Nat.le_refl _) _, Lib.IsBuilderF.of (Lib.fresh_isBuilder _ _ w), by simp⟩

set_option maxRecDepth 100000 in
set_option maxHeartbeats 8000000 in
/-- what is right -/
theorem dprint_right (nm : ByteArray → Bool) (lf : Hd → List UInt8) (kids : Fr) (hok : kids.Ok) (h : Hd) (w : World) (hd : DatV w h kids) (hho : h.Ok kids.len) (hu : UT w) (hnm : ∀ t, (h.k = 4 ∧ t = h.t) ∨ SymIn t kids → CallB w 53 #[.string t] (.bool (nm t)))
    (hr : rightD nm h kids = true) (P : Hd → Prop) (hP : ∀ b w0, b = w0.heap.size → Below w.heap.size w w0 → ∀ hh, P hh → WriteC b w0 hh 0 (lf hh)) (hw : WOk P kids) (hwh : WH P h kids) (hl : (txD lf h kids).length ≤ 100000000000) :
    Calls Tryz.prog 8 #[datA h kids.len] w fun e w' => e = .returned (.tuple #[.string ⟨(txD lf h kids).toArray⟩, .int .i64 0]) ∧ Below w.heap.size w w' := by
  obtain ⟨W0, hW0, hb0, ho, hs0⟩ := dat_block w h kids.len
  have HR := Lib.hid (dRight_any nm kids hok h W0 (hd.below hb0) hho (hu.keep hb0) fun t ht => callB_keep (hnm t ht) hb0)
  rw [hr] at HR
  obtain ⟨tx, htx⟩ : ∃ tx, txD lf h kids = tx := ⟨_, rfl⟩
  have HWR := Lib.hid fun (w2 : World) (h2 : Below w.heap.size w w2) => dwrite_any lf w2.heap.size w2 rfl P (fun hh hp => hP _ _ rfl h2 hh hp) (kids.size + 1) kids (by omega) hok hw h hho hwh (hd.below h2)
  rw [htx] at HWR hl ⊢
  have HL := Lib.hid hl
  have HB0 := Lib.hid hb0
  have HW0 := Lib.hid hW0
  have HO := Lib.hid ho
  have HS := Lib.hid hs0
  obtain ⟨x0, x1, x2, x3, x4, x5, x6, x7⟩ := C8.of_block ho
  clear hW0 hb0 ho hd hho hu hnm hr hok hs0 hw hwh hl hP htx
  go_enter Tryz.func8, Tryz.ntmps8
  go_wp2_with (fail)
  rw [HW0.out]
  go_wp2_with (fail)
  refine HR.out.mono ?_
  rintro e w1 ⟨rfl, hb1⟩
  have HB1 := Lib.hid (bel_trans (B := w.heap.size) HB0.out hb1)
  obtain ⟨W1, hW1, hbb, hwr⟩ := new_builder w1
  obtain ⟨y0, y1, y2, y3, y4, y5, y6, y7⟩ := (C8.of_block HO.out).keep hb1 HS.out
  simp only [Nat.zero_add] at y0 y1 y2 y3 y4 y5 y6 y7
  clear x0 x1 x2 x3 x4 x5 x6 x7
  have hz1 : w.heap.size < w1.heap.size := Nat.lt_of_lt_of_le HS.out hb1.size
  have HW1 := Lib.hid hW1
  have HBB := Lib.hid hbb
  have HC := Lib.hid (HWR.out w1 HB1.out W1 [] hbb hwr (by have := HL.out; simpa using this))
  clear hb1 hW1 hbb hwr
  go_wp2_with (fail)
  rw [HW1.out]
  go_wp2_with (fail)
  refine HC.out.mono ?_
  rintro e w2 ⟨⟨v, rfl⟩, hr2, hb2, hk2⟩
  have HR2 := Lib.hid hr2
  have HK2 := Lib.hid (bel_trans (B := w.heap.size) HB1.out (HBB.out.trans hb2))
  clear hr2 hb2 hk2
  go_wp2_with (fail)
  refine (Tryz.Builder_String_any_k _ _ _ _ HR2.out.1 (Nat.le_of_lt HR2.out.2)).mono ?_
  rintro e w3 ⟨rfl, _, hb3, _⟩
  have HK3 := Lib.hid (HK2.out.trans (hb3.mono HB1.out.size))
  clear hb3
  go_wp2_with (fail)
  go_ret2
  exact ⟨by rfl, HK3.out⟩

end LM
end Go.Proofs.YtnpmfailpgbggaaGreatDoor

namespace Go.Proofs.YtnpmfailpgbggaaGreatDoor
open Go Go.RowKit
namespace LM
set_option linter.unusedVariables false
attribute [local go_sem] run_store_flt

abbrev symHd (s : ByteArray) : Hd := ⟨4, 0, false, 0, false, none, [], 0, s, none, 0⟩
abbrev numHd (s : Bool) (A : Option Addr) (xs : List Nat) (c : Nat) : Hd := ⟨0, 0, false, 0, s, A, xs, c, ⟨#[]⟩, none, 0⟩
theorem zero_block (w : World) : ∃ W0, w.alloc zeroO = W0 ∧ Below w.heap.size w W0 ∧ W0.heap[w.heap.size]? = some zeroO ∧ w.heap.size < W0.heap.size :=
  ⟨_, rfl, (Below.refl _ w).alloc (Nat.le_refl _) _, by unfold World.alloc; simp, by simp⟩

theorem limb_off {W : World} {g : Nat} {A : Option Addr} {xs : List Nat} (hz : W.heap[g]? = some zeroO) (hr : Rd W A xs) (hx : 0 < xs.length) : Off A g := by
  obtain ⟨b, off, rfl, hb, hc⟩ := hr hx
  intro ad e hg
  injection e with e
  subst e
  have h := hc 0 hx
  have hg : b = g := hg
  subst hg
  rw [ob_cell hz] at h
  rcases off with _ | _ | _ | _ | _ | _ | _ | _ | off <;> simp at h

set_option maxRecDepth 100000 in
set_option maxHeartbeats 8000000 in
theorem dsym_any (s : ByteArray) (hs : s.size ≤ 281474976710656) (w : World) :
    Calls Tryz.prog 19 #[.string s] w fun e w' => e = .returned (datA (symHd s) 0) ∧ Below w.heap.size w w' := by
  obtain ⟨W0, hW0, hb0, hO, hs0⟩ := zero_block w
  have H1 := Lib.hid (dclone_any s W0 hs)
  have HW0 := Lib.hid hW0
  have O0 := Lib.hid hO
  have HB0 := Lib.hid hb0
  have HS0 := Lib.hid hs0
  clear hW0 hb0 hO hs hs0
  go_enter Tryz.func19, Tryz.ntmps19
  go_wp2_with (fail)
  rw [HW0.out]
  refine H1.out.mono ?_
  rintro e w2 ⟨rfl, bc⟩
  have iz := (bc.block _ HS0.out).trans O0.out
  have hlz := heap_lt iz
  have ib := bel_trans (B := w.heap.size) HB0.out bc
  obtain ⟨WF, hWF, CF, OF, hbF, -⟩ := result_dat (h := symHd s) (n := 0) iz ib (Nat.le_refl _)
  dsimp only [set8z, List.length_nil] at hWF
  have HWF := Lib.hid hWF
  have HBF := Lib.hid hbF
  obtain ⟨q0, q1, q2, q3, q4, q5, q6, q7⟩ := CF
  try dsimp only [Nat.zero_add, List.length_nil] at q0 q1 q2 q3 q4 q5 q6 q7
  obtain ⟨z0, z1, z2, z3, z4, z5, z6, z7, e0, e1, e2, e3, e4, e5, e6, e7, el⟩ := zero_facts iz
  clear hWF OF hbF bc iz ib hlz
  go_wp2_with (fail)
  rw [HWF.out]
  refine bodyPost_ret (v := datA (symHd s) 0) (by simp [results, Tryz.results19, go_sem, q0, q1, q2, q3, q4, q5, q6, q7]) rfl ?_
  exact ⟨rfl, HBF.out⟩

set_option maxRecDepth 100000 in
set_option maxHeartbeats 8000000 in
theorem dnum_any (z : Int) (h1 : -9223372036854775808 ≤ z) (h2 : z ≤ 9223372036854775807) (w : World) :
    Calls Tryz.prog 17 #[.int .i64 z] w fun e w' => ∃ A xs c, e = .returned (datA (numHd (decide (z < 0)) A xs c) 0) ∧ xs.length ≤ c ∧ c ≤ 9223372036854775807 ∧ Rd w' A xs ∧ Can xs ∧ val xs = z.natAbs ∧ Below w.heap.size w w' := by
  obtain ⟨W0, hW0, hb0, hO, hs0⟩ := zero_block w
  have H1 := Lib.hid (tint_any z h1 h2 W0)
  have HW0 := Lib.hid hW0
  have O0 := Lib.hid hO
  have HB0 := Lib.hid hb0
  have HS0 := Lib.hid hs0
  clear hW0 hb0 hO h1 h2 hs0
  go_enter Tryz.func17, Tryz.ntmps17
  go_wp2_with (fail)
  rw [HW0.out]
  refine H1.out.mono ?_
  rintro e w2 ⟨s1, A1, n1, c1, rfl, ⟨A, c, xs, ev, g1, g2, g3, g4, g5⟩, bc⟩
  injection ev with ev
  injection ev with ev
  simp only [List.cons.injEq, Value.bool.injEq, Value.slice.injEq, and_true] at ev
  obtain ⟨rfl, rfl, rfl, rfl⟩ := ev
  have iz := (bc.block _ HS0.out).trans O0.out
  have hlz := heap_lt iz
  have ib := bel_trans (B := w.heap.size) HB0.out bc
  obtain ⟨WF, hWF, CF, OF, hbF, -⟩ := result_dat (h := numHd (decide (z < 0)) A1 xs c1) (n := 0) iz ib (Nat.le_refl _)
  dsimp only [set8z, List.length_nil] at hWF
  have HWF := Lib.hid hWF
  have HBF := Lib.hid hbF
  have G1 := Lib.hid g1
  have G2 := Lib.hid g2
  have G3 := Lib.hid g3
  have G4 := Lib.hid g4
  have G5 := Lib.hid g5
  obtain ⟨q0, q1, q2, q3, q4, q5, q6, q7⟩ := CF
  try dsimp only [Nat.zero_add, List.length_nil] at q0 q1 q2 q3 q4 q5 q6 q7
  obtain ⟨z0, z1, z2, z3, z4, z5, z6, z7, e0, e1, e2, e3, e4, e5, e6, e7, el⟩ := zero_facts iz
  have GR := Lib.hid (OF.rd g3 fun hx => limb_off iz g3 hx)
  clear hWF OF hbF bc iz ib hlz g1 g2 g3 g4 g5
  go_wp2_with (fail)
  rw [HWF.out]
  refine bodyPost_ret (v := datA (numHd (decide (z < 0)) A1 xs c1) 0) (by simp [results, Tryz.results17, go_sem, q0, q1, q2, q3, q4, q5, q6, q7]) rfl ?_
  exact ⟨A1, xs, c1, rfl, G1.out, G2.out, GR.out, G4.out, G5.out, HBF.out⟩

end LM
end Go.Proofs.YtnpmfailpgbggaaGreatDoor

namespace Go.Proofs.YtnpmfailpgbggaaGreatDoor
open Go Go.RowKit
namespace LM
set_option linter.unusedVariables false
abbrev strHd : Hd := ⟨3, 0, false, 0, false, none, [], 0, ⟨#[34]⟩, none, 0⟩
abbrev smpF (A : Option Addr) (c : Nat) : Fr := .cons (symHd ⟨#[97]⟩) .nil (.cons strHd .nil (.cons (numHd false A [1] c) .nil .nil))
abbrev smpH (b : Nat) : Hd := ⟨6, 0, false, 0, false, none, [], 0, ⟨#[]⟩, some ⟨b, 0, none⟩, 3⟩
def smpL (h : Hd) : List UInt8 := if h.k = 4 then [97] else if h.k = 3 then [34, 92, 34, 34] else [49]
def smpP (A : Option Addr) (c : Nat) (h : Hd) : Prop := h = symHd ⟨#[97]⟩ ∨ h = strHd ∨ h = numHd false A [1] c

theorem smp_cnt (A : Option Addr) (c : Nat) : cnt 65536 1 (smpF A c) = 4 := by rfl
theorem smp_cnt3 (A : Option Addr) (c : Nat) : cnt 3001 1 (smpF A c) = 4 := by rfl
theorem smp_few (A : Option Addr) (c : Nat) : FewF (smpF A c) := by simp [FewF, Fr.len]
theorem smp_text (A : Option Addr) (b c : Nat) : txD smpL (smpH b) (smpF A c) = [40, 97, 32, 34, 92, 34, 34, 32, 46, 32, 49, 41] := by rfl
theorem smp_wok (A : Option Addr) (c : Nat) : WOk (smpP A c) (smpF A c) := by
  simp [WOk, WH, smpP, leafK]
theorem smp_wh (A : Option Addr) (b c : Nat) : WH (smpP A c) (smpH b) (smpF A c) := by
  simp [WH, leafK, Fr.len]
theorem leaf_ok (h : Hd) (e : h = symHd ⟨#[97]⟩ ∨ h = strHd) : h.Ok 0 := by
  rcases e with rfl | rfl
  · exact ⟨by decide, by decide, by decide, by simp [Lm], by decide, fun _ => by decide, by decide, by decide, by decide, fun _ => by decide, fun ad e => (by cases e), fun ad e => (by cases e)⟩
  · exact ⟨by decide, by decide, by decide, by simp [Lm], by decide, fun _ => by decide, by decide, by decide, by decide, fun _ => by decide, fun ad e => (by cases e), fun ad e => (by cases e)⟩
theorem smp_numok (b off c : Nat) (h1 : 1 ≤ c) (h2 : c ≤ 9223372036854775807) : (numHd false (some ⟨b, off, none⟩) [1] c).Ok 0 :=
  ⟨(by dsimp only [numHd]; decide), (by dsimp only [numHd]; decide), (by dsimp only [numHd]; decide), by simp [Lm], ⟨h1, h2⟩, fun e => (by cases e), (by dsimp only [numHd]; decide), (by dsimp only [numHd]; decide), (by dsimp only [numHd]; decide), fun _ => (by dsimp only [numHd]; decide), fun ad e _ => (by injection e with e; rw [← e]), fun ad e => (by cases e)⟩
theorem smp_ok (b off c : Nat) (h1 : 1 ≤ c) (h2 : c ≤ 9223372036854775807) : (smpF (some ⟨b, off, none⟩) c).Ok :=
  ⟨leaf_ok _ (.inl rfl), trivial, leaf_ok _ (.inr rfl), trivial, smp_numok b off c h1 h2, trivial, trivial⟩
theorem smp_hok (b : Nat) : (smpH b).Ok 3 :=
  ⟨(by dsimp only [smpH]; decide), (by dsimp only [smpH]; decide), (by dsimp only [smpH]; decide), by simp [Lm], (by dsimp only [smpH]; decide), fun _ => (by dsimp only [smpH]; decide), (by dsimp only [smpH]; decide), (by dsimp only [smpH]; decide), (by dsimp only [smpH]; decide), fun e => (by cases e), fun ad e => (by cases e), fun ad e _ => (by injection e with e; rw [← e])⟩
theorem rightN_nil : rightN false 0 false [] = true := by decide
theorem rightN_one : rightN false 0 false [1] = true := by decide
theorem textB_q : textB ⟨#[34]⟩ = true := by decide
theorem smp_right (A : Option Addr) (b c : Nat) : rightD (fun _ => true) (smpH b) (smpF A c) = true := by
  unfold rightD
  rw [smp_cnt3]
  simp [rightF, rightK, elseB, nothB, areB, lastK, Fr.len, textB_q, rightN_nil, rightN_one]
theorem smp_nums (A : Option Addr) (c : Nat) : NumsR (smpF A c) := by simp [NumsR, rightN_nil, rightN_one]
theorem symin (t : ByteArray) (A : Option Addr) (b c : Nat) (h : ((smpH b).k = 4 ∧ t = (smpH b).t) ∨ SymIn t (smpF A c)) : t = ⟨#[97]⟩ := by
  simpa [SymIn] using h
theorem alike_num {h h' : Hd} (e : AlikeH h h') : rightN h'.fl h'.f h'.s h'.xs = rightN h.fl h.f h.s h.xs := by
  obtain ⟨_, _, e1, e2, e3, e4, _⟩ := e
  rw [e1, e2, e3, e4]
theorem alike_nums : ∀ {a b : Fr}, AlikeF a b → NumsR a → NumsR b := by
  intro a
  induction a with
  | nil => intro b h _; cases b with
    | nil => exact trivial
    | cons => exact h.elim
  | cons h k r ihk ihr => intro b e n; cases b with
    | nil => exact e.elim
    | cons h' k' r' => exact ⟨(alike_num e.1).trans n.1, ihk e.2.1 n.2.1, ihr e.2.2 n.2.2⟩
theorem alike_head {h h' : Hd} (e : AlikeH h h') : headS h h' = true := by
  obtain ⟨e1, e2, e3, e4, e5, e6, e7⟩ := e
  unfold headS numS
  rw [e1, e2, e3, e4, e5, e6, e7]
  cases h.fl <;> simp
theorem alike_same : ∀ {a b : Fr}, AlikeF a b → sameF a b = true := by
  intro a
  induction a with
  | nil => intro b h; cases b with
    | nil => rfl
    | cons => exact h.elim
  | cons h k r ihk ihr => intro b e; cases b with
    | nil => exact e.elim
    | cons h' k' r' => simp [sameF, alike_head e.1, ihk e.2.1, ihr e.2.2]

/-- what is built in memory -/
abbrev smpO (A : Option Addr) (c : Nat) : Obj := .cells #[.int .i64 4, .int .i64 0, .bool false, .float .f64 0, .bool false, .slice none 0 0, .string ⟨#[97]⟩, .slice none 0 0, .int .i64 3, .int .i64 0, .bool false, .float .f64 0, .bool false, .slice none 0 0, .string ⟨#[34]⟩, .slice none 0 0, .int .i64 0, .int .i64 0, .bool false, .float .f64 0, .bool false, .slice A 1 c, .string ⟨#[]⟩, .slice none 0 0] 30
theorem smp_dat (w : World) (A : Option Addr) (c : Nat) (hA : Rd w A [1]) : ∃ W, (w.alloc (smpO A c)).alloc (datO (smpH w.heap.size) 3) = W ∧ DatV W (smpH w.heap.size) (smpF A c) ∧ W.heap[w.heap.size + 1]? = some (datO (smpH w.heap.size) 3) ∧ Below w.heap.size w W ∧ W.heap.size = w.heap.size + 2 := by
  refine ⟨_, rfl, ?_, ?_, ((Below.refl _ w).alloc (Nat.le_refl _) _).alloc (by simp) _, by simp⟩
  · have hb : Below w.heap.size w ((w.alloc (smpO A c)).alloc (datO (smpH w.heap.size) 3)) := ((Below.refl _ w).alloc (Nat.le_refl _) _).alloc (by simp) _
    generalize hW : (w.alloc (smpO A c)).alloc (datO (smpH w.heap.size) 3) = W at hb ⊢
    have hz : W.heap[w.heap.size]? = some (smpO A c) := by
      rw [← hW]; unfold World.alloc; simp [Array.getElem?_push]
    have hl : w.heap.size < W.heap.size := heap_lt hz
    have nA : Rd W none [] := fun h => absurd h (by decide)
    refine ⟨fun h => absurd h (Nat.lt_irrefl 0), w.heap.size, 0, fun _ => rfl, hl, ?_, nA, ⟨0, 0, fun h => absurd h (by decide), trivial⟩, hl, ?_, nA, ⟨0, 0, fun h => absurd h (by decide), trivial⟩, hl, ?_, hA.below hb, ⟨0, 0, fun h => absurd h (by decide), trivial⟩, trivial⟩
    all_goals exact ⟨(ob_cell hz _).trans rfl, (ob_cell hz _).trans rfl, (ob_cell hz _).trans rfl, (ob_cell hz _).trans rfl, (ob_cell hz _).trans rfl, (ob_cell hz _).trans rfl, (ob_cell hz _).trans rfl, (ob_cell hz _).trans rfl⟩
  · have e : w.heap.size + 1 = (w.alloc (smpO A c)).heap.size := by simp
    rw [e]
    unfold World.alloc
    simp only [Array.getElem?_push_size]

end LM
end Go.Proofs.YtnpmfailpgbggaaGreatDoor

namespace Go.Proofs.YtnpmfailpgbggaaGreatDoor
open Go Go.RowKit
namespace LM
set_option linter.unusedVariables false
attribute [local go_sem] run_store_flt

theorem one_can {xs : List Nat} (h : Can xs) (hv : val xs = 1) : xs = [1] := can_ext h ⟨by simp [Lm], by decide⟩ (by rw [hv]; rfl)
theorem big_one : ¬ BigI 1 := by unfold BigI BIG; show ¬ _ ≤ 1; exact Nat.not_le.2 (Nat.one_lt_pow (by decide) (by decide))

set_option maxRecDepth 100000 in
set_option maxHeartbeats 8000000 in
theorem dalive_any (w : World) (hs : SynCell w) (hu : UT w) (ht : Lib.TabIs Tryz.prog w "internal/strconv.uint64pow10" .u64 Lib.pow10Tab) :
    Calls Tryz.prog 6 #[] w fun e w' => e = .returned (.bool true) ∧ Below w.heap.size w w' := by
  have S1 := Lib.hid (dsym_any ⟨#[97]⟩ (by decide))
  have N1 := Lib.hid (dnum_any 1 (by decide) (by decide))
  have HSY := Lib.hid hs
  have HUT := Lib.hid hu
  have HTB := Lib.hid ht
  clear hs hu ht
  go_enter Tryz.func6, Tryz.ntmps6
  go_wp2_with (fail)
  refine (S1.out _).mono ?_
  rintro e w1 ⟨rfl, hb1⟩
  have HB1 := Lib.hid hb1
  clear hb1
  go_wp2_with (fail)
  refine (N1.out _).mono ?_
  rintro e w2 ⟨A, xs, c, rfl, g1, g2, g3, g4, g5, hb2⟩
  have hxs : xs = [1] := one_can g4 g5
  subst hxs
  have d0 : decide ((1 : Int) < 0) = false := by decide
  rw [d0]
  obtain ⟨ab, ao, rfl, gl, gc⟩ := g3 (by decide)
  have HB2 := Lib.hid (bel_trans (B := w.heap.size) HB1.out hb2)
  obtain ⟨W, hW, hd, hz, hbW, hsz⟩ := smp_dat w2 (some ⟨ab, ao, none⟩) c g3
  dsimp only [smpO, datO, smpH, List.length_nil] at hW
  have HW := Lib.hid hW
  have HBW := Lib.hid (bel_trans (B := w.heap.size) HB2.out hbW)
  have HZ := Lib.hid hz
  have HD := Lib.hid hd
  have hg1 : 1 ≤ c := g1
  have KOK := Lib.hid (smp_ok ab ao c hg1 g2)
  have HOK := Lib.hid (smp_hok w2.heap.size)
  have HN : Hid (∀ W', Below w.heap.size w W' → ∀ t, ((smpH w2.heap.size).k = 4 ∧ t = (smpH w2.heap.size).t) ∨ SymIn t (smpF (some ⟨ab, ao, none⟩) c) → CallB W' 53 #[.string t] (.bool true)) := Lib.hid fun W' hW' t ht W'' hW'' => by
    rw [symin t _ _ _ ht]
    exact dname_a W'' ((HSY.out.below hW').below hW'')
  have HP : Hid (∀ b w0, b = w0.heap.size → Below W.heap.size W w0 → ∀ hh, smpP (some ⟨ab, ao, none⟩) c hh → WriteC b w0 hh 0 (smpL hh)) := Lib.hid fun b w0 hb hw0 hh hp => by
    rcases hp with rfl | rfl | rfl
    · exact dwrite_sym b w0 (symHd ⟨#[97]⟩) rfl (by decide)
    · exact dwrite_str b w0 strHd rfl [34, 92, 34, 34] fun W cs hr hl => dwtext_q b cs W hr (by omega)
    · refine dwrite_num b w0 (numHd false (some ⟨ab, ao, none⟩) [1] c) rfl ⟨#[49]⟩ fun W3 hW3 => ?_
      have hbb : Below w2.heap.size w2 W3 := hbW.trans ((hw0.mono hbW.size).trans (hW3.mono (by have := hbW.size; have := hw0.size; omega)))
      have hv : IntV W3 (.agg #[.bool false, .slice (some ⟨ab, ao, none⟩) [1].length c]) 1 := ⟨_, _, [1], rfl, g1, g2, g3.below hbb, ⟨by simp [Lm], by decide⟩, rfl⟩
      have ed : (decI 1).toArray = #[49] := by
        rw [show decI 1 = [49] from by unfold decI; rw [if_neg (by decide), show (1 : Int).natAbs = 1 from rfl, dec_small (by decide)]; rfl]
      have := ttext_i 0 1 false (some ⟨ab, ao, none⟩) [1].length c W3 hv big_one (tab_below HTB.out (bel_trans (B := w.heap.size) HB2.out hbb))
      rw [ed] at this
      exact this
  clear hd hz hbW g1 g2 g3 g4 g5 gl gc d0 hb2 hW hg1 hsz
  go_wp2_with (fail)
  rw [HW.out]
  have HPR := Lib.hid (dprint_right (fun _ => true) smpL _ KOK.out _ W HD.out HOK.out (HUT.out.keep HBW.out) (HN.out W HBW.out) (smp_right _ _ _) _ HP.out (smp_wok _ _) (smp_wh _ _ _) (by rw [smp_text]; decide))
  rw [smp_text] at HPR
  refine HPR.out.mono ?_
  rintro e w3 ⟨rfl, hb3⟩
  have O3 : Hid (Obs w3.drew [(w2.heap.size + 1, datO (smpH w2.heap.size) 3)]) := Lib.hid ((Obs.nil.cons HZ.out).below hb3).drew
  have HB3 := Lib.hid (bel_trans (B := w.heap.size) HBW.out hb3).drew
  have DK3 := Lib.hid (HD.out.below hb3.drew)
  have c1 : ((⟨#[40, 97, 32, 34, 92, 34, 34, 32, 46, 32, 49, 41]⟩ : ByteArray).toList == [40, 97, 32, 34, 92, 34, 34, 32, 46, 32, 49, 41]) = true := by rw [Go.ByteArray.toList_eq]; rfl
  have D1 := Lib.hid (dRight_any (fun _ => true) _ KOK.out _ w3.drew DK3.out HOK.out (HUT.out.keep HB3.out) (HN.out _ HB3.out))
  have D2 := Lib.hid fun W h => dnodes_any _ KOK.out _ W h HOK.out
  have D3 := Lib.hid fun W h => dCopy_any _ KOK.out (smp_few _ _) (show (3 : Nat) ≤ 1000000 by decide) (by rw [smp_cnt]; decide) _ W h HOK.out
  have D4 := Lib.hid fun h' k' W hd hd' (ha : AlikeH (smpH w2.heap.size) h') (haf : AlikeF (smpF (some ⟨ab, ao, none⟩) c) k') ho' hk' => dSame_any _ k' KOK.out hk' (smp_nums _ _) (alike_nums haf (smp_nums _ _)) (by rw [smp_cnt]; decide) (smpH w2.heap.size) h' W hd hd' HOK.out ho' rightN_nil ((alike_num ha).trans rightN_nil)
  rw [smp_right] at D1
  rw [smp_cnt] at D2
  have KS : Hid (∀ W, Obs W [(w2.heap.size + 1, datO (smpH w2.heap.size) 3)] → W.cell? ⟨w2.heap.size + 1, 0, none⟩ = some (.int .i64 6) ∧ W.cell? ⟨w2.heap.size + 1, 1, none⟩ = some (.int .i64 0) ∧ W.cell? ⟨w2.heap.size + 1, 2, none⟩ = some (.bool false) ∧ W.cell? ⟨w2.heap.size + 1, 3, none⟩ = some (.float .f64 0) ∧ W.cell? ⟨w2.heap.size + 1, 4, none⟩ = some (.bool false) ∧ W.cell? ⟨w2.heap.size + 1, 5, none⟩ = some (.slice none 0 0) ∧ W.cell? ⟨w2.heap.size + 1, 6, none⟩ = some (.string ⟨#[]⟩) ∧ W.cell? ⟨w2.heap.size + 1, 7, none⟩ = some (.slice (some ⟨w2.heap.size, 0, none⟩) 3 3)) := Lib.hid fun W h => by
    have h1 := ob_cell h.hd
    exact ⟨h1 0, h1 1, h1 2, h1 3, h1 4, h1 5, h1 6, h1 7⟩
  clear hb3
  go_wp2
  go_region_held3 (fun W => W.cell? ⟨w2.heap.size + 1, 0, none⟩ = some (.int .i64 6) ∧ W.cell? ⟨w2.heap.size + 1, 1, none⟩ = some (.int .i64 0) ∧ W.cell? ⟨w2.heap.size + 1, 2, none⟩ = some (.bool false) ∧ W.cell? ⟨w2.heap.size + 1, 3, none⟩ = some (.float .f64 0) ∧ W.cell? ⟨w2.heap.size + 1, 4, none⟩ = some (.bool false) ∧ W.cell? ⟨w2.heap.size + 1, 5, none⟩ = some (.slice none 0 0) ∧ W.cell? ⟨w2.heap.size + 1, 6, none⟩ = some (.string ⟨#[]⟩) ∧ W.cell? ⟨w2.heap.size + 1, 7, none⟩ = some (.slice (some ⟨w2.heap.size, 0, none⟩) 3 3))
    ((exact KS.out _ (Hid.out (by assumption))))
    (first
      | (go_at_call 10; (refine D1.out.mono ?_); rintro e v1 ⟨rfl, hbz⟩; have O4 := Lib.hid (O3.out.below hbz); have HB4 := Lib.hid (bel_trans (B := w.heap.size) HB3.out hbz); have DK4 := Lib.hid (DK3.out.below hbz); clear hbz)
      | (go_at_call 14; (refine (D2.out _ DK4.out).mono ?_); rintro e v2 ⟨rfl, hbz⟩; have O5 := Lib.hid (O4.out.below hbz); have HB5 := Lib.hid (bel_trans (B := w.heap.size) HB4.out hbz); have DK5 := Lib.hid (DK4.out.below hbz); clear hbz)
      | (go_at_call 23; (refine (D3.out _ DK5.out).mono ?_); rintro e v3 ⟨hc, kc, rfl, dc, ac, afc, okc, okf, _, _, hbz, _, _⟩; have O6 := Lib.hid (O5.out.below hbz); have HB6 := Lib.hid (bel_trans (B := w.heap.size) HB5.out hbz); have D5 := Lib.hid (D4.out _ _ v3 (DK5.out.below hbz) dc ac afc okc okf); rw [alike_head ac, alike_same afc] at D5; clear hbz dc ac afc okc okf)
      | (go_at_call 12; (refine D5.out.mono ?_); rintro e v4 ⟨rfl, hbz⟩; have O7 := Lib.hid (O6.out.below hbz); have HB7 := Lib.hid (bel_trans (B := w.heap.size) HB6.out hbz); clear hbz))
  all_goals
    go_wp2
    go_ret
    exact ⟨rfl, HB7.out⟩

end LM
end Go.Proofs.YtnpmfailpgbggaaGreatDoor

namespace Go.Proofs.YtnpmfailpgbggaaGreatDoor
open Go Go.RowKit
namespace LM
set_option linter.unusedVariables false
attribute [local go_sem] run_store_flt

abbrev kindHd (k : Int) : Hd := ⟨k, 0, false, 0, false, none, [], 0, ⟨#[]⟩, none, 0⟩
theorem two_zero (w : World) : ∃ W, (w.alloc zeroO).alloc (datO (kindHd 5) 0) = W ∧ Below w.heap.size w W ∧ W.heap[w.heap.size]? = some zeroO ∧ W.heap[w.heap.size + 1]? = some (datO (kindHd 5) 0) ∧ W.heap.size = w.heap.size + 2 := by
  refine ⟨_, rfl, ((Below.refl _ w).alloc (Nat.le_refl _) _).alloc (by simp) _, ?_, ?_, by simp⟩
  · unfold World.alloc; simp [Array.getElem?_push]
  · have e : w.heap.size + 1 = (w.alloc zeroO).heap.size := by simp
    rw [e]
    unfold World.alloc
    simp only [Array.getElem?_push_size]

end LM
end Go.Proofs.YtnpmfailpgbggaaGreatDoor

namespace Go.Proofs.YtnpmfailpgbggaaGreatDoor
open Go Go.RowKit Go.ChangeShapes Go.WideShapes
namespace LM
set_option linter.unusedVariables false

section
variable {H : Type} {enc : TypeId × Value → H} {w : World} {base : Nat} {held : Bool}

set_option maxRecDepth 100000 in
theorem open_datum {b0 : Nat} {r : Reach} {v : Value} {d : DataW H} {p : List MemPlace}
    (hv : Value.okWide Tryz.prog w r b0 30 v) (h : DataW.Trod enc Tryz.prog w 0 (fun _ => true) held 30 v d p) :
    ∃ hh kids, v = datA hh (Fr.len kids) ∧ DatV w hh kids ∧ hh.Raw (Fr.len kids) ∧ kids.Raw := by
  obtain ⟨cs, rfl, hsz⟩ := okWide_struct Tryz.underlying30 hv
  obtain ⟨fuel, hf⟩ := h
  have hf2 : DataW.trod enc Tryz.prog w 0 (fun _ => true) held fuel 30 cs.toList = some (d, p) := hf
  obtain ⟨hh, kids, e, h1, h2, h3⟩ := open_dat fuel cs.toList _ hf2
  refine ⟨hh, kids, ?_, h1, h2, h3⟩
  have e2 : cs = (head8 hh kids.len).toArray := by rw [← e]
  rw [e2]
  rfl

set_option maxRecDepth 100000 in
theorem open_items {n : Nat} {c : Value} {y : DataW H × List MemPlace} (h4 : DataW.trod enc Tryz.prog w 0 (fun _ => true) held n 28 [c] = some y) :
    ∃ B fr cap, c = .slice B (Fr.len fr) cap ∧ fr.Raw ∧ (∃ b off, (0 < fr.len → B = some ⟨b, off, none⟩) ∧ FAt w b off fr) ∧ (fr.len ≤ cap ∧ cap ≤ 9223372036854775807) ∧ (B = none → fr.len = 0 ∧ cap = 0) ∧ ∀ ad, B = some ad → 0 < cap → ad.spot = none := by
  rcases DataW.trod_slice Tryz.underlying28 h4 with ⟨hcs, _⟩ | ⟨a, len, cap, elems, rest, n2, hn2, hcs, _, _, hlc, hcapm, hel, hall, hsp, _⟩
  · obtain rfl : c = .slice none 0 0 := by simpa using hcs
    exact ⟨none, .nil, 0, rfl, trivial, ⟨0, 0, fun h => absurd h (Nat.lt_irrefl 0), trivial⟩, ⟨Nat.le_refl _, by decide⟩, fun _ => ⟨rfl, rfl⟩, fun ad e => (by cases e)⟩
  · obtain rfl : c = .slice (some a) len cap := by simpa using hcs
    have hce : Tryz.prog.cellsOf 30 = 8 := by kernel_rfl
    rw [hce] at hall hsp
    have hel1 : ∀ i, i < len → ∃ cl e, w.cells? 0 (a.add (i * 8)) 8 = some cl ∧ DataW.trod enc Tryz.prog w 0 (fun _ => true) held n2 30 cl = some e := fun i hi => by
      have h5 := hall i hi
      have h6 : i < elems.length := by omega
      rw [List.getElem?_eq_getElem h6] at h5
      obtain ⟨cl, h7, h8⟩ := Option.bind_eq_some_iff.1 h5
      exact ⟨cl, _, h7, h8⟩
    have hx0 : a.add 0 = a := by simp [Addr.add]
    have hspot : 0 < cap → a.spot = none := fun h => by
      have hc : ∃ cl, w.cells? 0 a 8 = some cl ∧ cl.length = 8 := by
        rcases Nat.eq_zero_or_pos len with h9 | h9
        · obtain ⟨hr, hr2⟩ := hsp rfl
          have h5 := hr2 0 (by omega)
          have h6 : 0 < rest.length := by omega
          rw [List.getElem?_eq_getElem h6, h9, Nat.add_zero, Nat.zero_mul, hx0] at h5
          obtain ⟨cl, h7, h8⟩ := Option.bind_eq_some_iff.1 h5
          exact ⟨cl, h7, (World.cells?_some h7).2.1⟩
        · obtain ⟨cl, e, h7, h8⟩ := hel1 0 h9
          rw [Nat.zero_mul, hx0] at h7
          exact ⟨cl, h7, (World.cells?_some h7).2.1⟩
      obtain ⟨cl, h7, h8⟩ := hc
      have h9 := (World.cells?_some h7).2.2 0 (by decide)
      rw [hx0, List.getElem?_eq_getElem (by omega)] at h9
      have := (spot_none h9).1
      rw [this]
    have F : ∀ j, j ≤ len → ∃ fr : Fr, fr.len = j ∧ fr.Raw ∧ (0 < len → FAt w a.block (a.off + (len - j) * 8) fr) := by
      intro j
      induction j with
      | zero => intro _; exact ⟨.nil, rfl, trivial, fun _ => trivial⟩
      | succ j ihj =>
        intro hj
        obtain ⟨fr, hf1, hf2, hf3⟩ := ihj (by omega)
        obtain ⟨cl, e, hcl, he⟩ := hel1 (len - (j + 1)) (by omega)
        obtain ⟨h', kids', rfl, hv, hr1, hr2⟩ := open_dat n2 cl e he
        have hsp0 := hspot (by omega)
        have hadd : ∀ i, (a.add ((len - (j + 1)) * 8)).add i = ⟨a.block, a.off + (len - (j + 1)) * 8 + i, none⟩ := fun i => by
          obtain ⟨ab, ao, asp⟩ := a
          dsimp only at hsp0
          subst hsp0
          rw [Lib.add_plain, Lib.add_plain]
        have hcell : ∀ i u, (head8 h' kids'.len)[i]? = some u → w.cell? ⟨a.block, a.off + (len - (j + 1)) * 8 + i, none⟩ = some u := fun i u hu => by
          have hi : i < 8 := (List.getElem?_eq_some_iff.1 hu).1
          have h9 := (World.cells?_some hcl).2.2 i hi
          rw [hadd, hu] at h9
          exact h9
        refine ⟨.cons h' kids' fr, by show fr.len + 1 = j + 1; rw [hf1], ⟨hr1, hr2, hf2⟩, fun h10 => ?_⟩
        have hc0 := hcell 0 _ rfl
        refine ⟨(spot_none hc0).2, ⟨hcell 0 _ rfl, hcell 1 _ rfl, hcell 2 _ rfl, hcell 3 _ rfl, hcell 4 _ rfl, hcell 5 _ rfl, hcell 6 _ rfl, hcell 7 _ rfl⟩, hv.xs, hv.items, ?_⟩
        have h11 := hf3 h10
        rw [show a.off + (len - (j + 1)) * 8 + 8 = a.off + (len - j) * 8 from by omega]
        exact h11
    obtain ⟨fr, hf1, hf2, hf3⟩ := F len (Nat.le_refl _)
    rw [Nat.sub_self, Nat.zero_mul, Nat.add_zero] at hf3
    refine ⟨some a, fr, cap, by rw [hf1], hf2, ⟨a.block, a.off, fun h => ?_, ?_⟩, ⟨by rw [hf1]; exact hlc, by unfold maxLen at hcapm; exact Nat.le_trans hcapm (by decide)⟩, fun e => (by cases e), fun ad e h => ?_⟩
    · have := hspot (by omega)
      obtain ⟨ab, ao, asp⟩ := a
      dsimp only at this
      subst this
      rfl
    · rcases Nat.eq_zero_or_pos len with h9 | h9
      · cases fr with
        | nil => exact trivial
        | cons x y z => exact absurd hf1 (by show ¬ z.len + 1 = len; omega)
      · exact hf3 h9
    · injection e with e
      subst e
      exact hspot h

set_option maxRecDepth 100000 in
theorem open_data {b0 : Nat} {r : Reach} {v : Value} {d : DataW H} {p : List MemPlace} (hv : Value.okWide Tryz.prog w r b0 28 v) (h : DataW.Trod enc Tryz.prog w 0 (fun _ => true) held 28 v d p) :
    ∃ B fr cap, v = .slice B (Fr.len fr) cap ∧ fr.Raw ∧ (∃ b off, (0 < fr.len → B = some ⟨b, off, none⟩) ∧ FAt w b off fr) ∧ (fr.len ≤ cap ∧ cap ≤ 9223372036854775807) ∧ (B = none → fr.len = 0 ∧ cap = 0) ∧ ∀ ad, B = some ad → 0 < cap → ad.spot = none := by
  obtain ⟨B, l, c, rfl⟩ := okWide_slice Tryz.underlying28 hv
  obtain ⟨fuel, hf⟩ := h
  exact open_items hf
end

end LM
end Go.Proofs.YtnpmfailpgbggaaGreatDoor

namespace Go.Proofs.YtnpmfailpgbggaaGreatDoor
open Go Go.RowKit
namespace LM
set_option linter.unusedVariables false

set_option maxRecDepth 100000 in
set_option maxHeartbeats 4000000 in
theorem rsign_any (n : Int) (w : World) :
    Calls Tryz.prog 90 #[.int .i64 n] w fun e w' => e = .returned (.bool (csignB n)) ∧ w' = w := by
  obtain ⟨b1, h1⟩ : ∃ b, decide (0 ≤ n) = b := ⟨_, rfl⟩
  obtain ⟨b2, h2⟩ : ∃ b, decide (n < 55296) = b := ⟨_, rfl⟩
  obtain ⟨b3, h3⟩ : ∃ b, decide (57343 < n) = b := ⟨_, rfl⟩
  obtain ⟨b4, h4⟩ : ∃ b, decide (n ≤ 1114111) = b := ⟨_, rfl⟩
  have HQ : Hid (csignB n = (b1 && b2 || b3 && b4)) := Lib.hid (by unfold csignB; rw [Bool.decide_and, Bool.decide_and, h1, h2, h3, h4])
  cases b1 <;> cases b2 <;> cases b3 <;> cases b4
  all_goals
    go_enter Tryz.func90, Tryz.ntmps90
    go_wp2_with (fail)
    go_ret
    exact ⟨by rw [HQ.out]; rfl, rfl⟩

theorem owns_at {W W' : World} {base n z : Nat} {e : TypeId} {l : Value} {xs : List Value} (h : W.ownsRow base e z l n xs) (hb : Below W.heap.size W W') : W'.ownsRow base e z l n xs :=
  h.kept (row := none) ⟨hb.os, hb.tape, hb.output, hb.size, fun k hk _ => hb.block k hk⟩ (by cases l.ownBlock <;> simp)
theorem cell_alloc_first (W : World) (v : Value) (T : TypeId) : (W.alloc (.cells #[v] T)).cell? ⟨W.heap.size, 0, none⟩ = some v := by
  unfold World.cell?
  rw [heap_alloc_new]
  rfl
/-- a byte array's part -/
theorem extract_take (s : ByteArray) (p n : Nat) : (s.extract p (p + n)).data.toList = (s.data.toList.drop p).take n := by
  rw [ByteArray.data_extract, Array.toList_extract]
  simp [List.extract]

theorem int_info : (Tryz.prog.info? 3).map (fun i => (i.zero, i.size, decide (i.bytes ≤ 8))) = some (some (.int .i64 0), 1, true) := by kernel_rfl

set_option maxRecDepth 100000 in
set_option maxHeartbeats 8000000 in
theorem rsigns_any (s : ByteArray) (hs : s.size ≤ 1000000) (w : World) :
    Calls Tryz.prog 91 #[.string s] w fun e w' => (∃ A c, e = .returned (.tuple #[.slice A ((signsL s.size s.data.toList).getD 0) c, .bool (signsL s.size s.data.toList).isSome])) ∧ Below w.heap.size w w' := by
  obtain ⟨RES, hRES⟩ : ∃ RES, signsL s.size s.data.toList = RES := ⟨_, rfl⟩
  rw [hRES]
  obtain ⟨W1, hW1⟩ : ∃ W1, w.alloc (.cells #[] 3) = W1 := ⟨_, rfl⟩
  have hb1 : Below w.heap.size w W1 := by rw [← hW1]; exact (Below.refl _ w).alloc (Nat.le_refl _) _
  have hs1 : W1.heap.size = w.heap.size + 1 := by rw [← hW1]; simp
  have hown : W1.ownsRow w.heap.size 3 1 (.slice (some ⟨w.heap.size, 0, none⟩) 0 0) 0 [] := by
    have hm := World.ownsRow_made w (e := 3) (size := 1) (base := w.heap.size) #[] 0 (by omega) (Nat.zero_le _) (by simp)
    rw [hW1] at hm
    exact hm
  have hi := int_info
  cases hinf : Tryz.prog.info? 3 with
  | none => rw [hinf] at hi; cases hi
  | some i0 =>
  rw [hinf] at hi
  simp only [Option.map_some, Option.some.injEq, Prod.mk.injEq, decide_eq_true_eq] at hi
  have HB1 := Lib.hid hb1
  have HW1 := Lib.hid hW1
  have HS1 := Lib.hid hs1
  have HRES := Lib.hid hRES
  have HOWN := Lib.hid hown
  clear hb1 hW1 hs1 hRES hown
  go_enter Tryz.func91, Tryz.ntmps91
  go_wp2_with (fail)
  rw [HW1.out]
  obtain ⟨WI, hWI⟩ : ∃ WI, W1.iter s 0 = WI := ⟨_, rfl⟩
  have hbi : Below W1.heap.size W1 WI := by rw [← hWI]; exact below_iterD W1 s 0
  have hit : WI.heap[w.heap.size + 1]? = some (.stringIter s 0) := by rw [← hWI, ← HS1.out]; exact World.iter_heap W1 s 0
  have BI := Lib.hid (bel_trans (B := w.heap.size) HB1.out hbi)
  have IT := Lib.hid hit
  have OI := Lib.hid (owns_at HOWN.out hbi)
  rw [hWI]
  clear hbi hit hWI
  go_loopg [4, 5, 6, 7, 8] (s.size + 1) (fun kk l _ _ _ _ wr => Below w.heap.size w wr ∧ ∃ (lv : Value) (pos n : Nat), lv = l ∧ n ≤ pos ∧ s.size ≤ pos + kk - 1 ∧ 1 ≤ kk ∧ wr.heap[w.heap.size + 1]? = some (.stringIter s pos) ∧ (∃ xs, wr.ownsRow w.heap.size 3 1 lv n xs) ∧ lv.ownBlock ≠ some (w.heap.size + 1) ∧
    RES = (signsL (kk - 1) (s.data.toList.drop pos)).map (· + n))
  case atStart => exact ⟨BI.out, _, 0, 0, rfl, Nat.le_refl _, by omega, by omega, IT.out, ⟨_, OI.out⟩, by simp [Value.ownBlock], by rw [List.drop_zero, Nat.add_sub_cancel, HRES.out]; cases RES <;> simp⟩
  case round =>
    obtain ⟨r1, lv, pos, n, rfl, hnp, hfu, hk1, r2, ⟨xs, r3⟩, r4, r5⟩ := hrel
    obtain ⟨kq, rfl⟩ : ∃ kq, gk = kq + 1 := ⟨gk - 1, by omega⟩
    rw [Nat.add_sub_cancel] at r5
    by_cases hp : pos < s.size
    · have hne : s.data.toList.drop pos ≠ [] := by
        intro h0
        have := congrArg List.length h0
        rw [List.length_drop, ← Lib.size_eq] at this
        simp at this
        omega
      obtain ⟨kp, rfl⟩ : ∃ kp, kq = kp + 1 := ⟨kq - 1, by omega⟩
      have hdl := Lib.decodeL_drop s pos
      have hval := dec_valid (s.data.toList.drop pos)
      have hwid := Lib.decodeL_width (s.data.toList.drop pos)
      rw [signsL, if_neg hne, hdl] at r5
      rw [hdl] at hval hwid
      obtain ⟨⟨r, d⟩, hrd⟩ : ∃ x, Utf8.decode s pos = x := ⟨_, rfl⟩
      rw [hrd] at r5 hval hwid
      simp only at r5 hval hwid
      obtain ⟨W2, hW2⟩ : ∃ W2, wr.iterAt (w.heap.size + 1) s (pos + d) = W2 := ⟨_, rfl⟩
      have hnx : ∀ ty, (Instr.next (.pointer (some ⟨w.heap.size + 1, 0, none⟩)) true ty).run Tryz.prog wr = .ok (.tuple #[.bool true, .int .i64 (pos : Int), .int .i32 (r : Int)]) W2 := fun ty => by
        rw [Lib.run_next_any_at wr (w.heap.size + 1) s pos ty r2 hp, hrd, hW2]
      have hz2 : W2.heap.size = wr.heap.size := by rw [← hW2, Lib.iterAt_size]
      have q2 : W2.heap[w.heap.size + 1]? = some (.stringIter s (pos + d)) := by rw [← hW2]; exact Lib.iterAt_heap wr (w.heap.size + 1) s pos (pos + d) r2
      have q1 : Below w.heap.size w W2 := by rw [← hW2]; exact Lib.below_iterAt r1 (by omega) s (pos + d)
      have hlt2 := (Array.getElem?_eq_some_iff.1 r2).1
      have q3 : W2.ownsRow w.heap.size 3 1 lv n xs := r3.kept (row := some (w.heap.size + 1)) ⟨by rw [← hW2]; rfl, by rw [← hW2]; rfl, by rw [← hW2]; rfl, by omega, fun k hk hkn => by rw [← hW2]; exact Lib.iterAt_other _ _ _ _ _ (fun e => hkn (by rw [e]))⟩ (.inr r4)
      have hb2 : Below W2.heap.size W2 (W2.alloc (.cells #[.int .i32 (r : Int)] 21)) := (Below.refl _ W2).alloc (Nat.le_refl _) _
      obtain ⟨W3, hW3⟩ : ∃ W3, W2.alloc (.cells #[.int .i32 (r : Int)] 21) = W3 := ⟨_, rfl⟩
      rw [hW3] at hb2
      obtain ⟨own, hown⟩ : ∃ o, runesBytes [(r : Int)] = o := ⟨_, rfl⟩
      have hcell : W3.cell? ⟨W2.heap.size, 0, none⟩ = some (.int .i32 (r : Int)) := by rw [← hW3]; exact cell_alloc_first W2 _ _
      have hcv : (convert 87 9 (.slice (some ⟨W2.heap.size, 0, none⟩) 1 1)).run Tryz.prog W3 = .ok (.string own) W3 := by
        rw [run_convert_runes W3 _ _ 21 ⟨W2.heap.size, 0, none⟩ 1 1 [(r : Int)] (Nat.le_refl _) Tryz.underlying87 Tryz.underlying21 Tryz.underlying9 (fun j hj => by
          have hj0 : j = 0 := by have : j < 1 := hj; omega
          subst hj0
          exact hcell), ← hown]
        rfl
      rw [← hW3] at hcv
      have hcv2 : (convert 87 9 (.slice (some ⟨W2.heap.size, 0, none⟩) 1 1)).run Tryz.prog (W2.alloc (.cells #[.int .i32 (r : Int)] 21)) = .ok (.string own) W3 := by rw [hcv, hW3]
      clear hcv
      have hol : own.data.toList = encL r := by
        rw [← hown, ← encode_L r hval]
        show (ByteArray.empty ++ Utf8.encode (r : Int)).data.toList = _
        rw [ByteArray.empty_append]
      have hoz : own.size = (encL r).length := by rw [Lib.size_eq, hol]
      have hox : own.size ≤ 4 := by rw [← hown]; exact runesBytes_size_le [(r : Int)]
      have w0 : IntKind.i64.wrap (r : Int) = (r : Int) := by rw [IntKind.wrap_i64]; omega
      have w1 : IntKind.i64.wrap ((s.size : Int) - (pos : Int)) = ((s.size - pos : Nat) : Int) := by rw [IntKind.wrap_i64]; omega
      have w2 : IntKind.i64.wrap ((pos : Int) + (own.size : Int)) = ((pos + own.size : Nat) : Int) := by rw [IntKind.wrap_i64]; omega
      have hr5 : RES = (if (s.data.toList.drop pos).take own.size = own.data.toList then (signsL kp ((s.data.toList.drop pos).drop d)).map (· + 1) else none).map (· + n) := by rw [hoz, hol]; exact r5
      have hb3 := bel_trans (B := w.heap.size) q1 hb2
      have hz3 : W3.heap.size = W2.heap.size + 1 := by rw [← hW3]; simp
      have HB3 := Lib.hid hb3
      have IT3 := Lib.hid ((hb2.block _ (by omega)).trans q2)
      have OW3 := Lib.hid (owns_at q3 hb2)
      have R5 := Lib.hid hr5
      have R4 := Lib.hid r4
      have HW3 := Lib.hid hW3
      have hlt3 : w.heap.size + 1 < W3.heap.size := by omega
      have FU := Lib.hid hfu
      by_cases hq1 : s.size - pos < own.size
      · have d1 : decide (((s.size - pos : Nat) : Int) < (own.size : Int)) = true := decide_eq_true (by omega)
        have d2 : decide (s.size - pos < own.size) = true := decide_eq_true hq1
        have RN : Hid (RES = none) := Lib.hid (by
          rw [R5.out, if_neg]
          · rfl
          · intro h
            have := congrArg List.length h
            rw [List.length_take, List.length_drop, ← Lib.size_eq, ← Lib.size_eq] at this
            omega)
        clear hr5 hol hoz hown hW2 hW3 hcell q1 q2 q3 hb2 hb3 r1 r2 r3 r5 r4 hval hwid hrd hdl hne hz2 hz3 hlt2 hq1 hfu
        go_wp2_with (fail)
        go_ret2
        exact ⟨⟨none, 0, by rw [RN.out]; rfl⟩, HB3.out⟩
      · have d1 : decide (((s.size - pos : Nat) : Int) < (own.size : Int)) = false := decide_eq_false (by omega)
        have d2 : decide (s.size - pos < own.size) = false := decide_eq_false hq1
        have l1 : pos + own.size ≤ s.size := by omega
        have l2 : pos ≤ pos + own.size := by omega
        have hext := extract_take s pos own.size
        by_cases hq2 : (s.data.toList.drop pos).take own.size = own.data.toList
        · have f1 : ((s.extract pos (pos + own.size)).toList == own.toList) = true := by
            rw [Go.ByteArray.toList_eq, Go.ByteArray.toList_eq, hext, hq2]
            simp
          have RN : Hid (RES = (signsL kp (s.data.toList.drop (pos + d))).map (· + (n + 1))) := Lib.hid (by
            rw [R5.out, if_pos hq2, List.drop_drop, Option.map_map]
            congr 1
            funext x
            show x + 1 + n = x + (n + 1)
            omega)
          have HHN := Lib.hid hnp
          have HWD := Lib.hid hwid
          clear hr5 hol hoz hown hW2 hW3 hcell q1 q2 q3 hb2 hb3 r1 r2 r3 r5 r4 hval hwid hrd hdl hne hz2 hz3 hq1 hq2 hext hfu hnp
          go_wp2_with (at_builtin; refine wpList_append_own_at _ rfl _ _ 102 rfl w.heap.size 3 i0 _ 1 i0.bytes Tryz.underlying102 hinf hi.1 hi.2.1 rfl rfl (by decide) _ _ _ rfl (OW3.out.alloc _) ⟨W3.heap.size, 0, none⟩ 1 1 [.int .i64 (r : Int)] rfl ?qc1 ?qc2 ?qc3 ?qc4 ?qc5 ?qc6 ?_)
          case qc1 => rfl
          case qc2 =>
            intro j u hu
            have hj0 : j = 0 := by
              have := (List.getElem?_eq_some_iff.1 hu).1
              have h1 : j < 1 := this
              omega
            subst hj0
            have hu2 : u = .int .i64 (r : Int) := by simpa using hu.symm
            subst hu2
            exact cell_alloc_first W3 _ _
          case qc3 => intro u hu; simp at hu; subst hu; rfl
          case qc4 => unfold maxLen; have := HHN.out; omega
          case qc5 => have h1 : n + 1 ≤ 1000001 := by have := HHN.out; omega
                      exact Nat.le_trans (Nat.mul_le_mul h1 hi.2.2) (by decide)
          case qc6 => simp; omega
          intro v' w3 hown3 hgrow3 _ hnw3
          have hba : Below W3.heap.size W3 (W3.alloc (.cells #[.int .i64 (r : Int)] 3)) := (Below.refl _ W3).alloc (Nat.le_refl _) _
          have hob : ∀ k, lv.ownBlock = some k → w.heap.size ≤ k := fun k hk => by
            obtain ⟨-, ⟨rfl, -⟩ | ⟨g, cap, cur, rfl, hg, -⟩⟩ := OW3.out
            · cases hk
            · injection hk with hk
              subst hk
              exact hg
          have NB := Lib.hid ((bel_trans (B := w.heap.size) HB3.out hba).grown hgrow3 (by have := hba.size; omega) (fun k hk => hob k hk))
          have NI := Lib.hid (show w3.heap[w.heap.size + 1]? = some (.stringIter s (pos + d)) by
            have hs3 := hba.size
            rw [hgrow3.block _ (by omega) (fun e => R4.out e.symm), hba.block _ (by omega)]
            exact IT3.out)
          have NO := Lib.hid hown3
          have NX := Lib.hid (show v'.ownBlock ≠ some (w.heap.size + 1) by
            rcases hnw3 with e | e
            · rw [e]; exact R4.out
            · rw [e]
              intro h
              injection h with h
              try rw [World.size_alloc] at h
              omega)
          clear hown3 hgrow3 hnw3 hba hob
          go_wp2_with (fail)
          go_roundg (kp + 1)
          case measure => omega
          case rel => exact ⟨NB.out, v', pos + d, n + 1, rfl, by have := HHN.out; have := HWD.out; omega, by have := FU.out; have := HWD.out; omega, by omega, NI.out, ⟨_, NO.out⟩, NX.out, by rw [Nat.add_sub_cancel]; exact RN.out⟩
        · have f1 : ((s.extract pos (pos + own.size)).toList == own.toList) = false := by
            rw [Go.ByteArray.toList_eq, Go.ByteArray.toList_eq, hext]
            exact beq_eq_false_iff_ne.2 hq2
          have RN : Hid (RES = none) := Lib.hid (by rw [R5.out, if_neg hq2]; rfl)
          clear hr5 hol hoz hown hW2 hW3 hcell q1 q2 q3 hb2 hb3 r1 r2 r3 r5 r4 hval hwid hrd hdl hne hz2 hz3 hlt2 hq1 hq2 hext hfu
          go_wp2_with (fail)
          go_ret2
          exact ⟨⟨none, 0, by rw [RN.out]; rfl⟩, HB3.out⟩
    · have hnx : ∀ ty, (Instr.next (.pointer (some ⟨w.heap.size + 1, 0, none⟩)) true ty).run Tryz.prog wr = .ok (.tuple #[.bool false]) wr := fun ty => Lib.run_next_end_at wr (w.heap.size + 1) s pos ty r2 hp
      have RN : Hid (RES = some n) := Lib.hid (by
        have : s.data.toList.drop pos = [] := List.drop_eq_nil_of_le (by rw [← Lib.size_eq]; omega)
        rw [r5, this, signs_nil]
        show some (0 + n) = some n
        rw [Nat.zero_add])
      obtain ⟨A, c, rfl⟩ : ∃ A c, lv = .slice A n c := by
        obtain ⟨-, ⟨rfl, h1⟩ | ⟨g, cap, cur, rfl, -⟩⟩ := r3
        · exact ⟨none, 0, by rw [h1]⟩
        · exact ⟨_, _, rfl⟩
      have HR1 := Lib.hid r1
      clear r1 r2 r3 r4 r5 hfu hp hnp
      go_wp2_with (fail)
      go_ret2
      exact ⟨⟨A, c, by rw [RN.out]; rfl⟩, HR1.out⟩

end LM
end Go.Proofs.YtnpmfailpgbggaaGreatDoor

namespace Go.Proofs.YtnpmfailpgbggaaGreatDoor
open Go Go.RowKit
namespace LM
set_option linter.unusedVariables false

/-- nothing but what its kind has, as the document asks it; z: is the number nought -/
def ronlyB (h : Hd) (n : Nat) (z : Bool) : Bool :=
  if h.k = 0 then (h.n == 0) && (h.t.toList == []) && decide (n = 0)
  else if h.k = 1 ∨ h.k = 2 then z && (h.t.toList == []) && decide (n = 0)
  else if h.k = 3 ∨ h.k = 4 then z && (h.n == 0) && decide (n = 0)
  else z && (h.n == 0) && (h.t.toList == [])
/-- as its kind says, as the document asks it -/
def rkindB (nm : ByteArray → Bool) (h : Hd) (n : Nat) (kl : Int) : Bool :=
  if h.k = 0 then rightN h.fl h.f h.s h.xs else if h.k = 1 then (h.n == 0 || h.n == 1) else if h.k = 2 then csignB h.n else if h.k = 3 then textB h.t else if h.k = 4 then nm h.t
  else if h.k = 5 then true else if h.k = 6 then decide (2 ≤ n) && (kl != 5) && (kl != 6) else if h.k = 7 then decide (n ≤ 200) else false
/-- is the number nought -/
def zeroN (h : Hd) : Bool := !h.fl && decide (sg h.s (val h.xs) = 0)
def docB (nm : ByteArray → Bool) (h : Hd) (n : Nat) (kl : Int) : Bool := rightN h.fl h.f h.s h.xs && ronlyB h n (zeroN h) && rkindB nm h n kl
/-- how many nodes are left -/
def rrF (nm : ByteArray → Bool) : Int → Int → Fr → Int
  | left, _, .nil => left
  | left, deep, .cons h k r =>
    if (left < 1 ∨ 60 < deep ∨ (4 < h.k ∧ 59 < deep)) ∨ docB nm h k.len (lastK k) = false then -1
    else if rrF nm (left - 1) (deep + 1) k < 0 then -1 else rrF nm (rrF nm (left - 1) (deep + 1) k) deep r
def rrD (nm : ByteArray → Bool) (left deep : Int) (h : Hd) (k : Fr) : Int :=
  if (left < 1 ∨ 60 < deep ∨ (4 < h.k ∧ 59 < deep)) ∨ docB nm h k.len (lastK k) = false then -1
  else if rrF nm (left - 1) (deep + 1) k < 0 then -1 else rrF nm (left - 1) (deep + 1) k
theorem rr_cons (nm : ByteArray → Bool) (left deep : Int) (h : Hd) (k r : Fr) : rrF nm left deep (.cons h k r) = if rrD nm left deep h k < 0 then -1 else rrF nm (rrD nm left deep h k) deep r := by
  rw [rrF]
  unfold rrD
  split
  · rw [if_pos (by decide)]
  · rename_i h1
    by_cases h2 : rrF nm (left - 1) (deep + 1) k < 0
    · rw [if_pos h2, if_pos h2, if_pos (by decide)]
    · rw [if_neg h2, if_neg h2, if_neg h2]

theorem zero_nil {h : Hd} (hx : Lm h.xs) (hr : rightN h.fl h.f h.s h.xs = true) : zeroN h = nothB h.fl h.f h.s h.xs := by
  unfold zeroN nothB
  rw [hr, Bool.and_true]
  cases hf : h.fl
  · have h2 := hr
    unfold rightN at h2
    rw [hf, if_neg (by decide), Bool.and_eq_true] at h2
    obtain ⟨-, hc, -, hv, -⟩ := right_parts h2.2 hx
    congr 1
    rw [decide_eq_decide]
    constructor
    · intro h3
      rw [h3] at hv
      rw [← hc.2]
      have hv0 : val h.xs = 0 := by rw [hv]; rfl
      rw [val_zero_all hv0]
      rfl
    · intro h3
      have : h.xs = [] := List.eq_nil_of_length_eq_zero h3
      rw [this]
      cases h.s <;> rfl
  · rfl

theorem rightK_doc (nm : ByteArray → Bool) (d : Int) (h : Hd) (kids : Fr) (sub : Bool) (hx : Lm h.xs) :
    rightK nm d h kids sub = (docB nm h kids.len (lastK kids) && (decide (h.k ≤ 4) || (decide (0 < d) && sub))) := by
  unfold docB
  cases hr : rightN h.fl h.f h.s h.xs
  · rw [Bool.false_and, Bool.false_and, Bool.false_and]
    cases hq : rightK nm d h kids sub
    · rfl
    · unfold rightK elseB nothB at hq
      rw [hr] at hq
      by_cases h0 : h.k = 0
      · simp [h0] at hq
      · simp [h0] at hq
  · rw [zero_nil hx hr, Bool.true_and]
    unfold rightK
    generalize nothB h.fl h.f h.s h.xs = z
    have hb : ((((kids.len : Nat) : Int) == 0) : Bool) = decide (kids.len = 0) := by
      rw [Bool.eq_iff_iff, beq_iff_eq, decide_eq_true_eq]
      omega
    rw [hb]
    unfold ronlyB rkindB elseB areB
    generalize (h.n == 0) = b1
    generalize (h.t.toList == []) = b2
    generalize decide (kids.len = 0) = b3
    rcases kinds h.k with e | e | e | e | e | e | e | e | ⟨k0, k1, k2, k3, k4, k5, k6, k7⟩
    · rw [e, hr]; cases z <;> cases b1 <;> cases b2 <;> cases b3 <;> simp
    · rw [e]; cases z <;> cases b1 <;> cases b2 <;> cases b3 <;> simp
    · rw [e]; cases z <;> cases b1 <;> cases b2 <;> cases b3 <;> simp
    · rw [e]; cases z <;> cases b1 <;> cases b2 <;> cases b3 <;> simp
    · rw [e]; cases z <;> cases b1 <;> cases b2 <;> cases b3 <;> simp
    · rw [e]; cases z <;> cases b1 <;> cases b2 <;> cases b3 <;> simp
    · rw [e]; cases z <;> cases b1 <;> cases b2 <;> cases b3 <;> simp [Bool.and_assoc, Bool.and_comm, Bool.and_left_comm]
    · rw [e]; cases z <;> cases b1 <;> cases b2 <;> cases b3 <;> simp [Bool.and_assoc, Bool.and_comm, Bool.and_left_comm]
    · rw [beq_eq_false_iff_ne] at k0 k1 k2 k3 k4 k5 k6 k7
      simp [k0, k1, k2, k3, k4, k5, k6, k7]

theorem doc_nokids {nm : ByteArray → Bool} {h : Hd} {k : Fr} (hd : docB nm h k.len (lastK k) = true) (h4 : h.k ≤ 4) : k = .nil := by
  unfold docB at hd
  rw [Bool.and_eq_true, Bool.and_eq_true] at hd
  obtain ⟨⟨-, h2⟩, h3⟩ := hd
  have hk : k.len = 0 := by
    unfold ronlyB at h2
    unfold rkindB at h3
    rcases kinds h.k with e | e | e | e | e | e | e | e | ⟨k0, k1, k2, k3, k4, k5, k6, k7⟩
    all_goals try (rw [e] at h4; omega)
    · rw [e] at h2; simp at h2; exact h2.2
    · rw [e] at h2; simp at h2; exact h2.2
    · rw [e] at h2; simp at h2; exact h2.2
    · rw [e] at h2; simp at h2; exact h2.2
    · rw [e] at h2; simp at h2; exact h2.2
    · rw [beq_eq_false_iff_ne] at k0 k1 k2 k3 k4 k5 k6 k7
      simp [k0, k1, k2, k3, k4, k5, k6, k7] at h3
  cases k with
  | nil => rfl
  | cons x y z => exact absurd hk (by show ¬ z.len + 1 = 0; omega)

/-- each limb is one -/
def LmF : Fr → Prop
  | .nil => True
  | .cons h k r => Lm h.xs ∧ LmF k ∧ LmF r
theorem LmF.of_ok : ∀ {fr : Fr}, fr.Ok → LmF fr := by
  intro fr
  induction fr with
  | nil => intro _; exact trivial
  | cons h k r ihk ihr => intro ho; exact ⟨ho.1.lm, ihk ho.2.1, ihr ho.2.2⟩

theorem rrD_of (nm : ByteArray → Bool) (h : Hd) (k : Fr) (left deep : Int) (hx : Lm h.xs) (h0 : 0 ≤ deep) (h60 : deep ≤ 60)
    (ih : ∀ l, 0 ≤ l → deep + 1 ≤ 60 → rrF nm l (deep + 1) k = if rightF nm (60 - (deep + 1)) k = true ∧ (k.nodes : Int) ≤ l then l - k.nodes else -1) :
    rrD nm left deep h k = if rightK nm (60 - deep) h k (rightF nm (60 - deep - 1) k) = true ∧ ((k.nodes + 1 : Nat) : Int) ≤ left then left - ((k.nodes + 1 : Nat) : Int) else -1 := by
  rw [rightK_doc nm _ h k _ hx]
  unfold rrD
  cases hd : docB nm h k.len (lastK k)
  · rw [if_pos (.inr rfl), if_neg (by simp)]
  · rw [Bool.true_and]
    by_cases hl : left < 1
    · rw [if_pos (.inl (.inl hl)), if_neg (by omega)]
    · by_cases h4 : h.k ≤ 4
      · rw [if_neg (by simp; omega)]
        obtain rfl := doc_nokids hd h4
        show (if left - 1 < 0 then -1 else left - 1) = _
        rw [if_neg (by omega), if_pos ⟨by simp [h4], by show ((0 + 1 : Nat) : Int) ≤ left; omega⟩]
        show left - 1 = left - ((0 + 1 : Nat) : Int)
        omega
      · rw [show decide (h.k ≤ 4) = false from decide_eq_false h4, Bool.false_or]
        by_cases h59 : 59 < deep
        · rw [if_pos (.inl (.inr (.inr ⟨by omega, h59⟩))), if_neg (by rw [show decide (0 < 60 - deep) = false from decide_eq_false (by omega)]; simp)]
        · rw [if_neg (by simp; omega), ih _ (by omega) (by omega), show (60 : Int) - (deep + 1) = 60 - deep - 1 by omega, show decide (0 < 60 - deep) = true from decide_eq_true (by omega), Bool.true_and]
          by_cases hq : rightF nm (60 - deep - 1) k = true ∧ (k.nodes : Int) ≤ left - 1
          · rw [if_pos hq, if_neg (by omega), if_pos ⟨hq.1, by omega⟩]
            omega
          · rw [if_neg hq, if_pos (by decide), if_neg (fun hh => hq ⟨hh.1, by omega⟩)]
theorem rrF_of (nm : ByteArray → Bool) : ∀ (fr : Fr) (left deep : Int), LmF fr → 0 ≤ left → 0 ≤ deep → deep ≤ 60 →
    rrF nm left deep fr = if rightF nm (60 - deep) fr = true ∧ (fr.nodes : Int) ≤ left then left - fr.nodes else -1 := by
  intro fr
  induction fr with
  | nil =>
    intro left deep _ h0 _ _
    rw [if_pos ⟨rfl, by show ((0 : Nat) : Int) ≤ left; omega⟩]
    show left = left - ((0 : Nat) : Int)
    omega
  | cons h k r ihk ihr =>
    intro left deep hl h0 hd0 hd1
    have hs := rrD_of nm h k left deep hl.1 hd0 hd1 fun l h1 h2 => ihk l (deep + 1) hl.2.1 h1 (by omega) h2
    rw [rr_cons, hs]
    have hn : ((Fr.cons h k r).nodes : Int) = ((k.nodes + 1 : Nat) : Int) + (r.nodes : Int) := by
      show ((k.nodes + 1 + r.nodes : Nat) : Int) = _
      omega
    have hf : rightF nm (60 - deep) (.cons h k r) = (rightK nm (60 - deep) h k (rightF nm (60 - deep - 1) k) && rightF nm (60 - deep) r) := rfl
    rw [hn, hf]
    generalize rightK nm (60 - deep) h k (rightF nm (60 - deep - 1) k) = q
    by_cases hq : q = true ∧ ((k.nodes + 1 : Nat) : Int) ≤ left
    · rw [if_pos hq, if_neg (by omega), ihr _ _ hl.2.2 (by omega) hd0 hd1, hq.1, Bool.true_and]
      by_cases hr : rightF nm (60 - deep) r = true ∧ (r.nodes : Int) ≤ left - ((k.nodes + 1 : Nat) : Int)
      · rw [if_pos hr, if_pos ⟨hr.1, by omega⟩]
        omega
      · rw [if_neg hr, if_neg fun hh => hr ⟨hh.1, by omega⟩]
    · rw [if_neg hq, if_pos (by decide), if_neg]
      intro hh
      rw [Bool.and_eq_true] at hh
      exact hq ⟨hh.1.1, by omega⟩
/-- the document's answer is the program's -/
theorem rrD_right (nm : ByteArray → Bool) (h : Hd) (k : Fr) (hx : Lm h.xs) (hk : LmF k) : decide (0 ≤ rrD nm 3000 0 h k) = rightD nm h k := by
  rw [rrD_of nm h k 3000 0 hx (by decide) (by decide) fun l h1 _ => rrF_of nm k l (0 + 1) hk h1 (by decide) (by decide)]
  unfold rightD
  have e1 : (60 : Int) - 0 = 60 := by decide
  have e2 : (60 : Int) - 0 - 1 = 59 := by decide
  rw [e1, show (60 : Int) - 1 = 59 by decide]
  have hc : decide (cnt 3001 1 k ≤ 3000) = decide (((k.nodes + 1 : Nat) : Int) ≤ 3000) := by
    rw [decide_eq_decide]
    constructor
    · intro h1
      rcases Int.lt_or_le 3001 (1 + (k.nodes : Int)) with h2 | h2
      · have := cnt_more k 3001 1 (by omega); omega
      · rw [cnt_nodes k 3001 1 h2] at h1; omega
    · intro h1
      rw [cnt_nodes k 3001 1 (by omega)]
      omega
  rw [hc]
  generalize rightK nm 60 h k (rightF nm 59 k) = q
  by_cases h1 : ((k.nodes + 1 : Nat) : Int) ≤ 3000
  · rw [decide_eq_true h1, Bool.true_and]
    cases q
    · rw [if_neg (by simp)]; rfl
    · rw [if_pos ⟨rfl, h1⟩]
      exact decide_eq_true (by omega)
  · rw [if_neg (fun hh => h1 hh.2), decide_eq_false h1, Bool.false_and]
    rfl
theorem rrF_bd (nm : ByteArray → Bool) : ∀ (fr : Fr) (left deep : Int), -1 ≤ left → -1 ≤ rrF nm left deep fr ∧ rrF nm left deep fr ≤ left := by
  intro fr
  induction fr with
  | nil => intro left deep h; exact ⟨h, Int.le_refl _⟩
  | cons h k r ihk ihr =>
    intro left deep hl
    unfold rrF
    split
    · omega
    · rename_i h1
      split
      · omega
      · rename_i h2
        have h3 : ¬ left < 1 := fun h => h1 (.inl (.inl h))
        have h4 := ihk (left - 1) (deep + 1) (by omega)
        have h5 := ihr (rrF nm (left - 1) (deep + 1) k) deep (by omega)
        omega
theorem rrD_bd (nm : ByteArray → Bool) (h : Hd) (k : Fr) (left deep : Int) (hl : -1 ≤ left) : -1 ≤ rrD nm left deep h k ∧ rrD nm left deep h k ≤ left := by
  unfold rrD
  split
  · omega
  · rename_i h1
    split
    · omega
    · rename_i h2
      have h3 : ¬ left < 1 := fun h => h1 (.inl (.inl h))
      have h4 := rrF_bd nm k (left - 1) (deep + 1) (by omega)
      omega
end LM
end Go.Proofs.YtnpmfailpgbggaaGreatDoor

namespace Go.Proofs.YtnpmfailpgbggaaGreatDoor
open Go Go.RowKit
namespace LM
set_option linter.unusedVariables false
attribute [local go_sem] run_store_flt

/-- a kind, as the switch asks for it -/
theorem kind_facts (k c : Int) (e : k = c) : ∀ j : Int, (k == j) = decide (c = j) := fun j => by rw [e]; rfl

set_option maxRecDepth 100000 in
set_option maxHeartbeats 16000000 in
theorem ronly_any (h : Hd) (n : Nat) (z : Bool) (w : World) (hT : CallB w 33 #[numA h.fl h.f h.s h.A h.xs.length h.c, numA false 0 false none 0 0] (.bool z)) :
    Calls Tryz.prog 58 #[datA h n] w fun e w' => e = .returned (.bool (ronlyB h n z)) ∧ Below w.heap.size w w' := by
  obtain ⟨W0, hW0, hb0, ho, hs0⟩ := dat_block w h n
  obtain ⟨bn, hbn⟩ : ∃ b, (h.n == 0) = b := ⟨_, rfl⟩
  obtain ⟨bt, hbt⟩ : ∃ b, (h.t.toList == []) = b := ⟨_, rfl⟩
  obtain ⟨bi, hbi⟩ : ∃ b, ((n : Int) == 0) = b := ⟨_, rfl⟩
  have hbj : decide (n = 0) = bi := by
    rw [← hbi, Bool.eq_iff_iff, beq_iff_eq, decide_eq_true_eq]
    omega
  obtain ⟨q, hq⟩ : ∃ q, ronlyB h n z = q := ⟨_, rfl⟩
  rw [hq]
  unfold ronlyB at hq
  rw [hbn, hbt, hbj] at hq
  have HQ := Lib.hid hq
  have HT := Lib.hid (hT W0 hb0)
  have HW0 := Lib.hid hW0
  have HB0 := Lib.hid hb0
  have BLK : Hid (∀ W, Below W0.heap.size W0 W → C8 W w.heap.size 0 h n) := Lib.hid fun W hW => C8.of_block ((hW.block _ hs0).trans ho)
  have hX := C8.of_block ho
  clear hW0 hb0 ho hs0 hT hq hbj
  rcases kinds h.k with e | e | e | e | e | e | e | e | ⟨k0, k1, k2, k3, k4, k5, k6, k7⟩
  all_goals
    try rw [e] at HQ
    try (have k0 := kind_facts _ _ e 0)
    try (have k1 := kind_facts _ _ e 1)
    try (have k2 := kind_facts _ _ e 2)
    try (have k3 := kind_facts _ _ e 3)
    try (have k4 := kind_facts _ _ e 4)
    try simp only [Int.reduceEq, decide_true, decide_false] at k0 k1 k2 k3 k4
    try clear e
    obtain ⟨x0, x1, x2, x3, x4, x5, x6, x7⟩ := hX
    go_enter Tryz.func58, Tryz.ntmps58
    go_wp2_with (fail)
    rw [HW0.out]
    refine HT.out.mono ?_
    rintro e9 w1 ⟨rfl, hb1⟩
    have HB1 := Lib.hid (bel_trans (B := w.heap.size) HB0.out hb1)
    obtain ⟨y0, y1, y2, y3, y4, y5, y6, y7⟩ := BLK.out _ hb1
    clear hb1 x0 x1 x2 x3 x4 x5 x6 x7
    cases z <;> cases bn <;> cases bt <;> cases bi
    all_goals
      go_wp2_with (fail)
      go_ret
      exact ⟨by rw [← HQ.out]; first | rfl | (rw [beq_eq_false_iff_ne] at k0 k1 k2 k3 k4; simp [k0, k1, k2, k3, k4]), HB1.out⟩

end LM
end Go.Proofs.YtnpmfailpgbggaaGreatDoor

namespace Go.Proofs.YtnpmfailpgbggaaGreatDoor
open Go Go.RowKit
namespace LM
set_option linter.unusedVariables false
attribute [local go_sem] run_store_flt

set_option maxRecDepth 100000 in
set_option maxHeartbeats 16000000 in
theorem rkind_any (nm : ByteArray → Bool) (h : Hd) (n b off : Nat) (hl : Hd) (m : Nat) (w : World) (hn : n ≤ 9223372036854775807)
    (hR : CallB w 57 #[numA h.fl h.f h.s h.A h.xs.length h.c] (.bool (rightN h.fl h.f h.s h.xs)))
    (hN : h.k = 4 → CallB w 92 #[.string h.t] (.bool (nm h.t))) (ht : h.t.size ≤ 1000000)
    (hB : 0 < n → h.B = some ⟨b, off, none⟩) (hc : 0 < n → C8 w b (off + (n - 1) * 8) hl m) :
    Calls Tryz.prog 59 #[datA h n] w fun e w' => e = .returned (.bool (rkindB nm h n hl.k)) ∧ Below w.heap.size w w' := by
  obtain ⟨W0, hW0, hb0, ho, hs0⟩ := dat_block w h n
  obtain ⟨q, hq⟩ : ∃ q, rkindB nm h n hl.k = q := ⟨_, rfl⟩
  rw [hq]
  unfold rkindB at hq
  have HQ := Lib.hid hq
  have HR := Lib.hid (hR W0 hb0)
  have HW0 := Lib.hid hW0
  have HB0 := Lib.hid hb0
  obtain ⟨x0, x1, x2, x3, x4, x5, x6, x7⟩ := C8.of_block ho
  have HC := Lib.hid fun (h : 0 < n) => (hc h).keep hb0 (spot_none (hc h).c0).2
  have HN := Lib.hid fun (e : h.k = 4) => hN e W0 hb0
  clear hW0 hb0 ho hs0 hR hq hN hc
  rcases kinds h.k with e | e | e | e | e | e | e | e | ⟨k0, k1, k2, k3, k4, k5, k6, k7⟩
  · have k0 : (h.k == 0) = true := by rw [e]; rfl
    rw [e] at HQ
    clear e
    go_enter Tryz.func59, Tryz.ntmps59
    go_wp2_with (fail)
    rw [HW0.out]
    go_wp2_with (fail)
    refine HR.out.mono ?_
    rintro e9 w1 ⟨rfl, hb1⟩
    have HB1 := Lib.hid (bel_trans (B := w.heap.size) HB0.out hb1)
    clear hb1
    go_wp2_with (fail)
    go_ret
    exact ⟨by rw [← HQ.out]; rfl, HB1.out⟩
  · have k0 : (h.k == 0) = false := by rw [e]; rfl
    have k1 : (h.k == 1) = true := by rw [e]; rfl
    rw [e] at HQ
    clear e
    obtain ⟨b1, hb1⟩ : ∃ b, (h.n == 0) = b := ⟨_, rfl⟩
    obtain ⟨b2, hb2⟩ : ∃ b, (h.n == 1) = b := ⟨_, rfl⟩
    rw [hb1, hb2] at HQ
    cases b1 <;> cases b2
    all_goals
      go_enter Tryz.func59, Tryz.ntmps59
      go_wp2_with (fail)
      rw [HW0.out]
      go_wp2_with (fail)
      go_ret
      exact ⟨by rw [← HQ.out]; rfl, HB0.out⟩
  · have k0 : (h.k == 0) = false := by rw [e]; rfl
    have k1 : (h.k == 1) = false := by rw [e]; rfl
    have k2 : (h.k == 2) = true := by rw [e]; rfl
    rw [e] at HQ
    clear e
    have S1 := Lib.hid fun W => rsign_any h.n W
    go_enter Tryz.func59, Tryz.ntmps59
    go_wp2_with (fail)
    rw [HW0.out]
    go_wp2_with (fail)
    refine (S1.out _).mono ?_
    rintro e9 w1 ⟨rfl, rfl⟩
    go_wp2_with (fail)
    go_ret
    exact ⟨by rw [← HQ.out]; rfl, HB0.out⟩
  · have k0 : (h.k == 0) = false := by rw [e]; rfl
    have k1 : (h.k == 1) = false := by rw [e]; rfl
    have k2 : (h.k == 2) = false := by rw [e]; rfl
    have k3 : (h.k == 3) = true := by rw [e]; rfl
    rw [e] at HQ
    clear e
    have hsg := rsigns_any h.t ht W0
    rw [signs_all] at hsg
    have hts : Lib.runeCount h.t ≤ 1000000 := Nat.le_trans (Lib.runeCountFrom_le _ _ _) ht
    obtain ⟨rc, hrc⟩ : ∃ rc, Lib.runeCount h.t = rc := ⟨_, rfl⟩
    obtain ⟨vd, hvd⟩ : ∃ vd, Lib.validD h.t.data.toList = vd := ⟨_, rfl⟩
    have HT : Hid (q = (vd && decide (rc ≤ 400))) := Lib.hid (by rw [← HQ.out, ← hvd, ← hrc]; rfl)
    rw [hrc, hvd] at hsg
    rw [hrc] at hts
    obtain ⟨p, hp⟩ : ∃ p, decide (rc ≤ 400) = p := ⟨_, rfl⟩
    have hpi : decide ((rc : Int) ≤ 400) = p := by rw [← hp, decide_eq_decide]; omega
    rw [hp] at HT
    cases vd
    · have SG := Lib.hid hsg
      simp only [Bool.false_eq_true, if_false, Option.getD_none, Option.isSome_none] at SG
      clear hsg hvd hrc
      go_enter Tryz.func59, Tryz.ntmps59
      go_wp2_with (fail)
      rw [HW0.out]
      go_wp2_with (fail)
      refine SG.out.mono ?_
      rintro e9 w1 ⟨⟨A, c, rfl⟩, hb1⟩
      have HB1 := Lib.hid (bel_trans (B := w.heap.size) HB0.out hb1)
      clear hb1
      go_wp2_with (fail)
      go_ret
      exact ⟨by rw [HT.out]; rfl, HB1.out⟩
    · have SG := Lib.hid hsg
      simp only [if_true, Option.getD_some, Option.isSome_some] at SG
      clear hsg hvd hrc
      cases p
      all_goals
        go_enter Tryz.func59, Tryz.ntmps59
        go_wp2_with (fail)
        rw [HW0.out]
        go_wp2_with (fail)
        refine SG.out.mono ?_
        rintro e9 w1 ⟨⟨A, c, rfl⟩, hb1⟩
        have HB1 := Lib.hid (bel_trans (B := w.heap.size) HB0.out hb1)
        clear hb1
        go_wp2_with (fail)
        go_ret
        exact ⟨by rw [HT.out]; rfl, HB1.out⟩
  · have k0 : (h.k == 0) = false := by rw [e]; rfl
    have k1 : (h.k == 1) = false := by rw [e]; rfl
    have k2 : (h.k == 2) = false := by rw [e]; rfl
    have k3 : (h.k == 3) = false := by rw [e]; rfl
    have k4 : (h.k == 4) = true := by rw [e]; rfl
    have N1 := Lib.hid (HN.out e)
    rw [e] at HQ
    clear e
    go_enter Tryz.func59, Tryz.ntmps59
    go_wp2_with (fail)
    rw [HW0.out]
    go_wp2_with (fail)
    refine N1.out.mono ?_
    rintro e9 w1 ⟨rfl, hb1⟩
    have HB1 := Lib.hid (bel_trans (B := w.heap.size) HB0.out hb1)
    clear hb1
    go_wp2_with (fail)
    go_ret
    exact ⟨by rw [← HQ.out]; rfl, HB1.out⟩
  · have k0 : (h.k == 0) = false := by rw [e]; rfl
    have k1 : (h.k == 1) = false := by rw [e]; rfl
    have k2 : (h.k == 2) = false := by rw [e]; rfl
    have k3 : (h.k == 3) = false := by rw [e]; rfl
    have k4 : (h.k == 4) = false := by rw [e]; rfl
    have k5 : (h.k == 5) = true := by rw [e]; rfl
    rw [e] at HQ
    clear e
    go_enter Tryz.func59, Tryz.ntmps59
    go_wp2_with (fail)
    rw [HW0.out]
    go_wp2_with (fail)
    go_ret
    exact ⟨by rw [← HQ.out]; rfl, HB0.out⟩
  · have k0 : (h.k == 0) = false := by rw [e]; rfl
    have k1 : (h.k == 1) = false := by rw [e]; rfl
    have k2 : (h.k == 2) = false := by rw [e]; rfl
    have k3 : (h.k == 3) = false := by rw [e]; rfl
    have k4 : (h.k == 4) = false := by rw [e]; rfl
    have k5 : (h.k == 5) = false := by rw [e]; rfl
    have k6 : (h.k == 6) = true := by rw [e]; rfl
    rw [e] at HQ
    clear e
    by_cases h2 : 2 ≤ n
    · have hBe := hB (by omega)
      obtain ⟨y0, y1, y2, y3, y4, y5, y6, y7⟩ := HC.out (by omega)
      have d1 : decide (2 ≤ (n : Int)) = true := decide_eq_true (by omega)
      have d3 : decide (2 ≤ n) = true := decide_eq_true h2
      have w1 : IntKind.i64.wrap ((n : Int) - 1) = ((n - 1 : Nat) : Int) := by rw [IntKind.wrap_i64]; omega
      have d2 : decide (((n - 1 : Nat) : Int) < n) = true := decide_eq_true (by omega)
      have hnm : n - 1 < n := by omega
      have HT : Hid (q = (hl.k != 5 && hl.k != 6)) := Lib.hid (by rw [← HQ.out, d3]; rfl)
      obtain ⟨p, hp⟩ : ∃ p, n - 1 = p := ⟨_, rfl⟩
      rw [hp] at w1 y0 y1 y2 y3 y4 y5 y6 y7 d2 hnm
      have y9 := y0
      rw [← HW0.out] at y9
      dsimp only [datO] at y9
      rw [hBe] at y9
      clear hB hp x0 x1 x2 x3 x4 x5 x6 x7 y0 y1 y2 y3 y4 y5 y6 y7
      have HBW : Hid (Below w.heap.size w (w.alloc (datO h n))) := Lib.hid ((Below.refl _ w).alloc (Nat.le_refl _) _)
      dsimp only [datO] at HBW
      rw [hBe] at HBW
      go_enter Tryz.func59, Tryz.ntmps59
      go_wp2_with (fail)
      all_goals
        go_ret
        exact ⟨by rw [HT.out]; first | rfl | simp [*], HBW.out⟩
    · have d1 : decide (2 ≤ (n : Int)) = false := decide_eq_false (by omega)
      have d3 : decide (2 ≤ n) = false := decide_eq_false h2
      rw [d3] at HQ
      clear hB
      go_enter Tryz.func59, Tryz.ntmps59
      go_wp2_with (fail)
      rw [HW0.out]
      go_wp2_with (fail)
      go_ret
      exact ⟨by rw [← HQ.out]; rfl, HB0.out⟩
  · have k0 : (h.k == 0) = false := by rw [e]; rfl
    have k1 : (h.k == 1) = false := by rw [e]; rfl
    have k2 : (h.k == 2) = false := by rw [e]; rfl
    have k3 : (h.k == 3) = false := by rw [e]; rfl
    have k4 : (h.k == 4) = false := by rw [e]; rfl
    have k5 : (h.k == 5) = false := by rw [e]; rfl
    have k6 : (h.k == 6) = false := by rw [e]; rfl
    have k7 : (h.k == 7) = true := by rw [e]; rfl
    rw [e] at HQ
    clear e
    obtain ⟨p, hp⟩ : ∃ p, decide (n ≤ 200) = p := ⟨_, rfl⟩
    have hpi : decide ((n : Int) ≤ 200) = p := by rw [← hp, decide_eq_decide]; omega
    rw [hp] at HQ
    go_enter Tryz.func59, Tryz.ntmps59
    go_wp2_with (fail)
    rw [HW0.out]
    go_wp2_with (fail)
    go_ret
    exact ⟨by rw [← HQ.out]; rfl, HB0.out⟩
  · have HF : Hid (q = false) := Lib.hid (by
      have j0 := k0; have j1 := k1; have j2 := k2; have j3 := k3; have j4 := k4; have j5 := k5; have j6 := k6; have j7 := k7
      rw [beq_eq_false_iff_ne] at j0 j1 j2 j3 j4 j5 j6 j7
      rw [← HQ.out, if_neg j0, if_neg j1, if_neg j2, if_neg j3, if_neg j4, if_neg j5, if_neg j6, if_neg j7])
    go_enter Tryz.func59, Tryz.ntmps59
    go_wp2_with (fail)
    rw [HW0.out]
    go_wp2_with (fail)
    go_ret
    exact ⟨by rw [HF.out]; rfl, HB0.out⟩

end LM
end Go.Proofs.YtnpmfailpgbggaaGreatDoor

namespace Go.Proofs.YtnpmfailpgbggaaGreatDoor
open Go Go.RowKit
namespace LM
set_option linter.unusedVariables false
attribute [local go_sem] run_store_flt

/-- texts not too long -/
def TxF : Fr → Prop
  | .nil => True
  | .cons h k r => h.t.size ≤ 1000000 ∧ TxF k ∧ TxF r
theorem TxF.drop : ∀ (j : Nat) {fr : Fr}, TxF fr → TxF (fr.drop j) := by
  intro j
  induction j with
  | zero => intro fr h; exact h
  | succ j ih =>
    intro fr h
    cases fr with
    | nil => exact h
    | cons hh k r => exact ih h.2.2
abbrev zHd : Hd := ⟨0, 0, false, 0, false, none, [], 0, ⟨#[]⟩, none, 0⟩
theorem numS_zero (h : Hd) : numS h zHd = zeroN h := by
  unfold numS zeroN
  cases h.fl <;> rfl

set_option maxRecDepth 100000 in
set_option maxHeartbeats 16000000 in
theorem rgood_any (nm : ByteArray → Bool) : ∀ (m : Nat) (kids : Fr), kids.size < m → kids.Ok → TxF kids → ∀ (h : Hd) (left deep : Int) (w : World), DatV w h kids → h.Ok kids.len → h.t.size ≤ 1000000 →
    (∀ t, (h.k = 4 ∧ t = h.t) ∨ SymIn t kids → CallB w 92 #[.string t] (.bool (nm t))) → -1 ≤ left → left ≤ 3000 → 0 ≤ deep → deep ≤ 1000 →
    Calls Tryz.prog 30 #[datA h kids.len, .int .i64 left, .int .i64 deep] w fun e w' => e = .returned (.int .i64 (rrD nm left deep h kids)) ∧ Below w.heap.size w w' := by
  intro m
  induction m with
  | zero => intro kids h; omega
  | succ m ih =>
    intro kids hsz hok htx h left deep w hd hho hht hnm hl0 hl1 hd0 hd1
    obtain ⟨W0, hW0, hb0, ho, hs0⟩ := dat_block w h kids.len
    obtain ⟨b, off, hB, hF⟩ := (hd.below hb0).items
    obtain ⟨RES, hRES⟩ : ∃ RES, rrD nm left deep h kids = RES := ⟨_, rfl⟩
    rw [hRES]
    obtain ⟨rn, hrn⟩ : ∃ q, rightN h.fl h.f h.s h.xs = q := ⟨_, rfl⟩
    obtain ⟨on, hon⟩ : ∃ q, ronlyB h kids.len (zeroN h) = q := ⟨_, rfl⟩
    obtain ⟨kn, hkn⟩ : ∃ q, rkindB nm h kids.len (lastK kids) = q := ⟨_, rfl⟩
    have hdoc : docB nm h kids.len (lastK kids) = (rn && on && kn) := by unfold docB; rw [hrn, hon, hkn]
    unfold rrD at hRES
    rw [hdoc] at hRES
    have HRES := Lib.hid hRES
    have RC := Lib.hid fun W (hW : Below w.heap.size w W) => rnright_any h.fl h.f h.s h.A h.c h.xs W (hd.xs.below hW) hho.lm hho.c.1 hho.c.2 hho.nA
    rw [hrn] at RC
    have OC : Hid (rn = true → ∀ W, Below w.heap.size w W → Calls Tryz.prog 58 #[datA h kids.len] W fun e w' => e = .returned (.bool on) ∧ Below W.heap.size W w') := Lib.hid fun hr W hW => by
      have hr2 : rightN h.fl h.f h.s h.xs = true := by rw [hrn]; exact hr
      have hz : rightN zHd.fl zHd.f zHd.s zHd.xs = true := by decide
      have ht := rtsame_any (w := W) (h := h) (h' := zHd) (numOk_of hr2 hho.f (hd.xs.below hW) hho.lm hho.c.1 hho.c.2) (numOk_of hz (by decide) Rd.nil Lm.nil (Nat.le_refl _) (by decide)) hr2 hz (hd.xs.below hW) Rd.nil hho.lm Lm.nil hho.c ⟨Nat.le_refl _, by decide⟩
      rw [numS_zero] at ht
      rw [← hon]
      exact ronly_any h kids.len (zeroN h) W ht
    have KC : Hid (∀ W, Below w.heap.size w W → Calls Tryz.prog 59 #[datA h kids.len] W fun e w' => e = .returned (.bool kn) ∧ Below W.heap.size W w') := Lib.hid fun W hW => by
      obtain ⟨b', off', hB', hF'⟩ := (hd.below hW).items
      rw [← hkn]
      rcases Nat.eq_zero_or_pos kids.len with h0 | hp
      · have hk0 : kids = .nil := by
          cases kids with
          | nil => rfl
          | cons x y z => have h3 : z.len + 1 = 0 := h0; omega
        have hx := rkind_any nm h kids.len b' off' h 0 W (Nat.le_trans hho.cap.1 hho.cap.2) (fun V hV => rnright_any h.fl h.f h.s h.A h.c h.xs V ((hd.xs.below hW).below hV) hho.lm hho.c.1 hho.c.2 hho.nA) (fun e => callB_keep (hnm _ (.inl ⟨e, rfl⟩)) hW) hht hB' (fun hp => by omega)
        have he : rkindB nm h kids.len (lastK kids) = rkindB nm h kids.len h.k := by
          unfold rkindB
          rw [h0]
          simp
        rw [he]
        exact hx
      · obtain ⟨hh, k, e1, e2⟩ := last_item kids hp
        rw [← e2]
        exact rkind_any nm h kids.len b' off' hh k.len W (Nat.le_trans hho.cap.1 hho.cap.2) (fun V hV => rnright_any h.fl h.f h.s h.A h.c h.xs V ((hd.xs.below hW).below hV) hho.lm hho.c.1 hho.c.2 hho.nA) (fun e => callB_keep (hnm _ (.inl ⟨e, rfl⟩)) hW) hht hB' (fun _ => (counted_item hF' e1).2.1)
    have hkl : kids.len ≤ 9223372036854775807 := Nat.le_trans hho.cap.1 hho.cap.2
    have HW0 := Lib.hid hW0
    have HB0 := Lib.hid hb0
    have HF := Lib.hid hF
    have HB := Lib.hid hB
    have HOK := Lib.hid hok
    have HTX := Lib.hid htx
    have HNM := Lib.hid hnm
    have IH := Lib.hid ih
    have HSZ := Lib.hid hsz
    have BLK : Hid (∀ W, Below W0.heap.size W0 W → C8 W w.heap.size 0 h kids.len) := Lib.hid fun W hW => C8.of_block ((hW.block _ hs0).trans ho)
    obtain ⟨x0, x1, x2, x3, x4, x5, x6, x7⟩ := C8.of_block ho
    clear hW0 hb0 hF hB hok htx hnm ih hsz hd ho hRES hrn hon hkn hdoc hht hs0
    have hc : (left < 1) ∨ (¬ left < 1 ∧ 60 < deep) ∨ (¬ left < 1 ∧ ¬ 60 < deep ∧ 4 < h.k ∧ 59 < deep) ∨ (¬ left < 1 ∧ ¬ 60 < deep ∧ ¬ (4 < h.k ∧ 59 < deep)) := by omega
    rcases hc with c1 | ⟨c1, c2⟩ | ⟨c1, c2, c3, c4⟩ | ⟨c1, c2, c34⟩
    · have d1 : decide (left < 1) = true := decide_eq_true c1
      have HR : Hid (RES = -1) := Lib.hid (by rw [← HRES.out, if_pos (.inl (.inl c1))])
      go_enter Tryz.func30, Tryz.ntmps30
      go_wp2_with (fail)
      rw [HW0.out]
      go_wp2_with (fail)
      go_ret
      exact ⟨by rw [HR.out]; rfl, HB0.out⟩
    · have d1 : decide (left < 1) = false := decide_eq_false c1
      have d2 : decide (60 < deep) = true := decide_eq_true c2
      have HR : Hid (RES = -1) := Lib.hid (by rw [← HRES.out, if_pos (.inl (.inr (.inl c2)))])
      go_enter Tryz.func30, Tryz.ntmps30
      go_wp2_with (fail)
      rw [HW0.out]
      go_wp2_with (fail)
      go_ret
      exact ⟨by rw [HR.out]; rfl, HB0.out⟩
    · have d1 : decide (left < 1) = false := decide_eq_false c1
      have d2 : decide (60 < deep) = false := decide_eq_false c2
      have d3 : decide (4 < h.k) = true := decide_eq_true c3
      have d4 : decide (59 < deep) = true := decide_eq_true c4
      have HR : Hid (RES = -1) := Lib.hid (by rw [← HRES.out, if_pos (.inl (.inr (.inr ⟨c3, c4⟩)))])
      go_enter Tryz.func30, Tryz.ntmps30
      go_wp2_with (fail)
      rw [HW0.out]
      go_wp2_with (fail)
      go_ret
      exact ⟨by rw [HR.out]; rfl, HB0.out⟩
    · have d1 : decide (left < 1) = false := decide_eq_false c1
      have d2 : decide (60 < deep) = false := decide_eq_false c2
      obtain ⟨q3, d3⟩ : ∃ q, decide (4 < h.k) = q := ⟨_, rfl⟩
      obtain ⟨q4, d4⟩ : ∃ q, decide (59 < deep) = q := ⟨_, rfl⟩
      have h34 : (q3 = false) ∨ (q3 = true ∧ q4 = false) := by
        cases q3
        · exact .inl rfl
        · refine .inr ⟨rfl, ?_⟩
          rw [← d4]
          exact decide_eq_false fun h => c34 ⟨of_decide_eq_true d3, h⟩
      have HN : Hid ((rn && on && kn) = false → RES = -1) := Lib.hid fun e => by rw [← HRES.out, if_pos (.inr e)]
      have HY : Hid ((rn && on && kn) = true → RES = if rrF nm (left - 1) (deep + 1) kids < 0 then -1 else rrF nm (left - 1) (deep + 1) kids) := Lib.hid fun e => by
        rw [← HRES.out, if_neg]
        rintro (h1 | h1)
        · omega
        · rw [e] at h1; cases h1
      have w1 : IntKind.i64.wrap (left - 1) = left - 1 := by rw [IntKind.wrap_i64]; omega
      have w2 : IntKind.i64.wrap (deep + 1) = deep + 1 := by rw [IntKind.wrap_i64]; omega
      clear c34 HRES
      rcases h34 with rfl | ⟨rfl, rfl⟩
      all_goals
        go_enter Tryz.func30, Tryz.ntmps30
        go_wp2_with (fail)
        rw [HW0.out]
        go_wp2_with (fail)
        refine (RC.out _ HB0.out).mono ?_
        rintro e9 v1 ⟨rfl, hb1⟩
        have HB1 := Lib.hid hb1
        clear x0 x1 x2 x3 x4 x5 x6 x7
        obtain ⟨x0, x1, x2, x3, x4, x5, x6, x7⟩ := BLK.out _ hb1
        clear hb1
        cases rn
        · have HN2 := Lib.hid (HN.out rfl)
          go_wp2_with (fail)
          go_ret
          exact ⟨by rw [HN2.out]; rfl, bel_trans (B := w.heap.size) HB0.out HB1.out⟩
        have OC2 := Lib.hid (OC.out rfl)
        clear OC
        go_wp2_with (fail)
        refine (OC2.out _ (bel_trans (B := w.heap.size) HB0.out HB1.out)).mono ?_
        rintro e9 v2 ⟨rfl, hb2⟩
        have HB2 := Lib.hid (bel_trans (B := W0.heap.size) HB1.out hb2)
        clear x0 x1 x2 x3 x4 x5 x6 x7
        obtain ⟨x0, x1, x2, x3, x4, x5, x6, x7⟩ := BLK.out _ HB2.out
        clear hb2
        cases on
        · have HN2 := Lib.hid (HN.out rfl)
          go_wp2_with (fail)
          go_ret
          exact ⟨by rw [HN2.out]; rfl, bel_trans (B := w.heap.size) HB0.out HB2.out⟩
        go_wp2_with (fail)
        refine (KC.out _ (bel_trans (B := w.heap.size) HB0.out HB2.out)).mono ?_
        rintro e9 v3 ⟨rfl, hb3⟩
        have HB3 := Lib.hid (bel_trans (B := W0.heap.size) HB2.out hb3)
        clear x0 x1 x2 x3 x4 x5 x6 x7
        obtain ⟨x0, x1, x2, x3, x4, x5, x6, x7⟩ := BLK.out _ HB3.out
        clear hb3
        cases kn
        · have HN2 := Lib.hid (HN.out rfl)
          go_wp2_with (fail)
          go_ret
          exact ⟨by rw [HN2.out]; rfl, bel_trans (B := w.heap.size) HB0.out HB3.out⟩
        have HR2 := Lib.hid (HY.out rfl)
        clear HN HY
        go_wp2_with (fail)
        go_loopg [1, 8, 45] kids.len (fun kk n _ i wr => Below W0.heap.size W0 wr ∧ ∃ j : Nat, j ≤ kids.len ∧ kk = kids.len - j ∧ i = .int .i64 (j : Int) ∧ ∃ a : Int, n = .int .i64 a ∧ rrF nm a (deep + 1) (kids.drop j) = rrF nm (left - 1) (deep + 1) kids ∧ 0 ≤ a ∧ a ≤ 3000)
        case atStart => exact ⟨HB3.out, 0, Nat.zero_le _, rfl, rfl, left - 1, rfl, rfl, by omega, by omega⟩
        case round =>
          obtain ⟨hbr, j, hj, rfl, rfl, a, rfl, hcn, ha1, ha2⟩ := hrel
          have HBR := Lib.hid hbr
          have HCN := Lib.hid hcn
          clear hbr hcn x0 x1 x2 x3 x4 x5 x6 x7
          by_cases hjl : j < kids.len
          · obtain ⟨hh, k, r, hdr, hdr1⟩ := Fr.cons_of_lt hjl
            have hBe := HB.out (by omega)
            rw [hBe]
            obtain ⟨hbl, C, D⟩ := counted_item (FAt.below HBR.out _ _ _ HF.out) hdr
            have hks := size_item hdr
            have hko := HOK.out.drop j
            have hkt := TxF.drop j HTX.out
            rw [hdr] at hko hkt
            have hcn := HCN.out
            rw [hdr, rr_cons] at hcn
            obtain ⟨v, hv⟩ : ∃ v, rrD nm a (deep + 1) hh k = v := ⟨_, rfl⟩
            have hvb := rrD_bd nm hh k a (deep + 1) (by omega)
            rw [hv] at hcn hvb
            have CK := Lib.hid fun W (hW : Below wr.heap.size wr W) => IH.out k (by have := HSZ.out; omega) hko.2.1 hkt.2.1 hh a (deep + 1) W (D.below hW) hko.1 hkt.1 (fun t ht => callB_keep (HNM.out t (.inr (SymIn.drop j (by rw [hdr]; rcases ht with h1 | h1; exact .inl h1; exact .inr (.inl h1))))) (bel_trans (B := w.heap.size) HB0.out (bel_trans (B := W0.heap.size) HBR.out hW))) (by omega) (by omega) (by omega) (by omega)
            rw [hv] at CK
            have HCN2 := Lib.hid hcn
            have HDR := Lib.hid hdr1
            obtain ⟨x0, x1, x2, x3, x4, x5, x6, x7⟩ := C
            have hba : Below wr.heap.size wr (wr.alloc (.cells #[.int .i64 hh.k, .int .i64 hh.n, .bool hh.fl, .float .f64 hh.f, .bool hh.s, .slice hh.A hh.xs.length hh.c, .string hh.t, .slice hh.B k.len hh.cap] 30)) := (Below.refl _ wr).alloc (Nat.le_refl _) _
            have HBA := Lib.hid hba
            clear hcn hdr hdr1 hks hko hkt D hv hba
            go_wp2_with (fail)
            refine (CK.out _ HBA.out).mono ?_
            rintro e9 v4 ⟨rfl, hb2⟩
            have HB4 := Lib.hid (bel_trans (B := W0.heap.size) HBR.out (bel_trans (B := wr.heap.size) HBA.out hb2))
            clear hb2 x0 x1 x2 x3 x4 x5 x6 x7
            by_cases hv0 : v < 0
            · have d9 : decide (v < 0) = true := decide_eq_true hv0
              have HRR := Lib.hid (show rrF nm (left - 1) (deep + 1) kids = -1 by rw [← HCN2.out, if_pos hv0])
              clear hv0
              go_wp2_with (fail)
              go_ret
              refine ⟨?_, bel_trans (B := w.heap.size) HB0.out HB4.out⟩
              have h9 : RES = -1 := by rw [HR2.out, HRR.out]; rfl
              rw [h9]
              rfl
            · have d9 : decide (v < 0) = false := decide_eq_false hv0
              have HRR := Lib.hid (show rrF nm v (deep + 1) (kids.drop (j + 1)) = rrF nm (left - 1) (deep + 1) kids by rw [HDR.out, ← HCN2.out, if_neg hv0])
              go_wp2_with (fail)
              rw [← hBe]
              go_roundg (kids.len - (j + 1))
              case measure => omega
              case rel => exact ⟨HB4.out, j + 1, by omega, rfl, by go_num, v, rfl, HRR.out, by omega, by omega⟩
          · have hje : j = kids.len := by omega
            subst hje
            have hcn := HCN.out
            have hnil : kids.drop kids.len = .nil := by
              have h1 := Fr.len_drop kids.len kids
              cases h2 : kids.drop kids.len with
              | nil => rfl
              | cons x y z => rw [h2] at h1; have h3 : z.len + 1 = kids.len - kids.len := h1; omega
            rw [hnil] at hcn
            have HRR := Lib.hid (show rrF nm (left - 1) (deep + 1) kids = a from hcn.symm)
            clear hcn hnil
            go_wp2_with (fail)
            go_ret
            refine ⟨?_, bel_trans (B := w.heap.size) HB0.out HBR.out⟩
            have h9 : RES = a := by rw [HR2.out, HRR.out, if_neg (by omega)]
            rw [h9]
            rfl

set_option maxRecDepth 100000 in
set_option maxHeartbeats 4000000 in
/-- the document's Right is the program's -/
theorem rdRight_any (nm : ByteArray → Bool) (kids : Fr) (hok : kids.Ok) (htx : TxF kids) (h : Hd) (w : World) (hd : DatV w h kids) (hho : h.Ok kids.len) (hht : h.t.size ≤ 1000000)
    (hnm : ∀ t, (h.k = 4 ∧ t = h.t) ∨ SymIn t kids → CallB w 92 #[.string t] (.bool (nm t))) :
    Calls Tryz.prog 11 #[datA h kids.len] w fun e w' => e = .returned (.bool (rightD nm h kids)) ∧ Below w.heap.size w w' := by
  obtain ⟨W0, hW0, hb0, ho, hs0⟩ := dat_block w h kids.len
  have R1 := Lib.hid (rgood_any nm (kids.size + 1) kids (by omega) hok htx h 3000 0 W0 (hd.below hb0) hho hht (fun t ht => callB_keep (hnm t ht) hb0) (by decide) (by decide) (by decide) (by decide))
  rw [← rrD_right nm h kids hho.lm (LmF.of_ok hok)]
  obtain ⟨v, hv⟩ : ∃ v, rrD nm 3000 0 h kids = v := ⟨_, rfl⟩
  rw [hv] at R1 ⊢
  obtain ⟨q, hq⟩ : ∃ q, decide (0 ≤ v) = q := ⟨_, rfl⟩
  rw [hq]
  have HW0 := Lib.hid hW0
  have HB0 := Lib.hid hb0
  obtain ⟨x0, x1, x2, x3, x4, x5, x6, x7⟩ := C8.of_block ho
  clear hW0 hb0 ho hs0 hv hd hho hht hnm hok htx
  go_enter Tryz.func11, Tryz.ntmps11
  go_wp2_with (fail)
  rw [HW0.out]
  go_wp2_with (fail)
  refine R1.out.mono ?_
  rintro e9 w1 ⟨rfl, hb1⟩
  have HB1 := Lib.hid (bel_trans (B := w.heap.size) HB0.out hb1)
  clear hb1
  go_wp2_with (fail)
  go_ret
  exact ⟨rfl, HB1.out⟩
end LM
end Go.Proofs.YtnpmfailpgbggaaGreatDoor
