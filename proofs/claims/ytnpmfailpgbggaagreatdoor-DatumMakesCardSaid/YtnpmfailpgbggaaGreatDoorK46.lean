/- Walks of the library's decimals: a decimal of a text. -/
import Derived.Test.YtnpmfailpgbggaaGreatDoorK45
import Derived.Test.YtnpmfailpgbggaaGreatDoorK01
import Derived.StillTailTactics
namespace Go.Proofs.YtnpmfailpgbggaaGreatDoor
open Go Go.RowKit
namespace LM
set_option linter.unusedVariables false

def zeroDec : Dec := ⟨fun _ => 0, 0, 0, false, false⟩
def negOf (B : Nat → Nat) (a : Nat) : Bool := decide (a = 1 ∧ B 0 = 45)

theorem NumQ.neg_sign {B : Nat → Nat} {z a m b : Nat} (h : NumQ B z a m b) : (a = 0 ∧ negOf B a = false ∧ B 0 ≠ 43 ∧ B 0 ≠ 45) ∨ (a = 1 ∧ B 0 = 43 ∧ negOf B a = false) ∨ (a = 1 ∧ B 0 = 45 ∧ negOf B a = true) := by
  have h1 := h.a1
  unfold negOf
  by_cases h0 : a = 0
  · have := h.sig0 h0
    unfold dgc at this
    refine .inl ⟨h0, by simp [h0], by omega, by omega⟩
  · have ha : a = 1 := by omega
    rcases h.sig ha with e | e
    · exact .inr (.inl ⟨ha, e, by simp [e]⟩)
    · exact .inr (.inr ⟨ha, e, by simp [e, ha]⟩)

set_option maxRecDepth 100000 in
set_option maxHeartbeats 2000000 in
theorem low_any (c : Nat) (hc : dgc c ∨ c = 46 ∨ c = 101 ∨ c = 69) (w : World) : Calls Tryz.prog 223 #[.int .u8 (c : Int)] w fun e w' => e = .returned (.int .u8 ((if c = 69 then 101 else c : Nat) : Int)) ∧ w = w' := by
  obtain ⟨y, hy⟩ : ∃ y, (if c = 69 then 101 else c : Nat) = y := ⟨_, rfl⟩
  rw [hy]
  have hb : bits .or .u8 (c : Int) 32 = (y : Int) := by
    rw [← hy]
    unfold dgc at hc
    obtain rfl | rfl | rfl | rfl | rfl | rfl | rfl | rfl | rfl | rfl | rfl | rfl | rfl : c = 48 ∨ c = 49 ∨ c = 50 ∨ c = 51 ∨ c = 52 ∨ c = 53 ∨ c = 54 ∨ c = 55 ∨ c = 56 ∨ c = 57 ∨ c = 46 ∨ c = 101 ∨ c = 69 := by omega
    all_goals decide
  clear hy hc
  go_enter Tryz.func223, Tryz.ntmps223
  go_wp2
  go_ret
  exact ⟨rfl, rfl⟩

set_option maxRecDepth 1000000 in
set_option maxHeartbeats 8000000 in
theorem set_any (g : Nat) (s : ByteArray) (a m b : Nat) (w : World) (hD : DecR w g zeroDec) (hz : s.size ≤ 800) (hN : NumQ (byF s) s.size a m b) :
    Calls Tryz.prog 261 #[.pointer (some ⟨g, 0, none⟩), .string s] w fun e w' => e = .returned (.bool true) ∧ DW w g (setD (byF s) (negOf (byF s) a) s.size a m b) w' := by
  have hby := byF_at s
  obtain ⟨B, hB⟩ : ∃ B, byF s = B := ⟨_, rfl⟩
  rw [hB] at hN hby ⊢
  obtain ⟨R, hR⟩ : ∃ R, setD B (negOf B a) s.size a m b = R := ⟨_, rfl⟩
  rw [hR]
  obtain ⟨ng, hng⟩ : ∃ n, negOf B a = n := ⟨_, rfl⟩
  rw [hng] at hR
  have ham := hN.am
  have hmz := hN.mz
  have ha1 := hN.a1
  have h1z : 0 < s.size := by omega
  have HN := Lib.hid hN
  have HBY := Lib.hid hby
  have HR := Lib.hid hR
  have HSG := Lib.hid hN.neg_sign
  have HNG := Lib.hid hng
  have y3 := hD.frozen 802
  have y4 := hD.frozen 803
  have x3 := hD.negc
  have x4 := hD.trc
  have HD2 := Lib.hid ((hD.setNeg false).setTr false)
  have HG2 := Lib.hid (below_nd (below_nd (only_refl w (some g)) 802 (.bool false)) 803 (.bool false))
  have hb0 := hby 0 h1z
  have hne : ¬ s = ByteArray.empty := fun e => by rw [e] at h1z; exact absurd h1z (by decide)
  clear hN hby hR hB hng hD
  go_enter Tryz.func261, Tryz.ntmps261
  go_upto_block 0 with (fail)
  go_cut [5] (fun i wx => i = .int .i64 (a : Int) ∧ Hid (DecR wx g (stN B ng a 0).d) ∧ Hid (w.grownBy wx (some g)))
  case first =>
    have hsg := HSG.out
    rw [HNG.out] at hsg
    rcases hsg with ⟨rfl, rfl, h43, h45⟩ | ⟨rfl, h43, rfl⟩ | ⟨rfl, h45, rfl⟩
    · have d1 : ((B 0 : Int) == 43) = false := by simpa using (by omega : ¬ (B 0 : Int) = 43)
      have d2 : ((B 0 : Int) == 45) = false := by simpa using (by omega : ¬ (B 0 : Int) = 45)
      go_wp2_with (fail)
      go_meet
      case rel => exact ⟨rfl, HD2, HG2⟩
    · have d1 : ((B 0 : Int) == 43) = true := by rw [h43]; rfl
      clear h43
      go_wp2_with (fail)
      go_meet
      case rel => exact ⟨rfl, HD2, HG2⟩
    · have d1 : ((B 0 : Int) == 43) = false := by rw [h45]; rfl
      have d2 : ((B 0 : Int) == 45) = true := by rw [h45]; rfl
      clear h45
      have z3 := HD2.out.frozen 802
      go_wp2_with (fail)
      go_meet
      case rel => exact ⟨rfl, Lib.hid (HD2.out.setNeg true), Lib.hid (below_nd HG2.out _ _)⟩
  case rest => as_aux_lemma =>
    obtain ⟨rfl, hd0, hg0⟩ := hcut
    clear x3 x4 y3 y4 HD2 HG2 hb0
    go_upto_block 1 with (fail)
    go_cut [5, 6, 7] (fun i sd sg wx => i = .int .i64 (m : Int) ∧ sd = .bool (rfN B a (m - a)).dot ∧ sg = .bool true ∧ Hid (DecR wx g (stN B ng a (m - a)).d) ∧ Hid (w.grownBy wx (some g)))
    case first => as_aux_lemma =>
      go_wp2_with (fail)
      go_loopg [5, 6, 7] (m - a) (fun qq i sd sg wr => ∃ (j x : Nat) (d1 d2 : Bool), m - a - j = qq ∧ j ≤ m - a ∧ Hid (x = a + j) ∧ a ≤ x ∧ x ≤ m ∧ i = .int .i64 (x : Int) ∧ sd = .bool d1 ∧ sg = .bool d2 ∧ Hid ((rfN B a j).dot = d1) ∧ Hid ((rfN B a j).dig = d2) ∧ Hid (DecR wr g (stN B ng a j).d) ∧ Hid (w.grownBy wr (some g)))
      case atStart => exact ⟨0, a, false, false, rfl, Nat.zero_le _, Lib.hid rfl, Nat.le_refl _, Nat.le_of_lt ham, rfl, rfl, rfl, Lib.hid rfl, Lib.hid rfl, hd0, hg0⟩
      case round =>
        obtain ⟨j, x, d1, d2, rfl, hj, hx, hax, hxm, rfl, rfl, rfl, he1, he2, hd, hg⟩ := hrel
        clear hd0 hg0
        have ok := stN_ok HN.out ng j (by have := hx.out; omega)
        have ok2 := rfN_ok HN.out j (by have := hx.out; omega)
        by_cases hlt : x < m
        · have hxz : x < s.size := by omega
          have hb := HBY.out x hxz
          have hcl := HN.out.man x hax hlt
          have HST : Hid (stN B ng a (j + 1) = stStep (stN B ng a j) (B x)) := Lib.hid (by rw [stN, ← hx.out])
          have HRF : Hid (rfN B a (j + 1) = rfStep (rfN B a j) (B x)) := Lib.hid (by rw [rfN, ← hx.out])
          obtain ⟨c, hc⟩ : ∃ c, B x = c := ⟨_, rfl⟩
          rw [hc] at hb hcl HST HRF
          obtain ⟨S, hS⟩ : ∃ S, stN B ng a j = S := ⟨_, rfl⟩
          rw [hS] at hd ok HST
          have hnl := ok.le
          have hdl := ok2.lo
          have hdh := ok2.hi
          rw [← ok.dp] at hdl hdh
          have c0 := hd.out.ndc
          have c1 := hd.out.dpc
          have z0 := hd.out.frozen 800
          have z1 := hd.out.frozen 801
          have d95 : ((c : Int) == 95) = false := by unfold dgc at hcl; simpa using (by omega : ¬ (c : Int) = 95)
          have hjb : j ≤ 800 := by omega
          have hjm : j < m - a := by have := hx.out; omega
          have HX1 := Lib.hid (show x + 1 = a + (j + 1) by have := hx.out; omega)
          have HC := Lib.hid hc
          have HOK := Lib.hid ok
          clear hc hS ok ok2
          by_cases h46 : c = 46
          · have hdot := HN.out.nodot j (by have := hx.out; omega) (by rw [← hx.out, HC.out]; exact h46)
            rw [he1.out] at hdot
            subst hdot
            subst h46
            have HST2 := Lib.hid (show stStep S 46 = { S with dot := true, d := { S.d with dp := S.d.nd } } from rfl)
            have HDN := Lib.hid (hd.out.setDp (S.d.nd : Int))
            clear hcl
            go_wp2_with (fail)
            go_roundg (m - a - (j + 1))
            case measure => omega
            case rel => exact ⟨j + 1, x + 1, true, d2, rfl, by omega, HX1, by omega, by omega, by go_num, rfl, rfl, Lib.hid (by rw [HRF.out]; rfl), Lib.hid (by rw [HRF.out]; exact he2.out), Lib.hid (by rw [HST.out]; exact HDN.out), Lib.hid (below_nd hg.out _ _)⟩
          · have hdg : 48 ≤ c ∧ c ≤ 57 := hcl.elim id fun h => absurd h h46
            obtain ⟨h48, h57⟩ := hdg
            have d46 : ((c : Int) == 46) = false := by simpa using (by omega : ¬ (c : Int) = 46)
            clear hcl
            by_cases hz0 : c = 48 ∧ S.d.nd = 0
            · obtain ⟨rfl, hn0⟩ := hz0
              rw [hn0] at c0
              have HST2 := Lib.hid (show stStep S 48 = { S with dig := true, d := { S.d with dp := S.d.dp - 1 } } by unfold stStep; rw [if_neg (by decide), if_pos ⟨rfl, hn0⟩])
              have HRF2 : Hid ((rfStep (rfN B a j) 48).dot = (rfN B a j).dot ∧ (rfStep (rfN B a j) 48).dig = true) := Lib.hid (by
                have := HOK.out.nd
                unfold rfStep
                rw [if_neg (by decide), if_pos ⟨rfl, by omega⟩]
                exact ⟨rfl, rfl⟩)
              obtain ⟨dp1, hdp1⟩ : ∃ z, S.d.dp - 1 = z := ⟨_, rfl⟩
              have e1 : IntKind.i64.wrap (S.d.dp - 1) = dp1 := by rw [IntKind.wrap_i64]; omega
              rw [hdp1] at HST2
              have HDN := Lib.hid (hd.out.setDp dp1)
              clear hdp1 hn0
              go_wp2_with (fail)
              go_roundg (m - a - (j + 1))
              case measure => omega
              case rel => exact ⟨j + 1, x + 1, d1, true, rfl, by omega, HX1, by omega, by omega, by go_num, rfl, rfl, Lib.hid (by rw [HRF.out, HRF2.out.1]; exact he1.out), Lib.hid (by rw [HRF.out]; exact HRF2.out.2), Lib.hid (by rw [HST.out, HST2.out]; exact HDN.out), Lib.hid (below_nd hg.out _ _)⟩
            · have HST2 := Lib.hid (show stStep S c = { S with dig := true, d := { S.d with f := upd S.d.f S.d.nd c, nd := S.d.nd + 1 } } by unfold stStep; rw [if_neg h46, if_neg hz0])
              have HRF2 : Hid ((rfStep (rfN B a j) c).dot = (rfN B a j).dot ∧ (rfStep (rfN B a j) c).dig = true) := Lib.hid (by
                have h5 := HOK.out.nd
                unfold rfStep
                rw [if_neg h46, if_neg (by rw [← h5]; exact hz0)]
                split <;> exact ⟨rfl, rfl⟩)
              obtain ⟨N, hN⟩ : ∃ N, S.d.nd = N := ⟨_, rfl⟩
              have hN8 : N < 800 := by omega
              have HN8 := Lib.hid hN
              have hd3 := hd.out.drew.setByte N hN8 c
              have HDN := Lib.hid (hd3.setNd (N + 1))
              have cN := hd.out.byte N hN8
              have zN := hd.out.frozen N
              have t0 := hd3.ndc
              rw [hN] at hz0 c0 HST2 hnl
              clear hd3 hN t0
              have hcase : (c = 48 ∧ 1 ≤ N) ∨ c ≠ 48 := by omega
              clear hz0
              rcases hcase with ⟨rfl, hN1⟩ | hc48
              · have dn : ((N : Int) == 0) = false := by simpa using (by omega : ¬ (N : Int) = 0)
                go_wp2_with (fail)
                go_still_tail 11, (by kernel_rfl)
                go_wp2_with (fail)
                go_roundg (m - a - (j + 1))
                case measure => omega
                case rel => exact ⟨j + 1, x + 1, d1, true, rfl, by omega, HX1, by omega, by omega, by go_num, rfl, rfl, Lib.hid (by rw [HRF.out, HRF2.out.1]; exact he1.out), Lib.hid (by rw [HRF.out]; exact HRF2.out.2), Lib.hid (by rw [HST.out, HST2.out]; exact HDN.out), Lib.hid (below_nd (below_nd (only_drew hg.out) _ _) _ _)⟩
              · have d48 : ((c : Int) == 48) = false := by simpa using (by omega : ¬ (c : Int) = 48)
                go_wp2_with (fail)
                go_still_tail 11, (by kernel_rfl)
                go_wp2_with (fail)
                go_roundg (m - a - (j + 1))
                case measure => omega
                case rel => exact ⟨j + 1, x + 1, d1, true, rfl, by omega, HX1, by omega, by omega, by go_num, rfl, rfl, Lib.hid (by rw [HRF.out, HRF2.out.1]; exact he1.out), Lib.hid (by rw [HRF.out]; exact HRF2.out.2), Lib.hid (by rw [HST.out, HST2.out]; exact HDN.out), Lib.hid (below_nd (below_nd (only_drew hg.out) _ _) _ _)⟩
        · have hjm : j = m - a := by have := hx.out; omega
          have hxe : x = m := by omega
          subst hxe
          rw [hjm] at he1 he2 hd
          have h2 := he2.out
          rw [HN.out.some] at h2
          subst h2
          have h1 := he1.out
          subst h1
          by_cases hmz2 : x = s.size
          · subst hmz2
            clear hlt ok ok2 hjm hx
            go_wp2_with (fail)
            go_meet
            case rel => exact ⟨rfl, rfl, rfl, hd, hg⟩
          · have hxz : x < s.size := by omega
            have hex := HN.out.ex.resolve_left hmz2
            have hb := HBY.out x hxz
            obtain ⟨c, hc⟩ : ∃ c, B x = c := ⟨_, rfl⟩
            rw [hc] at hb
            have hce : c = 101 ∨ c = 69 := by rw [← hc]; exact hex.1
            clear hlt ok ok2 hjm hx hex hmz2 hc
            rcases hce with rfl | rfl
            all_goals
              go_wp2_with (fail)
              go_meet
              case rel => exact ⟨rfl, rfl, rfl, hd, hg⟩
    case rest => as_aux_lemma =>
      obtain ⟨rfl, rfl, rfl, hd1, hg1⟩ := hcut
      clear hd0 hg0
      have ok := stN_ok HN.out ng (m - a) (by omega)
      have ok2 := rfN_ok HN.out (m - a) (by omega)
      have hRd : ({ (stN B ng a (m - a)).d with dp := rfDp B s.size a m b } : Dec) = R := by rw [← HR.out]; rfl
      obtain ⟨S, hS⟩ : ∃ S, (stN B ng a (m - a)).d = S := ⟨_, rfl⟩
      have hnd := ok.nd
      have hdp := ok.dp
      have hl1 := ok2.lo
      have hl2 := ok2.hi
      have hl3 := ok2.nd
      have hrd : rfDp B s.size a m b = (if (rfN B a (m - a)).dot then (rfN B a (m - a)).dp else ((rfN B a (m - a)).nd : Int)) + exZ B s.size m b := rfl
      obtain ⟨r, hr⟩ : ∃ r, rfN B a (m - a) = r := ⟨_, rfl⟩
      rw [hS] at hRd hd1 hnd hdp
      rw [hr] at hnd hdp hl1 hl2 hl3 hrd
      obtain ⟨dot, hdot⟩ : ∃ x, r.dot = x := ⟨_, rfl⟩
      obtain ⟨D1, hD1⟩ : ∃ z, (if r.dot then r.dp else (r.nd : Int)) = z := ⟨_, rfl⟩
      have hDb : -800 ≤ D1 ∧ D1 ≤ 800 := by
        rw [← hD1]
        split <;> omega
      rw [hD1] at hrd
      have HRD := Lib.hid hRd
      have HRP := Lib.hid hrd
      have HD1 := Lib.hid (show (dot = true → S.dp = D1) ∧ (dot = false → (S.nd : Int) = D1) from ⟨fun h => by rw [hdp, ← hD1, hdot, if_pos h], fun h => by rw [hnd, ← hD1, hdot, h]; rfl⟩)
      have hnb : S.nd ≤ 800 := by omega
      have c0 := hd1.out.ndc
      have c1 := hd1.out.dpc
      have z1 := hd1.out.frozen 801
      rw [hr, hdot]
      obtain ⟨hDa, hDb⟩ := hDb
      clear ok ok2 hRd hS hnd hdp hl1 hl2 hl3 hrd hr hdot hD1
      go_upto_if 120 with (fail)
      go_cut [] (fun wx => Hid (DecR wx g { S with dp := D1 }) ∧ Hid (w.grownBy wx (some g)))
      case first =>
        cases dot
        · have hdd := HD1.out.2 rfl
          rw [hdd] at c0
          have HDN := Lib.hid (hd1.out.setDp D1)
          clear hdd
          go_wp2_with (fail)
          go_meet
          case rel => exact ⟨HDN, Lib.hid (below_nd hg1.out _ _)⟩
        · have HDN := Lib.hid (hd1.out.eq (show S = { S with dp := D1 } by rw [← HD1.out.1 rfl]))
          go_wp2_with (fail)
          go_meet
          case rel => exact ⟨HDN, hg1⟩
      case rest => as_aux_lemma =>
        obtain ⟨hd2, hg2⟩ := hcut
        clear c0 c1 z1 hd1 hg1 HD1
        have c1 := hd2.out.dpc
        have z1 := hd2.out.frozen 801
        dsimp only at c1
        by_cases hmz2 : m = s.size
        · have hxe : exZ B s.size m b = 0 := by unfold exZ; rw [if_pos hmz2]
          have hq : rfDp B s.size a m b = D1 := by rw [HRP.out, hxe]; omega
          have HEQ := Lib.hid (show ({ S with dp := D1 } : Dec) = R by rw [← HRD.out, hq])
          subst hmz2
          clear hxe hq
          go_wp2_with (fail)
          go_ret
          exact ⟨rfl, hd2.out.eq HEQ.out, hg2.out⟩
        · have hxz : m < s.size := by omega
          obtain ⟨hce, hsg, hbz, hzb, hdgs⟩ := HN.out.ex.resolve_left hmz2
          have hb := HBY.out m hxz
          have hexz := HN.out.exz
          have HXZ : Hid (exZ B s.size m b = if B (m + 1) = 45 then -((exN B b (s.size - b) : Nat) : Int) else ((exN B b (s.size - b) : Nat) : Int)) := Lib.hid (by unfold exZ; rw [if_neg hmz2])
          have HEX := Lib.hid (HN.out.exs hmz2)
          have hm1z : m + 1 < s.size := by omega
          have hb1 := HBY.out (m + 1) hm1z
          obtain ⟨c, hc⟩ : ∃ c, B m = c := ⟨_, rfl⟩
          rw [hc] at hb hce
          have L1 := Lib.hid (low_any c (by unfold dgc; omega))
          have hlc : (if c = 69 then 101 else c : Nat) = 101 := by rcases hce with rfl | rfl <;> rfl
          rw [hlc] at L1
          have HDG := Lib.hid hdgs
          have HSG2 := Lib.hid hsg
          have f1 : decide (m < s.size) = true := decide_eq_true hxz
          have f2 : decide (s.size ≤ m + 1) = false := decide_eq_false (by omega)
          have f3 : decide (s.size ≤ b) = false := decide_eq_false (by omega)
          clear hc hlc hdgs hsg hmz2
          go_wp2_with (fail)
          refine (L1.out _).mono ?_
          rintro e w' ⟨rfl, rfl⟩
          go_upto_block 4 with (fail)
          go_cut [5, 8] (fun i sg wx => i = .int .i64 (b : Int) ∧ sg = .int .i64 (if B (m + 1) = 45 then -1 else 1) ∧ wx = wc)
          case first =>
            have hsg := HSG2.out
            unfold dgc at hsg
            rcases hsg with ⟨rfl, h5⟩ | ⟨rfl, h5 | h5⟩
            · have d1 : ((B (m + 1) : Int) == 43) = false := by simpa using (by omega : ¬ (B (m + 1) : Int) = 43)
              have d2 : ((B (m + 1) : Int) == 45) = false := by simpa using (by omega : ¬ (B (m + 1) : Int) = 45)
              have HE := Lib.hid (show (if B (m + 1) = 45 then -1 else 1 : Int) = 1 from if_neg (by omega))
              clear h5
              go_wp2_with (fail)
              go_meet
              case rel => exact ⟨by go_num, by rw [HE.out], rfl⟩
            · have d1 : ((B (m + 1) : Int) == 43) = true := by rw [h5]; rfl
              have HE := Lib.hid (show (if B (m + 1) = 45 then -1 else 1 : Int) = 1 from if_neg (by omega))
              clear h5
              go_wp2_with (fail)
              go_meet
              case rel => exact ⟨congrArg (Value.int .i64) (by omega), by rw [HE.out], rfl⟩
            · have d1 : ((B (m + 1) : Int) == 43) = false := by rw [h5]; rfl
              have d2 : ((B (m + 1) : Int) == 45) = true := by rw [h5]; rfl
              have HE := Lib.hid (show (if B (m + 1) = 45 then -1 else 1 : Int) = -1 from if_pos h5)
              clear h5
              go_wp2_with (fail)
              go_meet
              case rel => exact ⟨congrArg (Value.int .i64) (by omega), by rw [HE.out], rfl⟩
          case rest => as_aux_lemma =>
            obtain ⟨rfl, rfl, rfl⟩ := hcut
            have hbb := HBY.out b hbz
            have hdb := HDG.out b (Nat.le_refl _) hbz
            obtain ⟨E, hE⟩ : ∃ E, (if B (m + 1) = 45 then -1 else 1 : Int) = E := ⟨_, rfl⟩
            have hE1 : E = 1 ∨ E = -1 := by rw [← hE]; split <;> simp
            have HXZ2 : Hid (exZ B s.size m b = ((exN B b (s.size - b) : Nat) : Int) * E) := Lib.hid (by
              rw [HXZ.out, ← hE]
              split <;> omega)
            rw [hE]
            obtain ⟨c2, hc2⟩ : ∃ c, B b = c := ⟨_, rfl⟩
            rw [hc2] at hbb hdb
            obtain ⟨h6, h7⟩ := hdb
            have f4 : decide (c2 < 48) = false := decide_eq_false (by omega)
            have f5 : decide (57 < c2) = false := decide_eq_false (by omega)
            clear hE hc2 hb1 hb L1 HXZ HSG2 hce
            go_wp2_with (fail)
            go_loopg [5, 9] (s.size - b) (fun qq i e wr => wr = wc ∧ ∃ (j x y : Nat), s.size - b - j = qq ∧ j ≤ s.size - b ∧ Hid (x = b + j) ∧ b ≤ x ∧ x ≤ s.size ∧ i = .int .i64 (x : Int) ∧ e = .int .i64 (y : Int) ∧ y ≤ 9999 ∧ Hid (exN B b j = y))
            case atStart => exact ⟨rfl, 0, b, 0, rfl, Nat.zero_le _, Lib.hid rfl, Nat.le_refl _, Nat.le_of_lt hbz, rfl, rfl, by omega, Lib.hid rfl⟩
            case round =>
              obtain ⟨rfl, j, x, y, rfl, hj, hx, hbx, hxz2, rfl, rfl, hy, hey⟩ := hrel
              clear hbb h6 h7
              by_cases hlt : x < s.size
              · have hbb := HBY.out x hlt
                have hdb := HDG.out x hbx hlt
                have hjz : j < s.size - b := by have := hx.out; omega
                have hex2 := HEX.out j (by omega)
                have hnx : exN B b (j + 1) = y * 10 + (B x - 48) := by rw [exN, hey.out, ← hx.out]
                rw [hey.out] at hex2
                obtain ⟨h9, h99⟩ := hex2
                obtain ⟨c3, hc3⟩ : ∃ c, B x = c := ⟨_, rfl⟩
                rw [hc3] at hbb hdb hnx
                rw [hnx] at h99
                obtain ⟨h6, h7⟩ := hdb
                have HNX := Lib.hid hnx
                have HX1 := Lib.hid (show x + 1 = b + (j + 1) by have := hx.out; omega)
                have d95 : ((c3 : Int) == 95) = false := by simpa using (by omega : ¬ (c3 : Int) = 95)
                have dy : decide (y < 10000) = true := decide_eq_true (by omega)
                clear hc3 hnx
                go_wp2_with (fail)
                go_roundg (s.size - b - (j + 1))
                case measure => omega
                case rel => exact ⟨rfl, j + 1, x + 1, y * 10 + (c3 - 48), rfl, by omega, HX1, by omega, by omega, by go_num, congrArg (Value.int .i64) (by omega), h99, HNX⟩
              · have hxe : x = s.size := by omega
                have hje : j = s.size - b := by have := hx.out; omega
                rw [hje] at hey
                subst hxe
                have hexz2 := hexz
                have HXZ3 : Hid (exZ B s.size m b = (y : Int) * E) := Lib.hid (by rw [HXZ2.out, hey.out])
                have hyE : (y : Int) * E = y ∨ (y : Int) * E = -(y : Int) := by rcases hE1 with rfl | rfl <;> omega
                obtain ⟨Y, hY⟩ : ∃ Y, (y : Int) * E = Y := ⟨_, rfl⟩
                rw [hY] at hyE HXZ3
                have eY : IntKind.i64.wrap ((y : Int) * E) = Y := by rw [hY, IntKind.wrap_i64]; omega
                obtain ⟨D2, hD2⟩ : ∃ z, D1 + Y = z := ⟨_, rfl⟩
                have eD : IntKind.i64.wrap (D1 + Y) = D2 := by rw [hD2, IntKind.wrap_i64]; omega
                have HEQ := Lib.hid (show ({ S with dp := D2 } : Dec) = R by rw [← HRD.out, HRP.out, HXZ3.out, hD2])
                have HDN := Lib.hid (hd2.out.setDp D2)
                have HGN := Lib.hid (below_nd hg2.out 801 (.int .i64 D2))
                clear hY hyE hD2 hexz2 hexz hey hje hx hlt
                go_wp2_with (fail)
                go_ret
                exact ⟨rfl, HDN.out.eq HEQ.out, HGN.out⟩

end LM
end Go.Proofs.YtnpmfailpgbggaaGreatDoor
