/- The walk of the statement LimbBack. -/
import Derived.Test.YtkkogmgboehfdaaDoorLimbAlive
import Derived.Test.YtkkogmgboehfdaaDoorLimbL
import Derived.Test.YtkkogmgboehfdaaDoorLimbM
namespace Go.Proofs.YtkkogmgboehfdaaDoor
open Go.RowKit
namespace LM

theorem max_big {xs : List Nat} (h : Lm xs) (hl : xs.length ≤ 64) : ¬ BIG (val xs) := fun hb => by
  have := (big_trim h).2 hb
  have := trim_length_le xs
  omega

set_option maxRecDepth 100000 in
set_option maxHeartbeats 1000000 in
theorem back_walk (A B : Option Addr) (ca cb : Nat) (xs ys : List Nat) (w : World) (ha : Rd w A xs) (hb : Rd w B ys) (hx : Lm xs) (hy : Lm ys) (hca : xs.length ≤ ca) (hcb : ys.length ≤ cb) (hcam : ca ≤ 9223372036854775807) (hcbm : cb ≤ 9223372036854775807)
    (htab : Lib.TabIs Tryd.prog w "internal/strconv.uint64pow10" .u64 Lib.pow10Tab) :
    Calls Tryd.prog 9 #[.slice A xs.length ca, .slice B ys.length cb] w fun e w' => e = .returned (.bool true) ∧ Below w.heap.size w w' := by
  have HAL := Lib.hid (alive_any w htab)
  clear htab
  by_cases h1 : 64 < xs.length
  · have hd : decide (64 < xs.length) = true := decide_eq_true h1
    go_enter Tryd.func9, Tryd.ntmps9
    go_wp2_with fail
    refine HAL.out.mono ?_
    rintro e w1 ⟨rfl, hb1⟩
    go_wp2
    go_ret
    exact ⟨rfl, hb1⟩
  · have hd : decide (64 < xs.length) = false := decide_eq_false h1
    by_cases h2 : 64 < ys.length
    · have hd2 : decide (64 < ys.length) = true := decide_eq_true h2
      go_enter Tryd.func9, Tryd.ntmps9
      go_wp2_with fail
      refine HAL.out.mono ?_
      rintro e w1 ⟨rfl, hb1⟩
      go_wp2
      go_ret
      exact ⟨rfl, hb1⟩
    · have hd2 : decide (64 < ys.length) = false := decide_eq_false h2
      have nx := max_big hx (by omega)
      have ny := max_big hy (by omega)
      have HNX := Lib.hid nx
      have HNY := Lib.hid ny
      clear nx ny
      go_enter Tryd.func9, Tryd.ntmps9
      go_wp2_with fail
      refine HAL.out.mono ?_
      rintro e w1 ⟨rfl, hb1⟩
      have ha1 := ha.below hb1
      have hb1' := hb.below hb1
      go_wp2_with fail
      refine (div_any A B ca cb xs ys w1 ha1 hb1' hx hy hca hcb hcam hcbm).mono ?_
      rintro e w2 ⟨q, r, er, rfl, hb2, hans⟩
      have hbw2 := hb1.trans (hb2.mono hb1.size)
      have ha2 := ha1.below hb2
      have hb2' := hb1'.below hb2
      rcases hans with ⟨hbad, _⟩ | ⟨_, _, h0, rfl, rfl, rfl⟩ | ⟨_, _, hp, rfl, hq, hr⟩
      · exact (Or.elim hbad (fun h => HNX.out h) (fun h => HNY.out h) : False).elim
      · have hcm := cmp_any B none cb 0 ys [] w2 hb2' Rd.nil hy Lm.nil hcb (Nat.le_refl _) hcbm (by omega) (by omega)
        rw [h0, show cmpN 0 (val []) = 0 from rfl] at hcm
        have HCM := Lib.hid hcm
        clear hcm h0
        go_wp2_with fail
        refine HCM.out.mono ?_
        rintro e w3 ⟨rfl, hb3⟩
        go_wp2
        go_ret
        exact ⟨rfl, hbw2.trans (hb3.mono hbw2.size)⟩
      · have hmd := Nat.mod_lt (val xs) hp
        have hdm := Nat.div_add_mod (val xs) (val ys)
        have HMD := Lib.hid hmd
        have HDM := Lib.hid hdm
        obtain ⟨A1, c1, qs, rfl, k1, k2, k3, k4, k5⟩ := hq
        obtain ⟨A2, c2, rs, rfl, m1, m2, m3, m4, m5⟩ := hr
        have HQ := Lib.hid k5
        have HR := Lib.hid m5
        clear hmd hdm k5 m5 hp
        go_wp2_with fail
        refine (mul_any A1 B c1 cb qs ys w2 k3 hb2' k4.1 hy k1 hcb (by omega) hcbm).mono ?_
        rintro e w3 ⟨v3, er3, rfl, hans3, hb3⟩
        have hbw3 := hbw2.trans (hb3.mono hbw2.size)
        have hle : val qs * val ys ≤ val xs := by rw [HQ.out]; have := HDM.out; rw [Nat.mul_comm] at this; omega
        have hqle : val qs ≤ val xs := by rw [HQ.out]; exact Nat.div_le_self _ _
        rcases hans3 with ⟨hbad, _⟩ | ⟨_, rfl, hN3⟩
        · exact (Or.elim hbad (fun h => HNX.out (h.mono hqle)) (fun h => Or.elim h (fun h => HNY.out h) (fun h => HNX.out (h.mono hle))) : False).elim
        obtain ⟨A3, c3, ps, rfl, n1, n2, n3, n4, n5⟩ := hN3
        have HP := Lib.hid n5
        have HLE := Lib.hid hle
        clear n5 hle hqle
        have ha3 := ha2.below hb3
        have hb3' := hb2'.below hb3
        have hr3 := m3.below hb3
        go_wp2_with fail
        refine (add_any A3 A2 c3 c2 ps rs w3 n3 hr3 n4.1 m4.1 n1 m1 (by omega) (by omega)).mono ?_
        rintro e w4 ⟨v4, er4, rfl, hans4, hb4⟩
        have hbw4 := hbw3.trans (hb4.mono hbw3.size)
        have hsum : val ps + val rs = val xs := by rw [HP.out, HQ.out, HR.out, Nat.mul_comm]; exact HDM.out
        rcases hans4 with ⟨hbad, _⟩ | ⟨_, rfl, hN4⟩
        · exact (Or.elim hbad (fun h => HNX.out (h.mono (by omega))) (fun h => Or.elim h (fun h => HNX.out (h.mono (by omega))) (fun h => HNX.out (h.mono (by omega)))) : False).elim
        obtain ⟨A4, c4, ss, rfl, o1, o2, o3, o4, o5⟩ := hN4
        have ha4 := ha3.below hb4
        have hb4' := hb3'.below hb4
        have hr4 := hr3.below hb4
        have hsl : ss.length ≤ 1000000 := by omega
        have hc1 := cmp_any A4 A c4 ca ss xs w4 o3 ha4 o4.1 hx o1 hca (by omega) hcam hsl
        rw [cmpN_eq (o5.trans hsum)] at hc1
        have hc2 := fun w5 (hb5 : Below w4.heap.size w4 w5) => cmp_any A2 B c2 cb rs ys w5 (hr4.below hb5) (hb4'.below hb5) m4.1 hy m1 hcb (by omega) hcbm (by omega)
        have hlt : val rs < val ys := by rw [HR.out]; exact HMD.out
        rw [cmpN_lt hlt] at hc2
        have HC1 := Lib.hid hc1
        have HC2 := Lib.hid hc2
        clear hc1 hc2 hlt hsum o5
        go_wp2_with fail
        refine HC1.out.mono ?_
        rintro e w5 ⟨rfl, hb5⟩
        go_wp2_with fail
        refine (HC2.out _ hb5).mono ?_
        rintro e w6 ⟨rfl, hb6⟩
        have hbw5 := hbw4.trans (hb5.mono hbw4.size)
        go_wp2
        go_ret
        exact ⟨rfl, hbw5.trans (hb6.mono hbw5.size)⟩

end LM
end Go.Proofs.YtkkogmgboehfdaaDoor
