/- Walks of package arena: arenaAlive. -/
import Derived.Test.YtghnaiinhbdgcaaArenaGb
import Derived.Test.YtghnaiinhbdgcaaArenaIb
import Derived.Test.YtghnaiinhbdgcaaArenaJ
import Derived.Test.YtghnaiinhbdgcaaArenaK
import Derived.KernelRfl
namespace Go.Proofs.Ytghnaiinhbdgcaa
open Go Go.RowKit
namespace LM
set_option linter.unusedVariables false

section
variable (b wb tb mb : Nat)
abbrev L0 : Ar := Ar.new 1 b wb tb mb
abbrev L1 : Ar := (alcS (L0 b wb tb mb) 0 10).2.1
abbrev L2 : Ar := (alcS (L1 b wb tb mb) 16 10).2.1
abbrev L3 : Ar := (alcS (L2 b wb tb mb) 16 10).2.1
abbrev L4 : Ar := { L3 b wb tb mb with W := upd (L3 b wb tb mb).W 20 7 }
abbrev L5 : Ar := { L4 b wb tb mb with M := mkM (L4 b wb tb mb).M 20 10 }
abbrev L6 : Ar := (L5 b wb tb mb).swept
abbrev L7 : Ar := (alcS (L6 b wb tb mb) 0 3).2.1
theorem l1_out : (alcS (L0 b wb tb mb) 0 10).1 = (0, true) := by kernel_rfl
theorem l2_out : (alcS (L1 b wb tb mb) 16 10).1 = (10, true) := by kernel_rfl
theorem l3_out : (alcS (L2 b wb tb mb) 16 10).1 = (20, true) := by kernel_rfl
theorem l7_out : (alcS (L6 b wb tb mb) 0 3).1 = (0, true) := by kernel_rfl
theorem l7_free : cntB (L7 b wb tb mb).T (0 * 16) 16 = 14 := by kernel_rfl
theorem l6_word : (L6 b wb tb mb).W 20 = 7 := by kernel_rfl
theorem l_nb : (L1 b wb tb mb).nb = 1 ∧ (L2 b wb tb mb).nb = 1 ∧ (L3 b wb tb mb).nb = 1 ∧ (L6 b wb tb mb).nb = 1 ∧ (L7 b wb tb mb).nb = 1 := ⟨by kernel_rfl, by kernel_rfl, by kernel_rfl, by kernel_rfl, by kernel_rfl⟩
theorem wf_of {A : Ar} {nx : Nat} {x3 x4 x5 x6 x7 x8 x9 : Int} (h3 : A.F 3 = x3) (h4 : A.F 4 = x4) (h5 : A.F 5 = x5) (h6 : A.F 6 = x6) (h7 : A.F 7 = x7) (h8 : A.F 8 = x8) (h9 : A.F 9 = x9) (hn : A.nb = 1)
    (h : (0 ≤ x3 ∧ x3 ≤ x4 ∧ x4 ≤ 256) ∧ (0 ≤ x5 ∧ x5 ≤ x6 ∧ x6 ≤ 256) ∧ (0 ≤ x7 ∧ x7 ≤ x8 ∧ x8 ≤ 256) ∧ x9 = ((16 * nx : Nat) : Int) ∧ nx ≤ 16) : Wf A nx := by
  subst h3 h4 h5 h6 h7 h8 h9
  exact ⟨by rw [hn]; exact h.1, by rw [hn]; exact h.2.1, by rw [hn]; exact h.2.2.1, by rw [hn]; exact h.2.2.2, by rw [hn]; decide⟩
theorem wf0 : Wf (L0 b wb tb mb) 0 := wf_of (x3 := 0) (x4 := 0) (x5 := 0) (x6 := 0) (x7 := 0) (x8 := 0) (x9 := 0) rfl rfl rfl rfl rfl rfl rfl rfl (by decide)
theorem wf1 : Wf (L1 b wb tb mb) 16 := wf_of (x3 := 10) (x4 := 256) (x5 := 0) (x6 := 0) (x7 := 0) (x8 := 0) (x9 := 256) (by kernel_rfl) (by kernel_rfl) (by kernel_rfl) (by kernel_rfl) (by kernel_rfl) (by kernel_rfl) (by kernel_rfl) (l_nb b wb tb mb).1 (by decide)
theorem wf2 : Wf (L2 b wb tb mb) 16 := wf_of (x3 := 20) (x4 := 256) (x5 := 0) (x6 := 0) (x7 := 0) (x8 := 0) (x9 := 256) (by kernel_rfl) (by kernel_rfl) (by kernel_rfl) (by kernel_rfl) (by kernel_rfl) (by kernel_rfl) (by kernel_rfl) (l_nb b wb tb mb).2.1 (by decide)
theorem wf6 : Wf (L6 b wb tb mb) 0 := wf_of (x3 := 0) (x4 := 0) (x5 := 0) (x6 := 0) (x7 := 0) (x8 := 0) (x9 := 0) rfl rfl rfl rfl rfl rfl rfl (l_nb b wb tb mb).2.2.2.1 (by decide)
end

set_option maxRecDepth 100000 in
set_option maxHeartbeats 4000000 in
theorem aalive (w : World) : Calls Try.prog 8 #[] w fun e w' => e = .returned (.bool true) ∧ Mv w w' [] := by
  have N1 := Lib.hid (anew 1 w (by decide) (by decide))
  go_enter Try.func8, Try.ntmps8
  go_wp2_with (fail)
  refine N1.out.mono ?_
  rintro e w1 ⟨b, wb, tb, mb, rfl, hA, hm, hk⟩
  have B1 := Lib.hid (aallocS (L0 b wb tb mb) 0 10 w1 hA (wf0 b wb tb mb) (by decide) (by decide))
  rw [l1_out] at B1
  have H1 := Lib.hid (And.intro hm hk)
  clear hA hm hk
  go_wp2_with (fail)
  refine B1.out.mono ?_
  rintro e w2 ⟨rfl, hA, hm⟩
  have B2 := Lib.hid (aallocS (L1 b wb tb mb) 16 10 w2 hA (wf1 b wb tb mb) (by decide) (by decide))
  rw [l2_out] at B2
  have H2 := Lib.hid (show Mv w w2 [] from H1.out.1.behind hm H1.out.2)
  clear hA hm
  go_wp2_with (fail)
  refine B2.out.mono ?_
  rintro e w3 ⟨rfl, hA, hm⟩
  have B3 := Lib.hid (aallocS (L2 b wb tb mb) 16 10 w3 hA (wf2 b wb tb mb) (by decide) (by decide))
  rw [l3_out] at B3
  have H3 := Lib.hid (show Mv w w3 [] from H2.out.behind hm H1.out.2)
  clear hA hm
  go_wp2_with (fail)
  refine B3.out.mono ?_
  rintro e w4 ⟨rfl, hA, hm⟩
  have B4 := Lib.hid (aset_yes (L3 b wb tb mb) 20 7 w4 hA (by rw [(l_nb b wb tb mb).2.2.1]; decide))
  have H4 := Lib.hid (show Mv w w4 [] from H3.out.behind hm H1.out.2)
  clear hA hm
  go_wp2_with (fail)
  refine B4.out.mono ?_
  rintro e w5 ⟨rfl, hA, hm⟩
  have B5 := Lib.hid (amark (L4 b wb tb mb) 20 10 w5 hA (by decide) (by decide))
  have H5 := Lib.hid (show Mv w w5 [] from H4.out.behind hm H1.out.2)
  clear hA hm
  go_wp2_with (fail)
  refine B5.out.mono ?_
  rintro e w6 ⟨rfl, hA, hm⟩
  have B6 := Lib.hid (asweep (L5 b wb tb mb) w6 hA)
  have H6 := Lib.hid (show Mv w w6 [] from H5.out.behind hm H1.out.2)
  clear hA hm
  go_wp2_with (fail)
  refine B6.out.mono ?_
  rintro e w7 ⟨rfl, hA, hm⟩
  have B7 := Lib.hid (aget_yes (L6 b wb tb mb) 20 w7 hA (by rw [(l_nb b wb tb mb).2.2.2.1]; decide))
  rw [l6_word] at B7
  have B8 := Lib.hid (aallocS (L6 b wb tb mb) 0 3 w7 hA (wf6 b wb tb mb) (by decide) (by decide))
  rw [l7_out] at B8
  have H7 := Lib.hid (show Mv w w7 [] from H6.out.behind hm H1.out.2)
  clear hA hm
  go_wp2_with (fail)
  refine B7.out.mono ?_
  rintro e w7 ⟨rfl, rfl⟩
  go_wp2_with (fail)
  refine B8.out.mono ?_
  rintro e w8 ⟨rfl, hA, hm⟩
  have B9 := Lib.hid (afree (L7 b wb tb mb) 0 w8 hA (by rw [(l_nb b wb tb mb).2.2.2.2]; decide))
  rw [l7_free] at B9
  have H8 := Lib.hid (show Mv w w8 [] from H7.out.behind hm H1.out.2)
  clear hA hm
  go_wp2_with (fail)
  refine B9.out.mono ?_
  rintro e w9 ⟨rfl, rfl⟩
  go_wp2_with (fail)
  go_ret
  exact ⟨rfl, H8.out⟩
end LM
end Go.Proofs.Ytghnaiinhbdgcaa
