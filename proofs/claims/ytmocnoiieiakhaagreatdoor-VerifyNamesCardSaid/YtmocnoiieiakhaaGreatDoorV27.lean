/- Walks of package code: is something so of all that a list has. Written by genB.py. -/
import Derived.Test.YtmocnoiieiakhaaGreatDoorV20
import Derived.Deep.LoopGhost
namespace Go.Proofs.YtmocnoiieiakhaaGreatDoor
open Go Go.RowKit
namespace LM
set_option linter.unusedVariables false
attribute [local go_sem] run_store_flt

set_option maxRecDepth 100000 in
set_option maxHeartbeats 4000000 in
theorem cnindex_any (q : Int → Bool) (g : Nat) (xs : List Int) (B : Option Addr) (cap b off : Nat) (w : World) (hB : 0 < xs.length → B = some ⟨b, off, none⟩) (hF : NumAt w b off xs) (hc1 : xs.length ≤ cap) (hc2 : cap ≤ 9223372036854775807)
    (hcl : ∀ x ∈ xs, ∀ W, Below w.heap.size w W → Calls Tryz.prog 68 #[(.int .i64 x), .pointer (some ⟨g, 0, none⟩)] W fun e w' => e = .returned (.bool (!q x)) ∧ Below W.heap.size W w') :
    Calls Tryz.prog 78 #[.slice B xs.length cap, .func (.func 68) #[] #[.pointer (some ⟨g, 0, none⟩)]] w fun e w' => (∃ z : Int, e = .returned (.int .i64 z) ∧ decide (0 ≤ z) = !xs.all q) ∧ Below w.heap.size w w' := by
  rcases Nat.eq_zero_or_pos xs.length with h0 | hpos
  · have hk0 : xs = [] := List.length_eq_zero_iff.1 h0
    subst hk0
    show Calls Tryz.prog 78 #[.slice B 0 cap, .func (.func 68) #[] #[.pointer (some ⟨g, 0, none⟩)]] w fun e w' => (∃ z : Int, e = .returned (.int .i64 z) ∧ decide (0 ≤ z) = false) ∧ Below w.heap.size w w'
    clear hcl hF hB hc1
    go_enter Tryz.func78, Tryz.ntmps78
    go_wp2_with (fail)
    go_loopg [8] 0 (fun kk i wr => wr = w ∧ i = .int .i64 0)
    case atStart => exact ⟨rfl, rfl⟩
    case round =>
      obtain ⟨rfl, rfl⟩ := hrel
      go_wp2_with (fail)
      go_ret
      exact ⟨⟨-1, rfl, rfl⟩, Below.refl _ _⟩
  obtain rfl := hB hpos
  clear hB
  have HF := Lib.hid hF
  have HCL := Lib.hid hcl
  clear hF hcl
  go_enter Tryz.func78, Tryz.ntmps78
  go_wp2_with (fail)
  go_loopg [8] xs.length (fun kk i wr => Below w.heap.size w wr ∧ ∃ j : Nat, j ≤ xs.length ∧ kk = xs.length - j ∧ i = .int .i64 (j : Int) ∧ (xs.drop j).all q = xs.all q)
  case atStart => exact ⟨Below.refl _ _, 0, Nat.zero_le _, rfl, rfl, rfl⟩
  case round =>
    obtain ⟨hbr, j, hj, rfl, rfl, hrf⟩ := hrel
    have HBR := Lib.hid hbr
    clear hbr
    by_cases hjl : j < xs.length
    · obtain ⟨x, hx, hdr⟩ := drop_at hjl
      rw [hdr, List.all_cons] at hrf
      obtain ⟨hbl, x0⟩ := (HF.out.below HBR.out) j x hx
      have CL := Lib.hid (HCL.out x (List.mem_of_getElem? hx) wr HBR.out)
      obtain ⟨p, hp⟩ : ∃ p, q x = p := ⟨_, rfl⟩
      rw [hp] at CL hrf
      have HRF := Lib.hid hrf
      clear hrf hdr hx hp
      go_wp2_with (fail)
      refine CL.out.mono ?_
      rintro e w2 ⟨rfl, hb2⟩
      have HB2 := Lib.hid (bel_trans (B := w.heap.size) HBR.out hb2)
      clear hb2
      cases p
      · go_wp2_with (fail)
        go_ret
        exact ⟨⟨j, rfl, by rw [← HRF.out]; simp⟩, HB2.out⟩
      · go_wp2_with (fail)
        go_roundg (xs.length - (j + 1))
        case measure => omega
        case rel => exact ⟨HB2.out, j + 1, by omega, rfl, by go_num, by rw [← HRF.out]; simp⟩
    · have hje : j = xs.length := by omega
      subst hje
      rw [List.drop_length] at hrf
      have HR : Hid (true = xs.all q) := Lib.hid hrf
      clear hrf
      go_wp2_with (fail)
      go_ret
      exact ⟨⟨-1, rfl, by rw [← HR.out]; rfl⟩, HBR.out⟩

set_option maxRecDepth 100000 in
set_option maxHeartbeats 4000000 in
theorem cncontains_any (q : Int → Bool) (g : Nat) (xs : List Int) (B : Option Addr) (cap b off : Nat) (w : World) (hB : 0 < xs.length → B = some ⟨b, off, none⟩) (hF : NumAt w b off xs) (hc1 : xs.length ≤ cap) (hc2 : cap ≤ 9223372036854775807)
    (hcl : ∀ x ∈ xs, ∀ W, Below w.heap.size w W → Calls Tryz.prog 68 #[(.int .i64 x), .pointer (some ⟨g, 0, none⟩)] W fun e w' => e = .returned (.bool (!q x)) ∧ Below W.heap.size W w') :
    Calls Tryz.prog 67 #[.slice B xs.length cap, .func (.func 68) #[] #[.pointer (some ⟨g, 0, none⟩)]] w fun e w' => e = .returned (.bool (!xs.all q)) ∧ Below w.heap.size w w' := by
  have H1 := Lib.hid (cnindex_any q g xs B cap b off w hB hF hc1 hc2 hcl)
  clear hB hF hcl
  go_enter Tryz.func67, Tryz.ntmps67
  go_wp2_with (fail)
  refine H1.out.mono ?_
  rintro e w1 ⟨⟨z, rfl, hz⟩, hb1⟩
  have HB1 := Lib.hid hb1
  have HZ := Lib.hid hz
  clear hb1 hz
  go_wp2_with (fail)
  go_ret
  exact ⟨by rw [← HZ.out]; rfl, HB1.out⟩

set_option maxRecDepth 100000 in
set_option maxHeartbeats 4000000 in
theorem cnclosure (x : Int) (g : Nat) (q : Bool) (w : World) (hg : g < w.heap.size) (hcell : w.cell? ⟨g, 0, none⟩ = some (.func (.func 54) #[] #[]))
    (hR : ∀ W, Below w.heap.size w W → Calls Tryz.prog 54 #[(.int .i64 x)] W fun e w' => e = .returned (.bool q) ∧ Below W.heap.size W w') :
    Calls Tryz.prog 68 #[(.int .i64 x), .pointer (some ⟨g, 0, none⟩)] w fun e w' => e = .returned (.bool (!q)) ∧ Below w.heap.size w w' := by
  have HR := Lib.hid (hR w (Below.refl _ w))
  clear hR
  go_enter Tryz.func68, Tryz.ntmps68
  go_wp2_with (fail)
  refine HR.out.mono ?_
  rintro e w1 ⟨rfl, hb1⟩
  have HB1 := Lib.hid hb1
  clear hb1
  go_wp2_with (fail)
  go_ret
  exact ⟨rfl, HB1.out⟩

set_option maxRecDepth 100000 in
set_option maxHeartbeats 4000000 in
theorem cnall_any (q : Int → Bool) (xs : List Int) (B : Option Addr) (cap b off : Nat) (w : World) (hB : 0 < xs.length → B = some ⟨b, off, none⟩) (hF : NumAt w b off xs) (hc1 : xs.length ≤ cap) (hc2 : cap ≤ 9223372036854775807)
    (hR : ∀ x ∈ xs, ∀ W, Below w.heap.size w W → Calls Tryz.prog 54 #[(.int .i64 x)] W fun e w' => e = .returned (.bool (q x)) ∧ Below W.heap.size W w') :
    Calls Tryz.prog 53 #[.slice B xs.length cap, .func (.func 54) #[] #[]] w fun e w' => e = .returned (.bool (xs.all q)) ∧ Below w.heap.size w w' := by
  obtain ⟨W0, hW0⟩ : ∃ W0, w.alloc (.cells #[.func (.func 54) #[] #[]] 111 (0, 0)) = W0 := ⟨_, rfl⟩
  have hb0 : Below w.heap.size w W0 := by rw [← hW0]; exact (Below.refl _ w).alloc (Nat.le_refl _) _
  have ho : W0.heap[w.heap.size]? = some (.cells #[.func (.func 54) #[] #[]] 111 (0, 0)) := by rw [← hW0]; unfold World.alloc; simp
  have hs0 : w.heap.size < W0.heap.size := by rw [← hW0]; simp
  have hc : W0.cell? ⟨w.heap.size, 0, none⟩ = some (.func (.func 54) #[] #[]) := by rw [ob_cell ho]; rfl
  have HC := Lib.hid (cncontains_any q w.heap.size xs B cap b off W0 hB (hF.below hb0) hc1 hc2 fun x hx W hW => cnclosure x w.heap.size (q x) W (Nat.lt_of_lt_of_le hs0 hW.size) ((hW.cell (p := ⟨w.heap.size, 0, none⟩) hs0).trans hc) fun W2 hW2 => hR x hx W2 (bel_trans (B := w.heap.size) (bel_trans (B := w.heap.size) hb0 hW) hW2))
  have HW0 := Lib.hid hW0
  have HB0 := Lib.hid hb0
  clear hW0 hb0 ho hs0 hc hR hF hB
  obtain ⟨r, hr⟩ : ∃ r, xs.all q = r := ⟨_, rfl⟩
  rw [hr] at HC ⊢
  clear hr
  go_enter Tryz.func53, Tryz.ntmps53
  go_wp2_with (fail)
  rw [HW0.out]
  refine HC.out.mono ?_
  rintro e w1 ⟨rfl, hb1⟩
  have HB1 := Lib.hid (bel_trans (B := w.heap.size) HB0.out hb1)
  clear hb1
  go_wp2_with (fail)
  go_ret
  exact ⟨by simp, HB1.out⟩

set_option maxRecDepth 100000 in
set_option maxHeartbeats 4000000 in
theorem ciindex_any (q : Ins → Bool) (g : Nat) (xs : List Ins) (B : Option Addr) (cap b off : Nat) (w : World) (hB : 0 < xs.length → B = some ⟨b, off, none⟩) (hF : InsAt w b off xs) (hc1 : xs.length ≤ cap) (hc2 : cap ≤ 9223372036854775807)
    (hcl : ∀ x ∈ xs, ∀ W, Below w.heap.size w W → Calls Tryz.prog 56 #[(insA x), .pointer (some ⟨g, 0, none⟩)] W fun e w' => e = .returned (.bool (!q x)) ∧ Below W.heap.size W w') :
    Calls Tryz.prog 69 #[.slice B xs.length cap, .func (.func 56) #[] #[.pointer (some ⟨g, 0, none⟩)]] w fun e w' => (∃ z : Int, e = .returned (.int .i64 z) ∧ decide (0 ≤ z) = !xs.all q) ∧ Below w.heap.size w w' := by
  rcases Nat.eq_zero_or_pos xs.length with h0 | hpos
  · have hk0 : xs = [] := List.length_eq_zero_iff.1 h0
    subst hk0
    show Calls Tryz.prog 69 #[.slice B 0 cap, .func (.func 56) #[] #[.pointer (some ⟨g, 0, none⟩)]] w fun e w' => (∃ z : Int, e = .returned (.int .i64 z) ∧ decide (0 ≤ z) = false) ∧ Below w.heap.size w w'
    clear hcl hF hB hc1
    go_enter Tryz.func69, Tryz.ntmps69
    go_wp2_with (fail)
    go_loopg [8] 0 (fun kk i wr => wr = w ∧ i = .int .i64 0)
    case atStart => exact ⟨rfl, rfl⟩
    case round =>
      obtain ⟨rfl, rfl⟩ := hrel
      go_wp2_with (fail)
      go_ret
      exact ⟨⟨-1, rfl, rfl⟩, Below.refl _ _⟩
  obtain rfl := hB hpos
  clear hB
  have HF := Lib.hid hF
  have HCL := Lib.hid hcl
  clear hF hcl
  go_enter Tryz.func69, Tryz.ntmps69
  go_wp2_with (fail)
  go_loopg [8] xs.length (fun kk i wr => Below w.heap.size w wr ∧ ∃ j : Nat, j ≤ xs.length ∧ kk = xs.length - j ∧ i = .int .i64 (j : Int) ∧ (xs.drop j).all q = xs.all q)
  case atStart => exact ⟨Below.refl _ _, 0, Nat.zero_le _, rfl, rfl, rfl⟩
  case round =>
    obtain ⟨hbr, j, hj, rfl, rfl, hrf⟩ := hrel
    have HBR := Lib.hid hbr
    clear hbr
    by_cases hjl : j < xs.length
    · obtain ⟨x, hx, hdr⟩ := drop_at hjl
      rw [hdr, List.all_cons] at hrf
      obtain ⟨hbl, ⟨x0, x1, x2⟩⟩ := (HF.out.below HBR.out) j x hx
      have CL := Lib.hid (HCL.out x (List.mem_of_getElem? hx) wr HBR.out)
      obtain ⟨p, hp⟩ : ∃ p, q x = p := ⟨_, rfl⟩
      rw [hp] at CL hrf
      have HRF := Lib.hid hrf
      clear hrf hdr hx hp
      go_wp2_with (fail)
      refine CL.out.mono ?_
      rintro e w2 ⟨rfl, hb2⟩
      have HB2 := Lib.hid (bel_trans (B := w.heap.size) HBR.out hb2)
      clear hb2
      cases p
      · go_wp2_with (fail)
        go_ret
        exact ⟨⟨j, rfl, by rw [← HRF.out]; simp⟩, HB2.out⟩
      · go_wp2_with (fail)
        go_roundg (xs.length - (j + 1))
        case measure => omega
        case rel => exact ⟨HB2.out, j + 1, by omega, rfl, by go_num, by rw [← HRF.out]; simp⟩
    · have hje : j = xs.length := by omega
      subst hje
      rw [List.drop_length] at hrf
      have HR : Hid (true = xs.all q) := Lib.hid hrf
      clear hrf
      go_wp2_with (fail)
      go_ret
      exact ⟨⟨-1, rfl, by rw [← HR.out]; rfl⟩, HBR.out⟩

set_option maxRecDepth 100000 in
set_option maxHeartbeats 4000000 in
theorem cicontains_any (q : Ins → Bool) (g : Nat) (xs : List Ins) (B : Option Addr) (cap b off : Nat) (w : World) (hB : 0 < xs.length → B = some ⟨b, off, none⟩) (hF : InsAt w b off xs) (hc1 : xs.length ≤ cap) (hc2 : cap ≤ 9223372036854775807)
    (hcl : ∀ x ∈ xs, ∀ W, Below w.heap.size w W → Calls Tryz.prog 56 #[(insA x), .pointer (some ⟨g, 0, none⟩)] W fun e w' => e = .returned (.bool (!q x)) ∧ Below W.heap.size W w') :
    Calls Tryz.prog 55 #[.slice B xs.length cap, .func (.func 56) #[] #[.pointer (some ⟨g, 0, none⟩)]] w fun e w' => e = .returned (.bool (!xs.all q)) ∧ Below w.heap.size w w' := by
  have H1 := Lib.hid (ciindex_any q g xs B cap b off w hB hF hc1 hc2 hcl)
  clear hB hF hcl
  go_enter Tryz.func55, Tryz.ntmps55
  go_wp2_with (fail)
  refine H1.out.mono ?_
  rintro e w1 ⟨⟨z, rfl, hz⟩, hb1⟩
  have HB1 := Lib.hid hb1
  have HZ := Lib.hid hz
  clear hb1 hz
  go_wp2_with (fail)
  go_ret
  exact ⟨by rw [← HZ.out]; rfl, HB1.out⟩

set_option maxRecDepth 100000 in
set_option maxHeartbeats 4000000 in
theorem ciclosure (x : Ins) (g : Nat) (q : Bool) (w : World) (hg : g < w.heap.size) (hcell : w.cell? ⟨g, 0, none⟩ = some (.func (.func 38) #[] #[]))
    (hR : ∀ W, Below w.heap.size w W → Calls Tryz.prog 38 #[(insA x)] W fun e w' => e = .returned (.bool q) ∧ Below W.heap.size W w') :
    Calls Tryz.prog 56 #[(insA x), .pointer (some ⟨g, 0, none⟩)] w fun e w' => e = .returned (.bool (!q)) ∧ Below w.heap.size w w' := by
  obtain ⟨W0, hW0⟩ : ∃ W0, w.alloc (insO x) = W0 := ⟨_, rfl⟩
  have hb0 : Below w.heap.size w W0 := by rw [← hW0]; exact (Below.refl _ w).alloc (Nat.le_refl _) _
  have ho : W0.heap[w.heap.size]? = some (insO x) := by rw [← hW0]; unfold World.alloc; simp
  have x0 : (w.alloc (insO x)).cell? ⟨g, 0, none⟩ = some (.func (.func 38) #[] #[]) := by rw [hW0]; exact (hb0.cell (p := ⟨g, 0, none⟩) hg).trans hcell
  have HO := Lib.hid ho
  have HW0 := Lib.hid hW0
  have HB0 := Lib.hid hb0
  have HR := Lib.hid (hR W0 hb0)
  obtain ⟨y0, y1, y2⟩ := I3.of_block ho
  clear hW0 hb0 ho hR hcell
  go_enter Tryz.func56, Tryz.ntmps56
  go_wp2_with (fail)
  rw [HW0.out]
  refine HR.out.mono ?_
  rintro e w1 ⟨rfl, hb1⟩
  have HB1 := Lib.hid (bel_trans (B := w.heap.size) HB0.out hb1)
  clear hb1
  go_wp2_with (fail)
  go_ret
  exact ⟨rfl, HB1.out⟩

set_option maxRecDepth 100000 in
set_option maxHeartbeats 4000000 in
theorem ciall_any (q : Ins → Bool) (xs : List Ins) (B : Option Addr) (cap b off : Nat) (w : World) (hB : 0 < xs.length → B = some ⟨b, off, none⟩) (hF : InsAt w b off xs) (hc1 : xs.length ≤ cap) (hc2 : cap ≤ 9223372036854775807)
    (hR : ∀ x ∈ xs, ∀ W, Below w.heap.size w W → Calls Tryz.prog 38 #[(insA x)] W fun e w' => e = .returned (.bool (q x)) ∧ Below W.heap.size W w') :
    Calls Tryz.prog 37 #[.slice B xs.length cap, .func (.func 38) #[] #[]] w fun e w' => e = .returned (.bool (xs.all q)) ∧ Below w.heap.size w w' := by
  obtain ⟨W0, hW0⟩ : ∃ W0, w.alloc (.cells #[.func (.func 38) #[] #[]] 88 (0, 0)) = W0 := ⟨_, rfl⟩
  have hb0 : Below w.heap.size w W0 := by rw [← hW0]; exact (Below.refl _ w).alloc (Nat.le_refl _) _
  have ho : W0.heap[w.heap.size]? = some (.cells #[.func (.func 38) #[] #[]] 88 (0, 0)) := by rw [← hW0]; unfold World.alloc; simp
  have hs0 : w.heap.size < W0.heap.size := by rw [← hW0]; simp
  have hc : W0.cell? ⟨w.heap.size, 0, none⟩ = some (.func (.func 38) #[] #[]) := by rw [ob_cell ho]; rfl
  have HC := Lib.hid (cicontains_any q w.heap.size xs B cap b off W0 hB (hF.below hb0) hc1 hc2 fun x hx W hW => ciclosure x w.heap.size (q x) W (Nat.lt_of_lt_of_le hs0 hW.size) ((hW.cell (p := ⟨w.heap.size, 0, none⟩) hs0).trans hc) fun W2 hW2 => hR x hx W2 (bel_trans (B := w.heap.size) (bel_trans (B := w.heap.size) hb0 hW) hW2))
  have HW0 := Lib.hid hW0
  have HB0 := Lib.hid hb0
  clear hW0 hb0 ho hs0 hc hR hF hB
  obtain ⟨r, hr⟩ : ∃ r, xs.all q = r := ⟨_, rfl⟩
  rw [hr] at HC ⊢
  clear hr
  go_enter Tryz.func37, Tryz.ntmps37
  go_wp2_with (fail)
  rw [HW0.out]
  refine HC.out.mono ?_
  rintro e w1 ⟨rfl, hb1⟩
  have HB1 := Lib.hid (bel_trans (B := w.heap.size) HB0.out hb1)
  clear hb1
  go_wp2_with (fail)
  go_ret
  exact ⟨by simp, HB1.out⟩

set_option maxRecDepth 100000 in
set_option maxHeartbeats 4000000 in
theorem csindex_any (q : ByteArray → Bool) (g : Nat) (xs : List ByteArray) (B : Option Addr) (cap b off : Nat) (w : World) (hB : 0 < xs.length → B = some ⟨b, off, none⟩) (hF : StrAt w b off xs) (hc1 : xs.length ≤ cap) (hc2 : cap ≤ 9223372036854775807)
    (hcl : ∀ x ∈ xs, ∀ W, Below w.heap.size w W → Calls Tryz.prog 40 #[(.string x), .pointer (some ⟨g, 0, none⟩)] W fun e w' => e = .returned (.bool (!q x)) ∧ Below W.heap.size W w') :
    Calls Tryz.prog 57 #[.slice B xs.length cap, .func (.func 40) #[] #[.pointer (some ⟨g, 0, none⟩)]] w fun e w' => (∃ z : Int, e = .returned (.int .i64 z) ∧ decide (0 ≤ z) = !xs.all q) ∧ Below w.heap.size w w' := by
  rcases Nat.eq_zero_or_pos xs.length with h0 | hpos
  · have hk0 : xs = [] := List.length_eq_zero_iff.1 h0
    subst hk0
    show Calls Tryz.prog 57 #[.slice B 0 cap, .func (.func 40) #[] #[.pointer (some ⟨g, 0, none⟩)]] w fun e w' => (∃ z : Int, e = .returned (.int .i64 z) ∧ decide (0 ≤ z) = false) ∧ Below w.heap.size w w'
    clear hcl hF hB hc1
    go_enter Tryz.func57, Tryz.ntmps57
    go_wp2_with (fail)
    go_loopg [8] 0 (fun kk i wr => wr = w ∧ i = .int .i64 0)
    case atStart => exact ⟨rfl, rfl⟩
    case round =>
      obtain ⟨rfl, rfl⟩ := hrel
      go_wp2_with (fail)
      go_ret
      exact ⟨⟨-1, rfl, rfl⟩, Below.refl _ _⟩
  obtain rfl := hB hpos
  clear hB
  have HF := Lib.hid hF
  have HCL := Lib.hid hcl
  clear hF hcl
  go_enter Tryz.func57, Tryz.ntmps57
  go_wp2_with (fail)
  go_loopg [8] xs.length (fun kk i wr => Below w.heap.size w wr ∧ ∃ j : Nat, j ≤ xs.length ∧ kk = xs.length - j ∧ i = .int .i64 (j : Int) ∧ (xs.drop j).all q = xs.all q)
  case atStart => exact ⟨Below.refl _ _, 0, Nat.zero_le _, rfl, rfl, rfl⟩
  case round =>
    obtain ⟨hbr, j, hj, rfl, rfl, hrf⟩ := hrel
    have HBR := Lib.hid hbr
    clear hbr
    by_cases hjl : j < xs.length
    · obtain ⟨x, hx, hdr⟩ := drop_at hjl
      rw [hdr, List.all_cons] at hrf
      obtain ⟨hbl, x0⟩ := (HF.out.below HBR.out) j x hx
      have CL := Lib.hid (HCL.out x (List.mem_of_getElem? hx) wr HBR.out)
      obtain ⟨p, hp⟩ : ∃ p, q x = p := ⟨_, rfl⟩
      rw [hp] at CL hrf
      have HRF := Lib.hid hrf
      clear hrf hdr hx hp
      go_wp2_with (fail)
      refine CL.out.mono ?_
      rintro e w2 ⟨rfl, hb2⟩
      have HB2 := Lib.hid (bel_trans (B := w.heap.size) HBR.out hb2)
      clear hb2
      cases p
      · go_wp2_with (fail)
        go_ret
        exact ⟨⟨j, rfl, by rw [← HRF.out]; simp⟩, HB2.out⟩
      · go_wp2_with (fail)
        go_roundg (xs.length - (j + 1))
        case measure => omega
        case rel => exact ⟨HB2.out, j + 1, by omega, rfl, by go_num, by rw [← HRF.out]; simp⟩
    · have hje : j = xs.length := by omega
      subst hje
      rw [List.drop_length] at hrf
      have HR : Hid (true = xs.all q) := Lib.hid hrf
      clear hrf
      go_wp2_with (fail)
      go_ret
      exact ⟨⟨-1, rfl, by rw [← HR.out]; rfl⟩, HBR.out⟩

set_option maxRecDepth 100000 in
set_option maxHeartbeats 4000000 in
theorem cscontains_any (q : ByteArray → Bool) (g : Nat) (xs : List ByteArray) (B : Option Addr) (cap b off : Nat) (w : World) (hB : 0 < xs.length → B = some ⟨b, off, none⟩) (hF : StrAt w b off xs) (hc1 : xs.length ≤ cap) (hc2 : cap ≤ 9223372036854775807)
    (hcl : ∀ x ∈ xs, ∀ W, Below w.heap.size w W → Calls Tryz.prog 40 #[(.string x), .pointer (some ⟨g, 0, none⟩)] W fun e w' => e = .returned (.bool (!q x)) ∧ Below W.heap.size W w') :
    Calls Tryz.prog 39 #[.slice B xs.length cap, .func (.func 40) #[] #[.pointer (some ⟨g, 0, none⟩)]] w fun e w' => e = .returned (.bool (!xs.all q)) ∧ Below w.heap.size w w' := by
  have H1 := Lib.hid (csindex_any q g xs B cap b off w hB hF hc1 hc2 hcl)
  clear hB hF hcl
  go_enter Tryz.func39, Tryz.ntmps39
  go_wp2_with (fail)
  refine H1.out.mono ?_
  rintro e w1 ⟨⟨z, rfl, hz⟩, hb1⟩
  have HB1 := Lib.hid hb1
  have HZ := Lib.hid hz
  clear hb1 hz
  go_wp2_with (fail)
  go_ret
  exact ⟨by rw [← HZ.out]; rfl, HB1.out⟩

set_option maxRecDepth 100000 in
set_option maxHeartbeats 4000000 in
theorem csclosure (x : ByteArray) (g : Nat) (q : Bool) (w : World) (hg : g < w.heap.size) (hcell : w.cell? ⟨g, 0, none⟩ = some (.func (.func 22) #[] #[]))
    (hR : ∀ W, Below w.heap.size w W → Calls Tryz.prog 22 #[(.string x)] W fun e w' => e = .returned (.bool q) ∧ Below W.heap.size W w') :
    Calls Tryz.prog 40 #[(.string x), .pointer (some ⟨g, 0, none⟩)] w fun e w' => e = .returned (.bool (!q)) ∧ Below w.heap.size w w' := by
  have HR := Lib.hid (hR w (Below.refl _ w))
  clear hR
  go_enter Tryz.func40, Tryz.ntmps40
  go_wp2_with (fail)
  refine HR.out.mono ?_
  rintro e w1 ⟨rfl, hb1⟩
  have HB1 := Lib.hid hb1
  clear hb1
  go_wp2_with (fail)
  go_ret
  exact ⟨rfl, HB1.out⟩

set_option maxRecDepth 100000 in
set_option maxHeartbeats 4000000 in
theorem csall_any (q : ByteArray → Bool) (xs : List ByteArray) (B : Option Addr) (cap b off : Nat) (w : World) (hB : 0 < xs.length → B = some ⟨b, off, none⟩) (hF : StrAt w b off xs) (hc1 : xs.length ≤ cap) (hc2 : cap ≤ 9223372036854775807)
    (hR : ∀ x ∈ xs, ∀ W, Below w.heap.size w W → Calls Tryz.prog 22 #[(.string x)] W fun e w' => e = .returned (.bool (q x)) ∧ Below W.heap.size W w') :
    Calls Tryz.prog 21 #[.slice B xs.length cap, .func (.func 22) #[] #[]] w fun e w' => e = .returned (.bool (xs.all q)) ∧ Below w.heap.size w w' := by
  obtain ⟨W0, hW0⟩ : ∃ W0, w.alloc (.cells #[.func (.func 22) #[] #[]] 58 (0, 0)) = W0 := ⟨_, rfl⟩
  have hb0 : Below w.heap.size w W0 := by rw [← hW0]; exact (Below.refl _ w).alloc (Nat.le_refl _) _
  have ho : W0.heap[w.heap.size]? = some (.cells #[.func (.func 22) #[] #[]] 58 (0, 0)) := by rw [← hW0]; unfold World.alloc; simp
  have hs0 : w.heap.size < W0.heap.size := by rw [← hW0]; simp
  have hc : W0.cell? ⟨w.heap.size, 0, none⟩ = some (.func (.func 22) #[] #[]) := by rw [ob_cell ho]; rfl
  have HC := Lib.hid (cscontains_any q w.heap.size xs B cap b off W0 hB (hF.below hb0) hc1 hc2 fun x hx W hW => csclosure x w.heap.size (q x) W (Nat.lt_of_lt_of_le hs0 hW.size) ((hW.cell (p := ⟨w.heap.size, 0, none⟩) hs0).trans hc) fun W2 hW2 => hR x hx W2 (bel_trans (B := w.heap.size) (bel_trans (B := w.heap.size) hb0 hW) hW2))
  have HW0 := Lib.hid hW0
  have HB0 := Lib.hid hb0
  clear hW0 hb0 ho hs0 hc hR hF hB
  obtain ⟨r, hr⟩ : ∃ r, xs.all q = r := ⟨_, rfl⟩
  rw [hr] at HC ⊢
  clear hr
  go_enter Tryz.func21, Tryz.ntmps21
  go_wp2_with (fail)
  rw [HW0.out]
  refine HC.out.mono ?_
  rintro e w1 ⟨rfl, hb1⟩
  have HB1 := Lib.hid (bel_trans (B := w.heap.size) HB0.out hb1)
  clear hb1
  go_wp2_with (fail)
  go_ret
  exact ⟨by simp, HB1.out⟩

set_option maxRecDepth 100000 in
set_option maxHeartbeats 4000000 in
theorem cpindex_any (q : Prh → Bool) (g : Nat) (xs : List Prh) (B : Option Addr) (cap b off : Nat) (w : World) (hB : 0 < xs.length → B = some ⟨b, off, none⟩) (hF : PrcAt w b off xs) (hc1 : xs.length ≤ cap) (hc2 : cap ≤ 9223372036854775807)
    (hcl : ∀ x ∈ xs, ∀ W, Below w.heap.size w W → Calls Tryz.prog 35 #[(prA x), .pointer (some ⟨g, 0, none⟩)] W fun e w' => e = .returned (.bool (!q x)) ∧ Below W.heap.size W w') :
    Calls Tryz.prog 52 #[.slice B xs.length cap, .func (.func 35) #[] #[.pointer (some ⟨g, 0, none⟩)]] w fun e w' => (∃ z : Int, e = .returned (.int .i64 z) ∧ decide (0 ≤ z) = !xs.all q) ∧ Below w.heap.size w w' := by
  rcases Nat.eq_zero_or_pos xs.length with h0 | hpos
  · have hk0 : xs = [] := List.length_eq_zero_iff.1 h0
    subst hk0
    show Calls Tryz.prog 52 #[.slice B 0 cap, .func (.func 35) #[] #[.pointer (some ⟨g, 0, none⟩)]] w fun e w' => (∃ z : Int, e = .returned (.int .i64 z) ∧ decide (0 ≤ z) = false) ∧ Below w.heap.size w w'
    clear hcl hF hB hc1
    go_enter Tryz.func52, Tryz.ntmps52
    go_wp2_with (fail)
    go_loopg [8] 0 (fun kk i wr => wr = w ∧ i = .int .i64 0)
    case atStart => exact ⟨rfl, rfl⟩
    case round =>
      obtain ⟨rfl, rfl⟩ := hrel
      go_wp2_with (fail)
      go_ret
      exact ⟨⟨-1, rfl, rfl⟩, Below.refl _ _⟩
  obtain rfl := hB hpos
  clear hB
  have HF := Lib.hid hF
  have HCL := Lib.hid hcl
  clear hF hcl
  go_enter Tryz.func52, Tryz.ntmps52
  go_wp2_with (fail)
  go_loopg [8] xs.length (fun kk i wr => Below w.heap.size w wr ∧ ∃ j : Nat, j ≤ xs.length ∧ kk = xs.length - j ∧ i = .int .i64 (j : Int) ∧ (xs.drop j).all q = xs.all q)
  case atStart => exact ⟨Below.refl _ _, 0, Nat.zero_le _, rfl, rfl, rfl⟩
  case round =>
    obtain ⟨hbr, j, hj, rfl, rfl, hrf⟩ := hrel
    have HBR := Lib.hid hbr
    clear hbr
    by_cases hjl : j < xs.length
    · obtain ⟨x, hx, hdr⟩ := drop_at hjl
      rw [hdr, List.all_cons] at hrf
      obtain ⟨hbl, ⟨x0, x1, x2, x3, x4, x5, x6⟩⟩ := (HF.out.below HBR.out) j x hx
      have CL := Lib.hid (HCL.out x (List.mem_of_getElem? hx) wr HBR.out)
      obtain ⟨p, hp⟩ : ∃ p, q x = p := ⟨_, rfl⟩
      rw [hp] at CL hrf
      have HRF := Lib.hid hrf
      clear hrf hdr hx hp
      go_wp2_with (fail)
      refine CL.out.mono ?_
      rintro e w2 ⟨rfl, hb2⟩
      have HB2 := Lib.hid (bel_trans (B := w.heap.size) HBR.out hb2)
      clear hb2
      cases p
      · go_wp2_with (fail)
        go_ret
        exact ⟨⟨j, rfl, by rw [← HRF.out]; simp⟩, HB2.out⟩
      · go_wp2_with (fail)
        go_roundg (xs.length - (j + 1))
        case measure => omega
        case rel => exact ⟨HB2.out, j + 1, by omega, rfl, by go_num, by rw [← HRF.out]; simp⟩
    · have hje : j = xs.length := by omega
      subst hje
      rw [List.drop_length] at hrf
      have HR : Hid (true = xs.all q) := Lib.hid hrf
      clear hrf
      go_wp2_with (fail)
      go_ret
      exact ⟨⟨-1, rfl, by rw [← HR.out]; rfl⟩, HBR.out⟩

set_option maxRecDepth 100000 in
set_option maxHeartbeats 4000000 in
theorem cpcontains_any (q : Prh → Bool) (g : Nat) (xs : List Prh) (B : Option Addr) (cap b off : Nat) (w : World) (hB : 0 < xs.length → B = some ⟨b, off, none⟩) (hF : PrcAt w b off xs) (hc1 : xs.length ≤ cap) (hc2 : cap ≤ 9223372036854775807)
    (hcl : ∀ x ∈ xs, ∀ W, Below w.heap.size w W → Calls Tryz.prog 35 #[(prA x), .pointer (some ⟨g, 0, none⟩)] W fun e w' => e = .returned (.bool (!q x)) ∧ Below W.heap.size W w') :
    Calls Tryz.prog 34 #[.slice B xs.length cap, .func (.func 35) #[] #[.pointer (some ⟨g, 0, none⟩)]] w fun e w' => e = .returned (.bool (!xs.all q)) ∧ Below w.heap.size w w' := by
  have H1 := Lib.hid (cpindex_any q g xs B cap b off w hB hF hc1 hc2 hcl)
  clear hB hF hcl
  go_enter Tryz.func34, Tryz.ntmps34
  go_wp2_with (fail)
  refine H1.out.mono ?_
  rintro e w1 ⟨⟨z, rfl, hz⟩, hb1⟩
  have HB1 := Lib.hid hb1
  have HZ := Lib.hid hz
  clear hb1 hz
  go_wp2_with (fail)
  go_ret
  exact ⟨by rw [← HZ.out]; rfl, HB1.out⟩

set_option maxRecDepth 100000 in
set_option maxHeartbeats 4000000 in
theorem cpclosure (x : Prh) (g : Nat) (q : Bool) (w : World) (hg : g < w.heap.size) (hcell : w.cell? ⟨g, 0, none⟩ = some (.func (.func 20) #[] #[]))
    (hR : ∀ W, Below w.heap.size w W → Calls Tryz.prog 20 #[(prA x)] W fun e w' => e = .returned (.bool q) ∧ Below W.heap.size W w') :
    Calls Tryz.prog 35 #[(prA x), .pointer (some ⟨g, 0, none⟩)] w fun e w' => e = .returned (.bool (!q)) ∧ Below w.heap.size w w' := by
  obtain ⟨W0, hW0⟩ : ∃ W0, w.alloc (prO x) = W0 := ⟨_, rfl⟩
  have hb0 : Below w.heap.size w W0 := by rw [← hW0]; exact (Below.refl _ w).alloc (Nat.le_refl _) _
  have ho : W0.heap[w.heap.size]? = some (prO x) := by rw [← hW0]; unfold World.alloc; simp
  have x0 : (w.alloc (prO x)).cell? ⟨g, 0, none⟩ = some (.func (.func 20) #[] #[]) := by rw [hW0]; exact (hb0.cell (p := ⟨g, 0, none⟩) hg).trans hcell
  have HO := Lib.hid ho
  have HW0 := Lib.hid hW0
  have HB0 := Lib.hid hb0
  have HR := Lib.hid (hR W0 hb0)
  obtain ⟨y0, y1, y2, y3, y4, y5, y6⟩ := P7.of_block ho
  clear hW0 hb0 ho hR hcell
  go_enter Tryz.func35, Tryz.ntmps35
  go_wp2_with (fail)
  rw [HW0.out]
  refine HR.out.mono ?_
  rintro e w1 ⟨rfl, hb1⟩
  have HB1 := Lib.hid (bel_trans (B := w.heap.size) HB0.out hb1)
  clear hb1
  go_wp2_with (fail)
  go_ret
  exact ⟨rfl, HB1.out⟩

set_option maxRecDepth 100000 in
set_option maxHeartbeats 4000000 in
theorem cpall_any (q : Prh → Bool) (xs : List Prh) (B : Option Addr) (cap b off : Nat) (w : World) (hB : 0 < xs.length → B = some ⟨b, off, none⟩) (hF : PrcAt w b off xs) (hc1 : xs.length ≤ cap) (hc2 : cap ≤ 9223372036854775807)
    (hR : ∀ x ∈ xs, ∀ W, Below w.heap.size w W → Calls Tryz.prog 20 #[(prA x)] W fun e w' => e = .returned (.bool (q x)) ∧ Below W.heap.size W w') :
    Calls Tryz.prog 19 #[.slice B xs.length cap, .func (.func 20) #[] #[]] w fun e w' => e = .returned (.bool (xs.all q)) ∧ Below w.heap.size w w' := by
  obtain ⟨W0, hW0⟩ : ∃ W0, w.alloc (.cells #[.func (.func 20) #[] #[]] 56 (0, 0)) = W0 := ⟨_, rfl⟩
  have hb0 : Below w.heap.size w W0 := by rw [← hW0]; exact (Below.refl _ w).alloc (Nat.le_refl _) _
  have ho : W0.heap[w.heap.size]? = some (.cells #[.func (.func 20) #[] #[]] 56 (0, 0)) := by rw [← hW0]; unfold World.alloc; simp
  have hs0 : w.heap.size < W0.heap.size := by rw [← hW0]; simp
  have hc : W0.cell? ⟨w.heap.size, 0, none⟩ = some (.func (.func 20) #[] #[]) := by rw [ob_cell ho]; rfl
  have HC := Lib.hid (cpcontains_any q w.heap.size xs B cap b off W0 hB (hF.below hb0) hc1 hc2 fun x hx W hW => cpclosure x w.heap.size (q x) W (Nat.lt_of_lt_of_le hs0 hW.size) ((hW.cell (p := ⟨w.heap.size, 0, none⟩) hs0).trans hc) fun W2 hW2 => hR x hx W2 (bel_trans (B := w.heap.size) (bel_trans (B := w.heap.size) hb0 hW) hW2))
  have HW0 := Lib.hid hW0
  have HB0 := Lib.hid hb0
  clear hW0 hb0 ho hs0 hc hR hF hB
  obtain ⟨r, hr⟩ : ∃ r, xs.all q = r := ⟨_, rfl⟩
  rw [hr] at HC ⊢
  clear hr
  go_enter Tryz.func19, Tryz.ntmps19
  go_wp2_with (fail)
  rw [HW0.out]
  refine HC.out.mono ?_
  rintro e w1 ⟨rfl, hb1⟩
  have HB1 := Lib.hid (bel_trans (B := w.heap.size) HB0.out hb1)
  clear hb1
  go_wp2_with (fail)
  go_ret
  exact ⟨by simp, HB1.out⟩

end LM
end Go.Proofs.YtmocnoiieiakhaaGreatDoor
