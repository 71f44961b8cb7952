/- Walks of package code: Effect of any instruction, the program's and the document's. Written by genEc.py. -/
import Derived.Test.YtmocnoiieiakhaaGreatDoorV40
import Derived.Test.YtmocnoiieiakhaaGreatDoorV43
import Derived.Test.YtmocnoiieiakhaaGreatDoorV27
namespace Go.Proofs.YtmocnoiieiakhaaGreatDoor
open Go Go.RowKit
namespace LM
set_option linter.unusedVariables false
attribute [local go_sem] run_store_flt

end LM
end Go.Proofs.YtmocnoiieiakhaaGreatDoor

namespace Go.Proofs.YtmocnoiieiakhaaGreatDoor
open Go Go.RowKit
namespace LM
set_option linter.unusedVariables false
attribute [local go_sem] run_store_flt

end LM
end Go.Proofs.YtmocnoiieiakhaaGreatDoor

namespace Go.Proofs.YtmocnoiieiakhaaGreatDoor
open Go Go.RowKit
namespace LM
set_option linter.unusedVariables false
attribute [local go_sem] run_store_flt

def allF (q : Hd → Fr → Bool) : Fr → Bool
  | .nil => true
  | .cons h kids rest => q h kids && allF q rest

set_option maxRecDepth 100000 in
set_option maxHeartbeats 4000000 in
/-- the first that can't be -/
theorem cdindex_any (q : Hd → Fr → Bool) (g : Nat) (kids : Fr) (B : Option Addr) (cap b off : Nat) (w : World) (hB : 0 < kids.len → B = some ⟨b, off, none⟩) (hF : FAt w b off kids) (hc1 : kids.len ≤ cap) (hc2 : cap ≤ 9223372036854775807)
    (hcl : ∀ hh k j r, kids.drop j = .cons hh k r → ∀ W, Below w.heap.size w W → DatV W hh k → Calls Tryz.prog 42 #[datA hh k.len, .pointer (some ⟨g, 0, none⟩)] W fun e w' => e = .returned (.bool (!q hh k)) ∧ Below W.heap.size W w') :
    Calls Tryz.prog 58 #[.slice B kids.len cap, .func (.func 42) #[] #[.pointer (some ⟨g, 0, none⟩)]] w fun e w' => (∃ z : Int, e = .returned (.int .i64 z) ∧ decide (0 ≤ z) = !allF q kids) ∧ Below w.heap.size w w' := by
  rcases Nat.eq_zero_or_pos kids.len with h0 | hpos
  · have hk0 : kids = .nil := by
      cases kids with
      | nil => rfl
      | cons x y z => have h3 : z.len + 1 = 0 := h0; omega
    subst hk0
    show Calls Tryz.prog 58 #[.slice B 0 cap, .func (.func 42) #[] #[.pointer (some ⟨g, 0, none⟩)]] w fun e w' => (∃ z : Int, e = .returned (.int .i64 z) ∧ decide (0 ≤ z) = false) ∧ Below w.heap.size w w'
    clear hcl hF hB hc1
    go_enter Tryz.func58, Tryz.ntmps58
    go_wp2_with (fail)
    go_loopg [8] 0 (fun kk i wr => wr = w ∧ i = .int .i64 0)
    case atStart => exact ⟨rfl, rfl⟩
    case round =>
      obtain ⟨rfl, rfl⟩ := hrel
      go_wp2_with (fail)
      go_ret
      exact ⟨⟨-1, rfl, rfl⟩, Below.refl _ _⟩
  obtain rfl := hB hpos
  clear hB
  have HF := Lib.hid hF
  have HCL := Lib.hid hcl
  clear hF hcl
  go_enter Tryz.func58, Tryz.ntmps58
  go_wp2_with (fail)
  go_loopg [8] kids.len (fun kk i wr => Below w.heap.size w wr ∧ ∃ j : Nat, j ≤ kids.len ∧ kk = kids.len - j ∧ i = .int .i64 (j : Int) ∧ allF q (kids.drop j) = allF q kids)
  case atStart => exact ⟨Below.refl _ _, 0, Nat.zero_le _, rfl, rfl, rfl⟩
  case round =>
    obtain ⟨hbr, j, hj, rfl, rfl, hrf⟩ := hrel
    have HBR := Lib.hid hbr
    clear hbr
    by_cases hjl : j < kids.len
    · obtain ⟨hh, k, r, hdr, hdr1⟩ := Fr.cons_of_lt hjl
      rw [hdr] at hrf
      obtain ⟨hbl, ⟨x0, x1, x2, x3, x4, x5, x6, x7⟩, D⟩ := counted_item (FAt.below HBR.out _ _ _ HF.out) hdr
      have CL := Lib.hid (HCL.out hh k j r hdr wr HBR.out D)
      have hrf2 : (q hh k && allF q r) = allF q kids := hrf
      obtain ⟨p, hq⟩ : ∃ p, q hh k = p := ⟨_, rfl⟩
      rw [hq] at CL hrf2
      have HRF := Lib.hid hrf2
      have HDR := Lib.hid hdr1
      clear hrf hdr hdr1 D hrf2 hq
      go_wp2_with (fail)
      refine CL.out.mono ?_
      rintro e w2 ⟨rfl, hb2⟩
      have HB2 := Lib.hid (bel_trans (B := w.heap.size) HBR.out hb2)
      clear hb2
      cases p
      · go_wp2_with (fail)
        go_ret
        exact ⟨⟨j, rfl, by rw [← HRF.out]; simp⟩, HB2.out⟩
      · go_wp2_with (fail)
        go_roundg (kids.len - (j + 1))
        case measure => omega
        case rel => exact ⟨HB2.out, j + 1, by omega, rfl, by go_num, by rw [HDR.out]; exact HRF.out⟩
    · have hje : j = kids.len := by omega
      subst hje
      have hnil : kids.drop kids.len = .nil := by
        have h1 := Fr.len_drop kids.len kids
        cases h2 : kids.drop kids.len with
        | nil => rfl
        | cons x y z => rw [h2] at h1; have h3 : z.len + 1 = kids.len - kids.len := h1; omega
      rw [hnil] at hrf
      have HR : Hid (true = allF q kids) := Lib.hid hrf
      clear hrf hnil
      go_wp2_with (fail)
      go_ret
      exact ⟨⟨-1, rfl, by rw [← HR.out]; rfl⟩, HBR.out⟩

set_option maxRecDepth 100000 in
set_option maxHeartbeats 4000000 in
theorem cdcontains_any (q : Hd → Fr → Bool) (g : Nat) (kids : Fr) (B : Option Addr) (cap b off : Nat) (w : World) (hB : 0 < kids.len → B = some ⟨b, off, none⟩) (hF : FAt w b off kids) (hc1 : kids.len ≤ cap) (hc2 : cap ≤ 9223372036854775807)
    (hcl : ∀ hh k j r, kids.drop j = .cons hh k r → ∀ W, Below w.heap.size w W → DatV W hh k → Calls Tryz.prog 42 #[datA hh k.len, .pointer (some ⟨g, 0, none⟩)] W fun e w' => e = .returned (.bool (!q hh k)) ∧ Below W.heap.size W w') :
    Calls Tryz.prog 41 #[.slice B kids.len cap, .func (.func 42) #[] #[.pointer (some ⟨g, 0, none⟩)]] w fun e w' => e = .returned (.bool (!allF q kids)) ∧ Below w.heap.size w w' := by
  have H1 := Lib.hid (cdindex_any q g kids B cap b off w hB hF hc1 hc2 hcl)
  clear hB hF hcl
  go_enter Tryz.func41, Tryz.ntmps41
  go_wp2_with (fail)
  refine H1.out.mono ?_
  rintro e w1 ⟨⟨z, rfl, hz⟩, hb1⟩
  have HB1 := Lib.hid hb1
  have HZ := Lib.hid hz
  clear hb1 hz
  go_wp2_with (fail)
  go_ret
  exact ⟨by rw [← HZ.out]; rfl, HB1.out⟩

set_option maxRecDepth 100000 in
set_option maxHeartbeats 4000000 in
theorem cdclosure (hh : Hd) (n : Nat) (g : Nat) (q : Bool) (w : World) (hg : g < w.heap.size) (hcell : w.cell? ⟨g, 0, none⟩ = some (.func (.func 24) #[] #[]))
    (hR : ∀ W, Below w.heap.size w W → Calls Tryz.prog 24 #[datA hh n] W fun e w' => e = .returned (.bool q) ∧ Below W.heap.size W w') :
    Calls Tryz.prog 42 #[datA hh n, .pointer (some ⟨g, 0, none⟩)] w fun e w' => e = .returned (.bool (!q)) ∧ Below w.heap.size w w' := by
  obtain ⟨W0, hW0⟩ : ∃ W0, w.alloc (datO hh n) = W0 := ⟨_, rfl⟩
  have hb0 : Below w.heap.size w W0 := by rw [← hW0]; exact (Below.refl _ w).alloc (Nat.le_refl _) _
  have ho : W0.heap[w.heap.size]? = some (datO hh n) := by rw [← hW0]; unfold World.alloc; simp
  have x0 : (w.alloc (datO hh n)).cell? ⟨g, 0, none⟩ = some (.func (.func 24) #[] #[]) := by rw [hW0]; exact (hb0.cell (p := ⟨g, 0, none⟩) hg).trans hcell
  have HW0 := Lib.hid hW0
  have HB0 := Lib.hid hb0
  have HR := Lib.hid (hR W0 hb0)
  obtain ⟨y0, y1, y2, y3, y4, y5, y6, y7⟩ := C8.of_block ho
  clear hW0 hb0 ho hR hcell
  go_enter Tryz.func42, Tryz.ntmps42
  go_wp2_with (fail)
  rw [HW0.out]
  refine HR.out.mono ?_
  rintro e w1 ⟨rfl, hb1⟩
  have HB1 := Lib.hid (bel_trans (B := w.heap.size) HB0.out hb1)
  clear hb1
  go_wp2_with (fail)
  go_ret
  exact ⟨rfl, HB1.out⟩

set_option maxRecDepth 100000 in
set_option maxHeartbeats 4000000 in
theorem cdall_any (q : Hd → Fr → Bool) (kids : Fr) (B : Option Addr) (cap b off : Nat) (w : World) (hB : 0 < kids.len → B = some ⟨b, off, none⟩) (hF : FAt w b off kids) (hc1 : kids.len ≤ cap) (hc2 : cap ≤ 9223372036854775807)
    (hR : ∀ hh k j r, kids.drop j = .cons hh k r → ∀ W, Below w.heap.size w W → DatV W hh k → Calls Tryz.prog 24 #[datA hh k.len] W fun e w' => e = .returned (.bool (q hh k)) ∧ Below W.heap.size W w') :
    Calls Tryz.prog 23 #[.slice B kids.len cap, .func (.func 24) #[] #[]] w fun e w' => e = .returned (.bool (allF q kids)) ∧ Below w.heap.size w w' := by
  obtain ⟨W0, hW0⟩ : ∃ W0, w.alloc (.cells #[.func (.func 24) #[] #[]] 68 (0, 0)) = W0 := ⟨_, rfl⟩
  have hb0 : Below w.heap.size w W0 := by rw [← hW0]; exact (Below.refl _ w).alloc (Nat.le_refl _) _
  have ho : W0.heap[w.heap.size]? = some (.cells #[.func (.func 24) #[] #[]] 68 (0, 0)) := by rw [← hW0]; unfold World.alloc; simp
  have hs0 : w.heap.size < W0.heap.size := by rw [← hW0]; simp
  have hc : W0.cell? ⟨w.heap.size, 0, none⟩ = some (.func (.func 24) #[] #[]) := by rw [ob_cell ho]; rfl
  have HC := Lib.hid (cdcontains_any q w.heap.size kids B cap b off W0 hB (FAt.below hb0 _ _ _ hF) hc1 hc2 fun hh k j r hdr W hW hD => cdclosure hh k.len w.heap.size (q hh k) W (Nat.lt_of_lt_of_le hs0 hW.size) ((hW.cell (p := ⟨w.heap.size, 0, none⟩) hs0).trans hc) fun W2 hW2 => hR hh k j r hdr W2 (bel_trans (B := w.heap.size) (bel_trans (B := w.heap.size) hb0 hW) hW2) (hD.below hW2))
  have HW0 := Lib.hid hW0
  have HB0 := Lib.hid hb0
  clear hW0 hb0 ho hs0 hc hR hF hB
  obtain ⟨r, hr⟩ : ∃ r, allF q kids = r := ⟨_, rfl⟩
  rw [hr] at HC ⊢
  clear hr
  go_enter Tryz.func23, Tryz.ntmps23
  go_wp2_with (fail)
  rw [HW0.out]
  refine HC.out.mono ?_
  rintro e w1 ⟨rfl, hb1⟩
  have HB1 := Lib.hid (bel_trans (B := w.heap.size) HB0.out hb1)
  clear hb1
  go_wp2_with (fail)
  go_ret
  exact ⟨by simp, HB1.out⟩

end LM
end Go.Proofs.YtmocnoiieiakhaaGreatDoor

namespace Go.Proofs.YtmocnoiieiakhaaGreatDoor
open Go Go.RowKit
namespace LM
set_option linter.unusedVariables false
attribute [local go_sem] run_store_flt

set_option maxRecDepth 100000 in
set_option maxHeartbeats 8000000 in
theorem cfew_any (c : Cod) (w : World) (hv : CodV w c) (hok : c.Ok) : Calls Tryz.prog 18 #[codA c] w fun e w' => e = .returned (.bool (fewB c)) ∧ Below w.heap.size w w' := by
  obtain ⟨W0, hW0, hb0, ho, hs0, hz0⟩ := cod_block w c
  obtain ⟨PB, pc, ps, CB, cc, kids, GB, gc, gs⟩ := c
  have HB0 := Lib.hid hb0
  have HW0 := Lib.hid hW0
  obtain ⟨b, off, hB, hF⟩ := (hv.below hb0).ps
  have hle := insN_le hok.pr
  have HF := Lib.hid hF
  have HLE := Lib.hid hle
  obtain ⟨y0, y1, y2⟩ := K3.of_block ho
  dsimp only [codA, codO] at *
  by_cases hm : ps.length ≤ 4000 ∧ kids.len ≤ 4000 ∧ gs.length ≤ 4000
  · obtain ⟨m1, m2, m3⟩ := hm
    have E : Hid (fewB ⟨PB, pc, ps, CB, cc, kids, GB, gc, gs⟩ = decide (insN ps ≤ 40000)) := Lib.hid (by unfold fewB; rw [decide_eq_true m1, decide_eq_true m2, decide_eq_true m3]; rfl)
    have M1 := Lib.hid m1
    obtain ⟨M, hM⟩ : ∃ M : Int, (if (if ps.length < kids.len then (kids.len : Int) else (ps.length : Int)) < (gs.length : Int) then (gs.length : Int) else if ps.length < kids.len then (kids.len : Int) else (ps.length : Int)) = M := ⟨_, rfl⟩
    have dm : decide ((4000 : Int) < M) = false := decide_eq_false (by rw [← hM]; split <;> (try split) <;> omega)
    rcases Nat.eq_zero_or_pos ps.length with h0 | hpos
    · have hz : decide (0 < ps.length) = false := decide_eq_false (by omega)
      have E2 : Hid (decide (insN ps ≤ 40000) = true) := Lib.hid (by rw [List.length_eq_zero_iff.1 h0]; rfl)
      clear hW0 hb0 ho hs0 hv hok m1 m2 m3 hz0 h0 hB hF hle
      go_enter Tryz.func18, Tryz.ntmps18
      go_wp2_with (fail)
      rw [HW0.out]
      go_wp2_with (fail)
      go_loopg [3, 20] 0 (fun kk n i wr => Below W0.heap.size W0 wr ∧ i = .int .i64 0 ∧ n = .int .i64 0)
      case atStart => exact ⟨Below.refl _ _, rfl, rfl⟩
      case round =>
        obtain ⟨hbr, rfl, rfl⟩ := hrel
        have HBR := Lib.hid hbr
        clear hbr
        go_wp2_with (fail)
        go_ret
        exact ⟨by rw [E.out, E2.out]; rfl, bel_trans (B := w.heap.size) HB0.out HBR.out⟩
    obtain rfl := hB hpos
    clear hW0 hb0 ho hs0 hv hok m2 m3 hz0 hF hle hB
    go_enter Tryz.func18, Tryz.ntmps18
    go_wp2_with (fail)
    rw [HW0.out]
    go_wp2_with (fail)
    go_loopg [3, 20] ps.length (fun kk n i wr => Below W0.heap.size W0 wr ∧ ∃ j : Nat, j ≤ ps.length ∧ kk = ps.length - j ∧ i = .int .i64 (j : Int) ∧ ∃ a : Nat, n = .int .i64 (a : Int) ∧ a + insN (ps.drop j) = insN ps)
    case atStart => exact ⟨Below.refl _ _, 0, Nat.zero_le _, rfl, rfl, 0, rfl, by simp⟩
    case round =>
      obtain ⟨hbr, j, hj, rfl, rfl, a, rfl, ha⟩ := hrel
      have HBR := Lib.hid hbr
      have HA := Lib.hid ha
      clear hbr ha
      by_cases hjl : j < ps.length
      · obtain ⟨p, hp, hdr⟩ := drop_at hjl
        obtain ⟨hbl, x0, x1, x2, x3, x4, x5, x6⟩ := (HF.out.below HBR.out) j p hp
        have h2 := HA.out
        rw [hdr, insN_cons] at h2
        have w1 : IntKind.i64.wrap ((a : Int) + (p.code.length : Int)) = (a : Int) + (p.code.length : Int) := by rw [IntKind.wrap_i64]; have := HLE.out; have := M1.out; omega
        have H2 := Lib.hid h2
        have k6 := ob_cell (show (wr.alloc (prO p)).heap[wr.heap.size]? = some (prO p) by unfold World.alloc; simp) 6
        rw [show (#[Value.string p.nm, .int .i64 p.pa, .bool p.rs, .int .i64 p.sl, .int .i64 p.de, .int .i64 p.fr, .slice p.B p.code.length p.cap] : Array Value)[6]? = some (.slice p.B p.code.length p.cap) from rfl] at k6
        have HBA := Lib.hid (bel_trans (B := W0.heap.size) HBR.out ((Below.refl _ wr).alloc (Nat.le_refl _) (prO p)))
        clear h2 hdr hp
        go_wp2_with (fail)
        go_roundg (ps.length - (j + 1))
        case measure => omega
        case rel => exact ⟨HBA.out, j + 1, by omega, rfl, by go_num, a + p.code.length, by go_num, by have := H2.out; omega⟩
      · have hje : j = ps.length := by omega
        subst hje
        have h2 := HA.out
        rw [List.drop_length] at h2
        have hr : decide ((a : Int) ≤ 40000) = decide (insN ps ≤ 40000) := decide_eq_decide.2 (by have : insN [] = 0 := rfl; omega)
        have HR := Lib.hid hr
        clear h2 hr
        go_wp2_with (fail)
        go_ret
        exact ⟨by rw [E.out, ← HR.out]; rfl, bel_trans (B := w.heap.size) HB0.out HBR.out⟩
  · have E : Hid (fewB ⟨PB, pc, ps, CB, cc, kids, GB, gc, gs⟩ = false) := Lib.hid (by
      unfold fewB
      by_cases m1 : ps.length ≤ 4000
      · by_cases m2 : kids.len ≤ 4000
        · rw [decide_eq_false (show ¬ gs.length ≤ 4000 from fun m3 => hm ⟨m1, m2, m3⟩)]; simp
        · rw [decide_eq_false m2]; simp
      · rw [decide_eq_false m1]; simp)
    obtain ⟨M, hM⟩ : ∃ M : Int, (if (if ps.length < kids.len then (kids.len : Int) else (ps.length : Int)) < (gs.length : Int) then (gs.length : Int) else if ps.length < kids.len then (kids.len : Int) else (ps.length : Int)) = M := ⟨_, rfl⟩
    have dm : decide ((4000 : Int) < M) = true := decide_eq_true (by rw [← hM]; split <;> (try split) <;> omega)
    clear hW0 ho hs0 hv hok hz0 hm hb0 hB hF hle
    go_enter Tryz.func18, Tryz.ntmps18
    go_wp2_with (fail)
    rw [HW0.out]
    go_ret
    exact ⟨by rw [E.out]; rfl, HB0.out⟩

set_option maxRecDepth 100000 in
set_option maxHeartbeats 8000000 in
/-- Right, when q tells of the constants -/
theorem cright_by (q : Hd → Fr → Bool) (c : Cod) (w : World) (hv : CodV w c) (hok : c.Ok)
    (hq : ∀ hh k j r, c.kids.drop j = .cons hh k r → ∀ W, Below w.heap.size w W → DatV W hh k → Calls Tryz.prog 24 #[datA hh k.len] W fun e w' => e = .returned (.bool (q hh k)) ∧ Below W.heap.size W w') :
    Calls Tryz.prog 12 #[codA c] w fun e w' => e = .returned (.bool (fewB c && (c.ps.all prB && (c.gs.all (fun s => decide (s.size ≤ 100)) && allF q c.kids)))) ∧ Below w.heap.size w w' := by
  obtain ⟨W0, hW0, hb0, ho, hs0, hz0⟩ := cod_block w c
  have N1 := Lib.hid (cfew_any c W0 (hv.below hb0) hok)
  have N2 : Hid (∀ W, Below w.heap.size w W → Calls Tryz.prog 19 #[.slice c.PB c.ps.length c.pc, .func (.func 20) #[] #[]] W fun e w' => e = .returned (.bool (c.ps.all prB)) ∧ Below W.heap.size W w') := Lib.hid fun W hW => by
    obtain ⟨b, off, hB, hF⟩ := (hv.below hW).ps
    exact cpall_any prB c.ps c.PB c.pc b off W hB hF hok.ps.1 hok.ps.2 fun p hp W2 hW2 => cproc_any p W2 (((hv.pv p hp).below hW).below hW2) (hok.pr p hp)
  have N3 : Hid (∀ W, Below w.heap.size w W → Calls Tryz.prog 21 #[.slice c.GB c.gs.length c.gc, .func (.func 22) #[] #[]] W fun e w' => e = .returned (.bool (c.gs.all fun s => decide (s.size ≤ 100))) ∧ Below W.heap.size W w') := Lib.hid fun W hW => by
    obtain ⟨b, off, hB, hF⟩ := (hv.below hW).gs
    exact csall_any (fun s => decide (s.size ≤ 100)) c.gs c.GB c.gc b off W hB hF hok.gs.1 hok.gs.2 fun s _ W2 _ => cname_any s W2
  have N4 : Hid (∀ W, Below w.heap.size w W → Calls Tryz.prog 23 #[.slice c.CB c.kids.len c.cc, .func (.func 24) #[] #[]] W fun e w' => e = .returned (.bool (allF q c.kids)) ∧ Below W.heap.size W w') := Lib.hid fun W hW => by
    obtain ⟨b, off, hB, hF⟩ := (hv.below hW).kids
    exact cdall_any q c.kids c.CB c.cc b off W hB hF hok.kids.1 hok.kids.2 fun hh k j r hdr W2 hW2 hD => hq hh k j r hdr W2 (bel_trans (B := w.heap.size) hW hW2) hD
  have HB0 := Lib.hid hb0
  have HW0 := Lib.hid hW0
  have HS := Lib.hid hs0
  have K0 := Lib.hid (K3.of_block ho)
  obtain ⟨y0, y1, y2⟩ := K0.out
  obtain ⟨r1, hr1⟩ : ∃ r, fewB c = r := ⟨_, rfl⟩
  obtain ⟨r2, hr2⟩ : ∃ r, c.ps.all prB = r := ⟨_, rfl⟩
  obtain ⟨r3, hr3⟩ : ∃ r, (c.gs.all fun s => decide (s.size ≤ 100)) = r := ⟨_, rfl⟩
  obtain ⟨r4, hr4⟩ : ∃ r, allF q c.kids = r := ⟨_, rfl⟩
  rw [hr1] at N1 ⊢
  rw [hr2] at N2 ⊢
  rw [hr3] at N3 ⊢
  rw [hr4] at N4 ⊢
  clear hW0 hb0 ho hs0 hv hok hz0 hq hr1 hr2 hr3 hr4
  go_enter Tryz.func12, Tryz.ntmps12
  go_wp2_with (fail)
  rw [HW0.out]
  refine N1.out.mono ?_
  rintro e w1 ⟨rfl, hb1⟩
  have HB1 := Lib.hid (bel_trans (B := w.heap.size) HB0.out hb1)
  have K1 := Lib.hid (K0.out.keep hb1 HS.out)
  have hs1 : w.heap.size < w1.heap.size := Nat.lt_of_lt_of_le HS.out hb1.size
  have HS1 := Lib.hid hs1
  clear hb1 y0 y1 y2 hs1
  cases r1
  · go_wp2_with (fail)
    go_ret
    exact ⟨rfl, HB1.out⟩
  obtain ⟨y0, y1, y2⟩ := K1.out
  simp only [Nat.zero_add] at y0 y1 y2
  go_wp2_with (fail)
  refine (N2.out _ HB1.out).mono ?_
  rintro e w2 ⟨rfl, hb2⟩
  have HB2 := Lib.hid (bel_trans (B := w.heap.size) HB1.out hb2)
  have K2 := Lib.hid (K1.out.keep hb2 HS1.out)
  have HS2 := Lib.hid (Nat.lt_of_lt_of_le HS1.out hb2.size)
  clear hb2 y0 y1 y2
  cases r2
  · go_wp2_with (fail)
    go_ret
    exact ⟨rfl, HB2.out⟩
  obtain ⟨y0, y1, y2⟩ := K2.out
  simp only [Nat.zero_add] at y0 y1 y2
  go_wp2_with (fail)
  refine (N3.out _ HB2.out).mono ?_
  rintro e w3 ⟨rfl, hb3⟩
  have HB3 := Lib.hid (bel_trans (B := w.heap.size) HB2.out hb3)
  have K3' := Lib.hid (K2.out.keep hb3 HS2.out)
  clear hb3 y0 y1 y2
  cases r3
  · go_wp2_with (fail)
    go_ret
    exact ⟨rfl, HB3.out⟩
  obtain ⟨y0, y1, y2⟩ := K3'.out
  simp only [Nat.zero_add] at y0 y1 y2
  go_wp2_with (fail)
  refine (N4.out _ HB3.out).mono ?_
  rintro e w4 ⟨rfl, hb4⟩
  have HB4 := Lib.hid (bel_trans (B := w.heap.size) HB3.out hb4)
  clear hb4 y0 y1 y2
  go_wp2_with (fail)
  go_ret
  exact ⟨by first | rfl | simp, HB4.out⟩

end LM
end Go.Proofs.YtmocnoiieiakhaaGreatDoor

namespace Go.Proofs.YtmocnoiieiakhaaGreatDoor
open Go Go.RowKit
namespace LM
set_option linter.unusedVariables false
attribute [local go_sem] run_store_flt

/-- how many free names a procedure has; none, where there is no such procedure -/
def frV (ps : List Prh) (n : Nat) : Int := match ps[n]? with | some p => p.fr | none => 0

set_option maxRecDepth 100000 in
set_option maxHeartbeats 16000000 in
theorem cfree_any (c : Cod) (n : Nat) (hn : n ≤ 16777215) (w : World) (hv : CodV w c) (hok : c.Ok) :
    Calls Tryz.prog 17 #[codA c, .int .i64 (n : Int)] w fun e w' => e = .returned (.int .i64 (frV c.ps n)) ∧ Below w.heap.size w w' := by
  obtain ⟨W0, hW0, hb0, ho, hs0, hz0⟩ := cod_block w c
  obtain ⟨PB, pc, ps, CB, cc, kids, GB, gc, gs⟩ := c
  dsimp only at hW0 ho ⊢
  have y0 : W0.cell? ⟨w.heap.size, 0, none⟩ = some (.slice PB ps.length pc) := ob_cell ho 0
  have hps := (hv.below hb0).ps
  have HW0 := Lib.hid hW0
  have HB0 := Lib.hid hb0
  have d0 : decide ((n : Int) < 0) = false := decide_eq_false (by omega)
  have hpc := hok.ps
  dsimp only at hps hpc
  clear hW0 hb0 ho hs0 hz0 hv hok
  by_cases hlt : n < ps.length
  · obtain ⟨b, off, hB, hF⟩ := hps
    obtain ⟨p, hp⟩ : ∃ p, ps[n]? = some p := ⟨_, List.getElem?_eq_getElem hlt⟩
    have hf : frV ps n = p.fr := by unfold frV; rw [hp]
    obtain rfl := hB (by omega)
    have z5 : (w.alloc (.cells #[.slice (some ⟨b, off, none⟩) ps.length pc, .slice CB kids.len cc, .slice GB gs.length gc] 30 (0, 0))).cell? ⟨b, off + n * 7 + 5, none⟩ = some (.int .i64 p.fr) := by
      have h := (hF n p hp).2.c5
      rw [← HW0.out] at h
      exact h
    have d1 : decide ((ps.length : Int) ≤ (n : Int)) = false := decide_eq_false (by omega)
    have d1' : decide (ps.length ≤ n) = false := decide_eq_false (by omega)
    have d2 : (0 : Int) ≤ (n : Int) := by omega
    have d3 : (n : Int) < (ps.length : Int) := by omega
    have d4 : (ps.length : Int) ≤ (pc : Int) := by omega
    have d5 : (pc : Int) ≤ 9223372036854775807 := by omega
    have HF := Lib.hid hf
    clear hB hF hp hf hpc
    go_enter Tryz.func17, Tryz.ntmps17
    go_wp2_with (fail)
    rw [HW0.out]
    go_wp2_with (fail)
    go_ret
    exact ⟨by rw [HF.out]; rfl, HB0.out⟩
  · have hf : frV ps n = 0 := by unfold frV; rw [List.getElem?_eq_none (by omega)]
    have d1 : decide ((ps.length : Int) ≤ (n : Int)) = true := decide_eq_true (by omega)
    have d1' : decide (ps.length ≤ n) = true := decide_eq_true (by omega)
    have HF := Lib.hid hf
    clear hps hf hpc
    go_enter Tryz.func17, Tryz.ntmps17
    go_wp2_with (fail)
    rw [HW0.out]
    go_wp2_with (fail)
    go_ret
    exact ⟨by rw [HF.out]; rfl, HB0.out⟩

end LM
end Go.Proofs.YtmocnoiieiakhaaGreatDoor

namespace Go.Proofs.YtmocnoiieiakhaaGreatDoor
open Go Go.RowKit
namespace LM
set_option linter.unusedVariables false
attribute [local go_sem] run_store_flt

/-- how many words an instruction takes; f: how many free names the procedure has -/
def effK (op : Int) (n : Nat) (f : Int) : Int := if op = 10 then f else if op = 13 ∨ op = 14 then (n : Int) + 1 else if op = 17 then 2 + 2 * (n : Int) else if op = 9 then 2 else if op = 2 ∨ op = 5 ∨ op = 6 ∨ op = 7 ∨ op = 8 ∨ op = 12 ∨ op = 15 ∨ op = 16 ∨ op = 18 then 1 else 0
def effM (op : Int) : Int := if op = 0 ∨ op = 1 ∨ op = 3 ∨ op = 4 ∨ op = 7 ∨ op = 8 ∨ op = 10 ∨ op = 13 ∨ op = 17 ∨ op = 18 ∨ op = 19 ∨ op = 20 ∨ op = 21 then 1 else 0
theorem eff_world (op a b : Int) (c : Cod) (w : World) : ∃ W0 W1, w.alloc (.cells #[.int .i64 op, .int .i64 a, .int .i64 b] 33 (0, 0)) = W0 ∧ W0.alloc (codO c) = W1 ∧ Below w.heap.size w W1 ∧ W0.heap.size = w.heap.size + 1 ∧ W1.heap[w.heap.size]? = some (.cells #[.int .i64 op, .int .i64 a, .int .i64 b] 33 (0, 0)) ∧ W1.heap[w.heap.size + 1]? = some (codO c) := by
  have h1 := (Obs.nil.new (w := w) (.cells #[.int .i64 op, .int .i64 a, .int .i64 b] 33 (0, 0))).new (codO c)
  simp only [World.size_alloc] at h1
  exact ⟨_, _, rfl, rfl, ((Below.refl _ w).alloc (Nat.le_refl _) _).alloc (by simp) _, by simp, h1.tl.hd, h1.hd⟩

set_option maxRecDepth 100000 in
set_option maxHeartbeats 64000000 in
theorem ceffect_lit (op : Int) (hop : op = 0 ∨ op = 1 ∨ op = 2 ∨ op = 3 ∨ op = 4 ∨ op = 5 ∨ op = 6 ∨ op = 7 ∨ op = 8 ∨ op = 9 ∨ op = 11 ∨ op = 12 ∨ op = 13 ∨ op = 14 ∨ op = 15 ∨ op = 16 ∨ op = 17 ∨ op = 18 ∨ op = 19 ∨ op = 20 ∨ op = 21) (n : Nat) (hn : n ≤ 16777215) (b : Int) (c : Cod) (w : World) :
    Calls Tryz.prog 11 #[.agg #[.int .i64 op, .int .i64 (n : Int), .int .i64 b], codA c] w fun e w' => e = .returned (.tuple #[.int .i64 (effK op n (frV c.ps n)), .int .i64 (effM op)]) ∧ Below w.heap.size w w' := by
  obtain ⟨W0, W1, hW0, hW1, hb, hs, ho, -⟩ := eff_world op n b c w
  obtain ⟨r, hr⟩ : ∃ r, effK op n (frV c.ps n) = r := ⟨_, rfl⟩
  obtain ⟨m, hm⟩ : ∃ m, effM op = m := ⟨_, rfl⟩
  rw [hr, hm]
  have y0 : W1.cell? ⟨w.heap.size, 0, none⟩ = some (.int .i64 op) := ob_cell ho 0
  have y1 : W1.cell? ⟨w.heap.size, 1, none⟩ = some (.int .i64 (n : Int)) := ob_cell ho 1
  have HB := Lib.hid hb
  have HW0 := Lib.hid hW0
  have HW1 := Lib.hid hW1
  have HR := Lib.hid hr
  have HM := Lib.hid hm
  clear hW0 hW1 hb hs ho hr hm
  rcases hop with rfl | rfl | rfl | rfl | rfl | rfl | rfl | rfl | rfl | rfl | rfl | rfl | rfl | rfl | rfl | rfl | rfl | rfl | rfl | rfl | rfl
  all_goals
    go_enter Tryz.func11, Tryz.ntmps11
    go_wp2_with (fail)
    rw [HW0.out, HW1.out]
    go_wp2_with (fail)
    refine bodyPost_ret (v := .tuple #[.int .i64 r, .int .i64 m]) ?_ rfl ⟨rfl, HB.out⟩
    rw [← HR.out, ← HM.out]
    simp [results, Tryz.results11, go_sem, effK, effM]

end LM
end Go.Proofs.YtmocnoiieiakhaaGreatDoor

namespace Go.Proofs.YtmocnoiieiakhaaGreatDoor
open Go Go.RowKit
namespace LM
set_option linter.unusedVariables false
attribute [local go_sem] run_store_flt

set_option maxRecDepth 100000 in
set_option maxHeartbeats 64000000 in
theorem ceffect_clo (n : Nat) (hn : n ≤ 16777215) (b : Int) (c : Cod) (w : World) (hv : CodV w c) (hok : c.Ok) :
    Calls Tryz.prog 11 #[.agg #[.int .i64 10, .int .i64 (n : Int), .int .i64 b], codA c] w fun e w' => e = .returned (.tuple #[.int .i64 (frV c.ps n), .int .i64 1]) ∧ Below w.heap.size w w' := by
  obtain ⟨W0, W1, hW0, hW1, hb, hs, ho, ho1⟩ := eff_world 10 n b c w
  have C := Lib.hid (cfree_any c n hn W1 (hv.below hb) hok)
  have y0 : W1.cell? ⟨w.heap.size, 0, none⟩ = some (.int .i64 10) := ob_cell ho 0
  have y1 : W1.cell? ⟨w.heap.size, 1, none⟩ = some (.int .i64 (n : Int)) := ob_cell ho 1
  have z0 : W1.cell? ⟨w.heap.size + 1, 0, none⟩ = some (.slice c.PB c.ps.length c.pc) := ob_cell ho1 0
  have z1 : W1.cell? ⟨w.heap.size + 1, 1, none⟩ = some (.slice c.CB c.kids.len c.cc) := ob_cell ho1 1
  have z2 : W1.cell? ⟨w.heap.size + 1, 2, none⟩ = some (.slice c.GB c.gs.length c.gc) := ob_cell ho1 2
  have HB := Lib.hid hb
  have HW0 := Lib.hid hW0
  have HW1 := Lib.hid hW1
  have HS := Lib.hid hs
  clear hW0 hW1 hb ho ho1 hv hok hs
  go_enter Tryz.func11, Tryz.ntmps11
  go_wp2_with (fail)
  rw [HW0.out, HW1.out]
  refine C.out.mono ?_
  rintro e w1 ⟨rfl, hb1⟩
  have HB1 := Lib.hid hb1
  clear hb1
  go_wp2_with (fail)
  refine bodyPost_ret (v := .tuple #[.int .i64 (frV c.ps n), .int .i64 1]) (by simp [results, Tryz.results11, go_sem]) rfl ⟨rfl, bel_trans (B := w.heap.size) HB.out HB1.out⟩

set_option maxRecDepth 100000 in
set_option maxHeartbeats 64000000 in
theorem ceffect_other (op : Int) (hop : op < 0 ∨ 21 < op) (a b : Int) (P C G : Value) (w : World) :
    Calls Tryz.prog 11 #[.agg #[.int .i64 op, .int .i64 a, .int .i64 b], .agg #[P, C, G]] w fun e w' => e = .returned (.tuple #[.int .i64 0, .int .i64 0]) ∧ Below w.heap.size w w' := by
  obtain ⟨W0, hW0⟩ : ∃ W0, w.alloc (.cells #[.int .i64 op, .int .i64 a, .int .i64 b] 33 (0, 0)) = W0 := ⟨_, rfl⟩
  obtain ⟨W1, hW1⟩ : ∃ W1, W0.alloc (.cells #[P, C, G] 30 (0, 0)) = W1 := ⟨_, rfl⟩
  have s0 : W0.heap.size = w.heap.size + 1 := by rw [← hW0]; simp
  have b0 : Below w.heap.size w W0 := by rw [← hW0]; exact (Below.refl _ w).alloc (Nat.le_refl _) _
  have b1 : Below W0.heap.size W0 W1 := by rw [← hW1]; exact (Below.refl _ W0).alloc (Nat.le_refl _) _
  have o0 : W0.heap[w.heap.size]? = some (.cells #[.int .i64 op, .int .i64 a, .int .i64 b] 33 (0, 0)) := by rw [← hW0]; unfold World.alloc; simp
  have o1 := (b1.block _ (by omega)).trans o0
  have y0 : W1.cell? ⟨w.heap.size, 0, none⟩ = some (.int .i64 op) := ob_cell o1 0
  have HB := Lib.hid (bel_trans (B := w.heap.size) b0 b1)
  have HW0 := Lib.hid hW0
  have HW1 := Lib.hid hW1
  have f0 : (op == 0) = false := by simp; omega
  have f1 : (op == 1) = false := by simp; omega
  have f2 : (op == 2) = false := by simp; omega
  have f3 : (op == 3) = false := by simp; omega
  have f4 : (op == 4) = false := by simp; omega
  have f5 : (op == 5) = false := by simp; omega
  have f6 : (op == 6) = false := by simp; omega
  have f7 : (op == 7) = false := by simp; omega
  have f8 : (op == 8) = false := by simp; omega
  have f9 : (op == 9) = false := by simp; omega
  have f10 : (op == 10) = false := by simp; omega
  have f11 : (op == 11) = false := by simp; omega
  have f12 : (op == 12) = false := by simp; omega
  have f13 : (op == 13) = false := by simp; omega
  have f14 : (op == 14) = false := by simp; omega
  have f15 : (op == 15) = false := by simp; omega
  have f16 : (op == 16) = false := by simp; omega
  have f17 : (op == 17) = false := by simp; omega
  have f18 : (op == 18) = false := by simp; omega
  have f19 : (op == 19) = false := by simp; omega
  have f20 : (op == 20) = false := by simp; omega
  have f21 : (op == 21) = false := by simp; omega
  clear hW0 hW1 s0 b0 b1 o0 o1 hop
  go_enter Tryz.func11, Tryz.ntmps11
  go_wp2_with (fail)
  rw [HW0.out, HW1.out]
  go_wp2_with (fail)
  refine bodyPost_ret (v := .tuple #[.int .i64 0, .int .i64 0]) (by simp [results, Tryz.results11, go_sem]) rfl ⟨rfl, HB.out⟩

theorem ceffect_any (op : Int) (n : Nat) (hn : n ≤ 16777215) (b : Int) (c : Cod) (w : World) (hv : CodV w c) (hok : c.Ok) :
    Calls Tryz.prog 11 #[.agg #[.int .i64 op, .int .i64 (n : Int), .int .i64 b], codA c] w fun e w' => e = .returned (.tuple #[.int .i64 (effK op n (frV c.ps n)), .int .i64 (effM op)]) ∧ Below w.heap.size w w' := by
  by_cases h10 : op = 10
  · subst h10
    exact ceffect_clo n hn b c w hv hok
  · by_cases ho : op < 0 ∨ 21 < op
    · have e1 : effK op n (frV c.ps n) = 0 := by unfold effK; rw [if_neg (by omega), if_neg (by omega), if_neg (by omega), if_neg (by omega), if_neg (by omega)]
      have e2 : effM op = 0 := by unfold effM; rw [if_neg (by omega)]
      rw [e1, e2]
      exact ceffect_other op ho _ _ _ _ _ w
    · exact ceffect_lit op (by omega) n hn b c w

end LM
end Go.Proofs.YtmocnoiieiakhaaGreatDoor
