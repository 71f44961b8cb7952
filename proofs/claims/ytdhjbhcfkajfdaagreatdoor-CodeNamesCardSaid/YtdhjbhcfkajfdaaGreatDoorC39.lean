/- Walks of the document: can a datum be. -/
import Derived.Test.YtdhjbhcfkajfdaaGreatDoorC38
import Derived.Test.YtdhjbhcfkajfdaaGreatDoorC33
import Derived.Test.YtdhjbhcfkajfdaaGreatDoorC08
import Derived.Test.YtdhjbhcfkajfdaaGreatDoorC14
import Derived.Test.YtdhjbhcfkajfdaaGreatDoorC07
import Derived.Test.YtdhjbhcfkajfdaaGreatDoorC10
import Derived.Lib.SmallJoins
import Derived.Test.YtdhjbhcfkajfdaaGreatDoorC09
import Derived.Test.YtdhjbhcfkajfdaaGreatDoorC41
import Derived.Test.YtdhjbhcfkajfdaaGreatDoorC34
import Derived.Laws.AppendOwn
import Derived.Lib.AppendStr
import Derived.Lib.ItoaMem
import Derived.Lib.Strings
import Derived.Test.YtdhjbhcfkajfdaaGreatDoorC43
import Derived.Laws.Cover4
import Derived.Lib.OthersKept
import Derived.Test.YtdhjbhcfkajfdaaGreatDoorC49
import Derived.Test.YtdhjbhcfkajfdaaGreatDoorC37
import Derived.Laws.RangeAny
import Derived.Laws.Cover1
import Derived.Laws.Runes
import Derived.Laws.BytesString
namespace Go.Proofs.YtdhjbhcfkajfdaaGreatDoor
open Go Go.Shelf Go.RowKit Go.Sort Go.Lib
namespace LM
set_option linter.unusedVariables false
attribute [local go_sem] run_store_flt

end LM
end Go.Proofs.YtdhjbhcfkajfdaaGreatDoor

namespace Go.Proofs.YtdhjbhcfkajfdaaGreatDoor
open Go Go.RowKit
namespace LM
set_option linter.unusedVariables false
attribute [local go_sem] run_store_flt

set_option maxRecDepth 100000 in
theorem dwrite_any (lf : Hd → List UInt8) (b : Nat) (w0 : World) (hw0 : b = w0.heap.size) (P : Hd → Prop) (hP : ∀ hh, P hh → WriteC b w0 hh 0 (lf hh)) :
    ∀ (m : Nat) (kids : Fr), kids.size < m → kids.Ok → WOk P kids → ∀ h : Hd, h.Ok kids.len → WH P h kids → DatV w0 h kids → WriteC b w0 h kids.len (txD lf h kids) := by
  intro m
  induction m with
  | zero => intro kids h; omega
  | succ m ih =>
    intro kids hsz hok hwok h hho hwh hd W cs hb hr hl
    obtain ⟨bb, off, hB, hF⟩ := hd.items
    have rows : ∀ (n : Nat) (o : ByteArray), n ≤ kids.len → cs.length + o.size + (txI lf n true kids).length ≤ 100000000000 → ∀ W, Below b w0 W → WR b cs W → Calls Tryz.prog 109 #[.pointer (some ⟨b, 0, none⟩), .string o, .slice h.B n h.cap] W (Wrote b cs (o.data.toList ++ txI lf n true kids) W) := fun n o hn hlo W hb hr =>
      dwitems_any lf kids n hn o h.B h.cap bb off b cs w0 W hb hw0 (fun hp => hB (by omega)) hF (by have := hho.cap.1; omega) hho.cap.2 (fun j => txI lf j true kids) rfl (fun hh k j r _ e => by
        have := txI_step lf j true kids hh k r e
        simpa using this) (fun j hj => txI_mono lf j n true kids hj) hr hlo (fun hh k j r hj e W2 cs2 hb2 hr2 hl2 => by
        have o1 := Fr.Ok.drop j hok
        have o2 := WOk.drop j hwok
        rw [e] at o1 o2
        exact ih k (by have := size_item e; omega) o1.2.1 o2.2.1 hh o1.1 o2.1 (counted_item hF e).2.2 W2 cs2 hb2 hr2 hl2)
    by_cases hlk : leafK h.k
    · obtain ⟨rfl, hp⟩ := hwh.1 hlk
      have e : txD lf h .nil = lf h := by unfold txD; rw [if_neg hlk.1, if_neg hlk.2.1, if_neg hlk.2.2]
      rw [e] at hl ⊢
      exact hP h hp W cs hb hr hl
    · by_cases h5 : h.k = 5
      · have e : txD lf h kids = [40] ++ txF lf false true kids ++ [41] := by unfold txD; rw [if_pos h5]
        rw [e] at hl ⊢
        refine dwrite_row b w0 h kids (txF lf false true kids) ⟨#[40]⟩ (.inl ⟨h5, rfl⟩) W cs hb hr (fun W2 hb2 hr2 => ?_) hl
        have := rows kids.len ⟨#[40]⟩ (Nat.le_refl _) (by rw [txI_all]; simp only [List.length_append] at hl; show _ + 1 + _ ≤ _; have t1 : ([40] : List UInt8).length = 1 := rfl; omega) W2 hb2 hr2
        rw [txI_all] at this
        exact this
      · by_cases h7 : h.k = 7
        · have h6 : h.k ≠ 6 := by omega
          have e : txD lf h kids = [35, 40] ++ txF lf false true kids ++ [41] := by unfold txD; rw [if_neg h5, if_neg h6, if_pos h7]
          rw [e] at hl ⊢
          refine dwrite_row b w0 h kids (txF lf false true kids) ⟨#[35, 40]⟩ (.inr ⟨h7, rfl⟩) W cs hb hr (fun W2 hb2 hr2 => ?_) hl
          have := rows kids.len ⟨#[35, 40]⟩ (Nat.le_refl _) (by rw [txI_all]; simp only [List.length_append] at hl; show _ + 2 + _ ≤ _; have t1 : ([35, 40] : List UInt8).length = 2 := rfl; omega) W2 hb2 hr2
          rw [txI_all] at this
          exact this
        · have h6 : h.k = 6 := by
            unfold leafK at hlk
            omega
          have hn2 := hwh.2 h6
          obtain ⟨hh, k, e1, e2⟩ := last_item kids (by omega)
          have e : txD lf h kids = [40] ++ (txI lf (kids.len - 1) true kids ++ [32, 46, 32] ++ txD lf hh k) ++ [41] := by
            rw [← txI_dot lf kids true hh k (by omega) e1]
            unfold txD
            rw [if_neg h5, if_pos h6]
          rw [e] at hl ⊢
          have o1 := Fr.Ok.drop (kids.len - 1) hok
          have o2 := WOk.drop (kids.len - 1) hwok
          rw [e1] at o1 o2
          have hBs := hB (by omega)
          refine dwrite_dot b w0 h kids _ bb off h6 hBs hn2 hho.cap.1 hho.cap.2 hh k (fun W2 hb2 => (counted_item (FAt.below (hw0 ▸ hb2) _ _ _ hF) e1).2.1) _ W cs hb hr (fun W2 hb2 hr2 => ?_) (ih k (by have := size_item e1; omega) o1.2.1 o2.2.1 hh o1.1 o2.1 (counted_item hF e1).2.2) hl
          have := rows (kids.len - 1) ⟨#[40]⟩ (by omega) (by simp only [List.length_append] at hl; show _ + 1 + _ ≤ _; have t1 : ([40] : List UInt8).length = 1 := rfl; omega) W2 hb2 hr2
          rw [hBs] at this
          exact this

end LM
end Go.Proofs.YtdhjbhcfkajfdaaGreatDoor

namespace Go.Proofs.YtdhjbhcfkajfdaaGreatDoor
open Go Go.RowKit
namespace LM
set_option linter.unusedVariables false
attribute [local go_sem] run_store_flt

end LM
end Go.Proofs.YtdhjbhcfkajfdaaGreatDoor

namespace Go.Proofs.YtdhjbhcfkajfdaaGreatDoor
open Go Go.RowKit
namespace LM
set_option linter.unusedVariables false
attribute [local go_sem] run_store_flt

/-- a new builder -/
theorem new_builder (w : World) : ∃ W0, w.alloc (.cells #[.pointer none, .slice none 0 0] 112) = W0 ∧ Below w.heap.size w W0 ∧ WR w.heap.size [] W0 :=
  ⟨_, rfl, (Below.refl _ w).alloc (Nat.le_refl _) _, Lib.IsBuilderF.of (Lib.fresh_isBuilder _ _ w), by simp⟩

set_option maxRecDepth 100000 in
set_option maxHeartbeats 8000000 in
/-- what is right -/
theorem dprint_right (nm : ByteArray → Bool) (lf : Hd → List UInt8) (kids : Fr) (hok : kids.Ok) (h : Hd) (w : World) (hd : DatV w h kids) (hho : h.Ok kids.len) (hu : UT w) (hnm : ∀ t, (h.k = 4 ∧ t = h.t) ∨ SymIn t kids → CallB w 93 #[.string t] (.bool (nm t)))
    (hr : rightD nm h kids = true) (P : Hd → Prop) (hP : ∀ b w0, b = w0.heap.size → Below w.heap.size w w0 → ∀ hh, P hh → WriteC b w0 hh 0 (lf hh)) (hw : WOk P kids) (hwh : WH P h kids) (hl : (txD lf h kids).length ≤ 100000000000) :
    Calls Tryz.prog 28 #[datA h kids.len] w fun e w' => e = .returned (.tuple #[.string ⟨(txD lf h kids).toArray⟩, .int .i64 0]) ∧ Below w.heap.size w w' := by
  obtain ⟨W0, hW0, hb0, ho, hs0⟩ := dat_block w h kids.len
  have HR := Lib.hid (dRight_any nm kids hok h W0 (hd.below hb0) hho (hu.keep hb0) fun t ht => callB_keep (hnm t ht) hb0)
  rw [hr] at HR
  obtain ⟨tx, htx⟩ : ∃ tx, txD lf h kids = tx := ⟨_, rfl⟩
  have HWR := Lib.hid fun (w2 : World) (h2 : Below w.heap.size w w2) => dwrite_any lf w2.heap.size w2 rfl P (fun hh hp => hP _ _ rfl h2 hh hp) (kids.size + 1) kids (by omega) hok hw h hho hwh (hd.below h2)
  rw [htx] at HWR hl ⊢
  have HL := Lib.hid hl
  have HB0 := Lib.hid hb0
  have HW0 := Lib.hid hW0
  have HO := Lib.hid ho
  have HS := Lib.hid hs0
  obtain ⟨x0, x1, x2, x3, x4, x5, x6, x7⟩ := C8.of_block ho
  clear hW0 hb0 ho hd hho hu hnm hr hok hs0 hw hwh hl hP htx
  go_enter Tryz.func28, Tryz.ntmps28
  go_wp2_with (fail)
  rw [HW0.out]
  go_wp2_with (fail)
  refine HR.out.mono ?_
  rintro e w1 ⟨rfl, hb1⟩
  have HB1 := Lib.hid (bel_trans (B := w.heap.size) HB0.out hb1)
  obtain ⟨W1, hW1, hbb, hwr⟩ := new_builder w1
  obtain ⟨y0, y1, y2, y3, y4, y5, y6, y7⟩ := (C8.of_block HO.out).keep hb1 HS.out
  simp only [Nat.zero_add] at y0 y1 y2 y3 y4 y5 y6 y7
  clear x0 x1 x2 x3 x4 x5 x6 x7
  have hz1 : w.heap.size < w1.heap.size := Nat.lt_of_lt_of_le HS.out hb1.size
  have HW1 := Lib.hid hW1
  have HBB := Lib.hid hbb
  have HC := Lib.hid (HWR.out w1 HB1.out W1 [] hbb hwr (by have := HL.out; simpa using this))
  clear hb1 hW1 hbb hwr
  go_wp2_with (fail)
  rw [HW1.out]
  go_wp2_with (fail)
  refine HC.out.mono ?_
  rintro e w2 ⟨⟨v, rfl⟩, hr2, hb2, hk2⟩
  have HR2 := Lib.hid hr2
  have HK2 := Lib.hid (bel_trans (B := w.heap.size) HB1.out (HBB.out.trans hb2))
  clear hr2 hb2 hk2
  go_wp2_with (fail)
  refine (Tryz.Builder_String_any_k _ _ _ _ HR2.out.1 (Nat.le_of_lt HR2.out.2)).mono ?_
  rintro e w3 ⟨rfl, _, hb3, _⟩
  have HK3 := Lib.hid (HK2.out.trans (hb3.mono HB1.out.size))
  clear hb3
  go_wp2_with (fail)
  go_ret2
  exact ⟨by rfl, HK3.out⟩

end LM
end Go.Proofs.YtdhjbhcfkajfdaaGreatDoor

namespace Go.Proofs.YtdhjbhcfkajfdaaGreatDoor
open Go Go.RowKit
namespace LM
set_option linter.unusedVariables false
attribute [local go_sem] run_store_flt

theorem zero_block (w : World) : ∃ W0, w.alloc zeroO = W0 ∧ Below w.heap.size w W0 ∧ W0.heap[w.heap.size]? = some zeroO ∧ w.heap.size < W0.heap.size :=
  ⟨_, rfl, (Below.refl _ w).alloc (Nat.le_refl _) _, by unfold World.alloc; simp, by simp⟩

end LM
end Go.Proofs.YtdhjbhcfkajfdaaGreatDoor

namespace Go.Proofs.YtdhjbhcfkajfdaaGreatDoor
open Go Go.RowKit
namespace LM
set_option linter.unusedVariables false
attribute [local go_sem] run_store_flt

def allF (q : Hd → Fr → Bool) : Fr → Bool
  | .nil => true
  | .cons h kids rest => q h kids && allF q rest

set_option maxRecDepth 100000 in
set_option maxHeartbeats 4000000 in
/-- the first that can't be -/
theorem cdindex_any (q : Hd → Fr → Bool) (g : Nat) (kids : Fr) (B : Option Addr) (cap b off : Nat) (w : World) (hB : 0 < kids.len → B = some ⟨b, off, none⟩) (hF : FAt w b off kids) (hc1 : kids.len ≤ cap) (hc2 : cap ≤ 9223372036854775807)
    (hcl : ∀ hh k j r, kids.drop j = .cons hh k r → ∀ W, Below w.heap.size w W → DatV W hh k → Calls Tryz.prog 118 #[datA hh k.len, .pointer (some ⟨g, 0, none⟩)] W fun e w' => e = .returned (.bool (!q hh k)) ∧ Below W.heap.size W w') :
    Calls Tryz.prog 165 #[.slice B kids.len cap, .func (.func 118) #[] #[.pointer (some ⟨g, 0, none⟩)]] w fun e w' => (∃ z : Int, e = .returned (.int .i64 z) ∧ decide (0 ≤ z) = !allF q kids) ∧ Below w.heap.size w w' := by
  rcases Nat.eq_zero_or_pos kids.len with h0 | hpos
  · have hk0 : kids = .nil := by
      cases kids with
      | nil => rfl
      | cons x y z => have h3 : z.len + 1 = 0 := h0; omega
    subst hk0
    show Calls Tryz.prog 165 #[.slice B 0 cap, .func (.func 118) #[] #[.pointer (some ⟨g, 0, none⟩)]] w fun e w' => (∃ z : Int, e = .returned (.int .i64 z) ∧ decide (0 ≤ z) = false) ∧ Below w.heap.size w w'
    clear hcl hF hB hc1
    go_enter Tryz.func165, Tryz.ntmps165
    go_wp2_with (fail)
    go_loopg [8] 0 (fun kk i wr => wr = w ∧ i = .int .i64 0)
    case atStart => exact ⟨rfl, rfl⟩
    case round =>
      obtain ⟨rfl, rfl⟩ := hrel
      go_wp2_with (fail)
      go_ret
      exact ⟨⟨-1, rfl, rfl⟩, Below.refl _ _⟩
  obtain rfl := hB hpos
  clear hB
  have HF := Lib.hid hF
  have HCL := Lib.hid hcl
  clear hF hcl
  go_enter Tryz.func165, Tryz.ntmps165
  go_wp2_with (fail)
  go_loopg [8] kids.len (fun kk i wr => Below w.heap.size w wr ∧ ∃ j : Nat, j ≤ kids.len ∧ kk = kids.len - j ∧ i = .int .i64 (j : Int) ∧ allF q (kids.drop j) = allF q kids)
  case atStart => exact ⟨Below.refl _ _, 0, Nat.zero_le _, rfl, rfl, rfl⟩
  case round =>
    obtain ⟨hbr, j, hj, rfl, rfl, hrf⟩ := hrel
    have HBR := Lib.hid hbr
    clear hbr
    by_cases hjl : j < kids.len
    · obtain ⟨hh, k, r, hdr, hdr1⟩ := Fr.cons_of_lt hjl
      rw [hdr] at hrf
      obtain ⟨hbl, ⟨x0, x1, x2, x3, x4, x5, x6, x7⟩, D⟩ := counted_item (FAt.below HBR.out _ _ _ HF.out) hdr
      have CL := Lib.hid (HCL.out hh k j r hdr wr HBR.out D)
      have hrf2 : (q hh k && allF q r) = allF q kids := hrf
      obtain ⟨p, hq⟩ : ∃ p, q hh k = p := ⟨_, rfl⟩
      rw [hq] at CL hrf2
      have HRF := Lib.hid hrf2
      have HDR := Lib.hid hdr1
      clear hrf hdr hdr1 D hrf2 hq
      go_wp2_with (fail)
      refine CL.out.mono ?_
      rintro e w2 ⟨rfl, hb2⟩
      have HB2 := Lib.hid (bel_trans (B := w.heap.size) HBR.out hb2)
      clear hb2
      cases p
      · go_wp2_with (fail)
        go_ret
        exact ⟨⟨j, rfl, by rw [← HRF.out]; simp⟩, HB2.out⟩
      · go_wp2_with (fail)
        go_roundg (kids.len - (j + 1))
        case measure => omega
        case rel => exact ⟨HB2.out, j + 1, by omega, rfl, by go_num, by rw [HDR.out]; exact HRF.out⟩
    · have hje : j = kids.len := by omega
      subst hje
      have hnil : kids.drop kids.len = .nil := by
        have h1 := Fr.len_drop kids.len kids
        cases h2 : kids.drop kids.len with
        | nil => rfl
        | cons x y z => rw [h2] at h1; have h3 : z.len + 1 = kids.len - kids.len := h1; omega
      rw [hnil] at hrf
      have HR : Hid (true = allF q kids) := Lib.hid hrf
      clear hrf hnil
      go_wp2_with (fail)
      go_ret
      exact ⟨⟨-1, rfl, by rw [← HR.out]; rfl⟩, HBR.out⟩

set_option maxRecDepth 100000 in
set_option maxHeartbeats 4000000 in
theorem cdcontains_any (q : Hd → Fr → Bool) (g : Nat) (kids : Fr) (B : Option Addr) (cap b off : Nat) (w : World) (hB : 0 < kids.len → B = some ⟨b, off, none⟩) (hF : FAt w b off kids) (hc1 : kids.len ≤ cap) (hc2 : cap ≤ 9223372036854775807)
    (hcl : ∀ hh k j r, kids.drop j = .cons hh k r → ∀ W, Below w.heap.size w W → DatV W hh k → Calls Tryz.prog 118 #[datA hh k.len, .pointer (some ⟨g, 0, none⟩)] W fun e w' => e = .returned (.bool (!q hh k)) ∧ Below W.heap.size W w') :
    Calls Tryz.prog 117 #[.slice B kids.len cap, .func (.func 118) #[] #[.pointer (some ⟨g, 0, none⟩)]] w fun e w' => e = .returned (.bool (!allF q kids)) ∧ Below w.heap.size w w' := by
  have H1 := Lib.hid (cdindex_any q g kids B cap b off w hB hF hc1 hc2 hcl)
  clear hB hF hcl
  go_enter Tryz.func117, Tryz.ntmps117
  go_wp2_with (fail)
  refine H1.out.mono ?_
  rintro e w1 ⟨⟨z, rfl, hz⟩, hb1⟩
  have HB1 := Lib.hid hb1
  have HZ := Lib.hid hz
  clear hb1 hz
  go_wp2_with (fail)
  go_ret
  exact ⟨by rw [← HZ.out]; rfl, HB1.out⟩

set_option maxRecDepth 100000 in
set_option maxHeartbeats 4000000 in
theorem cdclosure (hh : Hd) (n : Nat) (g : Nat) (q : Bool) (w : World) (hg : g < w.heap.size) (hcell : w.cell? ⟨g, 0, none⟩ = some (.func (.func 70) #[] #[]))
    (hR : ∀ W, Below w.heap.size w W → Calls Tryz.prog 70 #[datA hh n] W fun e w' => e = .returned (.bool q) ∧ Below W.heap.size W w') :
    Calls Tryz.prog 118 #[datA hh n, .pointer (some ⟨g, 0, none⟩)] w fun e w' => e = .returned (.bool (!q)) ∧ Below w.heap.size w w' := by
  obtain ⟨W0, hW0⟩ : ∃ W0, w.alloc (datO hh n) = W0 := ⟨_, rfl⟩
  have hb0 : Below w.heap.size w W0 := by rw [← hW0]; exact (Below.refl _ w).alloc (Nat.le_refl _) _
  have ho : W0.heap[w.heap.size]? = some (datO hh n) := by rw [← hW0]; unfold World.alloc; simp
  have x0 : (w.alloc (datO hh n)).cell? ⟨g, 0, none⟩ = some (.func (.func 70) #[] #[]) := by rw [hW0]; exact (hb0.cell (p := ⟨g, 0, none⟩) hg).trans hcell
  have HW0 := Lib.hid hW0
  have HB0 := Lib.hid hb0
  have HR := Lib.hid (hR W0 hb0)
  obtain ⟨y0, y1, y2, y3, y4, y5, y6, y7⟩ := C8.of_block ho
  clear hW0 hb0 ho hR hcell
  go_enter Tryz.func118, Tryz.ntmps118
  go_wp2_with (fail)
  rw [HW0.out]
  refine HR.out.mono ?_
  rintro e w1 ⟨rfl, hb1⟩
  have HB1 := Lib.hid (bel_trans (B := w.heap.size) HB0.out hb1)
  clear hb1
  go_wp2_with (fail)
  go_ret
  exact ⟨rfl, HB1.out⟩

set_option maxRecDepth 100000 in
set_option maxHeartbeats 4000000 in
theorem cdall_any (q : Hd → Fr → Bool) (kids : Fr) (B : Option Addr) (cap b off : Nat) (w : World) (hB : 0 < kids.len → B = some ⟨b, off, none⟩) (hF : FAt w b off kids) (hc1 : kids.len ≤ cap) (hc2 : cap ≤ 9223372036854775807)
    (hR : ∀ hh k j r, kids.drop j = .cons hh k r → ∀ W, Below w.heap.size w W → DatV W hh k → Calls Tryz.prog 70 #[datA hh k.len] W fun e w' => e = .returned (.bool (q hh k)) ∧ Below W.heap.size W w') :
    Calls Tryz.prog 69 #[.slice B kids.len cap, .func (.func 70) #[] #[]] w fun e w' => e = .returned (.bool (allF q kids)) ∧ Below w.heap.size w w' := by
  obtain ⟨W0, hW0⟩ : ∃ W0, w.alloc (.cells #[.func (.func 70) #[] #[]] 63 (0, 0)) = W0 := ⟨_, rfl⟩
  have hb0 : Below w.heap.size w W0 := by rw [← hW0]; exact (Below.refl _ w).alloc (Nat.le_refl _) _
  have ho : W0.heap[w.heap.size]? = some (.cells #[.func (.func 70) #[] #[]] 63 (0, 0)) := by rw [← hW0]; unfold World.alloc; simp
  have hs0 : w.heap.size < W0.heap.size := by rw [← hW0]; simp
  have hc : W0.cell? ⟨w.heap.size, 0, none⟩ = some (.func (.func 70) #[] #[]) := by rw [ob_cell ho]; rfl
  have HC := Lib.hid (cdcontains_any q w.heap.size kids B cap b off W0 hB (FAt.below hb0 _ _ _ hF) hc1 hc2 fun hh k j r hdr W hW hD => cdclosure hh k.len w.heap.size (q hh k) W (Nat.lt_of_lt_of_le hs0 hW.size) ((hW.cell (p := ⟨w.heap.size, 0, none⟩) hs0).trans hc) fun W2 hW2 => hR hh k j r hdr W2 (bel_trans (B := w.heap.size) (bel_trans (B := w.heap.size) hb0 hW) hW2) (hD.below hW2))
  have HW0 := Lib.hid hW0
  have HB0 := Lib.hid hb0
  clear hW0 hb0 ho hs0 hc hR hF hB
  obtain ⟨r, hr⟩ : ∃ r, allF q kids = r := ⟨_, rfl⟩
  rw [hr] at HC ⊢
  clear hr
  go_enter Tryz.func69, Tryz.ntmps69
  go_wp2_with (fail)
  rw [HW0.out]
  refine HC.out.mono ?_
  rintro e w1 ⟨rfl, hb1⟩
  have HB1 := Lib.hid (bel_trans (B := w.heap.size) HB0.out hb1)
  clear hb1
  go_wp2_with (fail)
  go_ret
  exact ⟨by simp, HB1.out⟩

end LM
end Go.Proofs.YtdhjbhcfkajfdaaGreatDoor

namespace Go.Proofs.YtdhjbhcfkajfdaaGreatDoor
open Go Go.RowKit
namespace LM
set_option linter.unusedVariables false
attribute [local go_sem] run_store_flt

set_option maxRecDepth 100000 in
set_option maxHeartbeats 8000000 in
theorem cfew_any (c : Cod) (w : World) (hv : CodV w c) (hok : c.Ok) : Calls Tryz.prog 64 #[codA c] w fun e w' => e = .returned (.bool (fewB c)) ∧ Below w.heap.size w w' := by
  obtain ⟨W0, hW0, hb0, ho, hs0, hz0⟩ := cod_block w c
  obtain ⟨PB, pc, ps, CB, cc, kids, GB, gc, gs⟩ := c
  have HB0 := Lib.hid hb0
  have HW0 := Lib.hid hW0
  obtain ⟨b, off, hB, hF⟩ := (hv.below hb0).ps
  have hle := insN_le hok.pr
  have HF := Lib.hid hF
  have HLE := Lib.hid hle
  obtain ⟨y0, y1, y2⟩ := K3.of_block ho
  dsimp only [codA, codO] at *
  by_cases hm : ps.length ≤ 4000 ∧ kids.len ≤ 4000 ∧ gs.length ≤ 4000
  · obtain ⟨m1, m2, m3⟩ := hm
    have E : Hid (fewB ⟨PB, pc, ps, CB, cc, kids, GB, gc, gs⟩ = decide (insN ps ≤ 40000)) := Lib.hid (by unfold fewB; rw [decide_eq_true m1, decide_eq_true m2, decide_eq_true m3]; rfl)
    have M1 := Lib.hid m1
    obtain ⟨M, hM⟩ : ∃ M : Int, (if (if ps.length < kids.len then (kids.len : Int) else (ps.length : Int)) < (gs.length : Int) then (gs.length : Int) else if ps.length < kids.len then (kids.len : Int) else (ps.length : Int)) = M := ⟨_, rfl⟩
    have dm : decide ((4000 : Int) < M) = false := decide_eq_false (by rw [← hM]; split <;> (try split) <;> omega)
    rcases Nat.eq_zero_or_pos ps.length with h0 | hpos
    · have hz : decide (0 < ps.length) = false := decide_eq_false (by omega)
      have E2 : Hid (decide (insN ps ≤ 40000) = true) := Lib.hid (by rw [List.length_eq_zero_iff.1 h0]; rfl)
      clear hW0 hb0 ho hs0 hv hok m1 m2 m3 hz0 h0 hB hF hle
      go_enter Tryz.func64, Tryz.ntmps64
      go_wp2_with (fail)
      rw [HW0.out]
      go_wp2_with (fail)
      go_loopg [3, 20] 0 (fun kk n i wr => Below W0.heap.size W0 wr ∧ i = .int .i64 0 ∧ n = .int .i64 0)
      case atStart => exact ⟨Below.refl _ _, rfl, rfl⟩
      case round =>
        obtain ⟨hbr, rfl, rfl⟩ := hrel
        have HBR := Lib.hid hbr
        clear hbr
        go_wp2_with (fail)
        go_ret
        exact ⟨by rw [E.out, E2.out]; rfl, bel_trans (B := w.heap.size) HB0.out HBR.out⟩
    obtain rfl := hB hpos
    clear hW0 hb0 ho hs0 hv hok m2 m3 hz0 hF hle hB
    go_enter Tryz.func64, Tryz.ntmps64
    go_wp2_with (fail)
    rw [HW0.out]
    go_wp2_with (fail)
    go_loopg [3, 20] ps.length (fun kk n i wr => Below W0.heap.size W0 wr ∧ ∃ j : Nat, j ≤ ps.length ∧ kk = ps.length - j ∧ i = .int .i64 (j : Int) ∧ ∃ a : Nat, n = .int .i64 (a : Int) ∧ a + insN (ps.drop j) = insN ps)
    case atStart => exact ⟨Below.refl _ _, 0, Nat.zero_le _, rfl, rfl, 0, rfl, by simp⟩
    case round =>
      obtain ⟨hbr, j, hj, rfl, rfl, a, rfl, ha⟩ := hrel
      have HBR := Lib.hid hbr
      have HA := Lib.hid ha
      clear hbr ha
      by_cases hjl : j < ps.length
      · obtain ⟨p, hp, hdr⟩ := drop_at hjl
        obtain ⟨hbl, x0, x1, x2, x3, x4, x5, x6⟩ := (HF.out.below HBR.out) j p hp
        have h2 := HA.out
        rw [hdr, insN_cons] at h2
        have w1 : IntKind.i64.wrap ((a : Int) + (p.code.length : Int)) = (a : Int) + (p.code.length : Int) := by rw [IntKind.wrap_i64]; have := HLE.out; have := M1.out; omega
        have H2 := Lib.hid h2
        have k6 := ob_cell (show (wr.alloc (prO p)).heap[wr.heap.size]? = some (prO p) by unfold World.alloc; simp) 6
        rw [show (#[Value.string p.nm, .int .i64 p.pa, .bool p.rs, .int .i64 p.sl, .int .i64 p.de, .int .i64 p.fr, .slice p.B p.code.length p.cap] : Array Value)[6]? = some (.slice p.B p.code.length p.cap) from rfl] at k6
        have HBA := Lib.hid (bel_trans (B := W0.heap.size) HBR.out ((Below.refl _ wr).alloc (Nat.le_refl _) (prO p)))
        clear h2 hdr hp
        go_wp2_with (fail)
        go_roundg (ps.length - (j + 1))
        case measure => omega
        case rel => exact ⟨HBA.out, j + 1, by omega, rfl, by go_num, a + p.code.length, by go_num, by have := H2.out; omega⟩
      · have hje : j = ps.length := by omega
        subst hje
        have h2 := HA.out
        rw [List.drop_length] at h2
        have hr : decide ((a : Int) ≤ 40000) = decide (insN ps ≤ 40000) := decide_eq_decide.2 (by have : insN [] = 0 := rfl; omega)
        have HR := Lib.hid hr
        clear h2 hr
        go_wp2_with (fail)
        go_ret
        exact ⟨by rw [E.out, ← HR.out]; rfl, bel_trans (B := w.heap.size) HB0.out HBR.out⟩
  · have E : Hid (fewB ⟨PB, pc, ps, CB, cc, kids, GB, gc, gs⟩ = false) := Lib.hid (by
      unfold fewB
      by_cases m1 : ps.length ≤ 4000
      · by_cases m2 : kids.len ≤ 4000
        · rw [decide_eq_false (show ¬ gs.length ≤ 4000 from fun m3 => hm ⟨m1, m2, m3⟩)]; simp
        · rw [decide_eq_false m2]; simp
      · rw [decide_eq_false m1]; simp)
    obtain ⟨M, hM⟩ : ∃ M : Int, (if (if ps.length < kids.len then (kids.len : Int) else (ps.length : Int)) < (gs.length : Int) then (gs.length : Int) else if ps.length < kids.len then (kids.len : Int) else (ps.length : Int)) = M := ⟨_, rfl⟩
    have dm : decide ((4000 : Int) < M) = true := decide_eq_true (by rw [← hM]; split <;> (try split) <;> omega)
    clear hW0 ho hs0 hv hok hz0 hm hb0 hB hF hle
    go_enter Tryz.func64, Tryz.ntmps64
    go_wp2_with (fail)
    rw [HW0.out]
    go_ret
    exact ⟨by rw [E.out]; rfl, HB0.out⟩

set_option maxRecDepth 100000 in
set_option maxHeartbeats 8000000 in
/-- Right, when q tells of the constants -/
theorem cright_by (q : Hd → Fr → Bool) (c : Cod) (w : World) (hv : CodV w c) (hok : c.Ok)
    (hq : ∀ hh k j r, c.kids.drop j = .cons hh k r → ∀ W, Below w.heap.size w W → DatV W hh k → Calls Tryz.prog 70 #[datA hh k.len] W fun e w' => e = .returned (.bool (q hh k)) ∧ Below W.heap.size W w') :
    Calls Tryz.prog 33 #[codA c] w fun e w' => e = .returned (.bool (fewB c && (c.ps.all prB && (c.gs.all (fun s => decide (s.size ≤ 100)) && allF q c.kids)))) ∧ Below w.heap.size w w' := by
  obtain ⟨W0, hW0, hb0, ho, hs0, hz0⟩ := cod_block w c
  have N1 := Lib.hid (cfew_any c W0 (hv.below hb0) hok)
  have N2 : Hid (∀ W, Below w.heap.size w W → Calls Tryz.prog 65 #[.slice c.PB c.ps.length c.pc, .func (.func 66) #[] #[]] W fun e w' => e = .returned (.bool (c.ps.all prB)) ∧ Below W.heap.size W w') := Lib.hid fun W hW => by
    obtain ⟨b, off, hB, hF⟩ := (hv.below hW).ps
    exact cpall_any prB c.ps c.PB c.pc b off W hB hF hok.ps.1 hok.ps.2 fun p hp W2 hW2 => cproc_any p W2 (((hv.pv p hp).below hW).below hW2) (hok.pr p hp)
  have N3 : Hid (∀ W, Below w.heap.size w W → Calls Tryz.prog 67 #[.slice c.GB c.gs.length c.gc, .func (.func 68) #[] #[]] W fun e w' => e = .returned (.bool (c.gs.all fun s => decide (s.size ≤ 100))) ∧ Below W.heap.size W w') := Lib.hid fun W hW => by
    obtain ⟨b, off, hB, hF⟩ := (hv.below hW).gs
    exact csall_any (fun s => decide (s.size ≤ 100)) c.gs c.GB c.gc b off W hB hF hok.gs.1 hok.gs.2 fun s _ W2 _ => cname_any s W2
  have N4 : Hid (∀ W, Below w.heap.size w W → Calls Tryz.prog 69 #[.slice c.CB c.kids.len c.cc, .func (.func 70) #[] #[]] W fun e w' => e = .returned (.bool (allF q c.kids)) ∧ Below W.heap.size W w') := Lib.hid fun W hW => by
    obtain ⟨b, off, hB, hF⟩ := (hv.below hW).kids
    exact cdall_any q c.kids c.CB c.cc b off W hB hF hok.kids.1 hok.kids.2 fun hh k j r hdr W2 hW2 hD => hq hh k j r hdr W2 (bel_trans (B := w.heap.size) hW hW2) hD
  have HB0 := Lib.hid hb0
  have HW0 := Lib.hid hW0
  have HS := Lib.hid hs0
  have K0 := Lib.hid (K3.of_block ho)
  obtain ⟨y0, y1, y2⟩ := K0.out
  obtain ⟨r1, hr1⟩ : ∃ r, fewB c = r := ⟨_, rfl⟩
  obtain ⟨r2, hr2⟩ : ∃ r, c.ps.all prB = r := ⟨_, rfl⟩
  obtain ⟨r3, hr3⟩ : ∃ r, (c.gs.all fun s => decide (s.size ≤ 100)) = r := ⟨_, rfl⟩
  obtain ⟨r4, hr4⟩ : ∃ r, allF q c.kids = r := ⟨_, rfl⟩
  rw [hr1] at N1 ⊢
  rw [hr2] at N2 ⊢
  rw [hr3] at N3 ⊢
  rw [hr4] at N4 ⊢
  clear hW0 hb0 ho hs0 hv hok hz0 hq hr1 hr2 hr3 hr4
  go_enter Tryz.func33, Tryz.ntmps33
  go_wp2_with (fail)
  rw [HW0.out]
  refine N1.out.mono ?_
  rintro e w1 ⟨rfl, hb1⟩
  have HB1 := Lib.hid (bel_trans (B := w.heap.size) HB0.out hb1)
  have K1 := Lib.hid (K0.out.keep hb1 HS.out)
  have hs1 : w.heap.size < w1.heap.size := Nat.lt_of_lt_of_le HS.out hb1.size
  have HS1 := Lib.hid hs1
  clear hb1 y0 y1 y2 hs1
  cases r1
  · go_wp2_with (fail)
    go_ret
    exact ⟨rfl, HB1.out⟩
  obtain ⟨y0, y1, y2⟩ := K1.out
  simp only [Nat.zero_add] at y0 y1 y2
  go_wp2_with (fail)
  refine (N2.out _ HB1.out).mono ?_
  rintro e w2 ⟨rfl, hb2⟩
  have HB2 := Lib.hid (bel_trans (B := w.heap.size) HB1.out hb2)
  have K2 := Lib.hid (K1.out.keep hb2 HS1.out)
  have HS2 := Lib.hid (Nat.lt_of_lt_of_le HS1.out hb2.size)
  clear hb2 y0 y1 y2
  cases r2
  · go_wp2_with (fail)
    go_ret
    exact ⟨rfl, HB2.out⟩
  obtain ⟨y0, y1, y2⟩ := K2.out
  simp only [Nat.zero_add] at y0 y1 y2
  go_wp2_with (fail)
  refine (N3.out _ HB2.out).mono ?_
  rintro e w3 ⟨rfl, hb3⟩
  have HB3 := Lib.hid (bel_trans (B := w.heap.size) HB2.out hb3)
  have K3' := Lib.hid (K2.out.keep hb3 HS2.out)
  clear hb3 y0 y1 y2
  cases r3
  · go_wp2_with (fail)
    go_ret
    exact ⟨rfl, HB3.out⟩
  obtain ⟨y0, y1, y2⟩ := K3'.out
  simp only [Nat.zero_add] at y0 y1 y2
  go_wp2_with (fail)
  refine (N4.out _ HB3.out).mono ?_
  rintro e w4 ⟨rfl, hb4⟩
  have HB4 := Lib.hid (bel_trans (B := w.heap.size) HB3.out hb4)
  clear hb4 y0 y1 y2
  go_wp2_with (fail)
  go_ret
  exact ⟨by first | rfl | simp, HB4.out⟩

end LM
end Go.Proofs.YtdhjbhcfkajfdaaGreatDoor

namespace Go.Proofs.YtdhjbhcfkajfdaaGreatDoor
open Go Go.RowKit
namespace LM
set_option linter.unusedVariables false
attribute [local go_sem] run_store_flt

abbrev encB : UInt8 → Value := fun b => Value.int .u8 (b.toNat : Int)
theorem encB_of (n : Nat) : encB (UInt8.ofNat n) = .int .u8 ((n % 256 : Nat) : Int) := by
  show Value.int .u8 ((UInt8.ofNat n).toNat : Int) = _
  rw [show (UInt8.ofNat n).toNat = n % 256 from by simp]
theorem u8_infoB : (Tryz.prog.info? 5).map (fun i => (i.zero, i.size, i.bytes)) = some (some (.int .u8 0), 1, 1) := by kernel_rfl
theorem info_partsB {P : Program} {t : TypeId} {z : Value} {s b : Nat} (h : (P.info? t).map (fun i => (i.zero, i.size, i.bytes)) = some (some z, s, b)) : ∃ i, P.info? t = some i ∧ i.zero = some z ∧ i.size = s ∧ i.bytes = b := by
  obtain ⟨i, hi, he⟩ := Option.map_eq_some_iff.1 h
  simp only [Prod.mk.injEq] at he
  exact ⟨i, hi, he.1, he.2.1, he.2.2⟩
/-- a slice of the call's own that holds these bytes -/
def BB (B : Nat) (W0 : World) (v : Value) (bs : List UInt8) (w : World) : Prop := w.ownsRow B 5 1 v bs.length (bs.map encB) ∧ Below B W0 w ∧ B ≤ w.heap.size
theorem BB.next {B : Nat} {W0 w w' : World} {v v' : Value} {bs nb : List UInt8} (h : BB B W0 v bs w) (ho : w'.ownsRow B 5 1 v' (bs.length + nb.length) (bs.map encB ++ nb.map encB)) (hg : w.grownBy w' v.ownBlock) : BB B W0 v' (bs ++ nb) w' :=
  ⟨by rw [List.map_append, List.length_append]; exact ho, h.2.1.grown hg h.2.2 (fun k hk => (h.1.lt k hk).1), Nat.le_trans h.2.2 hg.size⟩
theorem BB.alloc {B : Nat} {W0 w : World} {v : Value} {bs : List UInt8} (h : BB B W0 v bs w) (o : Obj) : BB B W0 v bs (w.alloc o) :=
  ⟨h.1.alloc o, h.2.1.alloc h.2.2 o, Nat.le_trans h.2.2 (by simp)⟩
theorem BB.nil (w : World) : BB w.heap.size w (.slice none 0 0) [] w := ⟨by exact ⟨rfl, .inl ⟨rfl, rfl⟩⟩, Below.refl _ _, Nat.le_refl _⟩
/-- a number as three bytes -/
def num3 (n : Nat) : List UInt8 := [UInt8.ofNat (n / 65536), UInt8.ofNat (n / 256), UInt8.ofNat n]

/-- what stays where a buffer grows -/
structure Step (w w' : World) (v v' : Value) : Prop where
  size : w.heap.size ≤ w'.heap.size
  keep : ∀ k, k < w.heap.size → some k ≠ v.ownBlock → w'.heap[k]? = w.heap[k]?
  own : v'.ownBlock = v.ownBlock ∨ ∃ k, v'.ownBlock = some k ∧ w.heap.size ≤ k
theorem Step.refl (w : World) (v : Value) : Step w w v v := ⟨Nat.le_refl _, fun _ _ _ => rfl, .inl rfl⟩
theorem Step.trans {w w1 w2 : World} {v v1 v2 : Value} (h : Step w w1 v v1) (h' : Step w1 w2 v1 v2) : Step w w2 v v2 := by
  refine ⟨Nat.le_trans h.size h'.size, fun k hk hn => ?_, ?_⟩
  · refine (h'.keep k (Nat.lt_of_lt_of_le hk h.size) ?_).trans (h.keep k hk hn)
    rcases h.own with e | ⟨g, e, hg⟩
    · rw [e]; exact hn
    · rw [e]; intro e2; injection e2 with e2; omega
  · rcases h'.own with e | ⟨g, e, hg⟩
    · rw [e]
      exact h.own
    · exact .inr ⟨g, e, Nat.le_trans h.size hg⟩
theorem Step.alloc {w w' : World} {v v' : Value} (o : Obj) (h : Step (w.alloc o) w' v v') : Step w w' v v' :=
  ⟨Nat.le_trans (by simp) h.size, fun k hk hn => (h.keep k (by simp; omega) hn).trans (Below.heap_alloc w o k hk), h.own.imp id fun ⟨k, e, hk⟩ => ⟨k, e, Nat.le_trans (by simp) hk⟩⟩
theorem Step.grown {w w' : World} {v v' : Value} (hg : w.grownBy w' v.ownBlock) (hv : v'.ownBlock = v.ownBlock ∨ v'.ownBlock = some w.heap.size) : Step w w' v v' :=
  ⟨hg.size, hg.block, hv.imp id fun e => ⟨_, e, Nat.le_refl _⟩⟩

section
variable {P : Program}
/-- an append of some bytes: to the room that there is, or to a new block -/
theorem run_append_bb (t ty e : TypeId) (i : TypeInfo) (ht : P.underlying t = some (.slice e)) (hi : P.info? e = some i) (hz : i.zero = some (.int .u8 0)) (hsize : i.size = 1) (hby : i.bytes = 1)
    (base : Nat) (w : World) (v : Value) (n : Nat) (xs : List Value) (hown : w.ownsRow base e 1 v n xs) (ad : Addr) (m c : Nat) (news : List Value) (hl : news.length = m) (hnews : ∀ j u, news[j]? = some u → w.cell? (ad.add j) = some u) (h1 : ∀ u ∈ news, u.oneCell' = true)
    (hlen : n + m ≤ 1000000000) (hbase : base ≤ w.heap.size) :
    ∃ v' w', (Builtin.append_ #[t, t] ty #[v, .slice (some ad) m c]).run P w = .ok v' w' ∧ w'.ownsRow base e 1 v' (n + m) (xs ++ news) ∧ w.grownBy w' v.ownBlock ∧ (v'.ownBlock = v.ownBlock ∨ v'.ownBlock = some w.heap.size) := by
  have hml : n + m ≤ maxLen := by unfold maxLen; omega
  obtain ⟨v', w', hr, ho, hg, hnil⟩ := run_append_own (P := P) w base t ty e i (.int .u8 0) 1 1 ht hi hz hsize hby rfl (by decide) v n xs hown ad m c news (by omega) hnews h1 hml (by omega) hbase
  refine ⟨v', w', hr, ho, hg, ?_⟩
  rcases hown with ⟨hx, ⟨rfl, rfl⟩ | ⟨g, cap, cur, rfl, hbg, hgc, hnc, hcm, hcs, htake⟩⟩
  · by_cases hm : m = 0
    · rw [hnil.2 ⟨rfl, hm⟩]
      exact .inl rfl
    · have h2 := run_append_nil (P := P) w t ty e i (.int .u8 0) ht hi hz ad m c news (by rw [hsize]; omega) hnews (by omega) (by omega) (by rw [hby]; omega)
      rw [h2] at hr
      injection hr with e1 e2
      rw [← e1]
      exact .inr rfl
  · by_cases hroom : n + m ≤ cap
    · have h2 := run_append_room (P := P) w t ty e i ht hi g n cap cur hgc ad m c news (by rw [hsize]; omega) hnews h1 hroom (by rw [hsize]; omega)
      rw [h2] at hr
      injection hr with e1 e2
      rw [← e1]
      exact .inl rfl
    · have holds : ∀ j u, xs[j]? = some u → w.cell? ((⟨g, 0, none⟩ : Addr).add j) = some u :=
        World.ownsRow.cells (base := base) (e := e) (size := 1) (v := .slice (some ⟨g, 0, none⟩) n cap) (n := n) ⟨hx, .inr ⟨g, cap, cur, rfl, hbg, hgc, hnc, hcm, hcs, htake⟩⟩ rfl
      have h2 := run_append_grow (P := P) w t ty e i (.int .u8 0) ht hi hz ⟨g, 0, none⟩ n cap xs (by rw [hsize]; omega) holds ad m c news (by rw [hsize]; omega) hnews (by omega) (by omega) (growslice_fits (by omega) (by rw [hby]; omega))
      rw [h2] at hr
      injection hr with e1 e2
      rw [← e1]
      exact .inr rfl

theorem run_append_bbs (t u ty e : TypeId) (i : TypeInfo) (ht : P.underlying t = some (.slice e)) (hu : P.underlying u = some .string) (hi : P.info? e = some i) (hz : i.zero = some (.int .u8 0)) (hsize : i.size = 1) (hby : i.bytes = 1)
    (base : Nat) (w : World) (v : Value) (n : Nat) (xs : List Value) (hown : w.ownsRow base e 1 v n xs) (s : ByteArray) (hlen : n + s.size ≤ 1000000000) (hbase : base ≤ w.heap.size) :
    ∃ v' w', (Builtin.append_ #[t, u] ty #[v, .string s]).run P w = .ok v' w' ∧ w'.ownsRow base e 1 v' (n + s.size) (xs ++ Lib.strCells s) ∧ w.grownBy w' v.ownBlock ∧ (v'.ownBlock = v.ownBlock ∨ v'.ownBlock = some w.heap.size) := by
  have hml : n + s.size ≤ maxLen := by unfold maxLen; omega
  obtain ⟨v', w', hr, ho, hg, hnil⟩ := Lib.run_append_own_string (P := P) w base t u ty e i ht hu hi hz hsize hby v n xs hown s hml (by omega) hbase
  refine ⟨v', w', hr, ho, hg, ?_⟩
  rcases hown with ⟨hx, ⟨rfl, rfl⟩ | ⟨g, cap, cur, rfl, hbg, hgc, hnc, hcm, hcs, htake⟩⟩
  · by_cases hm : s.size = 0
    · rw [hnil.2 ⟨rfl, hm⟩]
      exact .inl rfl
    · have h2 := run_append_nil_string (P := P) w t u ty e i (.int .u8 0) ht hu hi hz s (by omega) (by omega) (by rw [hby]; omega)
      rw [h2] at hr
      injection hr with e1 e2
      rw [← e1]
      exact .inr rfl
  · by_cases hroom : n + s.size ≤ cap
    · have h2 := Lib.run_append_room_string (P := P) w t u ty e i ht hu hi hsize g n cap cur hgc s hroom (by omega)
      rw [h2] at hr
      injection hr with e1 e2
      rw [← e1]
      exact .inl rfl
    · have holds : ∀ j u, xs[j]? = some u → w.cell? ((⟨g, 0, none⟩ : Addr).add j) = some u :=
        World.ownsRow.cells (base := base) (e := e) (size := 1) (v := .slice (some ⟨g, 0, none⟩) n cap) (n := n) ⟨hx, .inr ⟨g, cap, cur, rfl, hbg, hgc, hnc, hcm, hcs, htake⟩⟩ rfl
      have h2 := Lib.run_append_grow_string (P := P) w t u ty e i (.int .u8 0) ht hu hi hz ⟨g, 0, none⟩ n cap xs (by rw [hsize]; omega) holds s (by omega) (by omega) (by rw [hby]; exact growslice_fits (by omega) (by omega))
      rw [h2] at hr
      injection hr with e1 e2
      rw [← e1]
      exact .inr rfl
/-- some bytes that the statement has just laid -/
theorem wpList_bb {ops : Array Oper} {rest : List Oper} {o : Oper} {a : Act} {Q : Exit → Act → World → Prop} (hgd : o.guard = none) (s x : Operand) (t : TypeId)
    (ho : o.op = .call { callee := .builtin .append, args := #[s, x], argTypes := #[t, t] })
    (i : TypeInfo) (ht : P.underlying t = some (.slice 5)) (hi : P.info? 5 = some i) (hz : i.zero = some (.int .u8 0)) (hsize : i.size = 1) (hby : i.bytes = 1)
    {B : Nat} {W0 : World} {v : Value} {bs : List UInt8} {w0 : World} (nb : List UInt8) (cells : Array Value) (m : Nat) (hc : cells = (nb.map encB).toArray) (hm : nb.length = m) (hs : a.eval s = v) (hb : BB B W0 v bs w0)
    (hx : a.eval x = .slice (some ⟨w0.heap.size, 0, none⟩) m m) (hlen : bs.length + m ≤ 1000000000)
    (h : ∀ v' w', BB B W0 v' (bs ++ nb) w' → Step w0 w' v v' → wpList P ops Q rest (a.put o.dst v') w') : wpList P ops Q (o :: rest) a (w0.alloc (.cells cells 5)) := by
  subst hc
  subst hm
  have hb' := hb.alloc (.cells (nb.map encB).toArray 5)
  refine wpList_plain hgd fun K hK => ?_
  obtain ⟨v', w', hr, h2, h3, h4⟩ := run_append_bb (P := P) t o.type 5 i ht hi hz hsize hby B _ v bs.length (bs.map encB) hb'.1 ⟨w0.heap.size, 0, none⟩ nb.length nb.length (nb.map encB) (by simp) (fun j u hj => by
    rw [Lib.add_plain, World.cell?_alloc_new]
    simpa using hj) (fun u hu => by
    obtain ⟨b, _, rfl⟩ := List.mem_map.1 hu
    rfl) hlen hb'.2.2
  unfold Oper.wp execOp
  simp only [ho, resolve, invoke, builtin, Sem.run_bind, Sem.run_pure, Result.andThen_ok, List.map_toArray, List.map_cons, List.map_nil, hs, hx, hr]
  exact hK _ _ (h v' w' (hb'.next h2 h3) (Step.alloc _ (Step.grown h3 h4)))
/-- a text's bytes -/
theorem wpList_bbs {ops : Array Oper} {rest : List Oper} {o : Oper} {a : Act} {Q : Exit → Act → World → Prop} (hgd : o.guard = none) (sl x : Operand) (t u : TypeId)
    (ho : o.op = .call { callee := .builtin .append, args := #[sl, x], argTypes := #[t, u] })
    (i : TypeInfo) (ht : P.underlying t = some (.slice 5)) (hu : P.underlying u = some .string) (hi : P.info? 5 = some i) (hz : i.zero = some (.int .u8 0)) (hsize : i.size = 1) (hby : i.bytes = 1)
    {B : Nat} {W0 : World} {v : Value} {bs : List UInt8} {w0 : World} (s : ByteArray) (hs : a.eval sl = v) (hb : BB B W0 v bs w0)
    (hx : a.eval x = .string s) (hlen : bs.length + s.size ≤ 1000000000)
    (h : ∀ v' w', BB B W0 v' (bs ++ s.data.toList) w' → Step w0 w' v v' → wpList P ops Q rest (a.put o.dst v') w') : wpList P ops Q (o :: rest) a w0 := by
  refine wpList_plain hgd fun K hK => ?_
  obtain ⟨v', w', hr, h2, h3, h4⟩ := run_append_bbs (P := P) t u o.type 5 i ht hu hi hz hsize hby B _ v bs.length (bs.map encB) hb.1 s hlen hb.2.2
  unfold Oper.wp execOp
  simp only [ho, resolve, invoke, builtin, Sem.run_bind, Sem.run_pure, Result.andThen_ok, List.map_toArray, List.map_cons, List.map_nil, hs, hx, hr]
  exact hK _ _ (h v' w' (hb.next (by rw [← Lib.size_eq]; exact h2) h3) (Step.grown h3 h4))
end

set_option maxRecDepth 100000 in
set_option maxHeartbeats 4000000 in
theorem cnum3_any (B : Nat) (W0 : World) (v : Value) (bs : List UInt8) (n : Nat) (hn : n < 16777216) (w : World) (hb : BB B W0 v bs w) (hl : bs.length + 3 ≤ 1000000000) :
    Calls Tryz.prog 34 #[v, .int .i64 (n : Int)] w fun e w' => ∃ v', e = .returned v' ∧ BB B W0 v' (bs ++ num3 n) w' ∧ Step w w' v v' := by
  obtain ⟨i0, hi0, hz0, hz1, hz2⟩ := info_partsB u8_infoB
  have HB := Lib.hid hb
  have hc : #[Value.int IntKind.u8 ((n : Int) / 65536), Value.int IntKind.u8 ((n : Int) / 256 % 256), Value.int IntKind.u8 ((n : Int) % 256)] = ((num3 n).map encB).toArray := by
    unfold num3
    simp only [List.map, encB_of]
    rw [show ((n / 65536 % 256 : Nat) : Int) = (n : Int) / 65536 by omega, show ((n / 256 % 256 : Nat) : Int) = (n : Int) / 256 % 256 by omega, show ((n % 256 : Nat) : Int) = (n : Int) % 256 by omega]
  have HC := Lib.hid hc
  clear hb hc
  go_enter Tryz.func34, Tryz.ntmps34
  go_wp2_with (at_builtin; refine wpList_bb rfl _ _ 30 rfl i0 Tryz.underlying30 hi0 hz0 hz1 hz2 (num3 n) _ 3 HC.out rfl rfl HB.out rfl hl ?_; intro v1 w1 hb1 hs1)
  have HB1 := Lib.hid hb1
  have HS1 := Lib.hid hs1
  clear hb1 hs1
  go_wp2_with (fail)
  go_ret
  exact ⟨v1, rfl, HB1.out, HS1.out⟩

/-- a text behind how many bytes it has -/
def text3 (s : ByteArray) : List UInt8 := num3 s.size ++ s.data.toList
theorem text3_len (s : ByteArray) : (text3 s).length = 3 + s.size := by rw [text3, List.length_append, Lib.size_eq]; rfl

set_option maxRecDepth 100000 in
set_option maxHeartbeats 4000000 in
theorem ctext3_any (B : Nat) (W0 : World) (v : Value) (bs : List UInt8) (s : ByteArray) (hn : s.size < 16777216) (w : World) (hb : BB B W0 v bs w) (hl : bs.length + (3 + s.size) ≤ 1000000000) :
    Calls Tryz.prog 35 #[v, .string s] w fun e w' => ∃ v', e = .returned v' ∧ BB B W0 v' (bs ++ text3 s) w' ∧ Step w w' v v' := by
  obtain ⟨i0, hi0, hz0, hz1, hz2⟩ := info_partsB u8_infoB
  have H := Lib.hid (cnum3_any B W0 v bs s.size hn w hb (by omega))
  clear hb
  go_enter Tryz.func35, Tryz.ntmps35
  go_wp2_with (fail)
  refine H.out.mono ?_
  rintro e w1 ⟨v1, rfl, hb1, hs1⟩
  have HB1 := Lib.hid hb1
  have HS1 := Lib.hid hs1
  have hl1 : (bs ++ num3 s.size).length + s.size ≤ 1000000000 := by rw [List.length_append]; show bs.length + 3 + s.size ≤ _; omega
  clear hb1 hs1
  go_wp2_with (at_builtin; refine wpList_bbs rfl _ _ 30 9 rfl i0 Tryz.underlying30 Tryz.underlying9 hi0 hz0 hz1 hz2 s rfl HB1.out rfl hl1 ?_; intro v2 w2 hb2 hs2)
  have HB2 := Lib.hid (show BB B W0 v2 (bs ++ text3 s) w2 by rw [text3, ← List.append_assoc]; exact hb2)
  have HS2 := Lib.hid (HS1.out.trans hs2)
  clear hb2 hs2
  go_wp2_with (fail)
  go_ret
  exact ⟨v2, rfl, HB2.out, HS2.out⟩

theorem ctruth_any (b : Bool) (w : World) : Calls Tryz.prog 71 #[.bool b] w fun e w' => e = .returned (.int .i64 ((b.toNat : Nat) : Int)) ∧ w = w' := by
  cases b
  · go_enter Tryz.func71, Tryz.ntmps71
    go_wp2_with (fail)
    go_ret
    exact ⟨rfl, rfl⟩
  · go_enter Tryz.func71, Tryz.ntmps71
    go_wp2_with (fail)
    go_ret
    exact ⟨rfl, rfl⟩

end LM
end Go.Proofs.YtdhjbhcfkajfdaaGreatDoor

namespace Go.Proofs.YtdhjbhcfkajfdaaGreatDoor
open Go Go.RowKit
namespace LM
set_option linter.unusedVariables false
attribute [local go_sem] run_store_flt

def insL (x : Ins) : List UInt8 := num3 x.op.toNat ++ (num3 x.a.toNat ++ num3 x.b.toNat)
def insLs (l : List Ins) : List UInt8 := (l.map insL).flatten
def procL (p : Prh) : List UInt8 := text3 p.nm ++ (num3 p.pa.toNat ++ (num3 p.rs.toNat ++ (num3 p.sl.toNat ++ (num3 p.de.toNat ++ (num3 p.fr.toNat ++ (num3 p.code.length ++ insLs p.code))))))
theorem num3_len (n : Nat) : (num3 n).length = 3 := rfl
theorem insLs_cons (x : Ins) (l : List Ins) : insLs (x :: l) = insL x ++ insLs l := rfl
theorem numB_nat {n : Int} (h : numB n = true) : ∃ k : Nat, n = (k : Int) ∧ k < 16777216 ∧ n.toNat = k := by
  unfold numB at h
  rw [Bool.and_eq_true, decide_eq_true_eq, decide_eq_true_eq] at h
  exact ⟨n.toNat, by omega, by omega, rfl⟩
/-- a number that is known to be one, behind some bytes -/
theorem cnum3_int (B : Nat) (W0 : World) (v : Value) (bs : List UInt8) (n : Int) (hn : numB n = true) (w : World) (hb : BB B W0 v bs w) (hl : bs.length + 3 ≤ 1000000000) :
    Calls Tryz.prog 34 #[v, .int .i64 n] w fun e w' => ∃ v', e = .returned v' ∧ BB B W0 v' (bs ++ num3 n.toNat) w' ∧ Step w w' v v' := by
  obtain ⟨k, rfl, hk, e⟩ := numB_nat hn
  rw [e]
  exact cnum3_any B W0 v bs k hk w hb hl
/-- what lies below another slice's block stays -/
theorem Step.cell {w w' : World} {v v' : Value} (h : Step w w' v v') {b off : Nat} (hb : b < w.heap.size) (hn : some b ≠ v.ownBlock) : w'.cell? ⟨b, off, none⟩ = w.cell? ⟨b, off, none⟩ :=
  World.cell?_of_block (a := ⟨b, off, none⟩) (h.keep b hb hn)
/-- a block that the slice does not lie in -/
def Apart (w : World) (v : Value) (b : Nat) : Prop := b < w.heap.size ∧ some b ≠ v.ownBlock
theorem Apart.step {w w' : World} {v v' : Value} {b : Nat} (h : Apart w v b) (hs : Step w w' v v') : Apart w' v' b := by
  refine ⟨Nat.lt_of_lt_of_le h.1 hs.size, ?_⟩
  rcases hs.own with e | ⟨k, e, hk⟩
  · rw [e]; exact h.2
  · rw [e]; intro e2; injection e2 with e2; have := h.1; omega
theorem Apart.cell {w w' : World} {v v' : Value} {b off : Nat} (h : Apart w v b) (hs : Step w w' v v') : w'.cell? ⟨b, off, none⟩ = w.cell? ⟨b, off, none⟩ := hs.cell h.1 h.2
theorem Apart.p7 {w w' : World} {v v' : Value} {b off : Nat} {p : Prh} (h : Apart w v b) (hs : Step w w' v v') (hp : P7 w b off p) : P7 w' b off p :=
  ⟨(h.cell hs).trans hp.c0, (h.cell hs).trans hp.c1, (h.cell hs).trans hp.c2, (h.cell hs).trans hp.c3, (h.cell hs).trans hp.c4, (h.cell hs).trans hp.c5, (h.cell hs).trans hp.c6⟩
theorem Apart.i3 {w w' : World} {v v' : Value} {b off : Nat} {p : Ins} (h : Apart w v b) (hs : Step w w' v v') (hp : I3 w b off p) : I3 w' b off p :=
  ⟨(h.cell hs).trans hp.c0, (h.cell hs).trans hp.c1, (h.cell hs).trans hp.c2⟩
theorem apart_new {B : Nat} {W0 w : World} {v : Value} {bs : List UInt8} (h : BB B W0 v bs w) (o : Obj) : Apart (w.alloc o) v w.heap.size :=
  ⟨by simp, fun e => by have := (h.1.lt _ e.symm).2; omega⟩

set_option maxRecDepth 100000 in
set_option maxHeartbeats 8000000 in
/-- an instruction's three numbers -/
theorem cproc3_any (B : Nat) (W0 : World) (hW0 : B ≤ W0.heap.size) (v : Value) (bs : List UInt8) (p : Prh) (w : World) (hb : BB B W0 v bs w) (hp : prB p = true) (hok : p.Ok) (hc : p.code.length < 16777216)
    (hv : ∃ b off, (0 < p.code.length → p.B = some ⟨b, off, none⟩ ∧ b < B) ∧ InsAt W0 b off p.code) (hl : bs.length + (procL p).length ≤ 1000000000) :
    Calls Tryz.prog 36 #[v, prA p] w fun e w' => ∃ v', e = .returned v' ∧ BB B W0 v' (bs ++ procL p) w' ∧ Step w w' v v' := by
  obtain ⟨nm, pa, rs, sl, de, fr, PB, cap, code⟩ := p
  unfold prB at hp
  dsimp only at hp hok hc hv
  rw [Bool.and_eq_true, Bool.and_eq_true, decide_eq_true_eq] at hp
  obtain ⟨hnm, hnums, hcode⟩ := hp
  simp only [List.all_cons, List.all_nil, Bool.and_true, Bool.and_eq_true] at hnums
  obtain ⟨n1, n2, n3, n4⟩ := hnums
  obtain ⟨b, off, hB, hF⟩ := hv
  obtain ⟨Wp, hWp⟩ : ∃ Wp, w.alloc (prO ⟨nm, pa, rs, sl, de, fr, PB, cap, code⟩) = Wp := ⟨_, rfl⟩
  have hbp : BB B W0 v bs Wp := by rw [← hWp]; exact hb.alloc _
  have hap : Apart Wp v w.heap.size := by rw [← hWp]; exact apart_new hb _
  have hp7 : P7 Wp w.heap.size 0 ⟨nm, pa, rs, sl, de, fr, PB, cap, code⟩ := P7.of_block (by rw [← hWp]; unfold World.alloc; simp)
  have hsp : Step w Wp v v := by rw [← hWp]; exact Step.alloc _ (Step.refl _ _)
  have hll : (procL ⟨nm, pa, rs, sl, de, fr, PB, cap, code⟩).length = 3 + nm.size + 18 + (insLs code).length := by
    simp only [procL, List.length_append, num3_len, text3_len]; omega
  rw [hll] at hl
  have C0 := Lib.hid (ctext3_any B W0 v bs nm (by omega) Wp hbp (by omega))
  have HWp := Lib.hid hWp
  have HAP := Lib.hid hap
  have HP7 := Lib.hid hp7
  have HSP := Lib.hid hsp
  have HF := Lib.hid hF
  have HB := Lib.hid hB
  have HN := Lib.hid (And.intro n1 (And.intro n2 (And.intro n3 n4)))
  have HC := Lib.hid hcode
  obtain ⟨y0, y1, y2, y3, y4, y5, y6⟩ := hp7
  simp only [Nat.zero_add] at y0 y1 y2 y3 y4 y5 y6
  clear hWp hbp hap hsp hF hB n1 n2 n3 n4 hcode hb hll
  go_enter Tryz.func36, Tryz.ntmps36
  go_wp2_with (fail)
  rw [HWp.out]
  refine C0.out.mono ?_
  rintro e w1 ⟨v1, rfl, hb1, hs1⟩
  have A1 := Lib.hid (HAP.out.step hs1)
  have Q1 := Lib.hid (HAP.out.p7 hs1 HP7.out)
  have S1 := Lib.hid (HSP.out.trans hs1)
  have C1 := Lib.hid (cnum3_int B W0 v1 _ pa HN.out.1 w1 hb1 (by rw [List.length_append, text3_len]; omega))
  clear hb1 hs1 y0 y1 y2 y3 y4 y5 y6
  obtain ⟨y0, y1, y2, y3, y4, y5, y6⟩ := Q1.out
  simp only [Nat.zero_add] at y0 y1 y2 y3 y4 y5 y6
  go_wp2_with (fail)
  refine C1.out.mono ?_
  rintro e w2 ⟨v2, rfl, hb2, hs2⟩
  have A2 := Lib.hid (A1.out.step hs2)
  have Q2 := Lib.hid (A1.out.p7 hs2 Q1.out)
  have S2 := Lib.hid (S1.out.trans hs2)
  have HB2 := Lib.hid hb2
  have T2 := Lib.hid (ctruth_any rs w2)
  clear hb2 hs2 y0 y1 y2 y3 y4 y5 y6
  obtain ⟨y0, y1, y2, y3, y4, y5, y6⟩ := Q2.out
  simp only [Nat.zero_add] at y0 y1 y2 y3 y4 y5 y6
  go_wp2_with (fail)
  refine T2.out.mono ?_
  rintro e w2' ⟨rfl, rfl⟩
  have C2 := Lib.hid (cnum3_any B W0 v2 _ rs.toNat (by cases rs <;> decide) w2 HB2.out (by rw [List.length_append, List.length_append, text3_len, num3_len]; omega))
  go_wp2_with (fail)
  refine C2.out.mono ?_
  rintro e w3 ⟨v3, rfl, hb3, hs3⟩
  have A3 := Lib.hid (A2.out.step hs3)
  have Q3 := Lib.hid (A2.out.p7 hs3 Q2.out)
  have S3 := Lib.hid (S2.out.trans hs3)
  have C3 := Lib.hid (cnum3_int B W0 v3 _ sl HN.out.2.1 w3 hb3 (by simp only [List.length_append, text3_len, num3_len]; omega))
  clear hb3 hs3 y0 y1 y2 y3 y4 y5 y6
  obtain ⟨y0, y1, y2, y3, y4, y5, y6⟩ := Q3.out
  simp only [Nat.zero_add] at y0 y1 y2 y3 y4 y5 y6
  go_wp2_with (fail)
  refine C3.out.mono ?_
  rintro e w4 ⟨v4, rfl, hb4, hs4⟩
  have A4 := Lib.hid (A3.out.step hs4)
  have Q4 := Lib.hid (A3.out.p7 hs4 Q3.out)
  have S4 := Lib.hid (S3.out.trans hs4)
  have C4 := Lib.hid (cnum3_int B W0 v4 _ de HN.out.2.2.1 w4 hb4 (by simp only [List.length_append, text3_len, num3_len]; omega))
  clear hb4 hs4 y0 y1 y2 y3 y4 y5 y6
  obtain ⟨y0, y1, y2, y3, y4, y5, y6⟩ := Q4.out
  simp only [Nat.zero_add] at y0 y1 y2 y3 y4 y5 y6
  go_wp2_with (fail)
  refine C4.out.mono ?_
  rintro e w5 ⟨v5, rfl, hb5, hs5⟩
  have A5 := Lib.hid (A4.out.step hs5)
  have Q5 := Lib.hid (A4.out.p7 hs5 Q4.out)
  have S5 := Lib.hid (S4.out.trans hs5)
  have C5 := Lib.hid (cnum3_int B W0 v5 _ fr HN.out.2.2.2 w5 hb5 (by simp only [List.length_append, text3_len, num3_len]; omega))
  clear hb5 hs5 y0 y1 y2 y3 y4 y5 y6
  obtain ⟨y0, y1, y2, y3, y4, y5, y6⟩ := Q5.out
  simp only [Nat.zero_add] at y0 y1 y2 y3 y4 y5 y6
  go_wp2_with (fail)
  refine C5.out.mono ?_
  rintro e w6 ⟨v6, rfl, hb6, hs6⟩
  have A6 := Lib.hid (A5.out.step hs6)
  have Q6 := Lib.hid (A5.out.p7 hs6 Q5.out)
  have S6 := Lib.hid (S5.out.trans hs6)
  have C6 := Lib.hid (cnum3_any B W0 v6 _ code.length hc w6 hb6 (by simp only [List.length_append, text3_len, num3_len]; omega))
  clear hb6 hs6 y0 y1 y2 y3 y4 y5 y6
  obtain ⟨y0, y1, y2, y3, y4, y5, y6⟩ := Q6.out
  simp only [Nat.zero_add] at y0 y1 y2 y3 y4 y5 y6
  go_wp2_with (fail)
  refine C6.out.mono ?_
  rintro e w7 ⟨v7, rfl, hb7, hs7⟩
  have A7 := Lib.hid (A6.out.step hs7)
  have Q7 := Lib.hid (A6.out.p7 hs7 Q6.out)
  have S7 := Lib.hid (S6.out.trans hs7)
  obtain ⟨bs7, hbs7⟩ : ∃ bs7, bs7 = bs ++ text3 nm ++ num3 pa.toNat ++ num3 rs.toNat ++ num3 sl.toNat ++ num3 de.toNat ++ num3 fr.toNat ++ num3 code.length := ⟨_, rfl⟩
  rw [← hbs7] at hb7
  have hl7 : bs7.length + (insLs code).length ≤ 1000000000 := by rw [hbs7]; simp only [List.length_append, text3_len, num3_len]; omega
  have HE : Hid (bs7 ++ insLs code = bs ++ procL ⟨nm, pa, rs, sl, de, fr, PB, cap, code⟩) := Lib.hid (by rw [hbs7]; simp only [procL, List.append_assoc])
  have HL7 := Lib.hid hl7
  have HB7 := Lib.hid hb7
  clear hb7 hs7 y0 y1 y2 y3 y4 y5 y6 hbs7 hl7 hl
  obtain ⟨y0, y1, y2, y3, y4, y5, y6⟩ := Q7.out
  simp only [Nat.zero_add] at y0 y1 y2 y3 y4 y5 y6
  clear y0 y1 y2 y3 y4 y5
  rcases Nat.eq_zero_or_pos code.length with h0 | hpos
  · have hz : decide (0 < code.length) = false := decide_eq_false (by omega)
    have he : insLs code = [] := by rw [List.length_eq_zero_iff.1 h0]; rfl
    have HE2 := Lib.hid he
    clear he h0
    go_wp2_with (fail)
    go_loopg [0, 40] 0 (fun kk u i wr => wr = w7 ∧ i = .int .i64 0 ∧ u = v7)
    case atStart => exact ⟨rfl, rfl, rfl⟩
    case round =>
      obtain ⟨rfl, rfl, rfl⟩ := hrel
      go_wp2_with (fail)
      go_ret
      exact ⟨_, rfl, by rw [← HE.out, HE2.out, List.append_nil]; exact HB7.out, S7.out⟩
  obtain ⟨rfl, hbB⟩ := HB.out hpos
  go_wp2_with (fail)
  go_loopg [0, 40] code.length (fun kk u i wr => Step w wr v u ∧ ∃ j : Nat, j ≤ code.length ∧ kk = code.length - j ∧ i = .int .i64 (j : Int) ∧ ∃ done, BB B W0 u done wr ∧ done ++ insLs (code.drop j) = bs7 ++ insLs code)
  case atStart => exact ⟨S7.out, 0, Nat.zero_le _, rfl, rfl, bs7, HB7.out, rfl⟩
  case round =>
    obtain ⟨hst, j, hj, rfl, rfl, done, hbr, hd⟩ := hrel
    have HST := Lib.hid hst
    have HBR := Lib.hid hbr
    have HD := Lib.hid hd
    clear hst hbr hd
    by_cases hjl : j < code.length
    · obtain ⟨x, hx, hdr⟩ := drop_at hjl
      have hxb := List.all_eq_true.1 HC.out x (List.mem_of_getElem? hx)
      unfold insB at hxb
      simp only [List.all_cons, List.all_nil, Bool.and_true, Bool.and_eq_true] at hxb
      obtain ⟨x1, x2, x3⟩ := hxb
      have hi3 := (HF.out j x hx).2.keep HBR.out.2.1 hbB
      have hd2 := HD.out
      rw [hdr, insLs_cons] at hd2
      have hlen : done.length + (9 + (insLs (code.drop (j + 1))).length) ≤ 1000000000 := by
        have h1 := congrArg List.length hd2
        have h2 := HL7.out
        simp only [List.length_append, insL, num3_len] at h1
        omega
      obtain ⟨Wi, hWi⟩ : ∃ Wi, wr.alloc (insO x) = Wi := ⟨_, rfl⟩
      have hbi : BB B W0 u0 done Wi := by rw [← hWi]; exact HBR.out.alloc _
      have hai : Apart Wi u0 wr.heap.size := by rw [← hWi]; exact apart_new HBR.out _
      have hii : I3 Wi wr.heap.size 0 x := I3.of_block (by rw [← hWi]; unfold World.alloc; simp)
      have hsi : Step w Wi v u0 := by rw [← hWi]; exact HST.out.trans (Step.alloc _ (Step.refl _ _))
      have HWi := Lib.hid hWi
      have AI := Lib.hid hai
      have QI := Lib.hid hii
      have SI := Lib.hid hsi
      have D1 := Lib.hid (cnum3_int B W0 u0 done x.op x1 Wi hbi (by omega))
      have X23 := Lib.hid (And.intro x2 x3)
      have HD2 := Lib.hid hd2
      have HLN := Lib.hid hlen
      obtain ⟨z0, z1, z2⟩ := hi3
      obtain ⟨t0, t1, t2⟩ := hii
      simp only [Nat.zero_add] at t0 t1 t2
      clear hWi hbi hai hsi hx hdr x1 x2 x3 hd2 hlen
      go_wp2_with (fail)
      rw [HWi.out]
      go_wp2_with (fail)
      refine D1.out.mono ?_
      rintro e q1 ⟨u1, rfl, hc1, hd1⟩
      have AI1 := Lib.hid (AI.out.step hd1)
      have QI1 := Lib.hid (AI.out.i3 hd1 QI.out)
      have SI1 := Lib.hid (SI.out.trans hd1)
      have D2 := Lib.hid (cnum3_int B W0 u1 _ x.a X23.out.1 q1 hc1 (by have := HLN.out; simp only [List.length_append, num3_len]; omega))
      clear hc1 hd1 t0 t1 t2
      obtain ⟨t0, t1, t2⟩ := QI1.out
      simp only [Nat.zero_add] at t0 t1 t2
      go_wp2_with (fail)
      refine D2.out.mono ?_
      rintro e q2 ⟨u2, rfl, hc2, hd2⟩
      have QI2 := Lib.hid (AI1.out.i3 hd2 QI1.out)
      have SI2 := Lib.hid (SI1.out.trans hd2)
      have D3 := Lib.hid (cnum3_int B W0 u2 _ x.b X23.out.2 q2 hc2 (by have := HLN.out; simp only [List.length_append, num3_len]; omega))
      clear hc2 hd2 t0 t1 t2
      obtain ⟨t0, t1, t2⟩ := QI2.out
      simp only [Nat.zero_add] at t0 t1 t2
      go_wp2_with (fail)
      refine D3.out.mono ?_
      rintro e q3 ⟨u3, rfl, hc3, hd3⟩
      have SI3 := Lib.hid (SI2.out.trans hd3)
      have HC3 := Lib.hid hc3
      clear hc3 hd3 t0 t1 t2
      have hj63 : (j : Int) < 1000000000000 := by omega
      go_wp2_with (fail)
      go_roundg (code.length - (j + 1))
      case measure => omega
      case rel => exact ⟨SI3.out, j + 1, by omega, rfl, by go_num, _, HC3.out, by rw [← HD2.out]; simp only [insL, List.append_assoc]⟩
    · have hje : j = code.length := by omega
      subst hje
      have hd2 := HD.out
      rw [List.drop_length] at hd2
      have hd3 : done = bs7 ++ insLs code := by rw [← hd2]; exact (List.append_nil _).symm
      have HD3 := Lib.hid hd3
      clear hd2 hd3
      go_wp2_with (fail)
      go_ret
      exact ⟨_, rfl, by rw [← HE.out, ← HD3.out]; exact HBR.out, HST.out⟩

def constsL (tx : Hd → Fr → ByteArray) : Fr → List UInt8
  | .nil => []
  | .cons h k r => text3 (tx h k) ++ constsL tx r
def globsL : List ByteArray → List UInt8
  | [] => []
  | s :: l => text3 s ++ globsL l
def procsL : List Prh → List UInt8
  | [] => []
  | p :: l => procL p ++ procsL l
/-- a program as bytes -/
def bytesL (tx : Hd → Fr → ByteArray) (c : Cod) : List UInt8 := num3 c.kids.len ++ (constsL tx c.kids ++ (num3 c.gs.length ++ (globsL c.gs ++ (num3 c.ps.length ++ procsL c.ps))))

end LM
end Go.Proofs.YtdhjbhcfkajfdaaGreatDoor

namespace Go.Proofs.YtdhjbhcfkajfdaaGreatDoor
open Go Go.RowKit
namespace LM
set_option linter.unusedVariables false
attribute [local go_sem] run_store_flt

theorem BB.below {B : Nat} {W0 w w' : World} {v : Value} {bs : List UInt8} (h : BB B W0 v bs w) (hb : Below w.heap.size w w') : BB B W0 v bs w' := by
  obtain ⟨⟨h1, h2⟩, h3, h4⟩ := h
  refine ⟨⟨h1, ?_⟩, h3.trans (hb.mono h4), Nat.le_trans h4 hb.size⟩
  rcases h2 with h2 | ⟨g, cap, cur, e, e1, e2, e3⟩
  · exact .inl h2
  · refine .inr ⟨g, cap, cur, e, e1, (hb.block g ?_).trans e2, e3⟩
    rcases Nat.lt_or_ge g w.heap.size with h | h
    · exact h
    · rw [Array.getElem?_eq_none h] at e2; cases e2
theorem constsL_cons (tx : Hd → Fr → ByteArray) (h : Hd) (k r : Fr) : constsL tx (.cons h k r) = text3 (tx h k) ++ constsL tx r := rfl
theorem insN_mem {l : List Prh} {p : Prh} (h : p ∈ l) : p.code.length ≤ insN l := by
  induction l with
  | nil => cases h
  | cons q l ih =>
    rw [insN_cons]
    rcases List.mem_cons.1 h with rfl | h
    · omega
    · have := ih h; omega
set_option maxRecDepth 100000 in
set_option maxHeartbeats 16000000 in
/-- whose three lists have a place -/
theorem cbytes_by (tx : Hd → Fr → ByteArray) (q : Hd → Fr → Bool) (pb po pc : Nat) (ps : List Prh) (cb co cc : Nat) (kids : Fr) (gb go gc : Nat) (gs : List ByteArray) (w : World)
    (hv : CodV w ⟨some ⟨pb, po, none⟩, pc, ps, some ⟨cb, co, none⟩, cc, kids, some ⟨gb, go, none⟩, gc, gs⟩) (hok : Cod.Ok ⟨some ⟨pb, po, none⟩, pc, ps, some ⟨cb, co, none⟩, cc, kids, some ⟨gb, go, none⟩, gc, gs⟩)
    (hpF : PrcAt w pb po ps) (hpI : ∀ p ∈ ps, ∃ b off, (0 < p.code.length → p.B = some ⟨b, off, none⟩ ∧ b < w.heap.size) ∧ InsAt w b off p.code) (hcF : FAt w cb co kids) (hgF : StrAt w gb go gs)
    (hr : (fewB ⟨some ⟨pb, po, none⟩, pc, ps, some ⟨cb, co, none⟩, cc, kids, some ⟨gb, go, none⟩, gc, gs⟩ && (ps.all prB && (gs.all (fun s => decide (s.size ≤ 100)) && allF q kids))) = true)
    (hq : ∀ hh k j r, kids.drop j = .cons hh k r → ∀ W, Below w.heap.size w W → DatV W hh k → Calls Tryz.prog 70 #[datA hh k.len] W fun e w' => e = .returned (.bool (q hh k)) ∧ Below W.heap.size W w')
    (hP : ∀ hh k j r, kids.drop j = .cons hh k r → (tx hh k).size ≤ 20000 ∧ ∀ W, Below w.heap.size w W → DatV W hh k → Calls Tryz.prog 28 #[datA hh k.len] W fun e w' => e = .returned (.tuple #[.string (tx hh k), .int .i64 0]) ∧ Below W.heap.size W w')
    (hl : (bytesL tx ⟨some ⟨pb, po, none⟩, pc, ps, some ⟨cb, co, none⟩, cc, kids, some ⟨gb, go, none⟩, gc, gs⟩).length ≤ 1000000000) :
    Calls Tryz.prog 18 #[codA ⟨some ⟨pb, po, none⟩, pc, ps, some ⟨cb, co, none⟩, cc, kids, some ⟨gb, go, none⟩, gc, gs⟩] w fun e w' => ∃ v' W0, e = .returned (.tuple #[v', .int .i64 0]) ∧ Below w.heap.size w W0 ∧ BB W0.heap.size W0 v' (bytesL tx ⟨some ⟨pb, po, none⟩, pc, ps, some ⟨cb, co, none⟩, cc, kids, some ⟨gb, go, none⟩, gc, gs⟩) w' := by
  obtain ⟨W0, hW0, hb0, ho, hs0, hz0⟩ := cod_block w ⟨some ⟨pb, po, none⟩, pc, ps, some ⟨cb, co, none⟩, cc, kids, some ⟨gb, go, none⟩, gc, gs⟩
  have R0 := cright_by q _ W0 (hv.below hb0) hok fun hh k j r hdr W hW hD => hq hh k j r hdr W (bel_trans (B := w.heap.size) hb0 hW) hD
  rw [hr] at R0
  have k0 := K3.of_block ho
  rw [Bool.and_eq_true, Bool.and_eq_true, Bool.and_eq_true] at hr
  obtain ⟨r1, r2, r3, r4⟩ := hr
  unfold fewB at r1
  simp only [Bool.and_eq_true, decide_eq_true_eq] at r1
  obtain ⟨f1, f2, f3, f4⟩ := r1
  have hi : ∀ p ∈ ps, p.code.length < 16777216 := fun p hp => by
    have := insN_mem hp
    omega
  obtain ⟨tot, htot⟩ : ∃ tot, bytesL tx ⟨some ⟨pb, po, none⟩, pc, ps, some ⟨cb, co, none⟩, cc, kids, some ⟨gb, go, none⟩, gc, gs⟩ = tot := ⟨_, rfl⟩
  have htot2 : num3 kids.len ++ (constsL tx kids ++ (num3 gs.length ++ (globsL gs ++ (num3 ps.length ++ procsL ps)))) = tot := htot
  rw [htot] at hl ⊢
  have R0 := Lib.hid R0
  have HT := Lib.hid htot2
  have HI := Lib.hid hi
  have HW0 := Lib.hid hW0
  have HB0 := Lib.hid hb0
  have HS0 := Lib.hid hs0
  have K0 := Lib.hid k0
  have HP := Lib.hid hP
  have HPF := Lib.hid (hpF.below hb0)
  have HPI := Lib.hid hpI
  have HCF := Lib.hid (FAt.below hb0 _ _ _ hcF)
  have HGF := Lib.hid (hgF.below hb0)
  have HL := Lib.hid hl
  have HOK := Lib.hid hok
  have HPR := Lib.hid r2
  have HGR := Lib.hid r3
  have HFW := Lib.hid (And.intro f1 (And.intro f2 f3))
  obtain ⟨y0, y1, y2⟩ := k0
  simp only [Nat.zero_add] at y0 y1 y2
  clear hW0 hb0 ho hs0 hz0 hv hok hq hP hl hpF hpI hcF hgF r2 r3 r4 f4 hi htot htot2
  go_enter Tryz.func18, Tryz.ntmps18
  go_wp2_with (fail)
  rw [HW0.out]
  refine R0.out.mono ?_
  rintro e w1 ⟨rfl, hb1⟩
  have bb1 := (BB.nil W0).below hb1
  have C1 := Lib.hid (cnum3_any _ W0 _ _ kids.len (by have := HFW.out; omega) w1 bb1 (by decide))
  have K1 := Lib.hid (K0.out.keep hb1 HS0.out)
  clear hb1 bb1 y0 y1 y2
  obtain ⟨y0, y1, y2⟩ := K1.out
  simp only [Nat.zero_add] at y0 y1 y2
  go_wp2_with (fail)
  refine C1.out.mono ?_
  rintro e w2 ⟨v2, rfl, hb2, hs2⟩
  clear hs2 y0 y1 y2
  have HB2 := Lib.hid hb2
  have K2 := Lib.hid (K0.out.keep hb2.2.1 HS0.out)
  clear hb2
  obtain ⟨y0, y1, y2⟩ := K2.out
  simp only [Nat.zero_add] at y0 y1 y2
  go_wp2_with (fail)
  clear y0 y1 y2
  go_loopg [4, 23] kids.len (fun kk v i wr => ∃ j : Nat, j ≤ kids.len ∧ kk = kids.len - j ∧ i = .int .i64 (j : Int) ∧ ∃ done, BB W0.heap.size W0 v done wr ∧ done ++ constsL tx (kids.drop j) = num3 kids.len ++ constsL tx kids)
  case atStart => exact ⟨0, Nat.zero_le _, rfl, rfl, _, HB2.out, rfl⟩
  case round =>
    obtain ⟨j, hj, rfl, rfl, done, hbr, hd⟩ := hrel
    have HBR := Lib.hid hbr
    have HD := Lib.hid hd
    clear hbr hd
    by_cases hjl : j < kids.len
    · obtain ⟨hh, k, r, hdr, hdr1⟩ := Fr.cons_of_lt hjl
      have hd2 := HD.out
      rw [hdr, constsL_cons] at hd2
      obtain ⟨hbl, ⟨x0, x1, x2, x3, x4, x5, x6, x7⟩, D⟩ := counted_item (FAt.below HBR.out.2.1 _ _ _ HCF.out) hdr
      obtain ⟨htx, hpr⟩ := HP.out hh k j r hdr
      obtain ⟨Wd, hWd, hbd, hod, -⟩ := dat_block wr hh k.len
      have hbbd : BB W0.heap.size W0 u4 done Wd := HBR.out.below hbd
      have P1 := Lib.hid (hpr Wd (bel_trans (B := w.heap.size) HB0.out hbbd.2.1) (D.below hbd))
      have hlen : done.length + (3 + (tx hh k).size) ≤ 1000000000 := by
        have h1 := congrArg List.length hd2
        have h2 := congrArg List.length HT.out
        have h3 := HL.out
        simp only [List.length_append, text3_len] at h1 h2
        omega
      have HX := Lib.hid htx
      have HLN := Lib.hid hlen
      have HD2 := Lib.hid hd2
      have HDR := Lib.hid hdr1
      have HWd := Lib.hid hWd
      have HBD := Lib.hid hbbd
      obtain ⟨z0, z1, z2, z3, z4, z5, z6, z7⟩ := C8.of_block hod
      clear hd2 hdr hdr1 D htx hpr hlen hWd hbd hod hbbd
      go_wp2_with (fail)
      rw [HWd.out]
      go_wp2_with (fail)
      refine P1.out.mono ?_
      rintro e q1 ⟨rfl, hb1⟩
      have D1 := Lib.hid (ctext3_any _ W0 u4 _ (tx hh k) (by have := HX.out; omega) q1 (HBD.out.below hb1) HLN.out)
      clear hb1
      go_wp2_with (fail)
      refine D1.out.mono ?_
      rintro e q2 ⟨u2, rfl, hc2, -⟩
      have HC2 := Lib.hid hc2
      clear hc2
      have h40 := HFW.out.2.1
      go_wp2_with (fail)
      go_roundg (kids.len - (j + 1))
      case measure => omega
      case rel => exact ⟨j + 1, by omega, rfl, by go_num, _, HC2.out, by rw [HDR.out, List.append_assoc]; exact HD2.out⟩
    · have hje : j = kids.len := by omega
      subst hje
      have hnil : kids.drop kids.len = .nil := by
        have h1 := Fr.len_drop kids.len kids
        cases h2 : kids.drop kids.len with
        | nil => rfl
        | cons x y z => rw [h2] at h1; have h3 : z.len + 1 = kids.len - kids.len := h1; omega
      have hd3 : done = num3 kids.len ++ constsL tx kids := by
        have := HD.out
        rw [hnil] at this
        rw [← this]; exact (List.append_nil _).symm
      subst hd3
      have K3 := Lib.hid (K0.out.keep HBR.out.2.1 HS0.out)
      have hlen : (num3 kids.len ++ constsL tx kids).length + 3 ≤ 1000000000 := by
        have h2 := congrArg List.length HT.out
        have h3 := HL.out
        simp only [List.length_append, num3_len] at h2 ⊢
        omega
      have C3 := Lib.hid (cnum3_any _ W0 u4 _ gs.length (by have := HFW.out; omega) wr HBR.out hlen)
      obtain ⟨y0, y1, y2⟩ := K3.out
      simp only [Nat.zero_add] at y0 y1 y2
      clear hnil hlen
      go_wp2_with (fail)
      refine C3.out.mono ?_
      rintro e w3 ⟨v3, rfl, hb3, -⟩
      have HB3 := Lib.hid hb3
      have K4 := Lib.hid (K0.out.keep hb3.2.1 HS0.out)
      clear hb3 y0 y1 y2
      obtain ⟨y0, y1, y2⟩ := K4.out
      simp only [Nat.zero_add] at y0 y1 y2
      go_wp2_with (fail)
      clear y0 y1 y2
      go_loopg [4, 44] gs.length (fun kk v i wr => ∃ j : Nat, j ≤ gs.length ∧ kk = gs.length - j ∧ i = .int .i64 (j : Int) ∧ ∃ done, BB W0.heap.size W0 v done wr ∧ done ++ globsL (gs.drop j) = num3 kids.len ++ constsL tx kids ++ num3 gs.length ++ globsL gs)
      case atStart => exact ⟨0, Nat.zero_le _, rfl, rfl, _, HB3.out, rfl⟩
      case round =>
        obtain ⟨j, hj, rfl, rfl, done, hbr, hd⟩ := hrel
        have HBR := Lib.hid hbr
        have HD := Lib.hid hd
        clear hbr hd
        by_cases hjl : j < gs.length
        · obtain ⟨s, hs, hdr⟩ := drop_at hjl
          have hd2 := HD.out
          rw [hdr] at hd2
          have hd2 : done ++ (text3 s ++ globsL (gs.drop (j + 1))) = num3 kids.len ++ constsL tx kids ++ num3 gs.length ++ globsL gs := hd2
          obtain ⟨hbl, x0⟩ := (HGF.out.below HBR.out.2.1) j s hs
          have hsz : s.size ≤ 100 := of_decide_eq_true (List.all_eq_true.1 HGR.out s (List.mem_of_getElem? hs))
          have hlen : done.length + (3 + s.size) ≤ 1000000000 := by
            have h1 := congrArg List.length hd2
            have h2 := congrArg List.length HT.out
            have h3 := HL.out
            simp only [List.length_append, text3_len] at h1 h2
            omega
          have D1 := Lib.hid (ctext3_any _ W0 u4 _ s (by omega) wr HBR.out hlen)
          have HD2 := Lib.hid hd2
          clear hd2 hdr hs hlen hsz
          go_wp2_with (fail)
          refine D1.out.mono ?_
          rintro e q2 ⟨u2, rfl, hc2, -⟩
          have HC2 := Lib.hid hc2
          clear hc2
          have h40 := HFW.out.2.2
          go_wp2_with (fail)
          go_roundg (gs.length - (j + 1))
          case measure => omega
          case rel => exact ⟨j + 1, by omega, rfl, by go_num, _, HC2.out, by rw [← HD2.out, List.append_assoc]⟩
        · have hje : j = gs.length := by omega
          subst hje
          have hd3 : done = num3 kids.len ++ constsL tx kids ++ num3 gs.length ++ globsL gs := by
            have := HD.out
            rw [List.drop_length] at this
            rw [← this]; exact (List.append_nil _).symm
          subst hd3
          have K5 := Lib.hid (K0.out.keep HBR.out.2.1 HS0.out)
          have hlen : (num3 kids.len ++ constsL tx kids ++ num3 gs.length ++ globsL gs).length + 3 ≤ 1000000000 := by
            have h2 := congrArg List.length HT.out
            have h3 := HL.out
            simp only [List.length_append, num3_len] at h2 ⊢
            omega
          have C5 := Lib.hid (cnum3_any _ W0 u4 _ ps.length (by have := HFW.out; omega) wr HBR.out hlen)
          obtain ⟨y0, y1, y2⟩ := K5.out
          simp only [Nat.zero_add] at y0 y1 y2
          clear hlen
          go_wp2_with (fail)
          refine C5.out.mono ?_
          rintro e w5 ⟨v5, rfl, hb5, -⟩
          have HB5 := Lib.hid hb5
          have K6 := Lib.hid (K0.out.keep hb5.2.1 HS0.out)
          clear hb5 y0 y1 y2
          obtain ⟨y0, y1, y2⟩ := K6.out
          simp only [Nat.zero_add] at y0 y1 y2
          go_wp2_with (fail)
          clear y0 y1 y2
          go_loopg [4, 60] ps.length (fun kk v i wr => ∃ j : Nat, j ≤ ps.length ∧ kk = ps.length - j ∧ i = .int .i64 (j : Int) ∧ ∃ done, BB W0.heap.size W0 v done wr ∧ done ++ procsL (ps.drop j) = tot)
          case atStart => exact ⟨0, Nat.zero_le _, rfl, rfl, _, HB5.out, by rw [← HT.out]; simp only [List.append_assoc]; rfl⟩
          case round =>
            obtain ⟨j, hj, rfl, rfl, done, hbr, hd⟩ := hrel
            have HBR := Lib.hid hbr
            have HD := Lib.hid hd
            clear hbr hd
            by_cases hjl : j < ps.length
            · obtain ⟨p, hp, hdr⟩ := drop_at hjl
              have hmem := List.mem_of_getElem? hp
              have hd2 := HD.out
              rw [hdr] at hd2
              have hd2 : done ++ (procL p ++ procsL (ps.drop (j + 1))) = tot := hd2
              obtain ⟨hbl, x0, x1, x2, x3, x4, x5, x6⟩ := (HPF.out.below HBR.out.2.1) j p hp
              obtain ⟨Wd, hWd⟩ : ∃ Wd, wr.alloc (prO p) = Wd := ⟨_, rfl⟩
              have hbd : Below wr.heap.size wr Wd := by rw [← hWd]; exact (Below.refl _ wr).alloc (Nat.le_refl _) _
              have hod : Wd.heap[wr.heap.size]? = some (prO p) := by rw [← hWd]; unfold World.alloc; simp
              have hlen : done.length + (procL p).length ≤ 1000000000 := by
                have h1 := congrArg List.length hd2
                have h3 := HL.out
                simp only [List.length_append] at h1
                omega
              obtain ⟨ib, io, h1, h2⟩ := HPI.out p hmem
              have D1 := Lib.hid (cproc3_any W0.heap.size W0 (Nat.le_refl _) u4 done p Wd (HBR.out.below hbd) (List.all_eq_true.1 HPR.out p hmem) (HOK.out.pr p hmem) (HI.out p hmem) ⟨ib, io, fun h => ⟨(h1 h).1, Nat.lt_of_lt_of_le (h1 h).2 HB0.out.size⟩, h2.below HB0.out⟩ hlen)
              have HD2 := Lib.hid hd2
              have HWd := Lib.hid hWd
              obtain ⟨z0, z1, z2, z3, z4, z5, z6⟩ := P7.of_block hod
              clear hd2 hdr hp hlen hmem hWd hbd hod h1 h2
              go_wp2_with (fail)
              rw [HWd.out]
              go_wp2_with (fail)
              refine D1.out.mono ?_
              rintro e q2 ⟨u2, rfl, hc2, -⟩
              have HC2 := Lib.hid hc2
              clear hc2
              have h40 := HFW.out.1
              go_wp2_with (fail)
              go_roundg (ps.length - (j + 1))
              case measure => omega
              case rel => exact ⟨j + 1, by omega, rfl, by go_num, _, HC2.out, by rw [← HD2.out, List.append_assoc]⟩
            · have hje : j = ps.length := by omega
              subst hje
              have hd3 : done = tot := by
                have := HD.out
                rw [List.drop_length] at this
                rw [← this]; exact (List.append_nil _).symm
              subst hd3
              go_wp2_with (fail)
              go_ret2
              exact ⟨_, _, rfl, HB0.out, HBR.out⟩

end LM
end Go.Proofs.YtdhjbhcfkajfdaaGreatDoor

namespace Go.Proofs.YtdhjbhcfkajfdaaGreatDoor
open Go Go.RowKit
namespace LM
set_option linter.unusedVariables false
attribute [local go_sem] run_store_flt

abbrev cod0 : Cod := ⟨none, 0, [], none, 0, .nil, none, 0, []⟩
theorem cod0_v (w : World) : CodV w cod0 := ⟨⟨0, 0, fun h => (by cases h), fun j p h => (by simp at h)⟩, fun p h => (by cases h), ⟨0, 0, fun h => (by cases h), trivial⟩, ⟨0, 0, fun h => (by cases h), fun j p h => (by simp at h)⟩⟩
theorem cod0_ok : cod0.Ok := ⟨by decide, ⟨Nat.le_refl 0, by decide⟩, by decide, fun p h => (by cases h)⟩

theorem cright_zero (w : World) : Calls Tryz.prog 33 #[.agg #[.slice none 0 0, .slice none 0 0, .slice none 0 0]] w fun e w' => e = .returned (.bool true) ∧ Below w.heap.size w w' := by
  have h := cright_by (fun _ _ => true) cod0 w (cod0_v w) cod0_ok fun hh k j r hdr => by cases j <;> cases hdr
  rw [show (fewB cod0 && (cod0.ps.all prB && (cod0.gs.all (fun s => decide (s.size ≤ 100)) && allF (fun _ _ => true) cod0.kids))) = true by decide] at h
  exact h

set_option maxRecDepth 100000 in
set_option maxHeartbeats 16000000 in
theorem cbytes_zero (w : World) : Calls Tryz.prog 18 #[.agg #[.slice none 0 0, .slice none 0 0, .slice none 0 0]] w fun e w' => ∃ v' W0, e = .returned (.tuple #[v', .int .i64 0]) ∧ Below w.heap.size w W0 ∧ BB W0.heap.size W0 v' [0, 0, 0, 0, 0, 0, 0, 0, 0] w' := by
  obtain ⟨W0, hW0⟩ : ∃ W0, w.alloc (.cells #[.slice none 0 0, .slice none 0 0, .slice none 0 0] 26 (0, 0)) = W0 := ⟨_, rfl⟩
  have hb0 : Below w.heap.size w W0 := by rw [← hW0]; exact (Below.refl _ w).alloc (Nat.le_refl _) _
  have hs0 : w.heap.size < W0.heap.size := by rw [← hW0]; simp
  have k0 : K3 W0 w.heap.size 0 cod0 := K3.of_block (by rw [← hW0]; unfold World.alloc; simp; rfl)
  have R0 := Lib.hid (cright_zero W0)
  have HW0 := Lib.hid hW0
  have HB0 := Lib.hid hb0
  have HS0 := Lib.hid hs0
  have K0 := Lib.hid k0
  have y0 : W0.cell? ⟨w.heap.size, 0, none⟩ = some (.slice none 0 0) := k0.c0
  have y1 : W0.cell? ⟨w.heap.size, 1, none⟩ = some (.slice none 0 0) := k0.c1
  have y2 : W0.cell? ⟨w.heap.size, 2, none⟩ = some (.slice none 0 0) := k0.c2
  clear hW0 hb0 hs0 k0
  go_enter Tryz.func18, Tryz.ntmps18
  go_wp2_with (fail)
  rw [HW0.out]
  go_wp2_with (fail)
  refine R0.out.mono ?_
  rintro e w1 ⟨rfl, hb1⟩
  have bb1 := (BB.nil W0).below hb1
  have C1 := Lib.hid (cnum3_any _ W0 _ _ 0 (by decide) w1 bb1 (by decide))
  have k1 := K0.out.keep hb1 HS0.out
  clear hb1 bb1 y0 y1 y2
  have y1 : w1.cell? ⟨w.heap.size, 1, none⟩ = some (.slice none 0 0) := k1.c1
  clear k1
  go_wp2_with (fail)
  refine C1.out.mono ?_
  rintro e w2 ⟨v2, rfl, hb2, -⟩
  have HB2 := Lib.hid hb2
  have k2 := K0.out.keep hb2.2.1 HS0.out
  clear hb2 y1
  have y1 : w2.cell? ⟨w.heap.size, 1, none⟩ = some (.slice none 0 0) := k2.c1
  have y2 : w2.cell? ⟨w.heap.size, 2, none⟩ = some (.slice none 0 0) := k2.c2
  have C2 := Lib.hid (cnum3_any _ W0 v2 _ 0 (by decide) w2 HB2.out (by decide))
  clear k2
  go_wp2_with (fail)
  go_loopg [4, 23] 0 (fun kk v i wr => wr = w2 ∧ i = .int .i64 0 ∧ v = v2)
  case atStart => exact ⟨rfl, rfl, rfl⟩
  case round =>
    obtain ⟨rfl, rfl, rfl⟩ := hrel
    go_wp2_with (fail)
    refine C2.out.mono ?_
    rintro e w3 ⟨v3, rfl, hb3, -⟩
    have HB3 := Lib.hid hb3
    have k3 := K0.out.keep hb3.2.1 HS0.out
    clear hb3 y1 y2
    have y0 : w3.cell? ⟨w.heap.size, 0, none⟩ = some (.slice none 0 0) := k3.c0
    have y2 : w3.cell? ⟨w.heap.size, 2, none⟩ = some (.slice none 0 0) := k3.c2
    have C3 := Lib.hid (cnum3_any _ W0 v3 _ 0 (by decide) w3 HB3.out (by decide))
    clear k3
    go_wp2_with (fail)
    go_loopg [4, 44] 0 (fun kk v i wr => wr = w3 ∧ i = .int .i64 0 ∧ v = v3)
    case atStart => exact ⟨rfl, rfl, rfl⟩
    case round =>
      obtain ⟨rfl, rfl, rfl⟩ := hrel
      go_wp2_with (fail)
      refine C3.out.mono ?_
      rintro e w4 ⟨v4, rfl, hb4, -⟩
      have HB4 := Lib.hid hb4
      have k4 := K0.out.keep hb4.2.1 HS0.out
      clear hb4 y0 y2
      have y0 : w4.cell? ⟨w.heap.size, 0, none⟩ = some (.slice none 0 0) := k4.c0
      clear k4
      go_wp2_with (fail)
      go_loopg [4, 60] 0 (fun kk v i wr => wr = w4 ∧ i = .int .i64 0 ∧ v = v4)
      case atStart => exact ⟨rfl, rfl, rfl⟩
      case round =>
        obtain ⟨rfl, rfl, rfl⟩ := hrel
        go_wp2_with (fail)
        go_ret2
        exact ⟨_, _, rfl, HB0.out, HB4.out⟩

end LM
end Go.Proofs.YtdhjbhcfkajfdaaGreatDoor

namespace Go.Proofs.YtdhjbhcfkajfdaaGreatDoor
open Go Go.RowKit
namespace LM
set_option linter.unusedVariables false

/-- a hexadecimal digit -/
def hexD (n : Nat) : UInt8 := UInt8.ofNat (if n < 10 then 48 + n else 87 + n)
/-- a number's digits, at most so many -/
def hexF : Nat → Nat → List UInt8
  | 0, _ => []
  | f + 1, n => if n < 16 then [hexD n] else hexF f (n / 16) ++ [hexD (n % 16)]
theorem hexF_len : ∀ f n, (hexF f n).length ≤ f := by
  intro f
  induction f with
  | zero => intro n; exact Nat.le_refl _
  | succ f ih =>
    intro n
    unfold hexF
    split
    · show 1 ≤ _; omega
    · rw [List.length_append]
      have := ih (n / 16)
      show _ + 1 ≤ _
      omega
set_option maxRecDepth 100000 in
set_option maxHeartbeats 4000000 in
theorem pow2_16 (w : World) : Calls Tryz.prog 314 #[.int .i64 16] w fun e w' => e = .returned (.bool true) ∧ w' = w := by
  have b1 : bits .and .i64 16 15 = 0 := by decide
  go_enter Tryz.func314, Tryz.ntmps314
  go_wp2_with (fail)
  go_ret
  exact ⟨rfl, rfl⟩

end LM
end Go.Proofs.YtdhjbhcfkajfdaaGreatDoor

namespace Go.Proofs.YtdhjbhcfkajfdaaGreatDoor
open Go Go.RowKit
namespace LM
set_option linter.unusedVariables false
attribute [local go_sem] run_store_flt

end LM
end Go.Proofs.YtdhjbhcfkajfdaaGreatDoor
