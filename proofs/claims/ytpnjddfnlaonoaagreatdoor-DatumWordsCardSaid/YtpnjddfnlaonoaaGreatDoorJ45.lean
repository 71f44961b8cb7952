/- Walks of layer 5's laws: DatumNames. -/
import Derived.Test.YtpnjddfnlaonoaaGreatDoorJ44
import Derived.Test.YtpnjddfnlaonoaaGreatDoorJ19
import Derived.Test.YtpnjddfnlaonoaaGreatDoorJ25
import Derived.BigQuiet
namespace Go.Proofs.YtpnjddfnlaonoaaGreatDoor
open Go Go.Shelf Go.RowKit Go.Sort Go.Lib
namespace LM
set_option linter.unusedVariables false
attribute [local go_sem] run_store_flt

set_option maxRecDepth 100000 in
set_option maxHeartbeats 2000000 in
theorem cutAtE_a (s : ByteArray) (w : World) (h : s.data.toList = [97]) :
    Calls Tryz.prog 91 #[.string s] w fun e w' => e = .returned (.tuple #[.string s, .string ⟨#[]⟩, .bool false]) ∧ Below w.heap.size w w' := by
  have hz : s.size = 1 := by rw [Lib.size_eq, h]; rfl
  have hI := fun W => Tryz.strings_IndexAny_short s ⟨#[101, 69]⟩ W (by decide) (by omega) (fun j b hb => by
    rw [h] at hb
    have := List.mem_of_getElem? hb
    simp at this
    rcases this with rfl; decide)
  rw [show indexAny s.data.toList (⟨#[101, 69]⟩ : ByteArray).data.toList = -1 from by rw [h]; decide] at hI
  have I1 := Lib.hid hI
  clear hI h
  go_enter Tryz.func91, Tryz.ntmps91
  go_wp2_with (fail)
  refine (I1.out _).mono ?_
  rintro e w' ⟨rfl, pos, rfl⟩
  have HB := Lib.hid (below_iter w s pos)
  go_wp2_with (fail)
  go_returns
  exact ⟨rfl, HB.out⟩

set_option maxRecDepth 100000 in
set_option maxHeartbeats 1000000 in
theorem isNumeral_a (s : ByteArray) (w : World) (h : s.data.toList = [97]) :
    Calls Tryz.prog 43 #[.string s] w fun e w' => e = .returned (.bool false) ∧ Below w.heap.size w w' := by
  have hz : s.size = 1 := by rw [Lib.size_eq, h]; rfl
  have U1 := Lib.hid fun W => unsigned_any s W (by omega)
  have CE := Lib.hid fun t W (ht : t.data.toList = [97]) => cutAtE_a t W ht
  have CU := Lib.hid fun t W (ht : t.data.toList = [97]) => scut_no t 46 W (by rw [Lib.size_eq, ht]; decide) (by rw [ht]; decide)
  have HH := Lib.hid h
  clear h hz
  go_enter Tryz.func43, Tryz.ntmps43
  go_wp2_with (fail)
  refine (U1.out _).mono ?_
  rintro e w1 ⟨⟨t, rfl, ht, _⟩, k1, rfl⟩
  have ht2 := ht.trans (show unsigB s.data.toList = [97] from by rw [HH.out]; decide)
  have CE2 := Lib.hid fun W => CE.out t W ht2
  have CU2 := Lib.hid fun W => CU.out t W ht2
  clear ht ht2
  go_wp2_with (fail)
  refine (CE2.out _).mono ?_
  rintro e w2 ⟨rfl, hb2⟩
  have HB2 := Lib.hid ((below_drewN (Below.refl _ w) k1).trans hb2)
  clear hb2
  go_wp2_with (fail)
  refine (CU2.out _).mono ?_
  rintro e w' ⟨rfl, rfl⟩
  go_wp2_with (fail)
  go_ret
  exact ⟨rfl, HB2.out⟩

set_option maxRecDepth 100000 in
set_option maxHeartbeats 1000000 in
theorem floparse_a (w : World) :
    Calls Tryz.prog 9 #[.string ⟨#[97]⟩] w fun e w' => e = .returned (.tuple #[.float .f64 0, .int .i64 31]) ∧ Below w.heap.size w w' := by
  obtain ⟨s, hs⟩ : ∃ s, (⟨#[97]⟩ : ByteArray) = s := ⟨_, rfl⟩
  have c1 : (s.toList == [43, 110, 97, 110, 46, 48]) = false := by rw [← hs, Go.ByteArray.toList_eq]; rfl
  have c2 : (s.toList == [43, 105, 110, 102, 46, 48]) = false := by rw [← hs, Go.ByteArray.toList_eq]; rfl
  have c3 : (s.toList == [45, 105, 110, 102, 46, 48]) = false := by rw [← hs, Go.ByteArray.toList_eq]; rfl
  have hl : s.data.toList = [97] := by rw [← hs]
  have hz : s.size = 1 := by rw [Lib.size_eq, hl]; rfl
  rw [hs]
  have N1 := Lib.hid (isNumeral_a s w hl)
  clear hs hl
  go_enter Tryz.func9, Tryz.ntmps9
  go_wp2_with (fail)
  refine N1.out.mono ?_
  rintro e w1 ⟨rfl, hb1⟩
  go_wp2_with (fail)
  go_returns
  exact ⟨rfl, hb1⟩

set_option maxRecDepth 100000 in
set_option maxHeartbeats 4000000 in
theorem tparse_a (w : World) (hs : SynCell w) :
    Calls Tryz.prog 17 #[.string ⟨#[97]⟩] w fun e w' => e = .returned (.tuple #[numA false 0 false none 0 0, .int .i64 13]) ∧ Below w.heap.size w w' := by
  have hp := fun W (hW : Below w.heap.size w W) => eparse_any ⟨#[97]⟩ W (by decide) (fun W2 hW2 _ => (hs.below hW).below hW2)
  have hnd : ¬ OkText (signOf [97]).2 := by
    rintro ⟨_, _, h⟩
    have := h 97 (by unfold signOf; decide)
    exact absurd this.2 (by decide)
  have EP : Hid (∀ W, Below w.heap.size w W → Calls Tryz.prog 62 #[.string ⟨#[97]⟩] W fun e w' => (∃ s A n c, e = .returned (.tuple #[.agg #[.bool s, .slice A n c], .int .i64 13])) ∧ Below W.heap.size W w') := Lib.hid fun W hW => (hp W hW).mono (by
    rintro e w' ⟨s, A, n, c, er, z, rfl, -, hpo, hb⟩
    rcases hpo with ⟨_, _, rfl⟩ | ⟨h, _⟩ | ⟨h, _⟩
    · exact ⟨⟨s, A, n, c, rfl⟩, hb⟩
    · exact absurd h hnd
    · exact absurd h hnd)
  have FP := Lib.hid floparse_a
  have hb0 : Below w.heap.size w (w.alloc (numO false 0 false none 0 0)) := (Below.refl _ w).alloc (Nat.le_refl _) _
  have Y0 := Nx.new w false 0 false none 0 0
  have HB0 := Lib.hid hb0
  have HY0 := Lib.hid Y0
  clear hp hs hb0 Y0
  go_enter Tryz.func17, Tryz.ntmps17
  go_wp2_with (fail)
  refine (EP.out _ HB0.out).mono ?_
  rintro e w1 ⟨⟨s, A, n, c, rfl⟩, hb1⟩
  have HY1 := Lib.hid (HY0.out.below hb1)
  have HB1 := Lib.hid (bel_trans (B := w.heap.size) HB0.out hb1)
  clear hb1
  go_wp2_with (fail)
  refine (FP.out _).mono ?_
  rintro e w2 ⟨rfl, hb2⟩
  have hba : Below w1.heap.size w1 (w1.alloc (.cells #[.bool s, .slice A n c] 36)) := (Below.refl _ w1).alloc (Nat.le_refl _) _
  have HY2 := Lib.hid ((HY1.out.below hba).below hb2)
  have HB2 := Lib.hid (bel_trans (B := w.heap.size) (bel_trans (B := w.heap.size) HB1.out hba) hb2)
  obtain ⟨y0, y1, y2, y3, y4, y5, y6, y7, yl⟩ := HY2.out.facts
  obtain ⟨W, hW, ZR, hbW, -, -⟩ := stored_num HY2.out HB2.out (Nat.le_refl _) false 0 false none 0 0
  obtain ⟨z0, z1, z2, z3, -, -, -, -, zl⟩ := ZR.facts
  have HW := Lib.hid hW
  have HBW := Lib.hid hbW
  clear hb2 hba hW hbW ZR
  go_wp2_with (fail)
  rw [HW.out]
  refine bodyPost_ret (v := .tuple #[numA false 0 false none 0 0, .int .i64 13]) (by simp [results, Tryz.results17, go_sem, z0, z1, z2, z3]) rfl ?_
  exact ⟨rfl, HBW.out⟩

set_option maxRecDepth 100000 in
set_option maxHeartbeats 2000000 in
theorem dnamebyte_a (w : World) : Calls Tryz.prog 71 #[.int .u8 97] w fun e w' => e = .returned (.bool true) ∧ w' = w := by
  go_enter Tryz.func71, Tryz.ntmps71
  go_wp2_with (fail)
  go_ret
  exact ⟨rfl, rfl⟩

set_option maxRecDepth 100000 in
set_option maxHeartbeats 4000000 in
theorem dname_a (w : World) (hs : SynCell w) :
    Calls Tryz.prog 23 #[.string ⟨#[97]⟩] w fun e w' => e = .returned (.bool true) ∧ Below w.heap.size w w' := by
  have TP := Lib.hid (tparse_a w hs)
  have NB := Lib.hid dnamebyte_a
  obtain ⟨s, hse⟩ : ∃ s, (⟨#[97]⟩ : ByteArray) = s := ⟨_, rfl⟩
  have c1 : (s.toList == [46]) = false := by rw [← hse, Go.ByteArray.toList_eq]; rfl
  have hl : s.data.toList = [97] := by rw [← hse]
  have hz : s.size = 1 := by rw [Lib.size_eq, hl]; rfl
  have b0 : (s[0]'(by omega)).toNat = 97 := byte_at hl 0 (by omega) 97 rfl
  rw [hse] at TP ⊢
  clear hs hse hl
  go_enter Tryz.func23, Tryz.ntmps23
  go_wp2_with (fail)
  go_loopg [20] 1 (fun kk i wr => wr = w ∧ ((kk = 1 ∧ i = .int .i64 0) ∨ (kk = 0 ∧ i = .int .i64 1)))
  case atStart => exact ⟨rfl, .inl ⟨rfl, rfl⟩⟩
  case round =>
    obtain ⟨rfl, ⟨rfl, rfl⟩ | ⟨rfl, rfl⟩⟩ := hrel
    · go_wp2_with (fail)
      refine (NB.out _).mono ?_
      rintro e w1 ⟨rfl, rfl⟩
      go_wp2_with (fail)
      go_roundg 0
      case measure => omega
      case rel => exact ⟨rfl, .inr ⟨rfl, rfl⟩⟩
    · go_wp2_with (fail)
      refine TP.out.mono ?_
      rintro e w1 ⟨rfl, hb1⟩
      have HB1 := Lib.hid (hb1.alloc hb1.size (numO false 0 false none 0 0))
      clear hb1
      go_wp2_with (fail)
      go_ret
      exact ⟨rfl, HB1.out⟩

end LM
end Go.Proofs.YtpnjddfnlaonoaaGreatDoor

namespace Go.Proofs.YtpnjddfnlaonoaaGreatDoor
open Go Go.RowKit
namespace LM
set_option linter.unusedVariables false
attribute [local go_sem] run_store_flt

set_option maxRecDepth 100000 in
theorem dwrite_any (lf : Hd → List UInt8) (b : Nat) (w0 : World) (hw0 : b = w0.heap.size) (P : Hd → Prop) (hP : ∀ hh, P hh → WriteC b w0 hh 0 (lf hh)) :
    ∀ (m : Nat) (kids : Fr), kids.size < m → kids.Ok → WOk P kids → ∀ h : Hd, h.Ok kids.len → WH P h kids → DatV w0 h kids → WriteC b w0 h kids.len (txD lf h kids) := by
  intro m
  induction m with
  | zero => intro kids h; omega
  | succ m ih =>
    intro kids hsz hok hwok h hho hwh hd W cs hb hr hl
    obtain ⟨bb, off, hB, hF⟩ := hd.items
    have rows : ∀ (n : Nat) (o : ByteArray), n ≤ kids.len → cs.length + o.size + (txI lf n true kids).length ≤ 100000000000 → ∀ W, Below b w0 W → WR b cs W → Calls Tryz.prog 189 #[.pointer (some ⟨b, 0, none⟩), .string o, .slice h.B n h.cap] W (Wrote b cs (o.data.toList ++ txI lf n true kids) W) := fun n o hn hlo W hb hr =>
      dwitems_any lf kids n hn o h.B h.cap bb off b cs w0 W hb hw0 (fun hp => hB (by omega)) hF (by have := hho.cap.1; omega) hho.cap.2 (fun j => txI lf j true kids) rfl (fun hh k j r _ e => by
        have := txI_step lf j true kids hh k r e
        simpa using this) (fun j hj => txI_mono lf j n true kids hj) hr hlo (fun hh k j r hj e W2 cs2 hb2 hr2 hl2 => by
        have o1 := Fr.Ok.drop j hok
        have o2 := WOk.drop j hwok
        rw [e] at o1 o2
        exact ih k (by have := size_item e; omega) o1.2.1 o2.2.1 hh o1.1 o2.1 (counted_item hF e).2.2 W2 cs2 hb2 hr2 hl2)
    by_cases hlk : leafK h.k
    · obtain ⟨rfl, hp⟩ := hwh.1 hlk
      have e : txD lf h .nil = lf h := by unfold txD; rw [if_neg hlk.1, if_neg hlk.2.1, if_neg hlk.2.2]
      rw [e] at hl ⊢
      exact hP h hp W cs hb hr hl
    · by_cases h5 : h.k = 5
      · have e : txD lf h kids = [40] ++ txF lf false true kids ++ [41] := by unfold txD; rw [if_pos h5]
        rw [e] at hl ⊢
        refine dwrite_row b w0 h kids (txF lf false true kids) ⟨#[40]⟩ (.inl ⟨h5, rfl⟩) W cs hb hr (fun W2 hb2 hr2 => ?_) hl
        have := rows kids.len ⟨#[40]⟩ (Nat.le_refl _) (by rw [txI_all]; simp only [List.length_append] at hl; show _ + 1 + _ ≤ _; have t1 : ([40] : List UInt8).length = 1 := rfl; omega) W2 hb2 hr2
        rw [txI_all] at this
        exact this
      · by_cases h7 : h.k = 7
        · have h6 : h.k ≠ 6 := by omega
          have e : txD lf h kids = [35, 40] ++ txF lf false true kids ++ [41] := by unfold txD; rw [if_neg h5, if_neg h6, if_pos h7]
          rw [e] at hl ⊢
          refine dwrite_row b w0 h kids (txF lf false true kids) ⟨#[35, 40]⟩ (.inr ⟨h7, rfl⟩) W cs hb hr (fun W2 hb2 hr2 => ?_) hl
          have := rows kids.len ⟨#[35, 40]⟩ (Nat.le_refl _) (by rw [txI_all]; simp only [List.length_append] at hl; show _ + 2 + _ ≤ _; have t1 : ([35, 40] : List UInt8).length = 2 := rfl; omega) W2 hb2 hr2
          rw [txI_all] at this
          exact this
        · have h6 : h.k = 6 := by
            unfold leafK at hlk
            omega
          have hn2 := hwh.2 h6
          obtain ⟨hh, k, e1, e2⟩ := last_item kids (by omega)
          have e : txD lf h kids = [40] ++ (txI lf (kids.len - 1) true kids ++ [32, 46, 32] ++ txD lf hh k) ++ [41] := by
            rw [← txI_dot lf kids true hh k (by omega) e1]
            unfold txD
            rw [if_neg h5, if_pos h6]
          rw [e] at hl ⊢
          have o1 := Fr.Ok.drop (kids.len - 1) hok
          have o2 := WOk.drop (kids.len - 1) hwok
          rw [e1] at o1 o2
          have hBs := hB (by omega)
          refine dwrite_dot b w0 h kids _ bb off h6 hBs hn2 hho.cap.1 hho.cap.2 hh k (fun W2 hb2 => (counted_item (FAt.below (hw0 ▸ hb2) _ _ _ hF) e1).2.1) _ W cs hb hr (fun W2 hb2 hr2 => ?_) (ih k (by have := size_item e1; omega) o1.2.1 o2.2.1 hh o1.1 o2.1 (counted_item hF e1).2.2) hl
          have := rows (kids.len - 1) ⟨#[40]⟩ (by omega) (by simp only [List.length_append] at hl; show _ + 1 + _ ≤ _; have t1 : ([40] : List UInt8).length = 1 := rfl; omega) W2 hb2 hr2
          rw [hBs] at this
          exact this

end LM
end Go.Proofs.YtpnjddfnlaonoaaGreatDoor

namespace Go.Proofs.YtpnjddfnlaonoaaGreatDoor
open Go Go.RowKit
namespace LM
set_option linter.unusedVariables false
attribute [local go_sem] run_store_flt

set_option maxRecDepth 100000 in
set_option maxHeartbeats 8000000 in
theorem dwrite_sym (b : Nat) (w0 : World) (h : Hd) (hk : h.k = 4) (hs : h.t.size ≤ 281474976710656) : WriteC b w0 h 0 h.t.data.toList := by
  intro W cs hb hr hl
  obtain ⟨W0, hW0, hb0, hO, hs0⟩ := dat_block W h 0
  have hbw := hr.2
  have A2 := Lib.hid (hb0.mono (Nat.le_of_lt hbw))
  have A3 := Lib.hid (keeps8_below (B := b + 1) hb0)
  have H1 := Lib.hid (wrstr_any b cs h.t W0 (hr.below hb0) (by rw [Lib.size_eq]; omega))
  have HW0 := Lib.hid hW0
  have f0 : (h.k == 0) = false := by rw [hk]; rfl
  have f1 : (h.k == 1) = false := by rw [hk]; rfl
  have f2 : (h.k == 2) = false := by rw [hk]; rfl
  have f3 : (h.k == 3) = false := by rw [hk]; rfl
  have f4 : (h.k == 4) = true := by rw [hk]; rfl
  clear hW0 hb0 hO hb hr hl hs0 hk hbw
  go_enter Tryz.func120, Tryz.ntmps120
  go_wp2_with (fail)
  rw [HW0.out]
  refine H1.out.mono ?_
  rintro e w1 ⟨⟨v, rfl⟩, h1, h2, h3⟩
  have B1 := Lib.hid h1
  have B2 := Lib.hid (A2.out.trans h2)
  have B3 := Lib.hid (A3.out.trans h3)
  clear h1 h2 h3
  go_wp2_with (fail)
  go_end0
  exact ⟨⟨_, rfl⟩, B1.out, B2.out, B3.out⟩

set_option maxRecDepth 100000 in
set_option maxHeartbeats 8000000 in
theorem dwrite_num (b : Nat) (w0 : World) (h : Hd) (hk : h.k = 0) (t : ByteArray) (hT : ∀ W, Below b w0 W → Calls Tryz.prog 19 #[numA h.fl h.f h.s h.A h.xs.length h.c] W fun e w' => e = .returned (.string t) ∧ Below W.heap.size W w') : WriteC b w0 h 0 t.data.toList := by
  intro W cs hb hr hl
  obtain ⟨W0, hW0, hb0, hO, hs0⟩ := dat_block W h 0
  have hbw := hr.2
  have A2 := Lib.hid (hb0.mono (Nat.le_of_lt hbw))
  have A3 := Lib.hid (keeps8_below (B := b + 1) hb0)
  have AR := Lib.hid (hr.below hb0)
  have HT := Lib.hid (hT W0 (hb.trans (hb0.mono (Nat.le_of_lt hbw))))
  have HL := Lib.hid hl
  have HW0 := Lib.hid hW0
  have HBW := Lib.hid hbw
  have f0 : (h.k == 0) = true := by rw [hk]; rfl
  clear hW0 hb0 hO hb hr hl hk hbw hT
  go_enter Tryz.func120, Tryz.ntmps120
  go_wp2_with (fail)
  rw [HW0.out]
  refine HT.out.mono ?_
  rintro e w1 ⟨rfl, hb1⟩
  have H1 := Lib.hid (wrstr_any b cs t w1 (AR.out.below hb1) (by have := HL.out; rw [Lib.size_eq]; omega))
  have A22 := Lib.hid (bel_trans (B := b) A2.out hb1 (by have := HBW.out; omega))
  have A32 := Lib.hid (A3.out.trans (keeps8_below (B := b + 1) hb1))
  clear hb1
  go_wp2_with (fail)
  refine H1.out.mono ?_
  rintro e w2 ⟨⟨v, rfl⟩, h1, h2, h3⟩
  have B1 := Lib.hid h1
  have B2 := Lib.hid (A22.out.trans h2)
  have B3 := Lib.hid (A32.out.trans h3)
  clear h1 h2 h3
  go_wp2_with (fail)
  go_end0
  exact ⟨⟨_, rfl⟩, B1.out, B2.out, B3.out⟩

set_option maxRecDepth 100000 in
set_option maxHeartbeats 8000000 in
theorem dsigntext_q (w : World) : Calls Tryz.prog 256 #[.int .i32 34] w fun e w' => e = .returned (.string ⟨#[92, 34]⟩) ∧ w' = w := by
  go_enter Tryz.func256, Tryz.ntmps256
  go_wp2_with (fail)
  go_ret
  exact ⟨by rfl, rfl⟩

set_option maxRecDepth 100000 in
set_option maxHeartbeats 8000000 in
theorem dwtext_q (b : Nat) (cs : List UInt8) (w : World) (hr : WR b cs w) (hl : cs.length ≤ 100000000000) : Calls Tryz.prog 188 #[.pointer (some ⟨b, 0, none⟩), .string ⟨#[34]⟩] w (Wrote b cs [34, 92, 34, 34] w) := by
  have H1 := Lib.hid (wrstr_any b cs ⟨#[34]⟩ w hr (by show _ + 1 ≤ _; omega))
  have hbw := hr.2
  clear hr
  go_enter Tryz.func188, Tryz.ntmps188
  go_wp2_with (fail)
  refine H1.out.mono ?_
  rintro e w1 ⟨⟨v, rfl⟩, h1, h2, h3⟩
  have B1 := Lib.hid h1
  have B2 := Lib.hid h2
  have B3 := Lib.hid h3
  clear h1 h2 h3
  obtain ⟨s, hse⟩ : ∃ s, (⟨#[34]⟩ : ByteArray) = s := ⟨_, rfl⟩
  have hdl : s.data.toList = [34] := by rw [← hse]
  have hz : s.size = 1 := by rw [Lib.size_eq, hdl]; rfl
  have b0 : (s[0]'(by omega)).toNat = 34 := byte_at hdl 0 (by omega) 34 rfl
  have ST := Lib.hid dsigntext_q
  have hlt := B1.out.2
  have hws : w.heap.size ≤ w1.heap.size := B2.out.size
  rw [hse]
  clear hse hdl
  go_wp2_with (fail)
  obtain ⟨WI, hWI⟩ : ∃ WI, w1.iter s 0 = WI := ⟨_, rfl⟩
  have hbi : Below w1.heap.size w1 WI := by rw [← hWI]; exact below_iterD w1 s 0
  have hit : WI.heap[w1.heap.size]? = some (.stringIter s 0) := by rw [← hWI]; exact World.iter_heap w1 s 0
  have I1 := Lib.hid (B1.out.below hbi)
  have I2 := Lib.hid (bel_trans (B := b) B2.out hbi (by omega))
  have I3 := Lib.hid (B3.out.trans (keeps8_below (B := b + 1) hbi))
  have IT := Lib.hid hit
  rw [hWI]
  clear hbi hit hWI
  go_loopg [] 1 (fun kk wr => Below b w wr ∧ Keeps8 (b + 1) w wr ∧ ((kk = 1 ∧ wr.heap[w1.heap.size]? = some (.stringIter s 0) ∧ WR b (cs ++ [34]) wr) ∨ (kk = 0 ∧ wr.heap[w1.heap.size]? = some (.stringIter s 1) ∧ WR b (cs ++ [34] ++ [92, 34]) wr)))
  case atStart => exact ⟨I2.out, I3.out, .inl ⟨rfl, IT.out, I1.out⟩⟩
  case round =>
    obtain ⟨r1, r2, ⟨rfl, r3, r4⟩ | ⟨rfl, r3, r4⟩⟩ := hrel
    · have hnx : ∀ ty, (Instr.next (.pointer (some ⟨w1.heap.size, 0, none⟩)) true ty).run Tryz.prog wr = .ok (.tuple #[.bool true, .int .i64 ((0 : Nat) : Int), .int .i32 ((34 : Nat) : Int)]) (wr.iterAt w1.heap.size s 1) := fun ty => by
        rw [Lib.run_next_ascii_at wr w1.heap.size s 0 ty r3 (by omega) (by rw [b0]; decide), b0]
      have q4 : WR b (cs ++ [34]) (wr.iterAt w1.heap.size s 1) := ⟨r4.1.iterAt r3 1, by rw [Lib.iterAt_size]; exact r4.2⟩
      have q3 := Lib.iterAt_heap wr w1.heap.size s 0 1 r3
      have q1 := Lib.below_iterAt r1 (k := w1.heap.size) (by omega) s 1
      have q2 : Keeps8 (b + 1) w (wr.iterAt w1.heap.size s 1) := ⟨by rw [Lib.iterAt_size]; exact r2.size, fun k o hB hk ho => by
        have hkl := heap_lt hk
        rw [Lib.iterAt_other _ _ _ _ _ (by omega)]
        exact r2.same k o hB hk ho⟩
      have H2 := Lib.hid (wrstr_any b _ ⟨#[92, 34]⟩ _ q4 (by simp only [List.length_append]; show _ + 1 + 2 ≤ _; omega))
      have Q1 := Lib.hid q1
      have Q2 := Lib.hid q2
      have Q3 := Lib.hid q3
      clear q1 q2 q3 q4 r1 r2 r3 r4
      go_wp2_with (fail)
      refine (ST.out _).mono ?_
      rintro e w2 ⟨rfl, rfl⟩
      go_wp2_with (fail)
      refine H2.out.mono ?_
      rintro e w3 ⟨⟨v3, rfl⟩, h1, h2, h3⟩
      have C1 := Lib.hid h1
      have C2 := Lib.hid (Q1.out.trans h2)
      have C3 := Lib.hid (Q2.out.trans h3)
      have C4 := Lib.hid (h3.same w1.heap.size _ (by omega) Q3.out rfl)
      clear h1 h2 h3 hnx
      go_wp2_with (fail)
      go_roundg 0
      case measure => omega
      case rel => exact ⟨C2.out, C3.out, .inr ⟨rfl, C4.out, C1.out⟩⟩
    · have hnx : ∀ ty, (Instr.next (.pointer (some ⟨w1.heap.size, 0, none⟩)) true ty).run Tryz.prog wr = .ok (.tuple #[.bool false]) wr := fun ty => Lib.run_next_end_at wr w1.heap.size s 1 ty r3 (by omega)
      have H2 := Lib.hid (wrstr_any b _ ⟨#[34]⟩ _ r4 (by simp only [List.length_append]; show _ + 1 + 2 + 1 ≤ _; omega))
      have R1 := Lib.hid r1
      have R2 := Lib.hid r2
      clear r1 r2 r3 r4
      go_wp2_with (fail)
      refine H2.out.mono ?_
      rintro e w3 ⟨⟨v3, rfl⟩, h1, h2, h3⟩
      have C1 := Lib.hid h1
      have C2 := Lib.hid (R1.out.trans h2)
      have C3 := Lib.hid (R2.out.trans h3)
      clear h1 h2 h3 hnx
      go_wp2_with (fail)
      go_end0
      exact ⟨⟨_, rfl⟩, by have := C1.out; simp only [List.append_assoc] at this; exact this, C2.out, C3.out⟩
end LM
end Go.Proofs.YtpnjddfnlaonoaaGreatDoor

namespace Go.Proofs.YtpnjddfnlaonoaaGreatDoor
open Go Go.RowKit
namespace LM
set_option linter.unusedVariables false
attribute [local go_sem] run_store_flt

set_option maxRecDepth 100000 in
set_option maxHeartbeats 8000000 in
theorem dwrite_str (b : Nat) (w0 : World) (h : Hd) (hk : h.k = 3) (t : List UInt8) (hT : ∀ W cs, WR b cs W → cs.length + t.length ≤ 100000000000 → Calls Tryz.prog 188 #[.pointer (some ⟨b, 0, none⟩), .string h.t] W (Wrote b cs t W)) : WriteC b w0 h 0 t := by
  intro W cs hb hr hl
  obtain ⟨W0, hW0, hb0, hO, hs0⟩ := dat_block W h 0
  have hbw := hr.2
  have A2 := Lib.hid (hb0.mono (Nat.le_of_lt hbw))
  have A3 := Lib.hid (keeps8_below (B := b + 1) hb0)
  have H1 := Lib.hid (hT W0 cs (hr.below hb0) hl)
  have HW0 := Lib.hid hW0
  have f0 : (h.k == 0) = false := by rw [hk]; rfl
  have f1 : (h.k == 1) = false := by rw [hk]; rfl
  have f2 : (h.k == 2) = false := by rw [hk]; rfl
  have f3 : (h.k == 3) = true := by rw [hk]; rfl
  clear hW0 hb0 hO hb hr hl hs0 hk hbw hT
  go_enter Tryz.func120, Tryz.ntmps120
  go_wp2_with (fail)
  rw [HW0.out]
  refine H1.out.mono ?_
  rintro e w1 ⟨⟨v, rfl⟩, h1, h2, h3⟩
  have B1 := Lib.hid h1
  have B2 := Lib.hid (A2.out.trans h2)
  have B3 := Lib.hid (A3.out.trans h3)
  clear h1 h2 h3
  go_wp2_with (fail)
  go_end0
  exact ⟨⟨_, rfl⟩, B1.out, B2.out, B3.out⟩

/-- a new builder -/
theorem new_builder (w : World) : ∃ W0, w.alloc (.cells #[.pointer none, .slice none 0 0] 134) = W0 ∧ Below w.heap.size w W0 ∧ WR w.heap.size [] W0 :=
  ⟨_, rfl, (Below.refl _ w).alloc (Nat.le_refl _) _, Lib.IsBuilderF.of (Lib.fresh_isBuilder _ _ w), by simp⟩

set_option maxRecDepth 100000 in
set_option maxHeartbeats 8000000 in
/-- what is right -/
theorem dprint_right (nm : ByteArray → Bool) (lf : Hd → List UInt8) (kids : Fr) (hok : kids.Ok) (h : Hd) (w : World) (hd : DatV w h kids) (hho : h.Ok kids.len) (hu : UT w) (hnm : ∀ t, (h.k = 4 ∧ t = h.t) ∨ SymIn t kids → CallB w 23 #[.string t] (.bool (nm t)))
    (hr : rightD nm h kids = true) (P : Hd → Prop) (hP : ∀ b w0, b = w0.heap.size → Below w.heap.size w w0 → ∀ hh, P hh → WriteC b w0 hh 0 (lf hh)) (hw : WOk P kids) (hwh : WH P h kids) (hl : (txD lf h kids).length ≤ 100000000000) :
    Calls Tryz.prog 69 #[datA h kids.len] w fun e w' => e = .returned (.tuple #[.string ⟨(txD lf h kids).toArray⟩, .int .i64 0]) ∧ Below w.heap.size w w' := by
  obtain ⟨W0, hW0, hb0, ho, hs0⟩ := dat_block w h kids.len
  have HR := Lib.hid (dRight_any nm kids hok h W0 (hd.below hb0) hho (hu.keep hb0) fun t ht => callB_keep (hnm t ht) hb0)
  rw [hr] at HR
  obtain ⟨tx, htx⟩ : ∃ tx, txD lf h kids = tx := ⟨_, rfl⟩
  have HWR := Lib.hid fun (w2 : World) (h2 : Below w.heap.size w w2) => dwrite_any lf w2.heap.size w2 rfl P (fun hh hp => hP _ _ rfl h2 hh hp) (kids.size + 1) kids (by omega) hok hw h hho hwh (hd.below h2)
  rw [htx] at HWR hl ⊢
  have HL := Lib.hid hl
  have HB0 := Lib.hid hb0
  have HW0 := Lib.hid hW0
  have HO := Lib.hid ho
  have HS := Lib.hid hs0
  obtain ⟨x0, x1, x2, x3, x4, x5, x6, x7⟩ := C8.of_block ho
  clear hW0 hb0 ho hd hho hu hnm hr hok hs0 hw hwh hl hP htx
  go_enter Tryz.func69, Tryz.ntmps69
  go_wp2_with (fail)
  rw [HW0.out]
  go_wp2_with (fail)
  refine HR.out.mono ?_
  rintro e w1 ⟨rfl, hb1⟩
  have HB1 := Lib.hid (bel_trans (B := w.heap.size) HB0.out hb1)
  obtain ⟨W1, hW1, hbb, hwr⟩ := new_builder w1
  obtain ⟨y0, y1, y2, y3, y4, y5, y6, y7⟩ := (C8.of_block HO.out).keep hb1 HS.out
  simp only [Nat.zero_add] at y0 y1 y2 y3 y4 y5 y6 y7
  clear x0 x1 x2 x3 x4 x5 x6 x7
  have hz1 : w.heap.size < w1.heap.size := Nat.lt_of_lt_of_le HS.out hb1.size
  have HW1 := Lib.hid hW1
  have HBB := Lib.hid hbb
  have HC := Lib.hid (HWR.out w1 HB1.out W1 [] hbb hwr (by have := HL.out; simpa using this))
  clear hb1 hW1 hbb hwr
  go_wp2_with (fail)
  rw [HW1.out]
  go_wp2_with (fail)
  refine HC.out.mono ?_
  rintro e w2 ⟨⟨v, rfl⟩, hr2, hb2, hk2⟩
  have HR2 := Lib.hid hr2
  have HK2 := Lib.hid (bel_trans (B := w.heap.size) HB1.out (HBB.out.trans hb2))
  clear hr2 hb2 hk2
  go_wp2_with (fail)
  refine (Tryz.Builder_String_any_k _ _ _ _ HR2.out.1 (Nat.le_of_lt HR2.out.2)).mono ?_
  rintro e w3 ⟨rfl, _, hb3, _⟩
  have HK3 := Lib.hid (HK2.out.trans (hb3.mono HB1.out.size))
  clear hb3
  go_wp2_with (fail)
  go_ret2
  exact ⟨by rfl, HK3.out⟩

end LM
end Go.Proofs.YtpnjddfnlaonoaaGreatDoor

namespace Go.Proofs.YtpnjddfnlaonoaaGreatDoor
open Go Go.RowKit
namespace LM
set_option linter.unusedVariables false
attribute [local go_sem] run_store_flt

abbrev symHd (s : ByteArray) : Hd := ⟨4, 0, false, 0, false, none, [], 0, s, none, 0⟩
abbrev numHd (s : Bool) (A : Option Addr) (xs : List Nat) (c : Nat) : Hd := ⟨0, 0, false, 0, s, A, xs, c, ⟨#[]⟩, none, 0⟩
theorem zero_block (w : World) : ∃ W0, w.alloc zeroO = W0 ∧ Below w.heap.size w W0 ∧ W0.heap[w.heap.size]? = some zeroO ∧ w.heap.size < W0.heap.size :=
  ⟨_, rfl, (Below.refl _ w).alloc (Nat.le_refl _) _, by unfold World.alloc; simp, by simp⟩

theorem limb_off {W : World} {g : Nat} {A : Option Addr} {xs : List Nat} (hz : W.heap[g]? = some zeroO) (hr : Rd W A xs) (hx : 0 < xs.length) : Off A g := by
  obtain ⟨b, off, rfl, hb, hc⟩ := hr hx
  intro ad e hg
  injection e with e
  subst e
  have h := hc 0 hx
  have hg : b = g := hg
  subst hg
  rw [ob_cell hz] at h
  rcases off with _ | _ | _ | _ | _ | _ | _ | _ | off <;> simp at h

set_option maxRecDepth 100000 in
set_option maxHeartbeats 8000000 in
theorem dsym_any (s : ByteArray) (hs : s.size ≤ 281474976710656) (w : World) :
    Calls Tryz.prog 31 #[.string s] w fun e w' => e = .returned (datA (symHd s) 0) ∧ Below w.heap.size w w' := by
  obtain ⟨W0, hW0, hb0, hO, hs0⟩ := zero_block w
  have H1 := Lib.hid (dclone_any s W0 hs)
  have HW0 := Lib.hid hW0
  have O0 := Lib.hid hO
  have HB0 := Lib.hid hb0
  have HS0 := Lib.hid hs0
  clear hW0 hb0 hO hs hs0
  go_enter Tryz.func31, Tryz.ntmps31
  go_wp2_with (fail)
  rw [HW0.out]
  refine H1.out.mono ?_
  rintro e w2 ⟨rfl, bc⟩
  have iz := (bc.block _ HS0.out).trans O0.out
  have hlz := heap_lt iz
  have ib := bel_trans (B := w.heap.size) HB0.out bc
  obtain ⟨WF, hWF, CF, OF, hbF⟩ := result_dat (h := symHd s) (n := 0) iz ib (Nat.le_refl _)
  dsimp only [set8z, List.length_nil] at hWF
  have HWF := Lib.hid hWF
  have HBF := Lib.hid hbF
  obtain ⟨q0, q1, q2, q3, q4, q5, q6, q7⟩ := CF
  try dsimp only [Nat.zero_add, List.length_nil] at q0 q1 q2 q3 q4 q5 q6 q7
  obtain ⟨z0, z1, z2, z3, z4, z5, z6, z7, e0, e1, e2, e3, e4, e5, e6, e7, el⟩ := zero_facts iz
  clear hWF OF hbF bc iz ib hlz
  go_wp2_with (fail)
  rw [HWF.out]
  refine bodyPost_ret (v := datA (symHd s) 0) (by simp [results, Tryz.results31, go_sem, q0, q1, q2, q3, q4, q5, q6, q7]) rfl ?_
  exact ⟨rfl, HBF.out⟩

set_option maxRecDepth 100000 in
set_option maxHeartbeats 8000000 in
theorem dnum_any (z : Int) (h1 : -9223372036854775808 ≤ z) (h2 : z ≤ 9223372036854775807) (w : World) :
    Calls Tryz.prog 29 #[.int .i64 z] w fun e w' => ∃ A xs c, e = .returned (datA (numHd (decide (z < 0)) A xs c) 0) ∧ xs.length ≤ c ∧ c ≤ 9223372036854775807 ∧ Rd w' A xs ∧ Can xs ∧ val xs = z.natAbs ∧ Below w.heap.size w w' := by
  obtain ⟨W0, hW0, hb0, hO, hs0⟩ := zero_block w
  have H1 := Lib.hid (tint_any z h1 h2 W0)
  have HW0 := Lib.hid hW0
  have O0 := Lib.hid hO
  have HB0 := Lib.hid hb0
  have HS0 := Lib.hid hs0
  clear hW0 hb0 hO h1 h2 hs0
  go_enter Tryz.func29, Tryz.ntmps29
  go_wp2_with (fail)
  rw [HW0.out]
  refine H1.out.mono ?_
  rintro e w2 ⟨s1, A1, n1, c1, rfl, ⟨A, c, xs, ev, g1, g2, g3, g4, g5⟩, bc⟩
  injection ev with ev
  injection ev with ev
  simp only [List.cons.injEq, Value.bool.injEq, Value.slice.injEq, and_true] at ev
  obtain ⟨rfl, rfl, rfl, rfl⟩ := ev
  have iz := (bc.block _ HS0.out).trans O0.out
  have hlz := heap_lt iz
  have ib := bel_trans (B := w.heap.size) HB0.out bc
  obtain ⟨WF, hWF, CF, OF, hbF⟩ := result_dat (h := numHd (decide (z < 0)) A1 xs c1) (n := 0) iz ib (Nat.le_refl _)
  dsimp only [set8z, List.length_nil] at hWF
  have HWF := Lib.hid hWF
  have HBF := Lib.hid hbF
  have G1 := Lib.hid g1
  have G2 := Lib.hid g2
  have G3 := Lib.hid g3
  have G4 := Lib.hid g4
  have G5 := Lib.hid g5
  obtain ⟨q0, q1, q2, q3, q4, q5, q6, q7⟩ := CF
  try dsimp only [Nat.zero_add, List.length_nil] at q0 q1 q2 q3 q4 q5 q6 q7
  obtain ⟨z0, z1, z2, z3, z4, z5, z6, z7, e0, e1, e2, e3, e4, e5, e6, e7, el⟩ := zero_facts iz
  have GR := Lib.hid (OF.rd g3 fun hx => limb_off iz g3 hx)
  clear hWF OF hbF bc iz ib hlz g1 g2 g3 g4 g5
  go_wp2_with (fail)
  rw [HWF.out]
  refine bodyPost_ret (v := datA (numHd (decide (z < 0)) A1 xs c1) 0) (by simp [results, Tryz.results29, go_sem, q0, q1, q2, q3, q4, q5, q6, q7]) rfl ?_
  exact ⟨A1, xs, c1, rfl, G1.out, G2.out, GR.out, G4.out, G5.out, HBF.out⟩

end LM
end Go.Proofs.YtpnjddfnlaonoaaGreatDoor

namespace Go.Proofs.YtpnjddfnlaonoaaGreatDoor
open Go Go.RowKit
namespace LM
set_option linter.unusedVariables false
abbrev strHd : Hd := ⟨3, 0, false, 0, false, none, [], 0, ⟨#[34]⟩, none, 0⟩
abbrev smpF (A : Option Addr) (c : Nat) : Fr := .cons (symHd ⟨#[97]⟩) .nil (.cons strHd .nil (.cons (numHd false A [1] c) .nil .nil))
abbrev smpH (b : Nat) : Hd := ⟨6, 0, false, 0, false, none, [], 0, ⟨#[]⟩, some ⟨b, 0, none⟩, 3⟩
def smpL (h : Hd) : List UInt8 := if h.k = 4 then [97] else if h.k = 3 then [34, 92, 34, 34] else [49]
def smpP (A : Option Addr) (c : Nat) (h : Hd) : Prop := h = symHd ⟨#[97]⟩ ∨ h = strHd ∨ h = numHd false A [1] c

theorem smp_cnt (A : Option Addr) (c : Nat) : cnt 65536 1 (smpF A c) = 4 := by rfl
theorem smp_cnt3 (A : Option Addr) (c : Nat) : cnt 3001 1 (smpF A c) = 4 := by rfl
theorem smp_few (A : Option Addr) (c : Nat) : FewF (smpF A c) := by simp [FewF, Fr.len]
theorem smp_text (A : Option Addr) (b c : Nat) : txD smpL (smpH b) (smpF A c) = [40, 97, 32, 34, 92, 34, 34, 32, 46, 32, 49, 41] := by rfl
theorem smp_wok (A : Option Addr) (c : Nat) : WOk (smpP A c) (smpF A c) := by
  simp [WOk, WH, smpP, leafK]
theorem smp_wh (A : Option Addr) (b c : Nat) : WH (smpP A c) (smpH b) (smpF A c) := by
  simp [WH, leafK, Fr.len]
theorem leaf_ok (h : Hd) (e : h = symHd ⟨#[97]⟩ ∨ h = strHd) : h.Ok 0 := by
  rcases e with rfl | rfl
  · exact ⟨by decide, by decide, by decide, by simp [Lm], by decide, fun _ => by decide, by decide, by decide, by decide, fun _ => by decide, fun ad e => (by cases e), fun ad e => (by cases e)⟩
  · exact ⟨by decide, by decide, by decide, by simp [Lm], by decide, fun _ => by decide, by decide, by decide, by decide, fun _ => by decide, fun ad e => (by cases e), fun ad e => (by cases e)⟩
theorem smp_numok (b off c : Nat) (h1 : 1 ≤ c) (h2 : c ≤ 9223372036854775807) : (numHd false (some ⟨b, off, none⟩) [1] c).Ok 0 :=
  ⟨(by dsimp only [numHd]; decide), (by dsimp only [numHd]; decide), (by dsimp only [numHd]; decide), by simp [Lm], ⟨h1, h2⟩, fun e => (by cases e), (by dsimp only [numHd]; decide), (by dsimp only [numHd]; decide), (by dsimp only [numHd]; decide), fun _ => (by dsimp only [numHd]; decide), fun ad e => (by injection e with e; rw [← e]), fun ad e => (by cases e)⟩
theorem smp_ok (b off c : Nat) (h1 : 1 ≤ c) (h2 : c ≤ 9223372036854775807) : (smpF (some ⟨b, off, none⟩) c).Ok :=
  ⟨leaf_ok _ (.inl rfl), trivial, leaf_ok _ (.inr rfl), trivial, smp_numok b off c h1 h2, trivial, trivial⟩
theorem smp_hok (b : Nat) : (smpH b).Ok 3 :=
  ⟨(by dsimp only [smpH]; decide), (by dsimp only [smpH]; decide), (by dsimp only [smpH]; decide), by simp [Lm], (by dsimp only [smpH]; decide), fun _ => (by dsimp only [smpH]; decide), (by dsimp only [smpH]; decide), (by dsimp only [smpH]; decide), (by dsimp only [smpH]; decide), fun e => (by cases e), fun ad e => (by cases e), fun ad e => (by injection e with e; rw [← e])⟩
theorem rightN_nil : rightN false 0 false [] = true := by decide
theorem rightN_one : rightN false 0 false [1] = true := by decide
theorem textB_q : textB ⟨#[34]⟩ = true := by decide
theorem smp_right (A : Option Addr) (b c : Nat) : rightD (fun _ => true) (smpH b) (smpF A c) = true := by
  unfold rightD
  rw [smp_cnt3]
  simp [rightF, rightK, elseB, nothB, areB, lastK, Fr.len, textB_q, rightN_nil, rightN_one]
theorem smp_nums (A : Option Addr) (c : Nat) : NumsR (smpF A c) := by simp [NumsR, rightN_nil, rightN_one]
theorem symin (t : ByteArray) (A : Option Addr) (b c : Nat) (h : ((smpH b).k = 4 ∧ t = (smpH b).t) ∨ SymIn t (smpF A c)) : t = ⟨#[97]⟩ := by
  simpa [SymIn] using h
theorem alike_num {h h' : Hd} (e : AlikeH h h') : rightN h'.fl h'.f h'.s h'.xs = rightN h.fl h.f h.s h.xs := by
  obtain ⟨_, _, e1, e2, e3, e4, _⟩ := e
  rw [e1, e2, e3, e4]
theorem alike_nums : ∀ {a b : Fr}, AlikeF a b → NumsR a → NumsR b := by
  intro a
  induction a with
  | nil => intro b h _; cases b with
    | nil => exact trivial
    | cons => exact h.elim
  | cons h k r ihk ihr => intro b e n; cases b with
    | nil => exact e.elim
    | cons h' k' r' => exact ⟨(alike_num e.1).trans n.1, ihk e.2.1 n.2.1, ihr e.2.2 n.2.2⟩
theorem alike_head {h h' : Hd} (e : AlikeH h h') : headS h h' = true := by
  obtain ⟨e1, e2, e3, e4, e5, e6, e7⟩ := e
  unfold headS numS
  rw [e1, e2, e3, e4, e5, e6, e7]
  cases h.fl <;> simp
theorem alike_same : ∀ {a b : Fr}, AlikeF a b → sameF a b = true := by
  intro a
  induction a with
  | nil => intro b h; cases b with
    | nil => rfl
    | cons => exact h.elim
  | cons h k r ihk ihr => intro b e; cases b with
    | nil => exact e.elim
    | cons h' k' r' => simp [sameF, alike_head e.1, ihk e.2.1, ihr e.2.2]

/-- what is built in memory -/
abbrev smpO (A : Option Addr) (c : Nat) : Obj := .cells #[.int .i64 4, .int .i64 0, .bool false, .float .f64 0, .bool false, .slice none 0 0, .string ⟨#[97]⟩, .slice none 0 0, .int .i64 3, .int .i64 0, .bool false, .float .f64 0, .bool false, .slice none 0 0, .string ⟨#[34]⟩, .slice none 0 0, .int .i64 0, .int .i64 0, .bool false, .float .f64 0, .bool false, .slice A 1 c, .string ⟨#[]⟩, .slice none 0 0] 50
theorem smp_dat (w : World) (A : Option Addr) (c : Nat) (hA : Rd w A [1]) : ∃ W, (w.alloc (smpO A c)).alloc (datO (smpH w.heap.size) 3) = W ∧ DatV W (smpH w.heap.size) (smpF A c) ∧ W.heap[w.heap.size + 1]? = some (datO (smpH w.heap.size) 3) ∧ Below w.heap.size w W ∧ W.heap.size = w.heap.size + 2 := by
  refine ⟨_, rfl, ?_, ?_, ((Below.refl _ w).alloc (Nat.le_refl _) _).alloc (by simp) _, by simp⟩
  · have hb : Below w.heap.size w ((w.alloc (smpO A c)).alloc (datO (smpH w.heap.size) 3)) := ((Below.refl _ w).alloc (Nat.le_refl _) _).alloc (by simp) _
    generalize hW : (w.alloc (smpO A c)).alloc (datO (smpH w.heap.size) 3) = W at hb ⊢
    have hz : W.heap[w.heap.size]? = some (smpO A c) := by
      rw [← hW]; unfold World.alloc; simp [Array.getElem?_push]
    have hl : w.heap.size < W.heap.size := heap_lt hz
    have nA : Rd W none [] := fun h => absurd h (by decide)
    refine ⟨fun h => absurd h (Nat.lt_irrefl 0), w.heap.size, 0, fun _ => rfl, hl, ?_, nA, ⟨0, 0, fun h => absurd h (by decide), trivial⟩, hl, ?_, nA, ⟨0, 0, fun h => absurd h (by decide), trivial⟩, hl, ?_, hA.below hb, ⟨0, 0, fun h => absurd h (by decide), trivial⟩, trivial⟩
    all_goals exact ⟨(ob_cell hz _).trans rfl, (ob_cell hz _).trans rfl, (ob_cell hz _).trans rfl, (ob_cell hz _).trans rfl, (ob_cell hz _).trans rfl, (ob_cell hz _).trans rfl, (ob_cell hz _).trans rfl, (ob_cell hz _).trans rfl⟩
  · have e : w.heap.size + 1 = (w.alloc (smpO A c)).heap.size := by simp
    rw [e]
    unfold World.alloc
    simp only [Array.getElem?_push_size]

end LM
end Go.Proofs.YtpnjddfnlaonoaaGreatDoor

namespace Go.Proofs.YtpnjddfnlaonoaaGreatDoor
open Go Go.RowKit
namespace LM
set_option linter.unusedVariables false
attribute [local go_sem] run_store_flt

theorem one_can {xs : List Nat} (h : Can xs) (hv : val xs = 1) : xs = [1] := can_ext h ⟨by simp [Lm], by decide⟩ (by rw [hv]; rfl)
theorem big_one : ¬ BigI 1 := by unfold BigI BIG; show ¬ _ ≤ 1; exact Nat.not_le.2 (Nat.one_lt_pow (by decide) (by decide))

set_option maxRecDepth 100000 in
set_option maxHeartbeats 8000000 in
theorem dalive_any (w : World) (hs : SynCell w) (hu : UT w) (ht : Lib.TabIs Tryz.prog w "internal/strconv.uint64pow10" .u64 Lib.pow10Tab) :
    Calls Tryz.prog 22 #[] w fun e w' => e = .returned (.bool true) ∧ Below w.heap.size w w' := by
  have S1 := Lib.hid (dsym_any ⟨#[97]⟩ (by decide))
  have N1 := Lib.hid (dnum_any 1 (by decide) (by decide))
  have HSY := Lib.hid hs
  have HUT := Lib.hid hu
  have HTB := Lib.hid ht
  clear hs hu ht
  go_enter Tryz.func22, Tryz.ntmps22
  go_wp2_with (fail)
  refine (S1.out _).mono ?_
  rintro e w1 ⟨rfl, hb1⟩
  have HB1 := Lib.hid hb1
  clear hb1
  go_wp2_with (fail)
  refine (N1.out _).mono ?_
  rintro e w2 ⟨A, xs, c, rfl, g1, g2, g3, g4, g5, hb2⟩
  have hxs : xs = [1] := one_can g4 g5
  subst hxs
  have d0 : decide ((1 : Int) < 0) = false := by decide
  rw [d0]
  obtain ⟨ab, ao, rfl, gl, gc⟩ := g3 (by decide)
  have HB2 := Lib.hid (bel_trans (B := w.heap.size) HB1.out hb2)
  obtain ⟨W, hW, hd, hz, hbW, hsz⟩ := smp_dat w2 (some ⟨ab, ao, none⟩) c g3
  dsimp only [smpO, datO, smpH, List.length_nil] at hW
  have HW := Lib.hid hW
  have HBW := Lib.hid (bel_trans (B := w.heap.size) HB2.out hbW)
  have HZ := Lib.hid hz
  have HD := Lib.hid hd
  have hg1 : 1 ≤ c := g1
  have KOK := Lib.hid (smp_ok ab ao c hg1 g2)
  have HOK := Lib.hid (smp_hok w2.heap.size)
  have HN : Hid (∀ W', Below w.heap.size w W' → ∀ t, ((smpH w2.heap.size).k = 4 ∧ t = (smpH w2.heap.size).t) ∨ SymIn t (smpF (some ⟨ab, ao, none⟩) c) → CallB W' 23 #[.string t] (.bool true)) := Lib.hid fun W' hW' t ht W'' hW'' => by
    rw [symin t _ _ _ ht]
    exact dname_a W'' ((HSY.out.below hW').below hW'')
  have HP : Hid (∀ b w0, b = w0.heap.size → Below W.heap.size W w0 → ∀ hh, smpP (some ⟨ab, ao, none⟩) c hh → WriteC b w0 hh 0 (smpL hh)) := Lib.hid fun b w0 hb hw0 hh hp => by
    rcases hp with rfl | rfl | rfl
    · exact dwrite_sym b w0 (symHd ⟨#[97]⟩) rfl (by decide)
    · exact dwrite_str b w0 strHd rfl [34, 92, 34, 34] fun W cs hr hl => dwtext_q b cs W hr (by omega)
    · refine dwrite_num b w0 (numHd false (some ⟨ab, ao, none⟩) [1] c) rfl ⟨#[49]⟩ fun W3 hW3 => ?_
      have hbb : Below w2.heap.size w2 W3 := hbW.trans ((hw0.mono hbW.size).trans (hW3.mono (by have := hbW.size; have := hw0.size; omega)))
      have hv : IntV W3 (.agg #[.bool false, .slice (some ⟨ab, ao, none⟩) [1].length c]) 1 := ⟨_, _, [1], rfl, g1, g2, g3.below hbb, ⟨by simp [Lm], by decide⟩, rfl⟩
      have ed : (decI 1).toArray = #[49] := by
        rw [show decI 1 = [49] from by unfold decI; rw [if_neg (by decide), show (1 : Int).natAbs = 1 from rfl, dec_small (by decide)]; rfl]
      have := ttext_i 0 1 false (some ⟨ab, ao, none⟩) [1].length c W3 hv big_one (tab_below HTB.out (bel_trans (B := w.heap.size) HB2.out hbb))
      rw [ed] at this
      exact this
  clear hd hz hbW g1 g2 g3 g4 g5 gl gc d0 hb2 hW hg1 hsz
  go_wp2_with (fail)
  rw [HW.out]
  have HPR := Lib.hid (dprint_right (fun _ => true) smpL _ KOK.out _ W HD.out HOK.out (HUT.out.keep HBW.out) (HN.out W HBW.out) (smp_right _ _ _) _ HP.out (smp_wok _ _) (smp_wh _ _ _) (by rw [smp_text]; decide))
  rw [smp_text] at HPR
  refine HPR.out.mono ?_
  rintro e w3 ⟨rfl, hb3⟩
  have O3 : Hid (Obs w3.drew [(w2.heap.size + 1, datO (smpH w2.heap.size) 3)]) := Lib.hid ((Obs.nil.cons HZ.out).below hb3).drew
  have HB3 := Lib.hid (bel_trans (B := w.heap.size) HBW.out hb3).drew
  have DK3 := Lib.hid (HD.out.below hb3.drew)
  have c1 : ((⟨#[40, 97, 32, 34, 92, 34, 34, 32, 46, 32, 49, 41]⟩ : ByteArray).toList == [40, 97, 32, 34, 92, 34, 34, 32, 46, 32, 49, 41]) = true := by rw [Go.ByteArray.toList_eq]; rfl
  have D1 := Lib.hid (dRight_any (fun _ => true) _ KOK.out _ w3.drew DK3.out HOK.out (HUT.out.keep HB3.out) (HN.out _ HB3.out))
  have D2 := Lib.hid fun W h => dnodes_any _ KOK.out _ W h HOK.out
  have D3 := Lib.hid fun W h => dCopy_any _ KOK.out (smp_few _ _) (show (3 : Nat) ≤ 1000000 by decide) (by rw [smp_cnt]; decide) _ W h HOK.out
  have D4 := Lib.hid fun h' k' W hd hd' (ha : AlikeH (smpH w2.heap.size) h') (haf : AlikeF (smpF (some ⟨ab, ao, none⟩) c) k') ho' hk' => dSame_any _ k' KOK.out hk' (smp_nums _ _) (alike_nums haf (smp_nums _ _)) (by rw [smp_cnt]; decide) (smpH w2.heap.size) h' W hd hd' HOK.out ho' rightN_nil ((alike_num ha).trans rightN_nil)
  rw [smp_right] at D1
  rw [smp_cnt] at D2
  have KS : Hid (∀ W, Obs W [(w2.heap.size + 1, datO (smpH w2.heap.size) 3)] → W.cell? ⟨w2.heap.size + 1, 0, none⟩ = some (.int .i64 6) ∧ W.cell? ⟨w2.heap.size + 1, 1, none⟩ = some (.int .i64 0) ∧ W.cell? ⟨w2.heap.size + 1, 2, none⟩ = some (.bool false) ∧ W.cell? ⟨w2.heap.size + 1, 3, none⟩ = some (.float .f64 0) ∧ W.cell? ⟨w2.heap.size + 1, 4, none⟩ = some (.bool false) ∧ W.cell? ⟨w2.heap.size + 1, 5, none⟩ = some (.slice none 0 0) ∧ W.cell? ⟨w2.heap.size + 1, 6, none⟩ = some (.string ⟨#[]⟩) ∧ W.cell? ⟨w2.heap.size + 1, 7, none⟩ = some (.slice (some ⟨w2.heap.size, 0, none⟩) 3 3)) := Lib.hid fun W h => by
    have h1 := ob_cell h.hd
    exact ⟨h1 0, h1 1, h1 2, h1 3, h1 4, h1 5, h1 6, h1 7⟩
  clear hb3
  go_wp2
  go_region_held3 (fun W => W.cell? ⟨w2.heap.size + 1, 0, none⟩ = some (.int .i64 6) ∧ W.cell? ⟨w2.heap.size + 1, 1, none⟩ = some (.int .i64 0) ∧ W.cell? ⟨w2.heap.size + 1, 2, none⟩ = some (.bool false) ∧ W.cell? ⟨w2.heap.size + 1, 3, none⟩ = some (.float .f64 0) ∧ W.cell? ⟨w2.heap.size + 1, 4, none⟩ = some (.bool false) ∧ W.cell? ⟨w2.heap.size + 1, 5, none⟩ = some (.slice none 0 0) ∧ W.cell? ⟨w2.heap.size + 1, 6, none⟩ = some (.string ⟨#[]⟩) ∧ W.cell? ⟨w2.heap.size + 1, 7, none⟩ = some (.slice (some ⟨w2.heap.size, 0, none⟩) 3 3))
    ((exact KS.out _ (Hid.out (by assumption))))
    (first
      | (go_at_call 34; (refine D1.out.mono ?_); rintro e v1 ⟨rfl, hbz⟩; have O4 := Lib.hid (O3.out.below hbz); have HB4 := Lib.hid (bel_trans (B := w.heap.size) HB3.out hbz); have DK4 := Lib.hid (DK3.out.below hbz); clear hbz)
      | (go_at_call 70; (refine (D2.out _ DK4.out).mono ?_); rintro e v2 ⟨rfl, hbz⟩; have O5 := Lib.hid (O4.out.below hbz); have HB5 := Lib.hid (bel_trans (B := w.heap.size) HB4.out hbz); have DK5 := Lib.hid (DK4.out.below hbz); clear hbz)
      | (go_at_call 36; (refine (D3.out _ DK5.out).mono ?_); rintro e v3 ⟨hc, kc, rfl, dc, ac, afc, okc, okf, _, _, hbz⟩; have O6 := Lib.hid (O5.out.below hbz); have HB6 := Lib.hid (bel_trans (B := w.heap.size) HB5.out hbz); have D5 := Lib.hid (D4.out _ _ v3 (DK5.out.below hbz) dc ac afc okc okf); rw [alike_head ac, alike_same afc] at D5; clear hbz dc ac afc okc okf)
      | (go_at_call 37; (refine D5.out.mono ?_); rintro e v4 ⟨rfl, hbz⟩; have O7 := Lib.hid (O6.out.below hbz); have HB7 := Lib.hid (bel_trans (B := w.heap.size) HB6.out hbz); clear hbz))
  all_goals
    go_wp2
    go_ret
    exact ⟨rfl, HB7.out⟩

end LM
end Go.Proofs.YtpnjddfnlaonoaaGreatDoor

namespace Go.Proofs.YtpnjddfnlaonoaaGreatDoor
open Go Go.RowKit
namespace LM
set_option linter.unusedVariables false
attribute [local go_sem] run_store_flt

end LM
end Go.Proofs.YtpnjddfnlaonoaaGreatDoor
