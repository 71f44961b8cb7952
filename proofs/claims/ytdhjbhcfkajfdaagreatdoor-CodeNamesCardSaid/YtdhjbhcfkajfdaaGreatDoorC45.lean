/- Walks of layer 5's laws: datumAlive. -/
import Derived.Test.YtdhjbhcfkajfdaaGreatDoorC39
import Derived.Laws.IdiomStrings
import Derived.Laws.Runes
import Derived.Laws.Cover4
import Derived.Lib.OthersKept
import Derived.Test.YtdhjbhcfkajfdaaGreatDoorC38
import Derived.Test.YtdhjbhcfkajfdaaGreatDoorC43
import Derived.Test.YtdhjbhcfkajfdaaGreatDoorC34
import Derived.Test.YtdhjbhcfkajfdaaGreatDoorC33
import Derived.Test.YtdhjbhcfkajfdaaGreatDoorC49
import Derived.Test.YtdhjbhcfkajfdaaGreatDoorC09
import Derived.Test.YtdhjbhcfkajfdaaGreatDoorC37
import Derived.Laws.RangeAny
import Derived.Laws.Cover1
import Derived.BigQuiet
namespace Go.Proofs.YtdhjbhcfkajfdaaGreatDoor
open Go Go.RowKit
namespace LM
set_option linter.unusedVariables false

/-- what is asked of the library's table -/
def DB (w : World) : Prop := w.cell? ⟨18, 15, none⟩ = some (.int .u8 4) ∧ 18 < w.heap.size
theorem DB.below {w w' : World} (h : DB w) (hb : Below w.heap.size w w') : DB w' := ⟨(hb.cell (p := ⟨18, 15, none⟩) h.2).trans h.1, Nat.lt_of_lt_of_le h.2 hb.size⟩

set_option maxRecDepth 100000 in
set_option maxHeartbeats 4000000 in
theorem tz64_16 (w : World) (hd : DB w) : Calls Tryz.prog 336 #[.int .u64 16] w fun e w' => e = .returned (.int .i64 4) ∧ w' = w := by
  have hc := hd.1
  have b1 : IntKind.u64.wrap (-16) = 18446744073709551600 := by decide
  have b2 : bits .and .u64 16 18446744073709551600 = 16 := by decide
  have b3 : IntKind.u64.wrap (16 * 285870213051353865) = 4573923408821661840 := by decide
  have b4 : (4573923408821661840 : Int) / 288230376151711744 = 15 := by decide
  go_enter Tryz.func336, Tryz.ntmps336
  go_wp2_with (fail)
  go_ret
  exact ⟨rfl, rfl⟩
set_option maxRecDepth 100000 in
set_option maxHeartbeats 4000000 in
theorem tz_16 (w : World) (hd : DB w) : Calls Tryz.prog 315 #[.int .u64 16] w fun e w' => e = .returned (.int .i64 4) ∧ w' = w := by
  have T1 := Lib.hid (tz64_16 w hd)
  clear hd
  go_enter Tryz.func315, Tryz.ntmps315
  go_wp2_with (fail)
  refine T1.out.mono ?_
  rintro e w1 ⟨rfl, rfl⟩
  go_wp2_with (fail)
  go_ret
  exact ⟨rfl, rfl⟩

abbrev digT : ByteArray := ⟨#[48, 49, 50, 51, 52, 53, 54, 55, 56, 57, 97, 98, 99, 100, 101, 102, 103, 104, 105, 106, 107, 108, 109, 110, 111, 112, 113, 114, 115, 116, 117, 118, 119, 120, 121, 122]⟩
theorem digT_part : ∀ n : Fin 16, digT.data[n.val]? = some (hexD n.val) := by decide
theorem digT_at (T : ByteArray) (hT : digT = T) (r : Nat) (hr : r < 16) : ∀ h : r < T.size, (T[r]'h).toNat = (hexD r).toNat := fun h => by
  have h1 := digT_part ⟨r, hr⟩
  subst hT
  have h2 : digT.data[r]? = some (digT[r]'h) := by
    rw [Array.getElem?_eq_getElem (show r < digT.data.size from h)]
    rfl
  rw [h2] at h1
  injection h1 with h1
  rw [h1]
/-- a block whose last bytes are these -/
def HDig (w : World) (g : Nat) (acc : List UInt8) : Prop := ∃ cs, w.heap[g]? = some (.cells cs 318 (0, 0)) ∧ cs.size = 65 ∧ ∀ j (h : j < acc.length), cs[65 - acc.length + j]? = some (.int .u8 ((acc[j]'h).toNat : Int))

theorem HDig.cell {w : World} {g : Nat} {acc : List UInt8} (h : HDig w g acc) {i : Nat} (hi : i < 65) : (∃ v, w.cell? ⟨g, i, none⟩ = some v) ∧ w.frozen? ⟨g, i, none⟩ = false := by
  obtain ⟨cs, h1, h2, -⟩ := h
  exact ⟨⟨cs[i]'(by omega), by simp only [World.cell?, h1]; exact Array.getElem?_eq_getElem (by omega)⟩, by simp [World.frozen?, h1]⟩
theorem HDig.push {w : World} {g : Nat} {acc : List UInt8} (h : HDig w g acc) (hl : acc.length ≤ 60) (d : UInt8) : HDig (w.setCell ⟨g, 64 - acc.length, none⟩ (.int .u8 (d.toNat : Int))) g (d :: acc) := by
  obtain ⟨cs, h1, h2, h3⟩ := h
  refine ⟨cs.setIfInBounds (64 - acc.length) (.int .u8 (d.toNat : Int)), heap_setCell_same w g _ cs _ _ h1, by rw [Array.size_setIfInBounds]; exact h2, fun j hj => ?_⟩
  have hl1 : (d :: acc).length = acc.length + 1 := rfl
  rw [hl1] at hj ⊢
  cases j with
  | zero =>
    rw [show 65 - (acc.length + 1) + 0 = 64 - acc.length by omega, Array.getElem?_setIfInBounds_self_of_lt (by omega)]
    rfl
  | succ j =>
    rw [Array.getElem?_setIfInBounds_ne (by omega), show 65 - (acc.length + 1) + (j + 1) = 65 - acc.length + j by omega]
    exact h3 j (by omega)
theorem and15 (q : Nat) (hq : q < 18446744073709551616) : bits .and .u64 (q : Int) 15 = ((q % 16 : Nat) : Int) := by
  have h := u64_and_nat q 15 hq (by decide)
  rw [Nat.and_two_pow_sub_one_eq_mod q 4] at h
  exact h

set_option maxRecDepth 100000 in
set_option maxHeartbeats 4000000 in
theorem fbits_16 (N : Nat) (hN : N < 4294967296) (w : World) (hd : DB w) : Calls Tryz.prog 280 #[.slice none 0 0, .int .u64 (N : Int), .int .i64 16, .bool false, .bool false] w fun e w' => e = .returned (.tuple #[.slice none 0 0, .string ⟨(hexF 8 N).toArray⟩]) ∧ Below w.heap.size w w' := by
  have P16 := Lib.hid pow2_16
  have hN8 : N < 16 ^ (7 + 1) := by
    have : (16 : Nat) ^ (7 + 1) = 4294967296 := by decide
    omega
  obtain ⟨T, hT⟩ : ∃ T : ByteArray, digT = T := ⟨_, rfl⟩
  have hTs : T.size = 36 := by rw [← hT]; rfl
  have TA := Lib.hid (digT_at T hT)
  obtain ⟨W0, hW0⟩ : ∃ W0, w.alloc (.cells Tryz.zeroCells318 318) = W0 := ⟨_, rfl⟩
  have hb0 : Below w.heap.size w W0 := by rw [← hW0]; exact (Below.refl _ w).alloc (Nat.le_refl _) _
  have TZ := Lib.hid (tz_16 W0 (hd.below hb0))
  have hdg : HDig W0 w.heap.size [] := ⟨_, by rw [← hW0]; exact heap_alloc_new w _, by rfl, fun j h => absurd h (Nat.not_lt_zero j)⟩
  have HW0 := Lib.hid hW0
  have HB0 := Lib.hid hb0
  have HDG := Lib.hid hdg
  clear hd hW0 hb0 hdg
  go_enter Tryz.func280, Tryz.ntmps280
  rw [show (⟨#[48, 49, 50, 51, 52, 53, 54, 55, 56, 57, 97, 98, 99, 100, 101, 102, 103, 104, 105, 106, 107, 108, 109, 110, 111, 112, 113, 114, 115, 116, 117, 118, 119, 120, 121, 122]⟩ : ByteArray) = T from hT]
  clear hT
  go_wp2_with (fail)
  rw [HW0.out]
  refine (P16.out _).mono ?_
  rintro e w1 ⟨rfl, rfl⟩
  go_wp2_with (fail)
  refine TZ.out.mono ?_
  rintro e w1 ⟨rfl, rfl⟩
  go_wp2_with (fail)
  go_loopg [1, 13] 8 (fun kk u i wr => Below w.heap.size w wr ∧ ∃ (q f : Nat) (acc : List UInt8), kk = f + 1 ∧ u = .int .u64 (q : Int) ∧ i = .int .i64 ((65 - acc.length : Nat) : Int) ∧ hexF 8 N = hexF (f + 1) q ++ acc ∧ q < 16 ^ (f + 1) ∧ f + 1 + acc.length = 8 ∧ HDig wr w.heap.size acc)
  case atStart => exact ⟨HB0.out, N, 7, [], rfl, rfl, rfl, by rw [List.append_nil], hN8, rfl, HDG.out⟩
  case round =>
    obtain ⟨hbr, q, f, acc, rfl, rfl, rfl, he, hq, hl, hdg⟩ := hrel
    have hq32 : q < 4294967296 := by
      have h1 : q < 16 ^ 8 := Nat.lt_of_lt_of_le hq (Nat.pow_le_pow_right (by decide) (by omega))
      have : (16 : Nat) ^ 8 = 4294967296 := by decide
      omega
    have hal : acc.length ≤ 60 := by omega
    obtain ⟨⟨cv, hcv⟩, hfz⟩ := hdg.cell (i := 64 - acc.length) (by omega)
    have w1 : IntKind.i64.wrap (((65 - acc.length : Nat) : Int) - 1) = ((64 - acc.length : Nat) : Int) := by rw [IntKind.wrap_i64]; omega
    obtain ⟨i0, hi0⟩ : ∃ i0, 64 - acc.length = i0 := ⟨_, rfl⟩
    have hi65 : i0 < 65 := by omega
    have PU := Lib.hid (fun r => hdg.push hal (hexD r))
    rw [hi0] at hcv hfz w1 PU
    have HBR := Lib.hid hbr
    have HE := Lib.hid he
    have HQ := Lib.hid hq
    have HL := Lib.hid hl
    have HI0 := Lib.hid hi0
    clear hbr he hq hdg hal hi0
    by_cases h16 : 16 ≤ q
    · obtain ⟨f', rfl⟩ : ∃ f', f = f' + 1 := by
        cases f with
        | zero => have := HQ.out; simp at this; omega
        | succ f' => exact ⟨f', rfl⟩
      have d1 : decide ((16 : Int) ≤ (q : Int)) = true := decide_eq_true (by omega)
      have d2 : decide (16 ≤ q) = true := decide_eq_true h16
      have a1 := and15 q (by omega)
      obtain ⟨r, hr⟩ : ∃ r, q % 16 = r := ⟨_, rfl⟩
      have hr16 : r < 16 := by omega
      have hx := TA.out r hr16
      have hrT : r < T.size := by omega
      rw [hr] at a1
      obtain ⟨q', hq'⟩ : ∃ q', q / 16 = q' := ⟨_, rfl⟩
      have s1 : (q : Int) / 16 = (q' : Int) := by omega
      have hlt : q' < 16 ^ (f' + 1) := by
        rw [← hq', Nat.div_lt_iff_lt_mul (by decide)]
        have := HQ.out
        rw [Nat.pow_succ] at this
        exact this
      have NE : Hid (hexF 8 N = hexF (f' + 1) q' ++ (hexD r :: acc)) := Lib.hid (by
        rw [HE.out, hexF, if_neg (by omega), hq', hr, List.append_assoc]
        rfl)
      clear h16 hr hq' hl
      go_wp2_with (fail)
      go_roundg (f' + 1)
      case measure => omega
      case rel => exact ⟨HBR.out.setCell (Nat.le_refl _) _, q', f', hexD r :: acc, rfl, rfl, by
        have h1 : i0 = 65 - (acc.length + 1) := by have := HI0.out; omega
        rw [h1]; rfl, NE.out, hlt, by have := HL.out; show f' + 1 + (acc.length + 1) = 8; omega, PU.out r⟩
    · have d1 : decide ((16 : Int) ≤ (q : Int)) = false := decide_eq_false (by omega)
      have d2 : decide (16 ≤ q) = false := decide_eq_false h16
      have hx := TA.out q (by omega)
      have hrT : q < T.size := by omega
      obtain ⟨W5, hW5⟩ : ∃ W5, wr.setCell ⟨w.heap.size, i0, none⟩ (.int .u8 ((hexD q).toNat : Int)) = W5 := ⟨_, rfl⟩
      have NE : Hid (hexF 8 N = hexD q :: acc) := Lib.hid (by
        rw [HE.out, hexF, if_pos (by omega)]
        rfl)
      have HB5 := Lib.hid (show Below w.heap.size w W5 from hW5 ▸ HBR.out.setCell (Nat.le_refl _) _)
      have hdg5 := PU.out q
      rw [hW5] at hdg5
      obtain ⟨cs, e1, e2, e3⟩ := hdg5
      have hcv := run_convert_bytes_back (P := Tryz.prog) W5 30 9 5 ⟨w.heap.size, i0, none⟩ (65 - i0) (hexD q :: acc) Tryz.underlying30 Tryz.underlying5 Tryz.underlying9 (fun j hj => by
        have h4 := e3 j hj
        have ha : ((⟨w.heap.size, i0, none⟩ : Addr).add j) = ⟨w.heap.size, i0 + j, none⟩ := by
          unfold Addr.add
          split <;> simp_all
        have hi1 : 65 - (hexD q :: acc).length = i0 := by have := HI0.out; show 65 - (acc.length + 1) = i0; omega
        rw [hi1] at h4
        rw [ha]
        simp only [World.cell?, e1]
        exact h4)
      have hlen : (hexD q :: acc).length = 65 - i0 := by have := HI0.out; have := HL.out; show acc.length + 1 = 65 - i0; omega
      rw [hlen, ← NE.out] at hcv
      have hsl : (Instr.sliceAt 318 (.pointer (some ⟨w.heap.size, 0, none⟩)) (some (.int .i64 (i0 : Int))) none none).run Tryz.prog W5 = .ok (.slice (some ⟨w.heap.size, i0, none⟩) (65 - i0) (65 - i0)) W5 := by
        have hal : Tryz.prog.arrayLen 318 = 65 := by kernel_rfl
        have h := run_sliceAt_array_l (P := Tryz.prog) W5 318 ⟨w.heap.size, 0, none⟩ Tryz.underlying318 .i64 (i0 : Int) (by omega) (by rw [hal]; omega)
        have hel : Tryz.prog.elem 318 = 5 := by kernel_rfl
        have hne : ¬ 65 = i0 := by omega
        have had : ((⟨w.heap.size, 0, none⟩ : Addr).add (i0 * 1)) = ⟨w.heap.size, i0, none⟩ := by
          unfold Addr.add
          split <;> simp_all
        rw [h, hal, hel]
        go_simp
      clear h16 hl e1 e2 e3 hlen
      go_wp2_with (fail)
      go_ret2
      exact ⟨rfl, HB5.out⟩
set_option maxRecDepth 100000 in
set_option maxHeartbeats 4000000 in
theorem fint_16 (N : Nat) (hN : N < 4294967296) (w : World) (hd : DB w) : Calls Tryz.prog 241 #[.int .i64 (N : Int), .int .i64 16] w fun e w' => e = .returned (.string ⟨(hexF 8 N).toArray⟩) ∧ Below w.heap.size w w' := by
  have F1 := Lib.hid (fbits_16 N hN w hd)
  have w1 : IntKind.u64.wrap (N : Int) = (N : Int) := by rw [IntKind.wrap_u64]; omega
  have d1 : decide ((N : Int) < 0) = false := decide_eq_false (by omega)
  clear hd hN
  go_enter Tryz.func241, Tryz.ntmps241
  go_wp2_with (fail)
  refine F1.out.mono ?_
  rintro e w1 ⟨rfl, hb1⟩
  go_wp2_with (fail)
  go_ret
  exact ⟨rfl, hb1⟩
set_option maxRecDepth 100000 in
set_option maxHeartbeats 4000000 in
theorem fint_pub (N : Nat) (hN : N < 4294967296) (w : World) (hd : DB w) : Calls Tryz.prog 208 #[.int .i64 (N : Int), .int .i64 16] w fun e w' => e = .returned (.string ⟨(hexF 8 N).toArray⟩) ∧ Below w.heap.size w w' := by
  have F1 := Lib.hid (fint_16 N hN w hd)
  clear hd hN
  go_enter Tryz.func208, Tryz.ntmps208
  go_wp2_with (fail)
  refine F1.out.mono ?_
  rintro e w1 ⟨rfl, hb1⟩
  go_wp2_with (fail)
  go_ret
  exact ⟨rfl, hb1⟩
set_option maxRecDepth 100000 in
set_option maxHeartbeats 4000000 in
theorem dhex_any (N : Nat) (hN : N < 4294967296) (w : World) (hd : DB w) : Calls Tryz.prog 157 #[.int .i64 (N : Int)] w fun e w' => e = .returned (.string ⟨(hexF 8 N).toArray⟩) ∧ Below w.heap.size w w' := by
  have F1 := Lib.hid (fint_pub N hN w hd)
  clear hd hN
  go_enter Tryz.func157, Tryz.ntmps157
  go_wp2_with (fail)
  refine F1.out.mono ?_
  rintro e w1 ⟨rfl, hb1⟩
  go_wp2_with (fail)
  go_ret
  exact ⟨rfl, hb1⟩
end LM
end Go.Proofs.YtdhjbhcfkajfdaaGreatDoor

namespace Go.Proofs.YtdhjbhcfkajfdaaGreatDoor
open Go Go.RowKit
namespace LM
set_option linter.unusedVariables false

end LM
end Go.Proofs.YtdhjbhcfkajfdaaGreatDoor

namespace Go.Proofs.YtdhjbhcfkajfdaaGreatDoor
open Go Go.RowKit
namespace LM
set_option linter.unusedVariables false

/-- what stands for a sign -/
def signT (r : Nat) : List UInt8 :=
  if r = 34 ∨ r = 92 then 92 :: encL r else if r = 10 then [92, 110] else if r = 9 then [92, 116] else if r = 13 then [92, 114]
  else if r < 32 ∨ r = 127 then [92, 120] ++ hexF 8 r ++ [59] else encL r
/-- what stands for the signs of a text -/
def quoteF : Nat → List UInt8 → List UInt8
  | 0, _ => []
  | n + 1, l => if l = [] then [] else signT (Lib.decodeL l).1 ++ quoteF n (l.drop (Lib.decodeL l).2)
theorem encL_len (r : Nat) : (encL r).length ≤ 4 := by
  unfold encL
  repeat' split
  all_goals exact Nat.le_of_ble_eq_true rfl
theorem signT_len (r : Nat) : (signT r).length ≤ 11 := by
  have h1 := encL_len r
  have h2 := hexF_len 8 r
  unfold signT
  repeat' split
  all_goals try simp only [List.length_cons, List.length_append, List.length_nil]
  all_goals omega
theorem quoteF_len : ∀ (n : Nat) (l : List UInt8), (quoteF n l).length ≤ 11 * n := by
  intro n
  induction n with
  | zero => intro l; exact Nat.zero_le _
  | succ n ih =>
    intro l
    unfold quoteF
    split
    · simp
    · rw [List.length_append]
      have h1 := signT_len (Lib.decodeL l).1
      have h2 := ih (l.drop (Lib.decodeL l).2)
      omega
theorem quoteF_nil (n : Nat) : quoteF n [] = [] := by
  cases n with
  | zero => rfl
  | succ n => unfold quoteF; rw [if_pos rfl]
theorem encode_B (r : Nat) (h : r < 55296 ∨ (57344 ≤ r ∧ r ≤ 1114111)) : Utf8.encode (r : Int) = ⟨(encL r).toArray⟩ := by
  apply ByteArray.ext
  apply Array.toList_inj.1
  exact encode_L r h

set_option maxRecDepth 100000 in
set_option maxHeartbeats 4000000 in
theorem dsignin_any (r : Nat) (hr : r < 55296 ∨ (57344 ≤ r ∧ r ≤ 1114111)) (w : World) (hd : DB w) : Calls Tryz.prog 158 #[.int .i32 (r : Int)] w fun e w' => e = .returned (.string ⟨(signT r).toArray⟩) ∧ Below w.heap.size w w' := by
  have HX := Lib.hid (dhex_any r (by omega) w hd)
  have HB0 := Lib.hid (Below.refl w.heap.size w)
  clear hd
  obtain ⟨R, hR⟩ : ∃ R, signT r = R := ⟨_, rfl⟩
  rw [hR]
  unfold signT at hR
  obtain ⟨own, how⟩ : ∃ own : ByteArray, (⟨(encL r).toArray⟩ : ByteArray) = own := ⟨_, rfl⟩
  have hcv : ∀ W, (convert 21 9 (.int .i32 (r : Int))).run Tryz.prog W = .ok (.string own) W := fun W => by
    rw [run_convert_int_string W 21 9 .i32 (r : Int) (by rw [Tryz.underlying21]; rfl) Tryz.underlying9, encode_B r hr, how]
  have hos : own.size ≤ 4 := by
    rw [← how]
    show (encL r).toArray.size ≤ 4
    rw [List.size_toArray]
    exact encL_len r
  have HO := Lib.hid how
  clear how
  obtain ⟨b1, e1⟩ : ∃ b, ((r : Int) == 34) = b := ⟨_, rfl⟩
  obtain ⟨b2, e2⟩ : ∃ b, ((r : Int) == 92) = b := ⟨_, rfl⟩
  by_cases hq : r = 34 ∨ r = 92
  · have HR : Hid (R = 92 :: encL r) := Lib.hid (by rw [← hR, if_pos hq])
    have hb : b1 = true ∨ (b1 = false ∧ b2 = true) := by
      rw [← e1, ← e2]
      rcases hq with rfl | rfl
      · exact .inl rfl
      · exact .inr ⟨rfl, rfl⟩
    clear hR hq hr
    rcases hb with rfl | ⟨rfl, rfl⟩
    all_goals
      go_enter Tryz.func158, Tryz.ntmps158
      go_wp2_with (fail)
      go_ret
      exact ⟨by rw [HR.out, ← HO.out]; rfl, HB0.out⟩
  have hb1 : b1 = false := by rw [← e1, beq_eq_false_iff_ne]; omega
  have hb2 : b2 = false := by rw [← e2, beq_eq_false_iff_ne]; omega
  subst hb1 hb2
  rw [if_neg hq] at hR
  obtain ⟨b3, e3⟩ : ∃ b, ((r : Int) == 10) = b := ⟨_, rfl⟩
  by_cases h10 : r = 10
  · have HR : Hid (R = [92, 110]) := Lib.hid (by rw [← hR, if_pos h10])
    have hb3 : b3 = true := by rw [← e3, beq_iff_eq]; omega
    subst hb3
    clear hR h10 hr hq
    go_enter Tryz.func158, Tryz.ntmps158
    go_wp2_with (fail)
    go_ret
    exact ⟨by rw [HR.out]; rfl, HB0.out⟩
  have hb3 : b3 = false := by rw [← e3, beq_eq_false_iff_ne]; omega
  subst hb3
  rw [if_neg h10] at hR
  obtain ⟨b4, e4⟩ : ∃ b, ((r : Int) == 9) = b := ⟨_, rfl⟩
  by_cases h9 : r = 9
  · have HR : Hid (R = [92, 116]) := Lib.hid (by rw [← hR, if_pos h9])
    have hb4 : b4 = true := by rw [← e4, beq_iff_eq]; omega
    subst hb4
    clear hR h9 h10 hr hq
    go_enter Tryz.func158, Tryz.ntmps158
    go_wp2_with (fail)
    go_ret
    exact ⟨by rw [HR.out]; rfl, HB0.out⟩
  have hb4 : b4 = false := by rw [← e4, beq_eq_false_iff_ne]; omega
  subst hb4
  rw [if_neg h9] at hR
  obtain ⟨b5, e5⟩ : ∃ b, ((r : Int) == 13) = b := ⟨_, rfl⟩
  by_cases h13 : r = 13
  · have HR : Hid (R = [92, 114]) := Lib.hid (by rw [← hR, if_pos h13])
    have hb5 : b5 = true := by rw [← e5, beq_iff_eq]; omega
    subst hb5
    clear hR h9 h10 h13 hr hq
    go_enter Tryz.func158, Tryz.ntmps158
    go_wp2_with (fail)
    go_ret
    exact ⟨by rw [HR.out]; rfl, HB0.out⟩
  have hb5 : b5 = false := by rw [← e5, beq_eq_false_iff_ne]; omega
  subst hb5
  rw [if_neg h13] at hR
  obtain ⟨b6, e6⟩ : ∃ b, decide ((r : Int) < 32) = b := ⟨_, rfl⟩
  obtain ⟨b7, e7⟩ : ∃ b, ((r : Int) == 127) = b := ⟨_, rfl⟩
  by_cases hc : r < 32 ∨ r = 127
  · have HR : Hid (R = [92, 120] ++ hexF 8 r ++ [59]) := Lib.hid (by rw [← hR, if_pos hc])
    have hl := hexF_len 8 r
    obtain ⟨t, ht⟩ : ∃ t : ByteArray, (⟨(hexF 8 r).toArray⟩ : ByteArray) = t := ⟨_, rfl⟩
    have hts : t.size ≤ 8 := by
      rw [← ht]
      show (hexF 8 r).toArray.size ≤ 8
      rw [List.size_toArray]
      omega
    rw [ht] at HX
    have HT := Lib.hid ht
    have w1 : IntKind.i64.wrap (r : Int) = (r : Int) := by rw [IntKind.wrap_i64]; omega
    have hb : b6 = true ∨ (b6 = false ∧ b7 = true) := by
      rw [← e6, ← e7]
      by_cases h : r < 32
      · exact .inl (decide_eq_true (by omega))
      · exact .inr ⟨decide_eq_false (by omega), by rw [beq_iff_eq]; omega⟩
    clear hR h9 h10 h13 hr hq hc hl ht
    rcases hb with rfl | ⟨rfl, rfl⟩
    all_goals
      go_enter Tryz.func158, Tryz.ntmps158
      go_wp2_with (fail)
      refine HX.out.mono ?_
      rintro e w1 ⟨rfl, hb1⟩
      go_wp2_with (fail)
      go_ret
      exact ⟨by rw [HR.out, ← HT.out]; rfl, hb1⟩
  · have HR : Hid (R = encL r) := Lib.hid (by rw [← hR, if_neg hc])
    have hb6 : b6 = false := by rw [← e6]; exact decide_eq_false (by omega)
    have hb7 : b7 = false := by rw [← e7, beq_eq_false_iff_ne]; omega
    subst hb6 hb7
    clear hR h9 h10 h13 hr hq hc
    go_enter Tryz.func158, Tryz.ntmps158
    go_wp2_with (fail)
    go_ret
    exact ⟨by rw [HR.out, ← HO.out]; rfl, HB0.out⟩
end LM
end Go.Proofs.YtdhjbhcfkajfdaaGreatDoor

namespace Go.Proofs.YtdhjbhcfkajfdaaGreatDoor
open Go Go.RowKit
namespace LM
set_option linter.unusedVariables false
attribute [local go_sem] run_store_flt

abbrev quoteL (s : ByteArray) : List UInt8 := [34] ++ quoteF s.size s.data.toList ++ [34]

set_option maxRecDepth 100000 in
set_option maxHeartbeats 8000000 in
theorem dwtext_any (b : Nat) (cs : List UInt8) (s : ByteArray) (w : World) (hr : WR b cs w) (hdb : ∀ W, Below b w W → DB W) (hs : s.size ≤ 1000000) (hl : cs.length ≤ 100000000000) :
    Calls Tryz.prog 108 #[.pointer (some ⟨b, 0, none⟩), .string s] w (Wrote b cs (quoteL s) w) := by
  have H1 := Lib.hid (wrstr_any b cs ⟨#[34]⟩ w hr (by show _ + 1 ≤ _; omega))
  have hbw := hr.2
  have HDB := Lib.hid hdb
  obtain ⟨ALL, hALL⟩ : ∃ ALL, quoteF s.size s.data.toList = ALL := ⟨_, rfl⟩
  have hAL : ALL.length ≤ 11000000 := by
    have := quoteF_len s.size s.data.toList
    rw [hALL] at this
    omega
  have HQ : Hid (quoteL s = [34] ++ ALL ++ [34]) := Lib.hid (by unfold quoteL; rw [hALL])
  have HALL := Lib.hid hALL
  clear hr hdb hALL
  go_enter Tryz.func108, Tryz.ntmps108
  go_wp2_with (fail)
  refine H1.out.mono ?_
  rintro e w1 ⟨⟨v, rfl⟩, h1, h2, h3⟩
  have B1 := Lib.hid h1
  have B2 := Lib.hid h2
  have B3 := Lib.hid h3
  clear h1 h2 h3
  have hlt := B1.out.2
  have hws : w.heap.size ≤ w1.heap.size := B2.out.size
  go_wp2_with (fail)
  obtain ⟨WI, hWI⟩ : ∃ WI, w1.iter s 0 = WI := ⟨_, rfl⟩
  have hbi : Below w1.heap.size w1 WI := by rw [← hWI]; exact below_iterD w1 s 0
  have hit : WI.heap[w1.heap.size]? = some (.stringIter s 0) := by rw [← hWI]; exact World.iter_heap w1 s 0
  have I1 := Lib.hid (B1.out.below hbi)
  have I2 := Lib.hid (bel_trans (B := b) B2.out hbi (by omega))
  have I3 := Lib.hid (B3.out.trans (keeps8_below (B := b + 1) hbi))
  have IT := Lib.hid hit
  rw [hWI]
  clear hbi hit hWI
  go_loopg [5] (s.size + 1) (fun kk _ wr => Below b w wr ∧ Keeps8 (b + 1) w wr ∧ ∃ (pos : Nat) (done : List UInt8), s.size ≤ pos + kk - 1 ∧ 1 ≤ kk ∧ wr.heap[w1.heap.size]? = some (.stringIter s pos) ∧ WR b (cs ++ [34] ++ done) wr ∧ ALL = done ++ quoteF (kk - 1) (s.data.toList.drop pos))
  case atStart => exact ⟨I2.out, I3.out, 0, [], by omega, by omega, IT.out, by rw [List.append_nil]; exact I1.out, by rw [List.drop_zero, Nat.add_sub_cancel, List.nil_append]; exact HALL.out.symm⟩
  case round =>
    obtain ⟨r1, r2, pos, done, hfu, hk1, r3, r4, r5⟩ := hrel
    obtain ⟨kq, rfl⟩ : ∃ kq, gk = kq + 1 := ⟨gk - 1, by omega⟩
    rw [Nat.add_sub_cancel] at r5
    have hdl2 : done.length ≤ 11000000 := by
      have := congrArg List.length r5
      rw [List.length_append] at this
      omega
    by_cases hp : pos < s.size
    · have hne : s.data.toList.drop pos ≠ [] := by
        intro h0
        have := congrArg List.length h0
        rw [List.length_drop, ← Lib.size_eq] at this
        simp at this
        omega
      obtain ⟨kp, rfl⟩ : ∃ kp, kq = kp + 1 := ⟨kq - 1, by omega⟩
      have hdl := Lib.decodeL_drop s pos
      have hval := dec_valid (s.data.toList.drop pos)
      have hwid := Lib.decodeL_width (s.data.toList.drop pos)
      rw [quoteF, if_neg hne, hdl] at r5
      rw [hdl] at hval hwid
      obtain ⟨⟨r, d⟩, hrd⟩ : ∃ x, Utf8.decode s pos = x := ⟨_, rfl⟩
      rw [hrd] at r5 hval hwid
      simp only at r5 hval hwid
      rw [List.drop_drop] at r5
      obtain ⟨W2, hW2⟩ : ∃ W2, wr.iterAt w1.heap.size s (pos + d) = W2 := ⟨_, rfl⟩
      have hnx : ∀ ty, (Instr.next (.pointer (some ⟨w1.heap.size, 0, none⟩)) true ty).run Tryz.prog wr = .ok (.tuple #[.bool true, .int .i64 (pos : Int), .int .i32 (r : Int)]) W2 := fun ty => by
        rw [Lib.run_next_any_at wr w1.heap.size s pos ty r3 hp, hrd, hW2]
      have q4 : WR b (cs ++ [34] ++ done) W2 := by rw [← hW2]; exact ⟨r4.1.iterAt r3 _, by rw [Lib.iterAt_size]; exact r4.2⟩
      have q3 : W2.heap[w1.heap.size]? = some (.stringIter s (pos + d)) := by rw [← hW2]; exact Lib.iterAt_heap wr w1.heap.size s pos (pos + d) r3
      have q1 : Below b w W2 := by rw [← hW2]; exact Lib.below_iterAt r1 (k := w1.heap.size) (by omega) s (pos + d)
      have q2 : Keeps8 (b + 1) w W2 := by
        rw [← hW2]
        exact ⟨by rw [Lib.iterAt_size]; exact r2.size, fun k o hB hk ho => by
          have hkl := heap_lt hk
          rw [Lib.iterAt_other _ _ _ _ _ (by omega)]
          exact r2.same k o hB hk ho⟩
      have SI := Lib.hid (dsignin_any r hval W2 (HDB.out _ q1))
      obtain ⟨st, hst⟩ : ∃ st, signT r = st := ⟨_, rfl⟩
      have hsl := signT_len r
      rw [hst] at SI r5 hsl
      have Q1 := Lib.hid q1
      have Q2 := Lib.hid q2
      have Q3 := Lib.hid q3
      have Q4 := Lib.hid q4
      have R5 := Lib.hid r5
      have HWD := Lib.hid hwid
      have FU := Lib.hid hfu
      clear q1 q2 q3 q4 r1 r2 r3 r4 r5 hwid hval hrd hdl hne hst hW2 hfu
      go_wp2_with (fail)
      refine SI.out.mono ?_
      rintro e w2 ⟨rfl, hb2⟩
      have hbw2 := Q4.out.2
      have H2 := Lib.hid (wrstr_any b _ ⟨st.toArray⟩ _ (Q4.out.below hb2) (by
        simp only [List.length_append]
        have t1 : ([34] : List UInt8).length = 1 := rfl
        have t2 : (⟨st.toArray⟩ : ByteArray).size = st.length := by show st.toArray.size = _; rw [List.size_toArray]
        omega))
      have C0 := Lib.hid (bel_trans (B := b) Q1.out hb2 (by omega))
      have C2 := Lib.hid (Q2.out.trans (keeps8_below (B := b + 1) hb2))
      have C3 := Lib.hid ((hb2.block _ (heap_lt Q3.out)).trans Q3.out)
      clear hb2
      go_wp2_with (fail)
      refine H2.out.mono ?_
      rintro e w3 ⟨⟨v3, rfl⟩, h1, h2, h3⟩
      have E1 := Lib.hid h1
      have E2 := Lib.hid (C0.out.trans h2)
      have E3 := Lib.hid (C2.out.trans h3)
      have E4 := Lib.hid (h3.same w1.heap.size _ (by omega) C3.out rfl)
      clear h1 h2 h3 hnx
      go_wp2_with (fail)
      go_roundg (kp + 1)
      case measure => omega
      case rel => exact ⟨E2.out, E3.out, pos + d, done ++ st, by have := FU.out; have := HWD.out; omega, by omega, E4.out, by have := E1.out; rw [← List.append_assoc]; exact this, by rw [Nat.add_sub_cancel, List.append_assoc]; exact R5.out⟩
    · have hnx : ∀ ty, (Instr.next (.pointer (some ⟨w1.heap.size, 0, none⟩)) true ty).run Tryz.prog wr = .ok (.tuple #[.bool false]) wr := fun ty => Lib.run_next_end_at wr w1.heap.size s pos ty r3 hp
      have hdn : ALL = done := by
        have : s.data.toList.drop pos = [] := List.drop_eq_nil_of_le (by rw [← Lib.size_eq]; omega)
        rw [this, quoteF_nil, List.append_nil] at r5
        exact r5
      have H2 := Lib.hid (wrstr_any b _ ⟨#[34]⟩ _ r4 (by
        simp only [List.length_append]
        have t1 : ([34] : List UInt8).length = 1 := rfl
        show _ + 1 ≤ _
        omega))
      have R1 := Lib.hid r1
      have R2 := Lib.hid r2
      have HDN := Lib.hid hdn
      clear r1 r2 r3 r4 r5 hdn hfu
      go_wp2_with (fail)
      refine H2.out.mono ?_
      rintro e w3 ⟨⟨v3, rfl⟩, h1, h2, h3⟩
      have C1 := Lib.hid h1
      have C2 := Lib.hid (R1.out.trans h2)
      have C3 := Lib.hid (R2.out.trans h3)
      clear h1 h2 h3 hnx
      go_wp2_with (fail)
      go_end0
      exact ⟨⟨_, rfl⟩, by rw [HQ.out, HDN.out]; have := C1.out; simp only [List.append_assoc] at this ⊢; exact this, C2.out, C3.out⟩
end LM
end Go.Proofs.YtdhjbhcfkajfdaaGreatDoor

namespace Go.Proofs.YtdhjbhcfkajfdaaGreatDoor
open Go Go.RowKit
namespace LM
set_option linter.unusedVariables false

end LM
end Go.Proofs.YtdhjbhcfkajfdaaGreatDoor

namespace Go.Proofs.YtdhjbhcfkajfdaaGreatDoor
open Go Go.RowKit
namespace LM
set_option linter.unusedVariables false
attribute [local go_sem] run_store_flt

end LM
end Go.Proofs.YtdhjbhcfkajfdaaGreatDoor

namespace Go.Proofs.YtdhjbhcfkajfdaaGreatDoor
open Go Go.RowKit
namespace LM
set_option linter.unusedVariables false
attribute [local go_sem] run_store_flt

end LM
end Go.Proofs.YtdhjbhcfkajfdaaGreatDoor

namespace Go.Proofs.YtdhjbhcfkajfdaaGreatDoor
open Go Go.RowKit
namespace LM
set_option linter.unusedVariables false
set_option linter.unusedSimpArgs false
attribute [local go_sem] run_store_flt

end LM
end Go.Proofs.YtdhjbhcfkajfdaaGreatDoor

namespace Go.Proofs.YtdhjbhcfkajfdaaGreatDoor
open Go Go.RowKit
namespace LM
set_option linter.unusedVariables false
attribute [local go_sem] run_store_flt

set_option maxRecDepth 100000 in
set_option maxHeartbeats 8000000 in
theorem dwrite_str2 (b : Nat) (w0 : World) (h : Hd) (hk : h.k = 3) (t : List UInt8) (hT : ∀ W cs, Below b w0 W → WR b cs W → cs.length + t.length ≤ 100000000000 → Calls Tryz.prog 108 #[.pointer (some ⟨b, 0, none⟩), .string h.t] W (Wrote b cs t W)) : WriteC b w0 h 0 t := by
  intro W cs hb hr hl
  obtain ⟨W0, hW0, hb0, hO, hs0⟩ := dat_block W h 0
  have hbw := hr.2
  have A2 := Lib.hid (hb0.mono (Nat.le_of_lt hbw))
  have A3 := Lib.hid (keeps8_below (B := b + 1) hb0)
  have H1 := Lib.hid (hT W0 cs (hb.trans A2.out) (hr.below hb0) hl)
  have HW0 := Lib.hid hW0
  have f0 : (h.k == 0) = false := by rw [hk]; rfl
  have f1 : (h.k == 1) = false := by rw [hk]; rfl
  have f2 : (h.k == 2) = false := by rw [hk]; rfl
  have f3 : (h.k == 3) = true := by rw [hk]; rfl
  have f4 : (h.k == 4) = false := by rw [hk]; rfl
  have f5 : (h.k == 5) = false := by rw [hk]; rfl
  have f6 : (h.k == 6) = false := by rw [hk]; rfl
  have f7 : (h.k == 7) = false := by rw [hk]; rfl
  clear hW0 hb0 hO hb hr hl hs0 hk hbw hT
  go_enter Tryz.func57, Tryz.ntmps57
  go_wp2_with (fail)
  rw [HW0.out]
  refine H1.out.mono ?_
  rintro e w1 ⟨⟨v, rfl⟩, h1, h2, h3⟩
  have B1 := Lib.hid h1
  have B2 := Lib.hid (A2.out.trans h2)
  have B3 := Lib.hid (A3.out.trans h3)
  clear h1 h2 h3
  go_wp2_with (fail)
  go_end0
  exact ⟨⟨_, rfl⟩, B1.out, B2.out, B3.out⟩

end LM
end Go.Proofs.YtdhjbhcfkajfdaaGreatDoor

namespace Go.Proofs.YtdhjbhcfkajfdaaGreatDoor
open Go Go.RowKit
namespace LM
set_option linter.unusedVariables false
attribute [local go_sem] run_store_flt

end LM
end Go.Proofs.YtdhjbhcfkajfdaaGreatDoor
