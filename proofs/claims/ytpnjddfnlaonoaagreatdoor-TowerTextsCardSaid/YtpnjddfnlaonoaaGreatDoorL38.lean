/- Walks of package flo: cutAtE, isNumeral and Parse of any text. -/
import Derived.Test.YtpnjddfnlaonoaaGreatDoorL35
import Derived.Test.YtpnjddfnlaonoaaGreatDoorL26
import Derived.Test.YtpnjddfnlaonoaaGreatDoorL09
import Derived.Lib.OthersKept
import Derived.Test.YtpnjddfnlaonoaaGreatDoorL37
import Derived.Laws.RangeAny
import Derived.Laws.Cover1
import Derived.Laws.Runes
namespace Go.Proofs.YtpnjddfnlaonoaaGreatDoor
open Go Go.Shelf Go.RowKit Go.Sort Go.Lib
namespace LM
set_option linter.unusedVariables false

theorem get_of {s : ByteArray} {i : Nat} (h : i < s.size) : s.get! i = s[i]'h := by
  have := get_at s i h
  rwa [Nat.add_zero] at this
/-- a sign of more than one byte, or a byte that is none: no byte of it is below 128 -/
theorem decode_span (s : ByteArray) (pos : Nat) (h : pos < s.size) (ha : 128 ≤ (s[pos]'h).toNat) : pos + (Utf8.decode s pos).2 ≤ s.size ∧ ∀ j (hj : pos + j < s.size), j < (Utf8.decode s pos).2 → 128 ≤ (s[pos + j]'hj).toNat := by
  have hn : ¬ (s[pos]'h).toNat < 128 := by omega
  have h0 : ∀ j (hj : pos + j < s.size), j = 0 → 128 ≤ (s[pos + j]'hj).toNat := fun j hj e => by subst e; exact ha
  have hc : ∀ k, (decide (pos + k < s.size) && (s.get! (pos + k)).toNat / 64 == 2) = true → pos + k < s.size ∧ ∀ hk : pos + k < s.size, 128 ≤ (s[pos + k]'hk).toNat := fun k hk => by
    rw [Bool.and_eq_true, decide_eq_true_eq, beq_iff_eq] at hk
    refine ⟨hk.1, fun hh => ?_⟩
    have e := get_of hh
    have h2 := hk.2
    rw [e] at h2
    omega
  have one : pos + 1 ≤ s.size ∧ ∀ j (hj : pos + j < s.size), j < 1 → 128 ≤ (s[pos + j]'hj).toNat := ⟨h, fun j hj hl => h0 j hj (by omega)⟩
  simp only [Utf8.decode, get_at s pos h, hn, if_false]
  split
  · rename_i hk
    rw [Bool.and_eq_true] at hk
    have k1 := hc 1 hk.2
    split
    · refine ⟨k1.1, fun j hj hl => ?_⟩
      have : j = 0 ∨ j = 1 := by dsimp only at hl; omega
      rcases this with rfl | rfl
      · exact ha
      · exact k1.2 hj
    · exact one
  · split
    · rename_i hk
      rw [Bool.and_eq_true, Bool.and_eq_true] at hk
      have k1 := hc 1 hk.1.2
      have k2 := hc 2 hk.2
      split
      · refine ⟨k2.1, fun j hj hl => ?_⟩
        have : j = 0 ∨ j = 1 ∨ j = 2 := by dsimp only at hl; omega
        rcases this with rfl | rfl | rfl
        · exact ha
        · exact k1.2 hj
        · exact k2.2 hj
      · exact one
    · split
      · rename_i hk
        rw [Bool.and_eq_true, Bool.and_eq_true, Bool.and_eq_true] at hk
        have k1 := hc 1 hk.1.1.2
        have k2 := hc 2 hk.1.2
        have k3 := hc 3 hk.2
        split
        · refine ⟨k3.1, fun j hj hl => ?_⟩
          have : j = 0 ∨ j = 1 ∨ j = 2 ∨ j = 3 := by dsimp only at hl; omega
          rcases this with rfl | rfl | rfl | rfl
          · exact ha
          · exact k1.2 hj
          · exact k2.2 hj
          · exact k3.2 hj
        · exact one
      · exact one
theorem encode_high (r : Nat) (h : 128 ≤ r) : ∃ pre x, (Utf8.encode (r : Int)).data.toList = pre ++ [x] ∧ 1 ≤ pre.length ∧ pre.length ≤ 3 ∧ 128 ≤ x.toNat := by
  unfold Utf8.encode
  obtain ⟨c, hc⟩ : ∃ c, (if Utf8.valid (r : Int) then (r : Int).toNat else Utf8.runeError) = c := ⟨_, rfl⟩
  have h1 : ¬ c < 128 := by
    rw [← hc]
    split
    · omega
    · decide
  have hm : ∀ n : Nat, 128 ≤ (UInt8.ofNat (128 + n % 64)).toNat := fun n => by
    have : (UInt8.ofNat (128 + n % 64)).toNat = (128 + n % 64) % 256 := by simp
    rw [this]; omega
  simp only [hc]
  rw [if_neg h1]
  have hx := hm c
  generalize UInt8.ofNat (128 + c % 64) = x at hx ⊢
  split
  · exact ⟨[_], x, rfl, by simp, by simp, hx⟩
  · split
    · exact ⟨[_, _], x, rfl, by simp, by simp, hx⟩
    · exact ⟨[_, _, _], x, rfl, by simp, by simp, hx⟩

theorem below_iterS (W : World) (s : ByteArray) (i : Nat) : Below W.heap.size W (W.iter s i) := by
  unfold World.iter
  exact (Below.refl _ W).alloc (Nat.le_refl _) _

set_option maxRecDepth 100000 in
set_option maxHeartbeats 4000000 in
theorem irune_high (r : Nat) (hr : 128 ≤ r) (hr2 : r ≤ 2147483647) (w : World) :
    Calls Tryz.prog 208 #[.string ⟨#[101, 69]⟩, .int .i32 (r : Int)] w fun e w' => e = .returned (.int .i64 (-1)) ∧ Below w.heap.size w w' := by
  have d1 : decide ((r : Int) < 128) = false := decide_eq_false (by omega)
  by_cases h1 : r = 65533
  · subst h1
    go_enter Tryz.func208, Tryz.ntmps208
    have HBI := Lib.hid fun i => below_iterS w ⟨#[101, 69]⟩ i
    have n0 : ∀ ty, (Instr.next (.pointer (some ⟨w.heap.size, 0, none⟩)) true ty).run Tryz.prog (w.iter ⟨#[101, 69]⟩ 0) = .ok (.tuple #[.bool true, .int .i64 ((0 : Nat) : Int), .int .i32 ((101 : Nat) : Int)]) (w.iter ⟨#[101, 69]⟩ 1) := fun ty => run_next_ascii (P := Tryz.prog) w ⟨#[101, 69]⟩ 0 ty (by decide) (by decide)
    have n1 : ∀ ty, (Instr.next (.pointer (some ⟨w.heap.size, 0, none⟩)) true ty).run Tryz.prog (w.iter ⟨#[101, 69]⟩ 1) = .ok (.tuple #[.bool true, .int .i64 ((1 : Nat) : Int), .int .i32 ((69 : Nat) : Int)]) (w.iter ⟨#[101, 69]⟩ 2) := fun ty => run_next_ascii (P := Tryz.prog) w ⟨#[101, 69]⟩ 1 ty (by decide) (by decide)
    have n2 := fun ty => run_next_end (P := Tryz.prog) w ⟨#[101, 69]⟩ 2 ty (by decide)
    have N0 := Lib.hid n0
    have N1 := Lib.hid n1
    have N2 := Lib.hid n2
    clear n0 n1 n2
    go_wp2_with (fail)
    go_loopg [5, 6] 2 (fun g _ _ wx => ∃ i : Nat, i + g = 2 ∧ wx = w.iter ⟨#[101, 69]⟩ i)
    case atStart => exact ⟨0, rfl, rfl⟩
    case round =>
      obtain ⟨i, hig, rfl⟩ := hrel
      have hi3 : i = 0 ∨ i = 1 ∨ i = 2 := by omega
      rcases hi3 with rfl | rfl | rfl
      · have hnx := N0.out
        go_wp2_with (fail)
        go_roundg 1
        case measure => omega
        case rel => exact ⟨1, rfl, rfl⟩
      · have hnx := N1.out
        go_wp2_with (fail)
        go_roundg 0
        case measure => omega
        case rel => exact ⟨2, rfl, rfl⟩
      · have hnx := N2.out
        go_wp2_with (fail)
        go_ret
        exact ⟨rfl, HBI.out 2⟩
  · have d2 : ((r : Int) == 65533) = false := by rw [beq_eq_false_iff_ne]; omega
    have V1 := Lib.hid fun W => Tryz.utf8_ValidRune (r : Int) W
    obtain ⟨v, hv⟩ : ∃ v, Lib.validRune (r : Int) = v := ⟨_, rfl⟩
    rw [hv] at V1
    clear hv
    cases v
    · go_enter Tryz.func208, Tryz.ntmps208
      go_wp2_with (fail)
      refine (V1.out _).mono ?_
      rintro e w' ⟨rfl, rfl⟩
      go_wp2_with (fail)
      go_ret
      exact ⟨rfl, Below.refl _ _⟩
    · have hcv : ∀ W, (convert 21 9 (.int .i32 (r : Int))).run Tryz.prog W = .ok (.string (Utf8.encode (r : Int))) W := fun W => run_convert_int_string W _ _ _ _ (by kernel_rfl) (by kernel_rfl)
      obtain ⟨pre, x, he, hp1, hp3, hx⟩ := encode_high r hr
      obtain ⟨E, hE⟩ : ∃ E, Utf8.encode (r : Int) = E := ⟨_, rfl⟩
      rw [hE] at he hcv
      clear hE
      obtain ⟨n, hn⟩ : ∃ n, pre.length = n := ⟨_, rfl⟩
      have hsz : E.size = n + 1 := by rw [Lib.size_eq, he]; simp [hn]
      have hei : ((E.size : Nat) : Int) - 1 = (n : Int) := by omega
      rw [hn] at hp1 hp3
      by_cases hn1 : n = 1
      · subst hn1
        have hby : ∀ h : 1 < E.size, (E[1]'h).toNat = x.toNat := fun h => by
          have h2 : E.data.toList[1]? = some x := by rw [he, List.getElem?_append_right (by omega), hn]; rfl
          have h3 := Lib.data_getElem? E 1 h
          exact congrArg UInt8.toNat (Option.some.inj (h2.symm.trans h3)).symm
        have d3 : ((69 : Int) == (x.toNat : Int)) = false := by rw [beq_eq_false_iff_ne]; omega
        have hlt : 1 < E.size := by omega
        have h69 : ∀ h : 1 < (⟨#[101, 69]⟩ : ByteArray).size, ((⟨#[101, 69]⟩ : ByteArray)[1]'h).toNat = 69 := fun _ => rfl
        have d4 : ((69 : Int) != (x.toNat : Int)) = true := by rw [bne_iff_ne]; omega
        have IB : Hid (∀ t : ByteArray, t.data.toList = [] → ∀ W, Calls Tryz.prog 122 #[.string t, .int .u8 (x.toNat : Int)] W fun e w' => e = .returned (.int .i64 (-1)) ∧ w' = W) := Lib.hid fun t ht W => by
          have h := Tryz.strings_IndexByte t (x.toNat : Int) W
          rw [ht] at h
          exact h
        clear he hn hsz
        go_enter Tryz.func208, Tryz.ntmps208
        go_wp2_with (fail)
        refine (V1.out _).mono ?_
        rintro e w' ⟨rfl, rfl⟩
        go_wp2_with (fail)
        refine scope_ahead' (fun _ _ _ => False) (fun _ _ _ h => h.elim) ?_ (fun _ _ _ h => h.elim)
        go_wp2_with (fail)
        go_loopg [9] 0 (fun g i wr => wr = w' ∧ i = .int .i64 (1 : Int))
        case atStart => exact ⟨rfl, rfl⟩
        case round =>
          obtain ⟨rfl, rfl⟩ := hrel
          go_wp2_with (fail)
          refine scope_ahead' (fun _ _ _ => False) (fun _ _ _ h => h.elim) ?_ (fun _ _ _ h => h.elim)
          go_wp2_with (fail)
          go_quiet (fail)
          go_wp2_with (fail)
          go_region_with (go_at_call 122; refine (IB.out _ (by rfl) _).mono ?_; rintro e w2 ⟨rfl, rfl⟩)
          all_goals
            go_wp2_with (fail)
            rw [ExJ_ret]
            simp only [Exit.inBlock, Exit.then]
            change ExJ _ _ Exit.ret _ _
            rw [ExJ_ret]
            go_ret
            exact ⟨rfl, below_drewN (Below.refl _ _) _⟩
      · have d3 : decide ((n : Int) < 2) = false := decide_eq_false (by omega)
        clear he hn hsz hx
        go_enter Tryz.func208, Tryz.ntmps208
        go_wp2_with (fail)
        refine (V1.out _).mono ?_
        rintro e w' ⟨rfl, rfl⟩
        go_wp2_with (fail)
        refine scope_ahead' (fun _ _ _ => False) (fun _ _ _ h => h.elim) ?_ (fun _ _ _ h => h.elim)
        go_wp2_with (fail)
        go_loopg [9] 0 (fun g i wr => wr = w' ∧ i = .int .i64 (n : Int))
        case atStart => exact ⟨rfl, rfl⟩
        case round =>
          obtain ⟨rfl, rfl⟩ := hrel
          go_wp2_with (fail)
          rw [ExJ_ret]
          go_ret
          exact ⟨rfl, Below.refl _ _⟩

theorem noany_skip {s : ByteArray} {chars : List UInt8} {i k : Nat} (h : Lib.NoAny s.data.toList chars i) (hk : i + k ≤ s.size) (hb : ∀ j (hj : i + j < s.size), j < k → 128 ≤ (s[i + j]'hj).toNat) (hc : ∀ c ∈ chars, c.toNat < 128) : Lib.NoAny s.data.toList chars (i + k) := by
  induction k with
  | zero => exact h
  | succ k ih =>
    have h1 := ih (by omega) fun j hj hl => hb j hj (by omega)
    have h2 := hb k (by omega) (by omega)
    refine h1.succ (x := s[i + k]'(by omega)) (Lib.data_getElem? s (i + k) (by omega)) ?_
    rw [List.contains_eq_any_beq, List.any_eq_false]
    intro c hm he
    have h3 := hc c hm
    have h4 : s[i + k]'(by omega) = c := by simpa using he
    rw [h4] at h2
    omega

theorem use_set (n : Nat) (w : World) (hn : n ≤ 8) : Calls Tryz.prog 209 #[.int .i64 (n : Int)] w fun e w' => e = .returned (.bool false) ∧ w = w' := by
  have h8z : decide ((8 : Int) < (n : Int)) = false := decide_eq_false (by omega)
  go_enter Tryz.func209, Tryz.ntmps209
  go_wp2_with (fail)
  go_ret
  exact ⟨rfl, rfl⟩

set_option maxRecDepth 1000000 in
set_option maxHeartbeats 4000000 in
theorem iany_short (s : ByteArray) (w : World) (h8 : s.size ≤ 8) :
    Calls Tryz.prog 154 #[.string s, .string ⟨#[101, 69]⟩] w fun e w' => e = .returned (.int .i64 (Lib.indexAny s.data.toList [101, 69])) ∧ Below w.heap.size w w' := by
  have US := Lib.hid fun W => use_set s.size W h8
  have IH := Lib.hid irune_high
  have IA := Lib.hid fun (r : Int) W => Tryz.strings_IndexRune_ascii ⟨#[101, 69]⟩ r W
  have hit0 := World.iter_heap w s 0
  have hbi0 := below_iter w s 0
  have hsz0 : w.heap.size < (w.iter s 0).heap.size := by unfold World.iter; simp
  have HIT := Lib.hid hit0
  have HBI := Lib.hid hbi0
  have HSZ := Lib.hid hsz0
  clear hit0 hbi0 hsz0
  go_enter Tryz.func154, Tryz.ntmps154
  go_wp2_with (fail)
  refine (US.out _).mono ?_
  rintro e w' ⟨rfl, rfl⟩
  go_wp2_with (fail)
  go_loopg [9, 10] s.size (fun g _ _ wx => ∃ i : Nat, i + g = s.size ∧ Below w.heap.size w wx ∧ w.heap.size < wx.heap.size ∧ wx.heap[w.heap.size]? = some (.stringIter s i) ∧ Lib.NoAny s.data.toList [101, 69] i)
  case atStart => exact ⟨0, by omega, HBI.out, HSZ.out, HIT.out, Lib.NoAny.zero _ _⟩
  case round =>
    obtain ⟨i, hig, hbl, hsl, hitr, hno⟩ := hrel
    have HN := Lib.hid hno
    have HBL := Lib.hid hbl
    have HSL := Lib.hid hsl
    have HITR := Lib.hid hitr
    clear hno hbl hsl
    by_cases hi : i < s.size
    · obtain ⟨x, hx⟩ : ∃ x : UInt8, s[i]'hi = x := ⟨_, rfl⟩
      have hxl : s.data.toList[i]? = some x := by rw [← hx]; exact Lib.data_getElem? s i hi
      have hw2 := fun k => below_iterAt HBL.out (k := w.heap.size) (Nat.le_refl _) s k
      have hs2 : ∀ k, w.heap.size < (wr.iterAt w.heap.size s k).heap.size := fun k => by rw [iterAt_size]; exact HSL.out
      have hh2 := fun k => iterAt_heap wr w.heap.size s i k hitr
      have HW2 := Lib.hid hw2
      have HS2 := Lib.hid hs2
      have HH2 := Lib.hid hh2
      clear hw2 hs2 hh2
      by_cases hx128 : x.toNat < 128
      · have hnx := fun ty => run_next_ascii_at (P := Tryz.prog) wr w.heap.size s i ty hitr hi (by rw [hx]; exact hx128)
        rw [hx] at hnx
        have Hx := Lib.hid hxl
        have hback : ((x.toNat : Int)).toNat.toUInt8 = x := by simp
        have IA1 := fun W => IA.out (x.toNat : Int) W (by omega) (by omega)
        rw [hback] at IA1
        have IA2 := Lib.hid IA1
        have hcon := Lib.contains_iff_indexByte [101, 69] x
        clear IA1 hxl hx hback hitr
        cases hin : ([101, 69] : List UInt8).contains x
        · rw [hin] at hcon
          have hlt : ¬ ((0 : Int) ≤ Lib.indexByte (⟨#[101, 69]⟩ : ByteArray).data.toList x) := of_decide_eq_false hcon.symm
          clear hcon
          go_wp2_with (fail)
          refine (IA2.out _).mono ?_
          rintro e w' ⟨rfl, hw⟩
          rw [hw]
          go_wp2_with (fail)
          go_roundg (s.size - (i + 1))
          case measure => omega
          case rel => exact ⟨i + 1, by omega, HW2.out _, HS2.out _, HH2.out _, HN.out.succ Hx.out hin⟩
        · rw [hin] at hcon
          have hge : (0 : Int) ≤ Lib.indexByte (⟨#[101, 69]⟩ : ByteArray).data.toList x := of_decide_eq_true hcon.symm
          clear hcon
          go_wp2_with (fail)
          refine (IA2.out _).mono ?_
          rintro e w' ⟨rfl, hw⟩
          rw [hw]
          go_wp2_with (fail)
          go_ret
          exact ⟨by rw [Lib.indexAny_hit HN.out Hx.out hin]; rfl, HW2.out _⟩
      · have hx2 : 128 ≤ (s[i]'hi).toNat := by rw [hx]; omega
        obtain ⟨sp1, sp2⟩ := decode_span s i hi hx2
        obtain ⟨dh1, dh2⟩ := decode_high s i hi hx2
        have dl := decode_le s i
        have hnx := fun ty => run_next_any_at (P := Tryz.prog) wr w.heap.size s i ty hitr hi
        have HN2 := Lib.hid (noany_skip HN.out sp1 sp2 (by decide))
        obtain ⟨r, hr⟩ : ∃ r, (Utf8.decode s i).1 = r := ⟨_, rfl⟩
        obtain ⟨k, hk⟩ : ∃ k, (Utf8.decode s i).2 = k := ⟨_, rfl⟩
        rw [hr, hk] at hnx
        rw [hr] at dh1 dl
        rw [hk] at dh2 HN2 sp1
        have IH2 := Lib.hid fun W => IH.out r dh1 dl W
        clear sp2 hr hk hx2 hxl hx hitr
        go_wp2_with (fail)
        refine (IH2.out _).mono ?_
        rintro e w' ⟨rfl, hb2⟩
        have HB2 := Lib.hid hb2
        clear hb2
        go_wp2_with (fail)
        go_roundg (s.size - (i + k))
        case measure => omega
        case rel =>
          have b2 := HB2.out
          rw [iterAt_size] at b2
          exact ⟨i + k, by omega, (HW2.out _).trans (b2.mono (Nat.le_of_lt HSL.out)), Nat.lt_of_lt_of_le HSL.out (by have := b2.size; rw [iterAt_size] at this; exact this), (b2.block _ HSL.out).trans (HH2.out _), HN2.out⟩
    · have hie : i = s.size := by omega
      subst hie
      have hnx := fun ty => run_next_end_at (P := Tryz.prog) wr w.heap.size s s.size ty hitr hi
      clear hitr
      go_wp2_with (fail)
      go_ret
      exact ⟨by rw [Lib.indexAny_none (by rw [← Lib.size_eq]; exact HN.out)]; rfl, HBL.out⟩

theorem iany_all (s : ByteArray) (w : World) (hs : s.size ≤ 1000) :
    Calls Tryz.prog 154 #[.string s, .string ⟨#[101, 69]⟩] w fun e w' => e = .returned (.int .i64 (Lib.indexAny s.data.toList [101, 69])) ∧ Below w.heap.size w w' := by
  by_cases h8 : s.size ≤ 8
  · exact iany_short s w h8
  · refine (Tryz.strings_IndexAny_long (zero_of_info (n := 256) (by kernel_rfl)).1 s ⟨#[101, 69]⟩ w (by decide) (by omega) (by omega) (by decide) (by
      intro j b hb
      have := List.mem_of_getElem? hb
      simp at this
      rcases this with rfl | rfl <;> decide)).mono ?_
    rintro e w' ⟨rfl, rfl⟩
    exact ⟨rfl, ((Below.refl _ w).alloc (Nat.le_refl _) _).alloc (by simp) _⟩

end LM
end Go.Proofs.YtpnjddfnlaonoaaGreatDoor

namespace Go.Proofs.YtpnjddfnlaonoaaGreatDoor
open Go Go.Shelf Go.RowKit Go.Sort Go.Lib
namespace LM
set_option linter.unusedVariables false

set_option maxRecDepth 100000 in
set_option maxHeartbeats 2000000 in
theorem cutE_all (s : ByteArray) (w : World) (hs : s.size ≤ 1000) :
    Calls Tryz.prog 91 #[.string s] w fun e w' => (∃ t1 t2, e = .returned (.tuple #[.string t1, .string t2, .bool (cutL isE s.data.toList).2.2]) ∧ t1.data.toList = (cutL isE s.data.toList).1 ∧ t2.data.toList = (cutL isE s.data.toList).2.1) ∧ Below w.heap.size w w' := by
  have hI := Lib.hid fun W => iany_all s W (by omega)
  have hc := cutL_any [101, 69] s.data.toList
  rcases hc with ⟨h1, h2⟩ | ⟨n, h1, h2, h3⟩
  · have I1 := hI.out
    rw [h1] at I1
    have II := Lib.hid I1
    have H2 := Lib.hid (show cutL isE s.data.toList = (s.data.toList, [], false) from h2)
    clear hI I1 h1 h2
    go_enter Tryz.func91, Tryz.ntmps91
    go_wp2_with (fail)
    refine (II.out _).mono ?_
    rintro e w' ⟨rfl, hb⟩
    have HB := Lib.hid hb
    clear hb
    go_wp2_with (fail)
    go_returns
    rw [H2.out]
    exact ⟨⟨s, ⟨#[]⟩, rfl, rfl, rfl⟩, HB.out⟩
  · have I1 := hI.out
    rw [h1] at I1
    have II := Lib.hid I1
    have H2 := Lib.hid (show cutL isE s.data.toList = (s.data.toList.take n, s.data.toList.drop (n + 1), true) from h3)
    have hn : n < s.size := by rw [Lib.size_eq]; exact h2
    clear hI I1 h1 h2 h3
    go_enter Tryz.func91, Tryz.ntmps91
    go_wp2_with (fail)
    refine (II.out _).mono ?_
    rintro e w' ⟨rfl, hb⟩
    have HB := Lib.hid hb
    clear hb
    go_wp2_with (fail)
    go_quiet (fail)
    go_wp2_with (fail)
    go_returns
    rw [H2.out]
    refine ⟨⟨_, _, rfl, ?_, ?_⟩, below_drewN HB.out _⟩
    · rw [Lib.extract_data]; simp
    · rw [Lib.extract_data]
      rw [List.take_of_length_le]
      rw [List.length_drop, ← Lib.size_eq]
      exact Nat.le_refl _


set_option maxRecDepth 100000 in
set_option maxHeartbeats 4000000 in
theorem isnum_all (s : ByteArray) (w : World) (hs : s.size ≤ 1000) :
    Calls Tryz.prog 43 #[.string s] w fun e w' => e = .returned (.bool (numL s.data.toList)) ∧ Below w.heap.size w w' := by
  obtain ⟨R, hR⟩ : ∃ R, numL s.data.toList = R := ⟨_, rfl⟩
  rw [hR]
  have HR := Lib.hid hR
  have U1 := Lib.hid fun W => unsigned_any s W (by omega)
  clear hR
  go_enter Tryz.func43, Tryz.ntmps43
  go_wp2_with (fail)
  refine (U1.out _).mono ?_
  rintro e w1 ⟨⟨t, rfl, ht, hts⟩, k1, rfl⟩
  have CE := Lib.hid fun W => cutE_all t W (by omega)
  have HT := Lib.hid ht
  clear ht
  go_wp2_with (fail)
  refine (CE.out _).mono ?_
  rintro e w2 ⟨⟨t1, t2, rfl, h1, h2⟩, hb2⟩
  have HB2 := Lib.hid ((below_drewN (Below.refl _ w) k1).trans hb2)
  have hl := cutL_len isE t.data.toList
  rw [← h1, ← h2, ← Lib.size_eq, ← Lib.size_eq, ← Lib.size_eq] at hl
  obtain ⟨hl1, hl2⟩ := hl
  rw [HT.out] at h1 h2
  have H1 := Lib.hid h1
  have H2 := Lib.hid h2
  have SC := Lib.hid fun W => scut_any t1 W (by omega)
  rw [HT.out]
  obtain ⟨q1, hq1⟩ : ∃ q, (cutL isE (unsigB s.data.toList)).2.2 = q := ⟨_, rfl⟩
  rw [hq1]
  have HQ1 := Lib.hid hq1
  clear hb2 h1 h2 hq1
  go_wp2_with (fail)
  refine (SC.out _).mono ?_
  rintro e w3 ⟨⟨t3, t4, rfl, h3, h4⟩, hb3⟩
  have HB3 := Lib.hid (HB2.out.trans (hb3.mono HB2.out.size))
  have hl3 := cutL_len isDot t1.data.toList
  rw [← h3, ← h4, ← Lib.size_eq, ← Lib.size_eq, ← Lib.size_eq] at hl3
  obtain ⟨hl3, hl4⟩ := hl3
  rw [H1.out] at h3 h4 ⊢
  have D3 := Lib.hid fun W => areDigits_any t3 W (by omega)
  have D4 := Lib.hid fun W => areDigits_any t4 W (by omega)
  have U2 := Lib.hid fun W => unsigned_any t2 W (by omega)
  rw [h3] at D3
  rw [h4] at D4
  rw [H2.out] at U2
  obtain ⟨q2, hq2⟩ : ∃ q, (cutL isDot (cutL isE (unsigB s.data.toList)).1).2.2 = q := ⟨_, rfl⟩
  obtain ⟨v3, hv3⟩ : ∃ q, digB (cutL isDot (cutL isE (unsigB s.data.toList)).1).1 = q := ⟨_, rfl⟩
  obtain ⟨v4, hv4⟩ : ∃ q, digB (cutL isDot (cutL isE (unsigB s.data.toList)).1).2.1 = q := ⟨_, rfl⟩
  have hz3 : (cutL isDot (cutL isE (unsigB s.data.toList)).1).1.length = t3.size := by rw [← h3, Lib.size_eq]
  have hz4 : (cutL isDot (cutL isE (unsigB s.data.toList)).1).2.1.length = t4.size := by rw [← h4, Lib.size_eq]
  rw [hq2]
  rw [hv3] at D3
  rw [hv4] at D4
  obtain ⟨ex, hex⟩ : ∃ e, unsigB (cutL isE (unsigB s.data.toList)).2.1 = e := ⟨_, rfl⟩
  rw [hex] at U2
  have HNL : Hid (numL s.data.toList = ((q2 || q1) && !((t3.size + t4.size) == 0) && v3 && v4 && (!q1 || (decide (1 ≤ ex.length) && decide (ex.length ≤ 4) && digB ex)))) := Lib.hid (by
    unfold numL
    simp only [HQ1.out, hq2, hv3, hv4, hz3, hz4, hex])
  rw [HR.out] at HNL
  clear hb3 h3 h4 hq2 hv3 hv4 hz3 hz4 hex H1 H2 HT HQ1 CE SC U1 HR
  by_cases hq : q1 = false ∧ q2 = false
  · obtain ⟨rfl, rfl⟩ := hq
    go_wp2_with (fail)
    go_ret
    exact ⟨by rw [HNL.out]; rfl, HB3.out⟩
  · have hqq : (q2 || q1) = true := by cases q1 <;> cases q2 <;> simp at hq ⊢
    by_cases hz : t3.size + t4.size = 0
    · have dz : ((t3.size : Int) + (t4.size : Int) == 0) = true := by simpa using (by omega : (t3.size : Int) + (t4.size : Int) = 0)
      have HE := Lib.hid (show R = false by rw [HNL.out, hz]; cases q1 <;> cases q2 <;> rfl)
      clear hz
      cases q1 <;> cases q2
      · exact absurd ⟨rfl, rfl⟩ hq
      all_goals
        clear hq hqq
        go_wp2_with (fail)
        go_ret
        exact ⟨by rw [HE.out]; rfl, HB3.out⟩
    · have dz : ((t3.size : Int) + (t4.size : Int) == 0) = false := by simpa using (by omega : ¬ (t3.size : Int) + (t4.size : Int) = 0)
      have dzn : ((t3.size + t4.size) == 0) = false := by simpa using hz
      rw [dzn] at HNL
      clear hz dzn
      cases v3
      · have HE := Lib.hid (show R = false by rw [HNL.out]; cases q1 <;> cases q2 <;> rfl)
        cases q1 <;> cases q2
        · exact absurd ⟨rfl, rfl⟩ hq
        all_goals
          clear hq hqq
          go_wp2_with (fail)
          refine (D3.out _).mono ?_
          rintro e w4 ⟨rfl, rfl⟩
          go_wp2_with (fail)
          go_ret
          exact ⟨by rw [HE.out]; rfl, HB3.out⟩
      · cases v4
        · have HE := Lib.hid (show R = false by rw [HNL.out]; cases q1 <;> cases q2 <;> rfl)
          cases q1 <;> cases q2
          · exact absurd ⟨rfl, rfl⟩ hq
          all_goals
            clear hq hqq
            go_wp2_with (fail)
            refine (D3.out _).mono ?_
            rintro e w4 ⟨rfl, rfl⟩
            go_wp2_with (fail)
            refine (D4.out _).mono ?_
            rintro e w4 ⟨rfl, rfl⟩
            go_wp2_with (fail)
            go_ret
            exact ⟨by rw [HE.out]; rfl, HB3.out⟩
        · cases q1
          · have HE := Lib.hid (show R = true by rw [HNL.out, hqq]; rfl)
            cases q2
            · exact absurd ⟨rfl, rfl⟩ hq
            clear hq hqq
            go_wp2_with (fail)
            refine (D3.out _).mono ?_
            rintro e w4 ⟨rfl, rfl⟩
            go_wp2_with (fail)
            refine (D4.out _).mono ?_
            rintro e w4 ⟨rfl, rfl⟩
            go_wp2_with (fail)
            go_ret
            exact ⟨by rw [HE.out]; rfl, HB3.out⟩
          · have HE := Lib.hid (show R = (decide (1 ≤ ex.length) && decide (ex.length ≤ 4) && digB ex) by rw [HNL.out, hqq]; simp)
            clear hq hqq HNL
            cases q2
            all_goals
              go_wp2_with (fail)
              refine (D3.out _).mono ?_
              rintro e w4 ⟨rfl, rfl⟩
              go_wp2_with (fail)
              refine (D4.out _).mono ?_
              rintro e w4 ⟨rfl, rfl⟩
              go_wp2_with (fail)
              refine (U2.out _).mono ?_
              rintro e w4 ⟨⟨t5, rfl, h5, hl5⟩, k5, rfl⟩
              have D5 := Lib.hid fun W => areDigits_any t5 W (by omega)
              rw [h5] at D5
              have hz5 : ex.length = t5.size := by rw [← h5, Lib.size_eq]
              have HE2 := Lib.hid (show R = (decide (1 ≤ t5.size) && decide (t5.size ≤ 4) && digB ex) by rw [HE.out, hz5])
              obtain ⟨v5, hv5⟩ : ∃ q, digB ex = q := ⟨_, rfl⟩
              rw [hv5] at D5 HE2
              clear h5 hz5 hv5
              by_cases h15 : 1 ≤ t5.size
              · by_cases h45 : t5.size ≤ 4
                · have f1 : decide (1 ≤ t5.size) = true := decide_eq_true h15
                  have f2 : decide (t5.size ≤ 4) = true := decide_eq_true h45
                  have HE3 := Lib.hid (show R = v5 by rw [HE2.out, f1, f2]; rfl)
                  go_wp2_with (refine (D5.out _).mono ?_; rintro e w4 ⟨rfl, rfl⟩)
                  go_ret
                  exact ⟨by rw [HE3.out]; rfl, below_drewN HB3.out _⟩
                · have f1 : decide (1 ≤ t5.size) = true := decide_eq_true h15
                  have f2 : decide (t5.size ≤ 4) = false := decide_eq_false h45
                  have HE3 := Lib.hid (show R = false by rw [HE2.out, f1, f2]; rfl)
                  go_wp2_with (fail)
                  go_ret
                  exact ⟨by rw [HE3.out]; rfl, below_drewN HB3.out _⟩
              · have f1 : decide (1 ≤ t5.size) = false := decide_eq_false h15
                have HE3 := Lib.hid (show R = false by rw [HE2.out, f1]; rfl)
                go_wp2_with (fail)
                go_ret
                exact ⟨by rw [HE3.out]; rfl, below_drewN HB3.out _⟩


set_option maxRecDepth 100000 in
set_option maxHeartbeats 4000000 in
theorem fparse_all (s : ByteArray) (f : Nat) (hs : s.size ≤ 1000) (hf : ReadsF s f) (w : World) (hv : FV w) (hx : FX w) (hr : RngCell w) :
    Calls Tryz.prog 9 #[.string s] w fun e w' => e = .returned (.tuple #[.float .f64 (parV s.data.toList f).1, .int .i64 (parV s.data.toList f).2]) ∧ Below w.heap.size w w' := by
  have I1 := Lib.hid inf_up
  have I2 := Lib.hid inf_down
  have hl := Go.ByteArray.toList_eq s
  have hz : s.data.toList.length = s.size := by rw [Lib.size_eq]
  obtain ⟨V, hV⟩ : ∃ V, parV s.data.toList f = V := ⟨_, rfl⟩
  rw [hV]
  by_cases h1 : s.data.toList = nmNan
  · have HV := Lib.hid (show V = (9221120237041090561, 0) by rw [← hV]; unfold parV; rw [if_pos h1])
    have c1 : (s.toList == [43, 110, 97, 110, 46, 48]) = true := by rw [hl, h1]; rfl
    have f1 : ∀ W, (callFunc 11 #[.int .u64 9221120237041090561]).run Tryz.prog W = .ok (.value (.float .f64 9221120237041090561)) W := fun W => run_mfrom 9221120237041090561 W
    clear hV hf hl hz h1 hv hx hr
    go_enter Tryz.func9, Tryz.ntmps9
    go_wp2_with (fail)
    go_returns
    rw [HV.out]
    exact ⟨rfl, Below.refl _ _⟩
  · have c1 : (s.toList == [43, 110, 97, 110, 46, 48]) = false := by rw [hl]; simpa using h1
    by_cases h2 : s.data.toList = nmInf
    · have HV := Lib.hid (show V = (9218868437227405312, 0) by rw [← hV]; unfold parV; rw [if_neg h1, if_pos h2])
      have c2 : (s.toList == [43, 105, 110, 102, 46, 48]) = true := by rw [hl, h2]; rfl
      clear hV hf hl hz h1 h2 hv hx hr
      go_enter Tryz.func9, Tryz.ntmps9
      go_wp2_with (fail)
      refine (I1.out _).mono ?_
      rintro e w' ⟨rfl, rfl⟩
      go_wp2_with (fail)
      go_returns
      rw [HV.out]
      exact ⟨rfl, Below.refl _ _⟩
    · have c2 : (s.toList == [43, 105, 110, 102, 46, 48]) = false := by rw [hl]; simpa using h2
      by_cases h3 : s.data.toList = nmMin
      · have HV := Lib.hid (show V = (18442240474082181120, 0) by rw [← hV]; unfold parV; rw [if_neg h1, if_neg h2, if_pos h3])
        have c3 : (s.toList == [45, 105, 110, 102, 46, 48]) = true := by rw [hl, h3]; rfl
        clear hV hf hl hz h1 h2 h3 hv hx hr
        go_enter Tryz.func9, Tryz.ntmps9
        go_wp2_with (fail)
        refine (I2.out _).mono ?_
        rintro e w' ⟨rfl, rfl⟩
        go_wp2_with (fail)
        go_returns
        rw [HV.out]
        exact ⟨rfl, Below.refl _ _⟩
      · have c3 : (s.toList == [45, 105, 110, 102, 46, 48]) = false := by rw [hl]; simpa using h3
        have HV0 := Lib.hid (show V = if 700 < s.size ∨ numL s.data.toList = false then (0, 31) else (f, 0) by rw [← hV]; unfold parV; rw [if_neg h1, if_neg h2, if_neg h3, hz])
        have N1 := Lib.hid (isnum_all s w hs)
        by_cases h7 : 700 < s.size
        · have HV := Lib.hid (show V = (0, 31) by rw [HV0.out, if_pos (.inl h7)])
          have d7 : decide (700 < s.size) = true := decide_eq_true h7
          clear hV hf hl hz h1 h2 h3 hv hx hr HV0
          go_enter Tryz.func9, Tryz.ntmps9
          go_wp2_with (fail)
          go_returns
          rw [HV.out]
          exact ⟨rfl, Below.refl _ _⟩
        · have d7 : decide (700 < s.size) = false := decide_eq_false h7
          obtain ⟨q, hq⟩ : ∃ q, numL s.data.toList = q := ⟨_, rfl⟩
          rw [hq] at N1 HV0
          have PF := Lib.hid fun (h : q = true) => hf (hq.trans h) (by omega)
          have FVH := Lib.hid hv
          have FXH := Lib.hid hx
          have RH := Lib.hid hr
          cases q
          · have HV := Lib.hid (show V = (0, 31) by rw [HV0.out, if_pos (.inr rfl)])
            clear hV hf hl hz h1 h2 h3 hv hx hr HV0 hq
            go_enter Tryz.func9, Tryz.ntmps9
            go_wp2_with (fail)
            refine N1.out.mono ?_
            rintro e w' ⟨rfl, hb⟩
            have HB := Lib.hid hb
            clear hb
            go_wp2_with (fail)
            go_returns
            rw [HV.out]
            exact ⟨rfl, HB.out⟩
          · have HV := Lib.hid (show V = (f, 0) by rw [HV0.out, if_neg (by simp; omega)])
            clear hV hf hl hz h1 h2 h3 hv hx hr HV0 hq
            go_enter Tryz.func9, Tryz.ntmps9
            go_wp2_with (fail)
            refine N1.out.mono ?_
            rintro e w' ⟨rfl, hb⟩
            have HB := Lib.hid hb
            clear hb
            go_wp2_with (fail)
            refine (PF.out (by trivial) _ (FVH.out.below HB.out) (FXH.out.below HB.out) (RH.out.below HB.out)).mono ?_
            rintro e w2 ⟨⟨er, rfl⟩, hb2⟩
            have HB2 := Lib.hid (HB.out.trans (hb2.mono HB.out.size))
            clear hb2
            go_wp2_with (fail)
            go_returns
            rw [HV.out]
            exact ⟨rfl, HB2.out⟩


end LM
end Go.Proofs.YtpnjddfnlaonoaaGreatDoor
