/- Walks of the library: strings.IndexAny of "eE" in any short text, whatever its bytes; package flo: cutAtE of any text. -/
import Derived.Test.YtpnjddfnlaonoaaGreatDoorK23
import Derived.Test.YtpnjddfnlaonoaaGreatDoorK42
import Derived.Test.YtpnjddfnlaonoaaGreatDoorK04
import Derived.Lib.OthersKept
import Derived.Test.YtpnjddfnlaonoaaGreatDoorK43
import Derived.Laws.RangeAny
import Derived.Laws.Cover1
import Derived.Laws.Runes
namespace Go.Proofs.YtpnjddfnlaonoaaGreatDoor
open Go Go.Shelf Go.RowKit Go.Sort Go.Lib
namespace LM
set_option linter.unusedVariables false

theorem get_of {s : ByteArray} {i : Nat} (h : i < s.size) : s.get! i = s[i]'h := by
  have := get_at s i h
  rwa [Nat.add_zero] at this
/-- a sign of more than one byte, or a byte that is none: no byte of it is below 128 -/
theorem decode_span (s : ByteArray) (pos : Nat) (h : pos < s.size) (ha : 128 ≤ (s[pos]'h).toNat) : pos + (Utf8.decode s pos).2 ≤ s.size ∧ ∀ j (hj : pos + j < s.size), j < (Utf8.decode s pos).2 → 128 ≤ (s[pos + j]'hj).toNat := by
  have hn : ¬ (s[pos]'h).toNat < 128 := by omega
  have h0 : ∀ j (hj : pos + j < s.size), j = 0 → 128 ≤ (s[pos + j]'hj).toNat := fun j hj e => by subst e; exact ha
  have hc : ∀ k, (decide (pos + k < s.size) && (s.get! (pos + k)).toNat / 64 == 2) = true → pos + k < s.size ∧ ∀ hk : pos + k < s.size, 128 ≤ (s[pos + k]'hk).toNat := fun k hk => by
    rw [Bool.and_eq_true, decide_eq_true_eq, beq_iff_eq] at hk
    refine ⟨hk.1, fun hh => ?_⟩
    have e := get_of hh
    have h2 := hk.2
    rw [e] at h2
    omega
  have one : pos + 1 ≤ s.size ∧ ∀ j (hj : pos + j < s.size), j < 1 → 128 ≤ (s[pos + j]'hj).toNat := ⟨h, fun j hj hl => h0 j hj (by omega)⟩
  simp only [Utf8.decode, get_at s pos h, hn, if_false]
  split
  · rename_i hk
    rw [Bool.and_eq_true] at hk
    have k1 := hc 1 hk.2
    split
    · refine ⟨k1.1, fun j hj hl => ?_⟩
      have : j = 0 ∨ j = 1 := by dsimp only at hl; omega
      rcases this with rfl | rfl
      · exact ha
      · exact k1.2 hj
    · exact one
  · split
    · rename_i hk
      rw [Bool.and_eq_true, Bool.and_eq_true] at hk
      have k1 := hc 1 hk.1.2
      have k2 := hc 2 hk.2
      split
      · refine ⟨k2.1, fun j hj hl => ?_⟩
        have : j = 0 ∨ j = 1 ∨ j = 2 := by dsimp only at hl; omega
        rcases this with rfl | rfl | rfl
        · exact ha
        · exact k1.2 hj
        · exact k2.2 hj
      · exact one
    · split
      · rename_i hk
        rw [Bool.and_eq_true, Bool.and_eq_true, Bool.and_eq_true] at hk
        have k1 := hc 1 hk.1.1.2
        have k2 := hc 2 hk.1.2
        have k3 := hc 3 hk.2
        split
        · refine ⟨k3.1, fun j hj hl => ?_⟩
          have : j = 0 ∨ j = 1 ∨ j = 2 ∨ j = 3 := by dsimp only at hl; omega
          rcases this with rfl | rfl | rfl | rfl
          · exact ha
          · exact k1.2 hj
          · exact k2.2 hj
          · exact k3.2 hj
        · exact one
      · exact one
theorem encode_high (r : Nat) (h : 128 ≤ r) : ∃ pre x, (Utf8.encode (r : Int)).data.toList = pre ++ [x] ∧ 1 ≤ pre.length ∧ pre.length ≤ 3 ∧ 128 ≤ x.toNat := by
  unfold Utf8.encode
  obtain ⟨c, hc⟩ : ∃ c, (if Utf8.valid (r : Int) then (r : Int).toNat else Utf8.runeError) = c := ⟨_, rfl⟩
  have h1 : ¬ c < 128 := by
    rw [← hc]
    split
    · omega
    · decide
  have hm : ∀ n : Nat, 128 ≤ (UInt8.ofNat (128 + n % 64)).toNat := fun n => by
    have : (UInt8.ofNat (128 + n % 64)).toNat = (128 + n % 64) % 256 := by simp
    rw [this]; omega
  simp only [hc]
  rw [if_neg h1]
  have hx := hm c
  generalize UInt8.ofNat (128 + c % 64) = x at hx ⊢
  split
  · exact ⟨[_], x, rfl, by simp, by simp, hx⟩
  · split
    · exact ⟨[_, _], x, rfl, by simp, by simp, hx⟩
    · exact ⟨[_, _, _], x, rfl, by simp, by simp, hx⟩

theorem below_iterS (W : World) (s : ByteArray) (i : Nat) : Below W.heap.size W (W.iter s i) := by
  unfold World.iter
  exact (Below.refl _ W).alloc (Nat.le_refl _) _

set_option maxRecDepth 100000 in
set_option maxHeartbeats 4000000 in
theorem irune_high (r : Nat) (hr : 128 ≤ r) (hr2 : r ≤ 2147483647) (w : World) :
    Calls Tryz.prog 208 #[.string ⟨#[101, 69]⟩, .int .i32 (r : Int)] w fun e w' => e = .returned (.int .i64 (-1)) ∧ Below w.heap.size w w' := by
  have d1 : decide ((r : Int) < 128) = false := decide_eq_false (by omega)
  by_cases h1 : r = 65533
  · subst h1
    go_enter Tryz.func208, Tryz.ntmps208
    have HBI := Lib.hid fun i => below_iterS w ⟨#[101, 69]⟩ i
    have n0 : ∀ ty, (Instr.next (.pointer (some ⟨w.heap.size, 0, none⟩)) true ty).run Tryz.prog (w.iter ⟨#[101, 69]⟩ 0) = .ok (.tuple #[.bool true, .int .i64 ((0 : Nat) : Int), .int .i32 ((101 : Nat) : Int)]) (w.iter ⟨#[101, 69]⟩ 1) := fun ty => run_next_ascii (P := Tryz.prog) w ⟨#[101, 69]⟩ 0 ty (by decide) (by decide)
    have n1 : ∀ ty, (Instr.next (.pointer (some ⟨w.heap.size, 0, none⟩)) true ty).run Tryz.prog (w.iter ⟨#[101, 69]⟩ 1) = .ok (.tuple #[.bool true, .int .i64 ((1 : Nat) : Int), .int .i32 ((69 : Nat) : Int)]) (w.iter ⟨#[101, 69]⟩ 2) := fun ty => run_next_ascii (P := Tryz.prog) w ⟨#[101, 69]⟩ 1 ty (by decide) (by decide)
    have n2 := fun ty => run_next_end (P := Tryz.prog) w ⟨#[101, 69]⟩ 2 ty (by decide)
    have N0 := Lib.hid n0
    have N1 := Lib.hid n1
    have N2 := Lib.hid n2
    clear n0 n1 n2
    go_wp2_with (fail)
    go_loopg [5, 6] 2 (fun g _ _ wx => ∃ i : Nat, i + g = 2 ∧ wx = w.iter ⟨#[101, 69]⟩ i)
    case atStart => exact ⟨0, rfl, rfl⟩
    case round =>
      obtain ⟨i, hig, rfl⟩ := hrel
      have hi3 : i = 0 ∨ i = 1 ∨ i = 2 := by omega
      rcases hi3 with rfl | rfl | rfl
      · have hnx := N0.out
        go_wp2_with (fail)
        go_roundg 1
        case measure => omega
        case rel => exact ⟨1, rfl, rfl⟩
      · have hnx := N1.out
        go_wp2_with (fail)
        go_roundg 0
        case measure => omega
        case rel => exact ⟨2, rfl, rfl⟩
      · have hnx := N2.out
        go_wp2_with (fail)
        go_ret
        exact ⟨rfl, HBI.out 2⟩
  · have d2 : ((r : Int) == 65533) = false := by rw [beq_eq_false_iff_ne]; omega
    have V1 := Lib.hid fun W => Tryz.utf8_ValidRune (r : Int) W
    obtain ⟨v, hv⟩ : ∃ v, Lib.validRune (r : Int) = v := ⟨_, rfl⟩
    rw [hv] at V1
    clear hv
    cases v
    · go_enter Tryz.func208, Tryz.ntmps208
      go_wp2_with (fail)
      refine (V1.out _).mono ?_
      rintro e w' ⟨rfl, rfl⟩
      go_wp2_with (fail)
      go_ret
      exact ⟨rfl, Below.refl _ _⟩
    · have hcv : ∀ W, (convert 21 9 (.int .i32 (r : Int))).run Tryz.prog W = .ok (.string (Utf8.encode (r : Int))) W := fun W => run_convert_int_string W _ _ _ _ (by kernel_rfl) (by kernel_rfl)
      obtain ⟨pre, x, he, hp1, hp3, hx⟩ := encode_high r hr
      obtain ⟨E, hE⟩ : ∃ E, Utf8.encode (r : Int) = E := ⟨_, rfl⟩
      rw [hE] at he hcv
      clear hE
      obtain ⟨n, hn⟩ : ∃ n, pre.length = n := ⟨_, rfl⟩
      have hsz : E.size = n + 1 := by rw [Lib.size_eq, he]; simp [hn]
      have hei : ((E.size : Nat) : Int) - 1 = (n : Int) := by omega
      rw [hn] at hp1 hp3
      by_cases hn1 : n = 1
      · subst hn1
        have hby : ∀ h : 1 < E.size, (E[1]'h).toNat = x.toNat := fun h => by
          have h2 : E.data.toList[1]? = some x := by rw [he, List.getElem?_append_right (by omega), hn]; rfl
          have h3 := Lib.data_getElem? E 1 h
          exact congrArg UInt8.toNat (Option.some.inj (h2.symm.trans h3)).symm
        have d3 : ((69 : Int) == (x.toNat : Int)) = false := by rw [beq_eq_false_iff_ne]; omega
        have hlt : 1 < E.size := by omega
        have h69 : ∀ h : 1 < (⟨#[101, 69]⟩ : ByteArray).size, ((⟨#[101, 69]⟩ : ByteArray)[1]'h).toNat = 69 := fun _ => rfl
        have d4 : ((69 : Int) != (x.toNat : Int)) = true := by rw [bne_iff_ne]; omega
        have IB : Hid (∀ t : ByteArray, t.data.toList = [] → ∀ W, Calls Tryz.prog 122 #[.string t, .int .u8 (x.toNat : Int)] W fun e w' => e = .returned (.int .i64 (-1)) ∧ w' = W) := Lib.hid fun t ht W => by
          have h := Tryz.strings_IndexByte t (x.toNat : Int) W
          rw [ht] at h
          exact h
        clear he hn hsz
        go_enter Tryz.func208, Tryz.ntmps208
        go_wp2_with (fail)
        refine (V1.out _).mono ?_
        rintro e w' ⟨rfl, rfl⟩
        go_wp2_with (fail)
        refine scope_ahead' (fun _ _ _ => False) (fun _ _ _ h => h.elim) ?_ (fun _ _ _ h => h.elim)
        go_wp2_with (fail)
        go_loopg [9] 0 (fun g i wr => wr = w' ∧ i = .int .i64 (1 : Int))
        case atStart => exact ⟨rfl, rfl⟩
        case round =>
          obtain ⟨rfl, rfl⟩ := hrel
          go_wp2_with (fail)
          refine scope_ahead' (fun _ _ _ => False) (fun _ _ _ h => h.elim) ?_ (fun _ _ _ h => h.elim)
          go_wp2_with (fail)
          go_quiet (fail)
          go_wp2_with (fail)
          go_region_with (go_at_call 122; refine (IB.out _ (by rfl) _).mono ?_; rintro e w2 ⟨rfl, rfl⟩)
          all_goals
            go_wp2_with (fail)
            rw [ExJ_ret]
            simp only [Exit.inBlock, Exit.then]
            change ExJ _ _ Exit.ret _ _
            rw [ExJ_ret]
            go_ret
            exact ⟨rfl, below_drewN (Below.refl _ _) _⟩
      · have d3 : decide ((n : Int) < 2) = false := decide_eq_false (by omega)
        clear he hn hsz hx
        go_enter Tryz.func208, Tryz.ntmps208
        go_wp2_with (fail)
        refine (V1.out _).mono ?_
        rintro e w' ⟨rfl, rfl⟩
        go_wp2_with (fail)
        refine scope_ahead' (fun _ _ _ => False) (fun _ _ _ h => h.elim) ?_ (fun _ _ _ h => h.elim)
        go_wp2_with (fail)
        go_loopg [9] 0 (fun g i wr => wr = w' ∧ i = .int .i64 (n : Int))
        case atStart => exact ⟨rfl, rfl⟩
        case round =>
          obtain ⟨rfl, rfl⟩ := hrel
          go_wp2_with (fail)
          rw [ExJ_ret]
          go_ret
          exact ⟨rfl, Below.refl _ _⟩

theorem noany_skip {s : ByteArray} {chars : List UInt8} {i k : Nat} (h : Lib.NoAny s.data.toList chars i) (hk : i + k ≤ s.size) (hb : ∀ j (hj : i + j < s.size), j < k → 128 ≤ (s[i + j]'hj).toNat) (hc : ∀ c ∈ chars, c.toNat < 128) : Lib.NoAny s.data.toList chars (i + k) := by
  induction k with
  | zero => exact h
  | succ k ih =>
    have h1 := ih (by omega) fun j hj hl => hb j hj (by omega)
    have h2 := hb k (by omega) (by omega)
    refine h1.succ (x := s[i + k]'(by omega)) (Lib.data_getElem? s (i + k) (by omega)) ?_
    rw [List.contains_eq_any_beq, List.any_eq_false]
    intro c hm he
    have h3 := hc c hm
    have h4 : s[i + k]'(by omega) = c := by simpa using he
    rw [h4] at h2
    omega

theorem use_set (n : Nat) (w : World) (hn : n ≤ 8) : Calls Tryz.prog 209 #[.int .i64 (n : Int)] w fun e w' => e = .returned (.bool false) ∧ w = w' := by
  have h8z : decide ((8 : Int) < (n : Int)) = false := decide_eq_false (by omega)
  go_enter Tryz.func209, Tryz.ntmps209
  go_wp2_with (fail)
  go_ret
  exact ⟨rfl, rfl⟩

set_option maxRecDepth 1000000 in
set_option maxHeartbeats 4000000 in
theorem iany_short (s : ByteArray) (w : World) (h8 : s.size ≤ 8) :
    Calls Tryz.prog 154 #[.string s, .string ⟨#[101, 69]⟩] w fun e w' => e = .returned (.int .i64 (Lib.indexAny s.data.toList [101, 69])) ∧ Below w.heap.size w w' := by
  have US := Lib.hid fun W => use_set s.size W h8
  have IH := Lib.hid irune_high
  have IA := Lib.hid fun (r : Int) W => Tryz.strings_IndexRune_ascii ⟨#[101, 69]⟩ r W
  have hit0 := World.iter_heap w s 0
  have hbi0 := below_iter w s 0
  have hsz0 : w.heap.size < (w.iter s 0).heap.size := by unfold World.iter; simp
  have HIT := Lib.hid hit0
  have HBI := Lib.hid hbi0
  have HSZ := Lib.hid hsz0
  clear hit0 hbi0 hsz0
  go_enter Tryz.func154, Tryz.ntmps154
  go_wp2_with (fail)
  refine (US.out _).mono ?_
  rintro e w' ⟨rfl, rfl⟩
  go_wp2_with (fail)
  go_loopg [9, 10] s.size (fun g _ _ wx => ∃ i : Nat, i + g = s.size ∧ Below w.heap.size w wx ∧ w.heap.size < wx.heap.size ∧ wx.heap[w.heap.size]? = some (.stringIter s i) ∧ Lib.NoAny s.data.toList [101, 69] i)
  case atStart => exact ⟨0, by omega, HBI.out, HSZ.out, HIT.out, Lib.NoAny.zero _ _⟩
  case round =>
    obtain ⟨i, hig, hbl, hsl, hitr, hno⟩ := hrel
    have HN := Lib.hid hno
    have HBL := Lib.hid hbl
    have HSL := Lib.hid hsl
    have HITR := Lib.hid hitr
    clear hno hbl hsl
    by_cases hi : i < s.size
    · obtain ⟨x, hx⟩ : ∃ x : UInt8, s[i]'hi = x := ⟨_, rfl⟩
      have hxl : s.data.toList[i]? = some x := by rw [← hx]; exact Lib.data_getElem? s i hi
      have hw2 := fun k => below_iterAt HBL.out (k := w.heap.size) (Nat.le_refl _) s k
      have hs2 : ∀ k, w.heap.size < (wr.iterAt w.heap.size s k).heap.size := fun k => by rw [iterAt_size]; exact HSL.out
      have hh2 := fun k => iterAt_heap wr w.heap.size s i k hitr
      have HW2 := Lib.hid hw2
      have HS2 := Lib.hid hs2
      have HH2 := Lib.hid hh2
      clear hw2 hs2 hh2
      by_cases hx128 : x.toNat < 128
      · have hnx := fun ty => run_next_ascii_at (P := Tryz.prog) wr w.heap.size s i ty hitr hi (by rw [hx]; exact hx128)
        rw [hx] at hnx
        have Hx := Lib.hid hxl
        have hback : ((x.toNat : Int)).toNat.toUInt8 = x := by simp
        have IA1 := fun W => IA.out (x.toNat : Int) W (by omega) (by omega)
        rw [hback] at IA1
        have IA2 := Lib.hid IA1
        have hcon := Lib.contains_iff_indexByte [101, 69] x
        clear IA1 hxl hx hback hitr
        cases hin : ([101, 69] : List UInt8).contains x
        · rw [hin] at hcon
          have hlt : ¬ ((0 : Int) ≤ Lib.indexByte (⟨#[101, 69]⟩ : ByteArray).data.toList x) := of_decide_eq_false hcon.symm
          clear hcon
          go_wp2_with (fail)
          refine (IA2.out _).mono ?_
          rintro e w' ⟨rfl, hw⟩
          rw [hw]
          go_wp2_with (fail)
          go_roundg (s.size - (i + 1))
          case measure => omega
          case rel => exact ⟨i + 1, by omega, HW2.out _, HS2.out _, HH2.out _, HN.out.succ Hx.out hin⟩
        · rw [hin] at hcon
          have hge : (0 : Int) ≤ Lib.indexByte (⟨#[101, 69]⟩ : ByteArray).data.toList x := of_decide_eq_true hcon.symm
          clear hcon
          go_wp2_with (fail)
          refine (IA2.out _).mono ?_
          rintro e w' ⟨rfl, hw⟩
          rw [hw]
          go_wp2_with (fail)
          go_ret
          exact ⟨by rw [Lib.indexAny_hit HN.out Hx.out hin]; rfl, HW2.out _⟩
      · have hx2 : 128 ≤ (s[i]'hi).toNat := by rw [hx]; omega
        obtain ⟨sp1, sp2⟩ := decode_span s i hi hx2
        obtain ⟨dh1, dh2⟩ := decode_high s i hi hx2
        have dl := decode_le s i
        have hnx := fun ty => run_next_any_at (P := Tryz.prog) wr w.heap.size s i ty hitr hi
        have HN2 := Lib.hid (noany_skip HN.out sp1 sp2 (by decide))
        obtain ⟨r, hr⟩ : ∃ r, (Utf8.decode s i).1 = r := ⟨_, rfl⟩
        obtain ⟨k, hk⟩ : ∃ k, (Utf8.decode s i).2 = k := ⟨_, rfl⟩
        rw [hr, hk] at hnx
        rw [hr] at dh1 dl
        rw [hk] at dh2 HN2 sp1
        have IH2 := Lib.hid fun W => IH.out r dh1 dl W
        clear sp2 hr hk hx2 hxl hx hitr
        go_wp2_with (fail)
        refine (IH2.out _).mono ?_
        rintro e w' ⟨rfl, hb2⟩
        have HB2 := Lib.hid hb2
        clear hb2
        go_wp2_with (fail)
        go_roundg (s.size - (i + k))
        case measure => omega
        case rel =>
          have b2 := HB2.out
          rw [iterAt_size] at b2
          exact ⟨i + k, by omega, (HW2.out _).trans (b2.mono (Nat.le_of_lt HSL.out)), Nat.lt_of_lt_of_le HSL.out (by have := b2.size; rw [iterAt_size] at this; exact this), (b2.block _ HSL.out).trans (HH2.out _), HN2.out⟩
    · have hie : i = s.size := by omega
      subst hie
      have hnx := fun ty => run_next_end_at (P := Tryz.prog) wr w.heap.size s s.size ty hitr hi
      clear hitr
      go_wp2_with (fail)
      go_ret
      exact ⟨by rw [Lib.indexAny_none (by rw [← Lib.size_eq]; exact HN.out)]; rfl, HBL.out⟩

theorem iany_all (s : ByteArray) (w : World) (hs : s.size ≤ 1000) :
    Calls Tryz.prog 154 #[.string s, .string ⟨#[101, 69]⟩] w fun e w' => e = .returned (.int .i64 (Lib.indexAny s.data.toList [101, 69])) ∧ Below w.heap.size w w' := by
  by_cases h8 : s.size ≤ 8
  · exact iany_short s w h8
  · refine (Tryz.strings_IndexAny_long (zero_of_info (n := 256) (by kernel_rfl)).1 s ⟨#[101, 69]⟩ w (by decide) (by omega) (by omega) (by decide) (by
      intro j b hb
      have := List.mem_of_getElem? hb
      simp at this
      rcases this with rfl | rfl <;> decide)).mono ?_
    rintro e w' ⟨rfl, rfl⟩
    exact ⟨rfl, ((Below.refl _ w).alloc (Nat.le_refl _) _).alloc (by simp) _⟩

end LM
end Go.Proofs.YtpnjddfnlaonoaaGreatDoor
