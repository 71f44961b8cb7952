/- Walk of the library: strconv.FormatFloat with as few digits as are read back. -/
import Derived.Test.YtpnjddfnlaonoaaGreatDoorL43
import Derived.Test.YtpnjddfnlaonoaaGreatDoorL29
import Derived.Test.YtpnjddfnlaonoaaGreatDoorL31
import Derived.Test.YtpnjddfnlaonoaaGreatDoorL10
import Derived.Laws.FloatArith
namespace Go.Proofs.YtpnjddfnlaonoaaGreatDoor
open Go Go.Shelf Go.RowKit Go.Sort Go.Lib
namespace LM
set_option linter.unusedVariables false

abbrev zeros32 : Array Value := #[Value.int .u8 0, Value.int .u8 0, Value.int .u8 0, Value.int .u8 0, Value.int .u8 0, Value.int .u8 0, Value.int .u8 0, Value.int .u8 0, Value.int .u8 0, Value.int .u8 0, Value.int .u8 0, Value.int .u8 0, Value.int .u8 0, Value.int .u8 0, Value.int .u8 0, Value.int .u8 0, Value.int .u8 0, Value.int .u8 0, Value.int .u8 0, Value.int .u8 0, Value.int .u8 0, Value.int .u8 0, Value.int .u8 0, Value.int .u8 0, Value.int .u8 0, Value.int .u8 0, Value.int .u8 0, Value.int .u8 0, Value.int .u8 0, Value.int .u8 0, Value.int .u8 0, Value.int .u8 0]
theorem zeros32_at (i : Nat) (h : i < 32) : zeros32[i]? = some (.int .u8 0) := by
  have e : zeros32 = Array.replicate 32 (.int .u8 0) := rfl
  rw [e, Array.getElem?_replicate, if_pos h]
theorem holds_zero32 (w : World) (T : TypeId) (nd : Nat) (hs : nd ≤ 32) : Holds enc8 (w.alloc (.cells zeros32 T)) w.heap.size 0 (Array.replicate nd (0 : UInt8)) := fun j hj => by
  have hj' : j < nd := by simpa using hj
  refine ⟨?_, World.frozen?_alloc_new _ _ _ _⟩
  rw [World.cell?_alloc_new, Nat.zero_add, zeros32_at _ (by omega), getElem!_pos _ j hj]
  simp

theorem OB.belowW {B : Nat} {W0 : World} {g : Nat} {v : Value} {bs : List UInt8} {w w' : World} (h : OB B W0 g [] v bs w) (hb : Below w.heap.size w w') : OB B W0 g [] v bs w' := by
  obtain ⟨h1, h2, h3, h4⟩ := h
  refine ⟨h1.kept (only_of_below hb none) ?_, h2.trans (hb.mono h3), Nat.le_trans h3 hb.size, .inl rfl⟩
  cases v.ownBlock with
  | none => exact .inl rfl
  | some k => exact .inr (by simp)
theorem OB.digits {B : Nat} {W0 : World} {g g0 : Nat} {ds : List UInt8} {v : Value} {bs : List UInt8} {w w' : World} (h : OB B W0 g0 [] v bs w) (hg : w.grownBy w' (some g)) (hv : v.ownBlock ≠ some g) (hB : B ≤ g) (hl : g < w.heap.size) (hd : BufHas w' g ds) : OB B W0 g ds v bs w' := by
  obtain ⟨h1, h2, h3, h4⟩ := h
  exact ⟨h1.kept hg (.inr hv), h2.grown hg h3 (fun k e => by injection e with e; omega), Nat.le_trans h3 hg.size, .inr ⟨Nat.lt_of_lt_of_le hl hg.size, hv, hd⟩⟩
theorem Holds.belowW {w w' : World} {g : Nat} {d : Array UInt8} (h : Holds enc8 w g 0 d) (hb : Below w.heap.size w w') (hg : g < w.heap.size) : Holds enc8 w' g 0 d := fun j hj => by
  obtain ⟨a, b⟩ := h j hj
  exact ⟨(World.cell?_of_block (a := ⟨g, 0 + j, none⟩) (hb.block g hg)).trans a, (World.frozen?_of_block (a := ⟨g, 0 + j, none⟩) (hb.block g hg)).trans b⟩

set_option maxRecDepth 100000 in
set_option maxHeartbeats 8000000 in
theorem ftoaE_any (b : Nat) (neg : Bool) (ex fr mant len s m : Nat) (e p : Int) (d B : Nat) (W0 : World) (v : Value) (w : World) (hb : b < 18446744073709551616) (hob : OB B W0 0 [] v [] w)
    (hneg : (decide (9223372036854775808 ≤ b)) = neg) (hex : b / 4503599627370496 % 2048 = ex) (hfr : b % 4503599627370496 = fr) (hfin : ex < 2047) (h0 : ex ≠ 0)
    (hmant : mant = fr + 4503599627370496) (hlen : Lib.bitLen mant = len) (hs : len + s = 64) (hm : mant * 2 ^ s = m) (hml : m < 18446744073709551616) (he : e = (ex : Int) - 1023 - s - 52)
    (hS : ∀ W, w.heap.size < W.heap.size → Below w.heap.size w W → Calls Tryz.prog 229 #[.int .u64 (m : Int), .int .i64 e] W fun r w' => r = .returned (.tuple #[.int .u64 (d : Int), .int .i64 p]) ∧ Below W.heap.size W w')
    (htab : Lib.TabIs Tryz.prog w "internal/strconv.uint64pow10" .u64 Lib.pow10Tab) (hd0 : 1 ≤ d) (hd1 : d < 18446744073709551616) (hp : -600 ≤ p ∧ p ≤ 600) (hnz : 1 ≤ nzd (decDigits d)) (hn20 : nDigits d ≤ 20) :
    Calls Tryz.prog 163 #[v, .float .f64 b, .int .u8 101, .int .i64 (-1)] w fun r w' =>
      ∃ v' g, r = .returned v' ∧ OB B W0 g (decDigits d) v' (fmtE neg ((decDigits d).take (nzd (decDigits d))) ((nDigits d : Int) + p)) w' := by
  obtain ⟨bq, hbq⟩ : ∃ q, b / 4503599627370496 = q := ⟨_, rfl⟩
  have hbqi : (b : Int) / 4503599627370496 = (bq : Int) := by omega
  have hbql : bq < 4096 := by omega
  have hex2 : bits .and .i64 (bq : Int) 2047 = (ex : Int) := by
    have h := i64_and_nat bq 2047 (by omega) (by decide)
    have h2 : bq &&& 2047 = ex := by rw [nat_mask11, ← hbq, hex]
    rw [h2] at h
    exact h
  have hfr2 : bits .and .u64 (b : Int) 4503599627370495 = (fr : Int) := by
    have h := u64_and_nat b 4503599627370495 hb (by decide)
    have h2 : b &&& 4503599627370495 = fr := by
      rw [show b &&& 4503599627370495 = b % 2 ^ 52 from Nat.and_two_pow_sub_one_eq_mod b 52]
      exact hfr
    rw [h2] at h
    exact h
  have hneg2 : ((b : Int) / 9223372036854775808 != 0) = neg := by
    rw [← hneg]
    by_cases h : 9223372036854775808 ≤ b
    · rw [decide_eq_true h, bne_iff_ne]; omega
    · rw [decide_eq_false h, bne_eq_false_iff_eq]; omega
  have hfrl : fr < 4503599627370496 := by omega
  have hml0 : mant < 9007199254740992 := by omega
  have hm0 : 0 < mant := by omega
  have hor : bits .or .u64 (fr : Int) 4503599627370496 = (mant : Int) := by
    have h := u64_or_nat fr 4503599627370496 (by omega) (by decide)
    have h2 : fr ||| 4503599627370496 = mant := by
      rw [Nat.or_comm, nat_join 52 4503599627370496 fr (by decide) hfrl, Nat.add_comm, hmant]
    rw [h2] at h
    exact h
  have RB := run_sbits b
  have hL := fun W => Tryz.bits_Len64 (mant : Int) W (by omega) (by omega)
  rw [show ((mant : Int)).toNat = mant from Int.toNat_natCast mant, hlen] at hL
  have HLN := Lib.hid hL
  have hsi : (64 : Int) - (len : Int) = (s : Int) := by omega
  have hs64 : s ≤ 64 := by omega
  have hmin : min s 64 = s := Nat.min_eq_left hs64
  have hmi : (mant : Int) * 2 ^ s = (m : Int) := by rw [← hm]; push_cast; rfl
  obtain ⟨e0, he0⟩ : ∃ e0 : Int, (ex : Int) - 1023 = e0 := ⟨_, rfl⟩
  have he1 : (ex : Int) + -1023 = e0 := by omega
  have hee : e0 - (s : Int) - 52 = e := by omega
  have heb : -3000 ≤ e0 ∧ e0 ≤ 3000 := by omega
  have hown : ∀ k, v.ownBlock = some k → k < w.heap.size := fun k hk => (hob.1.lt k hk).2
  have hBw : B ≤ w.heap.size := hob.2.2.1
  have hinf : ((ex : Int) == 2047) = false := by rw [beq_eq_false_iff_ne]; omega
  have hexz : ((ex : Int) == 0) = false := by rw [beq_eq_false_iff_ne]; omega
  have hmz : ((mant : Int) == 0) = false := by rw [beq_eq_false_iff_ne]; omega
  obtain ⟨n, hnn⟩ : ∃ n, nDigits d = n := ⟨_, rfl⟩
  obtain ⟨ds, hds⟩ : ∃ ds, decDigits d = ds := ⟨_, rfl⟩
  obtain ⟨nd, hnd⟩ : ∃ nd, nzd ds = nd := ⟨_, rfl⟩
  have hdl : ds.length = n := by rw [← hds, ← hnn]; exact decDigits_length d
  have hndl : nd ≤ ds.length := by rw [← hnd]; exact nzd_le ds
  have hn1 : n ≤ 20 := by omega
  rw [hds, hnd] at hnz
  have HNM : Hid (∀ W, Lib.TabIs Tryz.prog W "internal/strconv.uint64pow10" .u64 Lib.pow10Tab → Calls Tryz.prog 223 #[.int .u64 (d : Int)] W fun e w' => e = .returned (.int .i64 (n : Int)) ∧ w' = W) := Lib.hid fun W h => by
    have h2 := Tryz.internal_strconv_numDigits d hd0 hd1 W h
    rw [hnn] at h2
    exact h2
  have HSD : Hid (∀ g W, Holds enc8 W g 0 (Array.replicate n 0) → Calls Tryz.prog 222 #[.slice (some ⟨g, 0, none⟩) 32 32, .int .u64 (d : Int), .int .i64 p, .int .i64 (n : Int)] W fun e w' =>
      e = .returned (.tuple #[.int .i64 ((n : Int) + p), .int .i64 (nd : Int)]) ∧ BufHas w' g ds ∧ W.grownBy w' (some g)) := Lib.hid fun g W h => by
    have h2 := setDigits_any g d p W hd1 (by rw [hnn]; exact h) (by omega) (by omega)
    rw [hnn, hds, hnd] at h2
    exact h2
  rw [hds, hnn, hnd]
  have HSS := Lib.hid hS
  have HTB := Lib.hid htab
  have HOB := Lib.hid hob
  have HOWN := Lib.hid hown
  have HND := Lib.hid hnd
  have HDL := Lib.hid hdl
  clear hneg hex hfr hmant hlen hs hm he he0 hS htab hob hbq hL hown hnn hds hnd hdl hn20
  go_enter Tryz.func163, Tryz.ntmps163
  go_wp2_with (fail)
  go_quiet (fail)
  go_wp2_with (fail)
  have hH1 := fun k (hk : k ≤ 32) => holds_zero32 (w.drewN nq) 212 k hk
  have hO1 := (HOB.out.drewN nq).alloc (.cells zeros32 212)
  have hB1 : Below w.heap.size w ((w.drewN nq).alloc (.cells zeros32 212)) := (below_drewN (Below.refl _ w) nq).alloc (Nat.le_refl _) _
  have hZ1 : ((w.drewN nq).alloc (.cells zeros32 212)).heap.size = w.heap.size + 1 := by simp
  change Calls Tryz.prog _ _ ((w.drewN nq).alloc (.cells zeros32 212)) _
  generalize (w.drewN nq).alloc (.cells zeros32 212) = W1 at hH1 hO1 hB1 hZ1 ⊢
  have hT1 := tab_below HTB.out hB1
  have HH1 : Hid (Holds enc8 W1 w.heap.size 0 (Array.replicate n 0)) := Lib.hid (hH1 n (by omega))
  have HO1 := Lib.hid hO1
  have HB1 := Lib.hid hB1
  have HZ1 := Lib.hid hZ1
  have HT1 := Lib.hid hT1
  clear hH1 hO1 hB1 hZ1 hT1
  refine (HLN.out W1).mono ?_
  rintro r w' ⟨rfl, rfl⟩
  go_wp2_with (fail)
  refine (HSS.out _ (by rw [HZ1.out]; omega) HB1.out).mono ?_
  rintro r w2 ⟨rfl, hb2⟩
  have HH2 := Lib.hid (Holds.belowW HH1.out hb2 (by rw [HZ1.out]; omega))
  have HO2 := Lib.hid (HO1.out.belowW hb2)
  have hz2 : w.heap.size < w2.heap.size := by have h1 := HZ1.out; have h2 := hb2.size; omega
  have HZ2 := Lib.hid hz2
  have HT2 := Lib.hid (tab_below HT1.out hb2)
  clear hb2 hz2
  go_wp2_with (fail)
  have HNM2 : Hid (∀ W, W.heap = w2.heap → Calls Tryz.prog 223 #[.int .u64 (d : Int)] W fun e w' => e = .returned (.int .i64 (n : Int)) ∧ w' = W) := Lib.hid fun W h => HNM.out W (by
    have h2 := HT2.out
    unfold Lib.TabIs World.var? at h2 ⊢
    rw [h]
    exact h2)
  have HSD2 : Hid (∀ W, W.heap = w2.heap → Calls Tryz.prog 222 #[.slice (some ⟨w.heap.size, 0, none⟩) 32 32, .int .u64 (d : Int), .int .i64 p, .int .i64 (n : Int)] W fun e w' =>
      e = .returned (.tuple #[.int .i64 ((n : Int) + p), .int .i64 (nd : Int)]) ∧ BufHas w' w.heap.size ds ∧ W.grownBy w' (some w.heap.size)) := Lib.hid fun W h => HSD.out w.heap.size W fun j hj => by
    obtain ⟨a, b⟩ := HH2.out j hj
    refine ⟨?_, ?_⟩
    · rw [← a]; simp [World.cell?, h]
    · rw [← b]; simp [World.frozen?, h]
  go_cut [22, 23] (fun x y wx => x = .int .i64 ((n : Int) + p) ∧ y = .int .i64 (nd : Int) ∧ OB B W0 w.heap.size ds v [] wx)
  case first =>
    go_region_with (first
      | (go_at_call 223; refine (HNM2.out _ (by rfl)).mono ?_; rintro r w' ⟨rfl, rfl⟩)
      | (go_at_call 222; refine (HSD2.out _ (by rfl)).mono ?_; rintro r w3 ⟨rfl, hbf, hg⟩))
    all_goals
      go_wp2_with (fail)
      go_meet
      case rel =>
        refine ⟨rfl, rfl, ?_⟩
        have hv : v.ownBlock ≠ some w.heap.size := fun e => Nat.lt_irrefl _ (HOWN.out _ e)
        first
          | exact HO2.out.digits hg hv hBw HZ2.out hbf
          | exact (HO2.out.drewN 1).digits hg hv hBw HZ2.out hbf
          | exact (HO2.out.drewN 2).digits hg hv hBw HZ2.out hbf
          | exact (HO2.out.drewN 3).digits hg hv hBw HZ2.out hbf
          | exact (HO2.out.drewN 4).digits hg hv hBw HZ2.out hbf
  case rest =>
    obtain ⟨rfl, rfl, hob3⟩ := hcut
    have HO3 := Lib.hid hob3
    have hdl20 : ds.length ≤ 32 := by rw [HDL.out]; omega
    have hq : (max ((nd : Int) - 1) 0) = (nd : Int) - 1 := by omega
    clear hob3 HO2 HH2 HO1 HH1
    go_wp2_with (fail)
    refine (fmtE_any B W0 w.heap.size ds v [] wc neg ((n : Int) + p) nd HO3.out (by decide) hnz hndl hdl20 (by omega)).mono ?_
    rintro r w4 ⟨v4, rfl, hob4⟩
    go_wp2
    go_ret
    exact ⟨_, _, rfl, hob4⟩

end LM
end Go.Proofs.YtpnjddfnlaonoaaGreatDoor
