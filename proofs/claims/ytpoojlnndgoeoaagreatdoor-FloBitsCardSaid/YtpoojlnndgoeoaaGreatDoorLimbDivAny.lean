/- Div whole; the table of powers of ten; a slice of limbs that came in, as the walks of package limb read it. -/
import Derived.Test.YtpoojlnndgoeoaaGreatDoorLimbF
import Derived.Test.YtpoojlnndgoeoaaGreatDoorLimbMath
import Derived.Sort.AtCallIn
import Derived.Lib.BitFns
import Derived.Test.YtpoojlnndgoeoaaGreatDoorLimbR
import Derived.Test.YtpoojlnndgoeoaaGreatDoorShelf
import Derived.Test.YtpoojlnndgoeoaaGreatDoorLimbTake
import Derived.Test.YtpoojlnndgoeoaaGreatDoorLimbDv
import Derived.Test.YtpoojlnndgoeoaaGreatDoorLimbO
import Derived.LaidSub
import Derived.Lib.LaidTab
namespace Go.Proofs.YtpoojlnndgoeoaaGreatDoor
open Go.RowKit
namespace LM

/-- where the loop stands when k limbs are done -/
def SuRel (w : World) (g : Nat) (xs : List Nat) (n : Nat) (i : Value) (wr : World) : Prop :=
  ∃ (k : Nat) (zs : List Nat), k ≤ xs.length + 1 ∧ i = .int .i64 (k : Int) ∧ zs.length = k ∧ Lm zs ∧
    val zs + 4294967296 ^ k * (atI xs ((k : Int) - 1) / 2 ^ (32 - n)) = val (xs.take k) * 2 ^ n ∧ Blk wr g (U ([] ++ (zs ++ (List.replicate (xs.length + 1) 0).drop k) ++ [])) ∧ Below w.heap.size w wr

end LM
end Go.Proofs.YtpoojlnndgoeoaaGreatDoor

namespace Go.Proofs.YtpoojlnndgoeoaaGreatDoor
open Go.RowKit
namespace LM

theorem at_len (A : Option Addr) (c n : Nat) (xs : List Nat) (k y : Nat) (w : World) (hr : Rd w A xs) (hn : xs.length = n) (hk : k ≤ 4096) (hy : xs[k]?.getD 0 = y) :
    Calls Tryz.prog 125 #[.slice A n c, .int .i64 (k : Int)] w fun e w' => e = .returned (.int .u32 (y : Int)) ∧ w = w' := by
  subst hn
  exact at_nat A c xs k y w hr hk hy

/-- where the loop stands when k limbs are done -/
def SdRel (w : World) (g : Nat) (pre post xs : List Nat) (n : Nat) (i : Value) (wr : World) : Prop :=
  ∃ (k : Nat) (zs : List Nat), k ≤ xs.length ∧ i = .int .i64 (k : Int) ∧ zs.length = k ∧ Lm zs ∧
    val zs * 2 ^ n + xs[0]?.getD 0 % 2 ^ n = val (xs.take k) + 4294967296 ^ k * (xs[k]?.getD 0 % 2 ^ n) ∧ Blk wr g (U (pre ++ (zs ++ xs.drop k) ++ post)) ∧ w.grownBy wr (some g)

end LM
end Go.Proofs.YtpoojlnndgoeoaaGreatDoor

namespace Go.Proofs.YtpoojlnndgoeoaaGreatDoor
open Go.RowKit
namespace LM

/-- where the loop stands -/
def ToRel (w : World) (g : Nat) (pre post xs ys : List Nat) (o l : Value) (wr : World) : Prop :=
  ∃ (zs : List Nat) (q br : Nat), o = .int .u32 (q : Int) ∧ l = .int .u32 (br : Int) ∧ q < 4294967296 ∧ br ≤ 1 ∧ zs.length = xs.length ∧ Lm zs ∧
    val zs + val ys * q = val xs + 4294967296 ^ xs.length * br ∧ (val xs < val ys * 4294967296 → val xs < val ys * (q + 1)) ∧ Blk wr g (U (pre ++ zs ++ post)) ∧ w.grownBy wr (some g)

end LM
end Go.Proofs.YtpoojlnndgoeoaaGreatDoor

namespace Go.Proofs.YtpoojlnndgoeoaaGreatDoor
open Go.RowKit Go.Shelf
attribute [local go_sem] Oper.semAt_some
namespace LM
attribute [local go_sem] round_fn wide_fn

/-- behind a piece of code that ends as it should: this of the frame and the world -/
def OnNormal (R : Act → World → Prop) : Exit → Act → World → Prop
  | .normal, a, w => R a w
  | _, _, _ => False

theorem lead (y : Nat) (h0 : 0 < y) (h : y < 4294967296) : ∃ s : Nat, s < 32 ∧ 32 - (Lib.bitLen y : Int) = (s : Int) ∧ y * 2 ^ s < 4294967296 := by
  have h1 := Nat.log2_self_le (n := y) (by omega)
  have h2 := Nat.lt_log2_self (n := y)
  have hk : y.log2 < 32 := by
    rcases Nat.lt_or_ge y.log2 32 with h3 | h3
    · exact h3
    · have := Nat.pow_le_pow_right (n := 2) (by decide) h3; omega
  have e : y / 2 ^ y.log2 = 1 := by
    apply Nat.div_eq_of_lt_le
    · omega
    · rw [Nat.pow_succ] at h2; omega
  have hb := Lib.bitLen_shift y.log2 y h1 (by omega)
  rw [e] at hb
  have h5 : Lib.bitLen 1 = 1 := by decide
  rw [h5] at hb
  refine ⟨31 - y.log2, by omega, by rw [hb]; omega, ?_⟩
  have h6 := Nat.mul_lt_mul_of_pos_right h2 (show 0 < 2 ^ (31 - y.log2) from Nat.pow_pos (by decide))
  rw [← Nat.pow_add, show y.log2 + 1 + (31 - y.log2) = 32 from by omega] at h6
  exact h6

end LM
end Go.Proofs.YtpoojlnndgoeoaaGreatDoor

namespace Go.Proofs.YtpoojlnndgoeoaaGreatDoor
open Go.RowKit
namespace LM

def sameB (xs ys : List Nat) : Bool := decide (xs = ys)

theorem take_succ_eq {xs ys : List Nat} {k : Nat} (h : xs.take k = ys.take k) (hx : k < xs.length) (hy : k < ys.length) (he : xs[k]?.getD 0 = ys[k]?.getD 0) : xs.take (k + 1) = ys.take (k + 1) := by
  rw [List.getElem?_eq_getElem hx, List.getElem?_eq_getElem hy] at he
  have e : xs[k] = ys[k] := he
  rw [List.take_succ_eq_append_getElem hx, List.take_succ_eq_append_getElem hy, h, e]

set_option maxRecDepth 100000 in
set_option maxHeartbeats 400000 in
theorem same_any (A B : Option Addr) (ca cb : Nat) (xs ys : List Nat) (w : World) (ha : Rd w A xs) (hb : Rd w B ys) (hl : xs.length ≤ 1000000) :
    Calls Tryz.prog 49 #[.slice A xs.length ca, .slice B ys.length cb] w fun e w' => e = .returned (.bool (sameB xs ys)) ∧ Below w.heap.size w w' := by
  by_cases hne : xs.length = ys.length
  · have HNE := Lib.hid hne
    have hbn : ((xs.length : Int) != (ys.length : Int)) = false := by simp [hne]
    clear hne
    go_enter Tryz.func49, Tryz.ntmps49
    go_wp2
    go_loopw [13] (fun i wr => ∃ k q : Nat, k ≤ xs.length ∧ i = .int .i64 (k : Int) ∧ Hid (xs.take k = ys.take k) ∧ wr = w.drewN q) (fun i _ => xs.length - (intOf i).toNat)
    case atStart => exact ⟨0, 0, Nat.zero_le _, rfl, Lib.hid rfl, rfl⟩
    case round =>
      obtain ⟨k, q, hk, rfl, HT, hwr⟩ := hrel
      have hra : Rd wr A xs := by rw [hwr]; exact ha.drewN q
      have hrb : Rd wr B ys := by rw [hwr]; exact hb.drewN q
      have HWR := Lib.hid hwr
      clear hwr
      by_cases hlt : k < xs.length
      · have hly : k < ys.length := by have := HNE.out; omega
        obtain ⟨b1, o1, rfl, _, c1⟩ := hra.at_ hlt
        obtain ⟨b2, o2, rfl, _, c2⟩ := hrb.at_ hly
        have hst := fun he => take_succ_eq HT.out hlt hly he
        have hfx : sameB xs ys = true → xs[k]?.getD 0 = ys[k]?.getD 0 := fun h => by rw [of_decide_eq_true h]
        generalize hxe : xs[k]?.getD 0 = x at *
        generalize hye : ys[k]?.getD 0 = y at *
        have HST := Lib.hid hst
        have HFX := Lib.hid hfx
        clear hst hfx hxe hye
        by_cases hxy : x = y
        · have hnb : ((x : Int) != (y : Int)) = false := by simp [hxy]
          have HT2 := Lib.hid (HST.out hxy)
          clear hxy
          go_wp2_with fail
          go_quiet (fail)
          go_wp2
          go_roundw
          case rel => exact ⟨k + 1, q + nq, by omega, by go_num, HT2, by rw [HWR.out, World.drewN_drewN]⟩
          case measure => simp [intOf]; omega
        · have hnb : ((x : Int) != (y : Int)) = true := by simp; omega
          have hf : sameB xs ys = false := by
            cases h : sameB xs ys with
            | false => rfl
            | true => exact absurd (HFX.out h) hxy
          have HF := Lib.hid hf
          clear hxy hf
          go_wp2_with fail
          go_quiet (fail)
          go_wp2
          go_ret
          exact ⟨by rw [HF.out]; rfl, by rw [HWR.out]; exact below_drewN (below_drewN (Below.refl _ _) _) _⟩
      · obtain rfl : k = xs.length := by omega
        have hf : sameB xs ys = true := by
          have h := HT.out
          rw [List.take_length, List.take_of_length_le (by have := HNE.out; omega)] at h
          exact decide_eq_true h
        have HF := Lib.hid hf
        clear hf
        go_wp2
        go_ret
        exact ⟨by rw [HF.out]; rfl, by rw [HWR.out]; exact below_drewN (Below.refl _ _) _⟩
  · have hbn : ((xs.length : Int) != (ys.length : Int)) = true := by simp; omega
    have hf : sameB xs ys = false := decide_eq_false (fun h => hne (by rw [h]))
    rw [hf]
    clear hf hne
    go_enter Tryz.func49, Tryz.ntmps49
    go_wp2
    go_ret
    exact ⟨rfl, Below.refl _ _⟩

end LM
end Go.Proofs.YtpoojlnndgoeoaaGreatDoor

namespace Go.Proofs.YtpoojlnndgoeoaaGreatDoor
open Go.RowKit
namespace LM

/-- what is listed of the table -/
theorem tab_of {l : List (String × DataW Unit)} {W : World} (h : laidMetH Tryz.prog l W)
    (he : ((l.filter fun x => x.2.handleName?.isNone).filter fun x => x.1 == "internal/strconv.uint64pow10") = [("internal/strconv.uint64pow10", Lib.tabData .u64 Lib.pow10Tab)]) : Lib.TabIs Tryz.prog W "internal/strconv.uint64pow10" .u64 Lib.pow10Tab := by
  have h1 := (laidMetH_iff.1 h).1.filter fun x => x.1 == "internal/strconv.uint64pow10"
  rw [he] at h1
  exact Lib.tabIs_of_head (g := 7) (t := 198) (e := 32) (n := 20) (by kernel_rfl) (by kernel_rfl) Tryz.underlying198 Tryz.underlying32 (by kernel_rfl) (by kernel_rfl) h1

theorem numV_list {w : World} {v : Value} {n : Nat} (h : NumV w v n) (l : List Nat) (k : Nat) (hk : l.length = k) (hl : Can l) (hv : val l = n) : ∃ A c, v = .slice A k c ∧ k ≤ c ∧ c ≤ 1000000 ∧ Rd w A l := by
  obtain ⟨A, c, r, rfl, h1, h2, h3, h4, h5⟩ := h
  have e := can_ext h4 hl (h5.trans hv.symm)
  subst e
  subst hk
  exact ⟨A, c, rfl, h1, h2, h3⟩
theorem sameB_self (xs : List Nat) : sameB xs xs = true := by simp [sameB]
theorem rd_new (w : World) (l : List Nat) : Rd (w.alloc (.cells (U l).toArray 88)) (some ⟨w.heap.size, 0, none⟩) l := Rd.of_blk (pre := []) (post := []) (by simpa using Blk.new w (U l))
theorem not_big {n : Nat} (h : n < 18446744073709551616 * 4294967296) : ¬ BIG n := by
  intro hb
  have h1 : 4294967296 ^ 3 ≤ 4294967296 ^ 64 := Nat.pow_le_pow_right (by decide) (by decide)
  have h2 : (4294967296 : Nat) ^ 3 = 18446744073709551616 * 4294967296 := by decide
  unfold BIG at hb
  omega
theorem lm_of {l : List Nat} (h : (l.all fun x => decide (x < 4294967296)) = true) : Lm l := fun x hx => of_decide_eq_true (List.all_eq_true.1 h x hx)

theorem spot_none {w : World} {x : Addr} {v : Value} (h : w.cell? x = some v) : x = ⟨x.block, x.off, none⟩ ∧ x.block < w.heap.size := by
  obtain ⟨b, o, s⟩ := x
  unfold World.cell? at h
  dsimp only at h
  cases hb : w.heap[b]? with
  | none => rw [hb] at h; cases h
  | some ob =>
    rw [hb] at h
    have hlt := (Array.getElem?_eq_some_iff.1 hb).1
    cases s with
    | none => exact ⟨rfl, hlt⟩
    | some k =>
      exfalso
      cases ob <;> first | (cases h; done) | simp at h

theorem open_row {w : World} {a : Option Addr} {len cap : Nat} {zs : List Int}
    (h : (a = none ∧ len = 0 ∧ cap = 0 ∧ zs = []) ∨ ∃ x, a = some x ∧ len ≤ cap ∧ cap ≤ maxLen ∧ zs.length = cap ∧ (∀ i, i < zs.length → w.cell? (x.add i) = some (.int .u32 (zs.getD i 0))) ∧ ∀ n ∈ zs, (Lit.int .u32 n).wf = true) :
    ∃ xs : List Nat, xs.length = len ∧ Lm xs ∧ Rd w a xs ∧ len ≤ cap ∧ cap ≤ 9223372036854775807 ∧ (a = none → len = 0 ∧ cap = 0) := by
  rcases h with ⟨rfl, rfl, rfl, rfl⟩ | ⟨x, rfl, h1, h2, h3, h4, h5⟩
  · exact ⟨[], rfl, Lm.nil, Rd.nil, Nat.le_refl _, by omega, fun _ => ⟨rfl, rfl⟩⟩
  · have hwf : ∀ n ∈ zs, 0 ≤ n ∧ n < 4294967296 := fun n hn => by
      have h := h5 n hn
      simp [Lit.wf, IntKind.min, IntKind.max, IntKind.signed, IntKind.bits] at h
      omega
    have hget : ∀ i, i < zs.length → 0 ≤ zs.getD i 0 ∧ zs.getD i 0 < 4294967296 := fun i hi => by
      rw [List.getD_eq_getElem?_getD, List.getElem?_eq_getElem hi]
      exact hwf _ (List.getElem_mem hi)
    refine ⟨(zs.take len).map Int.toNat, by simp; omega, ?_, ?_, h1, by unfold maxLen at h2; omega, fun e => by cases e⟩
    · intro y hy
      obtain ⟨z, hz, rfl⟩ := List.mem_map.1 hy
      have := hwf z (List.mem_of_mem_take hz)
      omega
    · intro hl
      have hl' : 0 < len := by simp at hl; omega
      have h0 := h4 0 (by omega)
      have hx0 : x.add 0 = x := by simp [Addr.add]
      rw [hx0] at h0
      obtain ⟨e1, e2⟩ := spot_none h0
      refine ⟨x.block, x.off, by rw [← e1], e2, fun k hk => ?_⟩
      have hk' : k < len := by simp at hk; omega
      have hc := h4 k (by omega)
      have hxk : x.add k = ⟨x.block, x.off + k, none⟩ := by
        unfold Addr.add
        split
        · rename_i hk0; subst hk0; rw [Nat.add_zero]; exact e1
        · rfl
      rw [hxk] at hc
      rw [hc]
      have hg := hget k (by omega)
      congr 2
      rw [List.getElem?_map, List.getElem?_take, if_pos hk', List.getElem?_eq_getElem (by omega)]
      rw [List.getD_eq_getElem?_getD, List.getElem?_eq_getElem (by omega)] at hg ⊢
      simp only [Option.map_some, Option.getD_some] at hg ⊢
      omega

end LM
end Go.Proofs.YtpoojlnndgoeoaaGreatDoor
