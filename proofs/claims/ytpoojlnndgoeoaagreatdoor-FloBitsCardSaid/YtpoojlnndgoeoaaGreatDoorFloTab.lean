/- What the library's tables hold, as a walk reads them. -/
import Derived.Test.YtpoojlnndgoeoaaGreatDoorFloP
import Derived.Test.YtpoojlnndgoeoaaGreatDoorFloIeee
import Derived.Laws.FloatArith
import Derived.Handy
import Derived.Laws.BitsAllLaws
import Derived.Deep.LoopGhost
import Derived.Test.YtpoojlnndgoeoaaGreatDoorProg
import Derived.WalkKit
import Derived.LaidMore
import Derived.Lib.LaidTab
import Derived.ChangeSame
import GoSem.PinnedTables
namespace Go.Proofs.YtpoojlnndgoeoaaGreatDoor
open Go Go.Shelf Go.RowKit Go.Sort Go.Lib
namespace LM
set_option linter.unusedVariables false

/-- the byte at a place -/
theorem byte_at {s : ByteArray} {l : List UInt8} (h : s.data.toList = l) (j : Nat) (hj : j < s.size) (c : UInt8) (hc : l[j]? = some c) : s[j].toNat = c.toNat := by
  subst h
  have h2 : s.data.toList[j]? = some s[j] := by
    rw [Array.getElem?_toList]
    exact Array.getElem?_eq_getElem hj
  rw [h2] at hc
  injection hc with hc
  rw [hc]

set_option maxRecDepth 100000 in
set_option maxHeartbeats 2000000 in
theorem prefix_15 (s : ByteArray) (w : World) (h : s.data.toList = [49, 46, 53, 101, 50]) :
    Calls Tryz.prog 201 #[.string s, .string ⟨#[105, 110, 102, 105, 110, 105, 116, 121]⟩] w fun e w' => e = .returned (.int .i64 0) ∧ w = w' := by
  have hz : s.size = 5 := by rw [Lib.size_eq, h]; rfl
  have b0 : (s[0]'(by omega)).toNat = 49 := byte_at h 0 (by omega) 49 rfl
  obtain ⟨p, hp⟩ : ∃ p : ByteArray, (⟨#[105, 110, 102, 105, 110, 105, 116, 121]⟩ : ByteArray) = p := ⟨_, rfl⟩
  have hpz : p.size = 8 := by rw [← hp]; rfl
  have p0 : (p[0]'(by omega)).toNat = 105 := byte_at (l := [105, 110, 102, 105, 110, 105, 116, 121]) (by rw [← hp]) 0 (by omega) 105 rfl
  rw [hp]
  clear hp h
  go_enter Tryz.func201, Tryz.ntmps201
  go_wp2_with (fail)
  go_loop [6] (fun i => i = .int .i64 0) (fun _ => 0)
  case atStart => rfl
  case round =>
    obtain rfl := hrel
    go_wp2
    go_ret
    exact ⟨rfl, rfl⟩

set_option maxRecDepth 100000 in
set_option maxHeartbeats 2000000 in
theorem special_15 (s : ByteArray) (w : World) (h : s.data.toList = [45, 49, 46, 53, 101, 50]) :
    Calls Tryz.prog 163 #[.string s] w fun e w' => e = .returned (.tuple #[.float .f64 0, .int .i64 0, .bool false]) ∧ w = w' := by
  have hz : s.size = 6 := by rw [Lib.size_eq, h]; rfl
  have b0 : (s[0]'(by omega)).toNat = 45 := byte_at h 0 (by omega) 45 rfl
  have P1 := Lib.hid fun W => prefix_15 (s.extract 1 6) W (by rw [Lib.extract_data, h]; rfl)
  clear h
  go_enter Tryz.func163, Tryz.ntmps163
  go_wp2_with (fail)
  refine (P1.out _).mono ?_
  rintro e w' ⟨rfl, rfl⟩
  go_wp2
  go_returns
  exact ⟨rfl, rfl⟩

set_option maxRecDepth 100000 in
set_option maxHeartbeats 2000000 in
theorem lower_e (w : World) : Calls Tryz.prog 178 #[.int .u8 101] w fun e w' => e = .returned (.int .u8 101) ∧ w = w' := by
  have hb : bits .or .u8 101 32 = 101 := by decide
  go_enter Tryz.func178, Tryz.ntmps178
  go_wp2
  go_ret
  exact ⟨rfl, rfl⟩
set_option maxRecDepth 100000 in
set_option maxHeartbeats 2000000 in
theorem read_15 (s : ByteArray) (w : World) (h : s.data.toList = [45, 49, 46, 53, 101, 50]) :
    Calls Tryz.prog 164 #[.string s] w fun e w' => e = .returned (.tuple #[.int .u64 15, .int .i64 1, .bool true, .bool false, .bool false, .int .i64 6, .bool true]) ∧ ∃ k, w' = w.drewN k := by
  have hz : s.size = 6 := by rw [Lib.size_eq, h]; rfl
  have b0 : (s[0]'(by omega)).toNat = 45 := byte_at h 0 (by omega) 45 rfl
  have b1 : (s[1]'(by omega)).toNat = 49 := byte_at h 1 (by omega) 49 rfl
  have b2 : (s[2]'(by omega)).toNat = 46 := byte_at h 2 (by omega) 46 rfl
  have b3 : (s[3]'(by omega)).toNat = 53 := byte_at h 3 (by omega) 53 rfl
  have b4 : (s[4]'(by omega)).toNat = 101 := byte_at h 4 (by omega) 101 rfl
  have b5 : (s[5]'(by omega)).toNat = 50 := byte_at h 5 (by omega) 50 rfl
  clear h
  have L1 := Lib.hid lower_e
  go_enter Tryz.func164, Tryz.ntmps164
  go_wp2_with (fail)
  go_step3
  go_wp2_with (fail)
  go_step3
  go_wp2_with (fail)
  go_loopg [2, 5, 7, 9, 13, 14, 15, 16, 17] 3 (fun kk m tr i us sd sg nd nm dp wr => wr = w ∧ tr = .bool false ∧ us = .bool false ∧ ((kk = 3 ∧ m = .int .u64 0 ∧ i = .int .i64 1 ∧ sd = .bool false ∧ sg = .bool false ∧ nd = .int .i64 0 ∧ nm = .int .i64 0 ∧ dp = .int .i64 0) ∨ (kk = 2 ∧ m = .int .u64 1 ∧ i = .int .i64 2 ∧ sd = .bool false ∧ sg = .bool true ∧ nd = .int .i64 1 ∧ nm = .int .i64 1 ∧ dp = .int .i64 0) ∨ (kk = 1 ∧ m = .int .u64 1 ∧ i = .int .i64 3 ∧ sd = .bool true ∧ sg = .bool true ∧ nd = .int .i64 1 ∧ nm = .int .i64 1 ∧ dp = .int .i64 1) ∨ (kk = 0 ∧ m = .int .u64 15 ∧ i = .int .i64 4 ∧ sd = .bool true ∧ sg = .bool true ∧ nd = .int .i64 2 ∧ nm = .int .i64 2 ∧ dp = .int .i64 1)))
  case atStart => exact ⟨rfl, rfl, rfl, .inl ⟨rfl, rfl, rfl, rfl, rfl, rfl, rfl, rfl⟩⟩
  case round =>
    obtain ⟨rfl, rfl, rfl, hrel⟩ := hrel
    rcases hrel with ⟨rfl, rfl, rfl, rfl, rfl, rfl, rfl, rfl⟩ | ⟨rfl, rfl, rfl, rfl, rfl, rfl, rfl, rfl⟩ | ⟨rfl, rfl, rfl, rfl, rfl, rfl, rfl, rfl⟩ | ⟨rfl, rfl, rfl, rfl, rfl, rfl, rfl, rfl⟩
    · go_wp2_with (fail)
      go_roundg 2
      case measure => omega
      case rel => exact ⟨rfl, rfl, rfl, .inr (.inl ⟨rfl, rfl, rfl, rfl, rfl, rfl, rfl, rfl⟩)⟩
    · go_wp2_with (fail)
      go_roundg 1
      case measure => omega
      case rel => exact ⟨rfl, rfl, rfl, .inr (.inr (.inl ⟨rfl, rfl, rfl, rfl, rfl, rfl, rfl, rfl⟩))⟩
    · go_wp2_with (fail)
      go_roundg 0
      case measure => omega
      case rel => exact ⟨rfl, rfl, rfl, .inr (.inr (.inr ⟨rfl, rfl, rfl, rfl, rfl, rfl, rfl, rfl⟩))⟩
    · go_wp2_with (refine (L1.out _).mono ?_; rintro e w' ⟨rfl, rfl⟩)
      go_loopg [7, 9, 20] 1 (fun kk i us ex wx => wx = wr ∧ us = .bool false ∧ ((kk = 1 ∧ i = .int .i64 5 ∧ ex = .int .i64 0) ∨ (kk = 0 ∧ i = .int .i64 6 ∧ ex = .int .i64 2)))
      case atStart => exact ⟨rfl, rfl, .inl ⟨rfl, rfl, rfl⟩⟩
      case round =>
        obtain ⟨rfl, rfl, hrel⟩ := hrel
        rcases hrel with ⟨rfl, rfl, rfl⟩ | ⟨rfl, rfl, rfl⟩
        · go_wp2_with (fail)
          go_roundg 0
          case measure => omega
          case rel => exact ⟨rfl, rfl, .inr ⟨rfl, rfl, rfl⟩⟩
        · go_wp2_with (fail)
          rw [Exit.noGoto_ret]
          refine bodyPost_ret (v := .tuple #[.int .u64 15, .int .i64 1, .bool true, .bool false, .bool false, .int .i64 6, .bool true]) (by simp [results, Tryz.results164, go_sem]) rfl ?_
          exact ⟨rfl, 0, rfl⟩

theorem dec15 : floatOfInt .f64 15 = 4624633867356078080 := by decide
theorem neg15 : Op.negFloat .f64 4624633867356078080 = 13848005904210853888 := by decide
theorem mul15 : floatBits .mul .f64 13848005904210853888 4621819117588971520 = some 13862853709232340992 := by decide

set_option maxRecDepth 100000 in
set_option maxHeartbeats 2000000 in
theorem exact_15 (w : World) (c0 : w.cell? ⟨6, 0, none⟩ = some (.int .u64 52)) (b n c : Nat) (hp : w.cell? ⟨10, 0, none⟩ = some (.slice (some ⟨b, n, none⟩) 23 c)) (h1 : w.cell? ⟨b, n + 1, none⟩ = some (.float .f64 4621819117588971520)) :
    Calls Tryz.prog 174 #[.int .u64 15, .int .i64 1, .bool true] w fun e w' => e = .returned (.tuple #[.float .f64 13862853709232340992, .bool true]) ∧ ∃ k, w' = w.drewN k := by
  have hop : ∀ t W, (binOp .mul t (.float .f64 13848005904210853888) (.float .f64 4621819117588971520)).run Tryz.prog W = .ok (.float .f64 13862853709232340992) W := fun t W => run_float_arith W .mul t .f64 _ _ _ mul15
  have d1 := dec15
  have d2 : ∀ W, (Op.unary .neg (.float .f64 4624633867356078080)).run Tryz.prog W = .ok (.float .f64 13848005904210853888) W := fun W => by
    show Result.ok (Value.float .f64 (Op.negFloat .f64 4624633867356078080)) W = _
    rw [neg15]
  have d3 : (FloatKind.f64.format.order 13848005904210853888 4831355200913801216 == some .gt) = false := by decide
  have d4 : (FloatKind.f64.format.order 13848005904210853888 14054727237768577024 == some .lt) = false := by decide
  go_enter Tryz.func174, Tryz.ntmps174
  go_wp2_with (fail)
  go_returns
  exact ⟨rfl, 0, rfl⟩

end LM
end Go.Proofs.YtpoojlnndgoeoaaGreatDoor

namespace Go.Proofs.YtpoojlnndgoeoaaGreatDoor
open Go.RowKit Go.ChangeShapes
namespace LM

/-- an array of pairs that reads as a list of pairs holds them, two cells a pair -/
theorem pairs_of_trod {H : Type} {enc : TypeId × Value → H} {P : Program} {w : World} {base : Nat} {sp : Nat → Bool} {held : Bool} {fuel : Nat} {t e : TypeId} {n : Nat} {f0 f1 : Field} {k : IntKind} {cs : List Value} {rows : List (Nat × Nat)} {p : List MemPlace}
    (ht : P.underlying t = some (.array n e)) (he : P.underlying e = some (.struct #[f0, f1])) (h0 : P.underlying f0.type = some (.int k)) (h1 : P.underlying f1.type = some (.int k))
    (o0 : f0.offset = 0) (o1 : f1.offset = 1) (c0 : P.cellsOf f0.type = 1) (c1 : P.cellsOf f1.type = 1) (hce : P.cellsOf e = 2) (hct : P.cellsOf t = n * 2)
    (h : DataW.trod enc P w base sp held fuel t cs = some (.agg (rows.map fun x => .agg [.lit (.int k x.1), .lit (.int k x.2)]), p)) :
    ∀ i x, rows[i]? = some x → cs[i * 2]? = some (.int k x.1) ∧ cs[i * 2 + 1]? = some (.int k x.2) := by
  cases fuel with
  | zero => simp [DataW.trod] at h
  | succ fuel =>
    simp only [DataW.trod, ht, hce, hct] at h
    split at h
    · rename_i hl
      obtain ⟨xs, hm, hx⟩ := Option.map_eq_some_iff.1 h
      have hxs : xs.map (·.1) = rows.map fun x => (DataW.agg [.lit (.int k x.1), .lit (.int k x.2)] : DataW H) := by
        have := congrArg Prod.fst hx
        simpa using this
      have hxl : xs.length = n := by simpa using Lib.mapM_length hm
      intro i x hi
      have hin : i < n := by
        have h2 := congrArg List.length hxs
        have h3 := (List.getElem?_eq_some_iff.1 hi).1
        simp at h2
        omega
      obtain ⟨b, hb, hf⟩ := Lib.mapM_at hm i i (by simp [hin])
      have hb1 : b.1 = .agg [.lit (.int k x.1), .lit (.int k x.2)] := by
        have h2 : (xs.map (·.1))[i]? = some b.1 := by simp [hb]
        rw [hxs] at h2
        simpa [hi] using h2.symm
      obtain ⟨y0, y1, m, rfl, hlen, hy0, hy1⟩ := trod_struct2 he hf
      simp only [DataW.agg.injEq, List.cons.injEq, and_true] at hb1
      rw [o0, c0] at hy0
      rw [o1, c1] at hy1
      obtain ⟨z0, hc0, hz0, _⟩ := DataW.trod_int h0 hy0
      obtain ⟨z1, hc1, hz1, _⟩ := DataW.trod_int h1 hy1
      have e0 : z0 = x.1 := by
        have := hb1.1
        rw [hz0] at this
        simpa using this
      have e1 : z1 = x.2 := by
        have := hb1.2
        rw [hz1] at this
        simpa using this
      subst e0
      subst e1
      refine ⟨?_, ?_⟩
      · have := congrArg (·[0]?) hc0
        simpa [List.getElem?_take, List.getElem?_drop] using this
      · have := congrArg (·[0]?) hc1
        simpa [List.getElem?_take, List.getElem?_drop] using this
    · cases h

/-- the library's powers of ten: two cells each -/
def PTab (w : World) : Prop := ∀ i x, Go.Pinned.pow10Rows[i]? = some x →
  w.cell? ⟨11, i * 2, none⟩ = some (.int .u64 (x.1 : Nat)) ∧ w.cell? ⟨11, i * 2 + 1, none⟩ = some (.int .u64 (x.2 : Nat))

end LM
end Go.Proofs.YtpoojlnndgoeoaaGreatDoor
