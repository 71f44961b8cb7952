/- Walks: the floating number of an exact one, at one number. -/
import Derived.Test.YtpoojlnndgoeoaaGreatDoorExactAlive
import Derived.Test.YtpoojlnndgoeoaaGreatDoorLimbRText
import Derived.Test.YtpoojlnndgoeoaaGreatDoorLimbCopy
import Derived.LoopTactic
import Derived.Deep.DrawnRows
import Derived.Test.YtpoojlnndgoeoaaGreatDoorExactS
import Derived.Test.YtpoojlnndgoeoaaGreatDoorFloL
import Derived.Test.YtpoojlnndgoeoaaGreatDoorLimbT
import Derived.Test.YtpoojlnndgoeoaaGreatDoorLimbO
import Derived.Test.YtpoojlnndgoeoaaGreatDoorExactMath
namespace Go.Proofs.YtpoojlnndgoeoaaGreatDoor
open Go Go.RowKit
namespace LM
attribute [local go_sem ↓] Go.wp_at_zero Go.wp_at_succ

/-- what the document's Parse answers -/
def RParseE (l : List UInt8) (e : Ending) (w' : World) : Prop := ∃ v er, e = .returned (.tuple #[v, .int .i64 er]) ∧
  ((¬ OkText l ∧ v = .slice none 0 0 ∧ er = 13) ∨ (OkText l ∧ BIG (dval 0 l) ∧ v = .slice none 0 0 ∧ er = 11) ∨ (OkText l ∧ ¬ BIG (dval 0 l) ∧ er = 0 ∧ NumR w' v (dval 0 l)))

theorem rd_at {W : World} {g : Nat} {l : List Nat} (h : W.heap[g]? = some (.cells (U l).toArray 88 (0, 0))) : Rd W (some ⟨g, 0, none⟩) l := by
  have h2 : Blk W g (U l) := h
  exact fun hl => ⟨g, 0, rfl, h2.lt, fun k hk => by rw [Nat.zero_add, h2.cell, U_get _ _ hk]⟩

theorem pow_700 : (10 : Nat) ^ 700 ≤ 4294967296 ^ 100 := of_decide_eq_true (by kernel_rfl)
/-- where the second loop stands -/
def RpRel (l : List UInt8) (w : World) (v4 v6 : Value) (wr : World) : Prop :=
  ∃ (j c : Nat) (A : Option Addr) (r : List Nat), j ≤ l.length ∧ v6 = .int .i64 (j : Int) ∧ v4 = .slice A r.length c ∧ (A = none → r.length = 0 ∧ c = 0) ∧ Rd wr A r ∧ Can r ∧ val r = dval 0 (l.take j) ∧ Below w.heap.size w wr

end LM
end Go.Proofs.YtpoojlnndgoeoaaGreatDoor

namespace Go.Proofs.YtpoojlnndgoeoaaGreatDoor
open Go.RowKit
namespace LM
set_option linter.unusedVariables false

theorem first_eq (s : ByteArray) (h0 : 0 < s.size) : s.data.toList = s[0] :: s.data.toList.drop 1 := by
  have h : 0 < s.data.toList.length := by have := Lib.size_eq s; omega
  have e := List.getElem_cons_drop (i := 0) h
  rw [List.drop_zero] at e
  exact e.symm
theorem sign_first (s : ByteArray) (h0 : 0 < s.size) : signOf s.data.toList = if s[0] = 45 then (true, s.data.toList.drop 1) else if s[0] = 43 then (false, s.data.toList.drop 1) else (false, s.data.toList) := by
  have e := first_eq s h0
  generalize s[0] = c at *
  generalize s.data.toList.drop 1 = r at *
  rw [e]
  unfold signOf
  by_cases h : c = 45
  · subst h
    simp [Lib.hasPrefix, Lib.trimPrefix]
  · have h45 : (45 : UInt8) ≠ c := fun e => h e.symm
    rw [if_neg h]
    by_cases h2 : c = 43
    · subst h2
      simp [Lib.hasPrefix, Lib.trimPrefix]
    · have h43 : (43 : UInt8) ≠ c := fun e => h2 e.symm
      rw [if_neg h2]
      simp [Lib.hasPrefix, Lib.trimPrefix, h45, h43]
theorem sign_none (s : ByteArray) (h0 : s.size = 0) : signOf s.data.toList = (false, s.data.toList) := by
  have e : s.data.toList = [] := List.eq_nil_of_length_eq_zero (by have := Lib.size_eq s; omega)
  rw [e]
  rfl
/-- the document's reading of a text -/
def RetPR (w : World) (l : List UInt8) (e : Ending) (w' : World) : Prop := ∃ s A n c er z, e = .returned (.tuple #[.agg #[.bool s, .slice A n c], .int .i64 er]) ∧ IntR w' (.agg #[.bool s, .slice A n c]) z ∧ POut l z er ∧ Below w.heap.size w w'
theorem POut.same {l : List UInt8} {a b e f : Int} (h : POut l a e) (k : POut l b f) : a = b ∧ e = f := by
  rcases h with ⟨h1, rfl, rfl⟩ | ⟨h1, h2, rfl, rfl⟩ | ⟨h1, h2, rfl, rfl⟩ <;> rcases k with ⟨k1, rfl, rfl⟩ | ⟨k1, k2, rfl, rfl⟩ | ⟨k1, k2, rfl, rfl⟩ <;> first | exact ⟨rfl, rfl⟩ | exact absurd k1 h1 | exact absurd h1 k1 | exact absurd k2 h2 | exact absurd h2 k2
theorem POut.fit {l : List UInt8} {a e : Int} (h : POut l a e) : ¬ BigI a := by
  rcases h with ⟨_, rfl, _⟩ | ⟨_, _, rfl, _⟩ | ⟨_, h, rfl, _⟩
  · exact not_big_zero
  · exact not_big_zero
  · exact fun hb => h ((bigI_sg _ _).1 hb)

theorem cut_one (s : ByteArray) : (s.extract 1 s.size).data.toList = s.data.toList.drop 1 := by
  rw [Lib.extract_data, List.take_of_length_le (by rw [List.length_drop]; have := Lib.size_eq s; omega)]

set_option maxRecDepth 100000 in
set_option maxHeartbeats 2000000 in
theorem rtext2_pos (A : Option Addr) (ca : Nat) (xs : List Nat) (w : World) (ha : Rd w A xs) (hx : Can xs) (hxl : xs.length ≤ 64) (hna : A = none → xs.length = 0 ∧ ca = 0) :
    Calls Tryz.prog 40 #[.agg #[.bool false, .slice A xs.length ca]] w fun e w' => e = .returned (.string ⟨(Lib.decDigits (val xs)).toArray⟩) ∧ Below w.heap.size w w' := by
  have hb0 : Below w.heap.size w (w.alloc (.cells #[.bool false, .slice A xs.length ca] 41)) := (Below.refl _ w).alloc (Nat.le_refl _) _
  have HB0 := Lib.hid hb0
  have H1 := Lib.hid (rtext_any A ca xs _ (ha.below hb0) hx.1 (by omega) hna)
  have NX := Lib.hid (not_big_len hx hxl)
  clear hb0 ha hx hna
  go_enter Tryz.func40, Tryz.ntmps40
  go_wp2_with fail
  refine H1.out.mono ?_
  rintro e w1 ⟨⟨l, rfl, hl⟩, hb1⟩
  obtain rfl : l = _ := hl.elim (fun h => absurd h.1 NX.out) fun h => h.2
  have HB1 := Lib.hid (HB0.out.trans (hb1.mono HB0.out.size))
  clear hl hb1
  go_wp2
  go_ret
  exact ⟨rfl, HB1.out⟩

set_option maxRecDepth 100000 in
set_option maxHeartbeats 2000000 in
theorem rtext2_neg (A : Option Addr) (ca : Nat) (xs : List Nat) (w : World) (ha : Rd w A xs) (hx : Can xs) (hxl : xs.length ≤ 64) (hna : A = none → xs.length = 0 ∧ ca = 0) :
    Calls Tryz.prog 40 #[.agg #[.bool true, .slice A xs.length ca]] w fun e w' => e = .returned (.string ⟨(45 :: Lib.decDigits (val xs)).toArray⟩) ∧ Below w.heap.size w w' := by
  have hb0 : Below w.heap.size w (w.alloc (.cells #[.bool true, .slice A xs.length ca] 41)) := (Below.refl _ w).alloc (Nat.le_refl _) _
  have HB0 := Lib.hid hb0
  have H1 := Lib.hid (rtext_any A ca xs _ (ha.below hb0) hx.1 (by omega) hna)
  have NX := Lib.hid (not_big_len hx hxl)
  clear hb0 ha hx hna
  go_enter Tryz.func40, Tryz.ntmps40
  go_wp2_with fail
  refine H1.out.mono ?_
  rintro e w1 ⟨⟨l, rfl, hl⟩, hb1⟩
  obtain rfl : l = _ := hl.elim (fun h => absurd h.1 NX.out) fun h => h.2
  have HB1 := Lib.hid (HB0.out.trans (hb1.mono HB0.out.size))
  have hsz : ¬ 9223372036854775807 < 1 + (Lib.decDigits (val xs)).length := by
    have := (dec_fits NX.out).2
    omega
  have HSC := Lib.hid (str_cons 45 (Lib.decDigits (val xs)))
  clear hl hb1
  go_wp2
  go_ret
  exact ⟨congrArg (fun t => Ending.returned (.string t)) HSC.out, HB1.out⟩

/-- the document's text of what is right -/
theorem rtext2_right (s : Bool) (A : Option Addr) (ca : Nat) (xs : List Nat) (w : World) (ha : Rd w A xs) (hx : Lm xs) (hr : rightB s xs = true) (hna : A = none → xs.length = 0 ∧ ca = 0) :
    Calls Tryz.prog 40 #[.agg #[.bool s, .slice A xs.length ca]] w fun e w' => e = .returned (.string ⟨(decI (sg s (val xs))).toArray⟩) ∧ Below w.heap.size w w' := by
  obtain ⟨h1, h2, h3, h4, h5⟩ := right_parts hr hx
  unfold decI
  rw [← h4]
  by_cases hn : sg s (val xs) < 0
  · rw [decide_eq_true hn] at h3
    rw [if_pos hn, h3]
    exact rtext2_neg A ca xs w ha h2 h1 hna
  · rw [decide_eq_false hn] at h3
    rw [if_neg hn, h3]
    exact rtext2_pos A ca xs w ha h2 h1 hna

end LM
end Go.Proofs.YtpoojlnndgoeoaaGreatDoor

namespace Go.Proofs.YtpoojlnndgoeoaaGreatDoor
open Go Go.RowKit
namespace LM
set_option linter.unusedVariables false

set_option maxRecDepth 100000 in
set_option maxHeartbeats 1000000 in
theorem highest_150 (A : Option Addr) (ca : Nat) (xs : List Nat) (w : World) (ha : Rd w A xs) (hx : Lm xs) (hca : xs.length ≤ ca) (hcam : ca ≤ 9223372036854775807) (hv : val xs = 150) :
    Calls Tryz.prog 61 #[.slice A xs.length ca] w fun e w' => e = .returned (.tuple #[.int .u64 150, .int .i64 0]) ∧ w = w' := by
  have S1 : Hid (Calls Tryz.prog 93 #[.slice A xs.length ca] w fun e w' => e = .returned (.tuple #[.int .u64 150, .bool true]) ∧ w = w') := Lib.hid ((small_any A ca xs w ha hx hca hcam).mono fun e w' ⟨h, h2⟩ => by
    refine ⟨?_, h2⟩
    rw [hv] at h
    rcases h with ⟨_, h⟩ | ⟨h, _⟩
    · exact h
    · exact absurd h (by decide))
  clear ha hx hv
  go_enter Tryz.func61, Tryz.ntmps61
  go_wp2_with (fail)
  refine S1.out.mono ?_
  rintro e w' ⟨rfl, rfl⟩
  go_wp2
  go_ret2
  exact ⟨rfl, rfl⟩

abbrev P150 : Nat := 4639481672377565184
theorem mldexp_p150 (w : World) : Calls Tryz.prog 53 #[.float .f64 P150, .int .i64 0] w fun e w' => e = .returned (.float .f64 P150) ∧ ∃ k, w' = w.drewN k :=
  mldexp_0 P150 1030 774056185954304 w (by decide) (by decide) (by decide) (by decide) (by decide) (by decide) (by decide) (by decide) (by decide) (by decide) (by decide)

set_option maxRecDepth 100000 in
set_option maxHeartbeats 2000000 in
theorem floof_150 (v : Value) (w : World) (hv : IntV w v (-150)) :
    Calls Tryz.prog 28 #[v] w fun e w' => e = .returned (.float .f64 M150) ∧ Below w.heap.size w w' := by
  obtain ⟨A, c, r, rfl, h1, h2, h3, h4, h5⟩ := hv
  have h5' : val r = 150 := h5
  have hrl : r.length ≤ 1000 := by
    have := can_len h4 1
    have h6 : ¬ 1 < r.length := fun h => by
      have h7 := this.1 h
      rw [h5'] at h7
      exact absurd h7 (by decide)
    omega
  have hb0 : Below w.heap.size w (w.alloc (.cells #[.bool true, .slice A r.length c] 41)) := (Below.refl _ w).alloc (Nat.le_refl _) _
  have X0 := Lib.hid (Bx.new w true A r.length c)
  have T1 := Lib.hid (trimUp_any A c r _ (h3.below hb0) h4.1 h1 h2 hrl)
  have HB0 := Lib.hid hb0
  have H5 := Lib.hid h5'
  have L1 := Lib.hid mldexp_p150
  have d1 : floatOfInt .f64 150 = P150 := by decide
  have d2 : ∀ W, (Op.unary .neg (.float .f64 P150)).run Tryz.prog W = .ok (.float .f64 M150) W := fun W => by
    show Result.ok (Value.float .f64 (Op.negFloat .f64 P150)) W = _
    rw [show Op.negFloat .f64 P150 = M150 from by decide]
  have dneg : decide ((-150 : Int) < 0) = true := by decide
  clear h3 h4 h5 h5' hb0
  go_enter Tryz.func28, Tryz.ntmps28
  go_wp2_with (fail)
  refine T1.out.mono ?_
  rintro e w1 ⟨q, rfl, hB, hq, hqv, hql, hb1⟩
  have X1 := Lib.hid (X0.out.below hb1)
  have HB1 := Lib.hid (HB0.out.trans (hb1.mono HB0.out.size))
  have HH := Lib.hid (highest_150 _ _ q w1 (Rd.of_blk (pre := []) (post := []) (by simpa using hB)) hq.1 (Nat.le_refl _) (by omega) (hqv.trans H5.out))
  clear hB hq hqv hb1
  obtain ⟨q0, q1, -, -, ql⟩ := X1.out.facts
  go_wp2_with (fail)
  refine HH.out.mono ?_
  rintro e w2 ⟨rfl, rfl⟩
  go_wp2_with (fail)
  refine (L1.out _).mono ?_
  rintro e w2 ⟨rfl, k, rfl⟩
  go_wp2_with (fail)
  go_ret
  exact ⟨rfl, below_drewN HB1.out _⟩

theorem dec_150 : Lib.decDigits 150 = [49, 53, 48] := by
  rw [dec_big (by decide), show 150 / 10 = 15 from by decide, dec_big (by decide), show 15 / 10 = 1 from by decide, Lib.decDigits_one (by decide)]
  rfl
theorem rtext_150 (v : Value) (w : World) (hv : IntV w v (-150)) :
    Calls Tryz.prog 40 #[v] w fun e w' => e = .returned (.string ⟨#[45, 49, 53, 48]⟩) ∧ Below w.heap.size w w' := by
  obtain ⟨A, c, r, rfl, h1, h2, h3, h4, h5⟩ := hv
  have h5' : val r = 150 := h5
  have hrl : r.length ≤ 1 := by
    have h6 : ¬ 1 < r.length := fun h => by
      have h7 := (can_len h4 1).1 h
      rw [h5'] at h7
      exact absurd h7 (by decide)
    omega
  have hr0 : r.length ≠ 0 := fun h => by
    have := List.eq_nil_of_length_eq_zero h
    rw [this] at h5'
    exact absurd h5' (by decide)
  have h := rtext2_right true A c r w h3 h4.1 (decide_eq_true ⟨by omega, h4.2, fun h => hr0 h.2⟩) (fun hA => by
    obtain ⟨b, off, e, _⟩ := h3 (by omega)
    rw [hA] at e
    cases e)
  rw [h5', show sg true 150 = -150 from rfl, show decI (-150) = [45, 49, 53, 48] from by unfold decI; rw [if_pos (by decide), show (-150 : Int).natAbs = 150 from rfl, dec_150]] at h
  exact h

end LM
end Go.Proofs.YtpoojlnndgoeoaaGreatDoor
