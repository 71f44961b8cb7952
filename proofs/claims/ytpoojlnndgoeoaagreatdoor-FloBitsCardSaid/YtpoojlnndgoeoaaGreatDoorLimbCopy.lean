/- A slice of limbs is copied: append to a new slice that is empty. -/
import Derived.Test.YtpoojlnndgoeoaaGreatDoorFloL
import Derived.Test.YtpoojlnndgoeoaaGreatDoorFloP
import Derived.Test.YtpoojlnndgoeoaaGreatDoorExactPw
import Derived.Test.YtpoojlnndgoeoaaGreatDoorLimbT
import Derived.Test.YtpoojlnndgoeoaaGreatDoorExactAlive
import Derived.Test.YtpoojlnndgoeoaaGreatDoorShelf
import Derived.Test.YtpoojlnndgoeoaaGreatDoorExactF
import Derived.Test.YtpoojlnndgoeoaaGreatDoorLimbF
import Derived.Test.YtpoojlnndgoeoaaGreatDoorLimbM
import Derived.Lib.AtoiErrMem
import Derived.Test.YtpoojlnndgoeoaaGreatDoorLimbU
import Derived.Test.YtpoojlnndgoeoaaGreatDoorLimbDivAny
namespace Go.Proofs.YtpoojlnndgoeoaaGreatDoor
open Go Go.RowKit
namespace LM
set_option linter.unusedVariables false

set_option maxRecDepth 100000 in
set_option maxHeartbeats 2000000 in
theorem floexact_150 (w : World) :
    Calls Tryz.prog 24 #[.float .f64 M150] w (RetE w (-150)) := by
  have I1 := Lib.hid fun W => isInf_any M150 W false (by decide) (by decide)
  have T1 := Lib.hid trunc_150
  have F1 := Lib.hid mfrexp_150
  have L1 := Lib.hid mldexp_150
  have o1 : (FloatKind.f64.format.order M150 M150 != some .eq) = false := by decide
  have hc : ∀ W, (convert 22 3 (.float .f64 M150)).run Tryz.prog W = .ok (.int .i64 (-150)) W := fun W =>
    run_convert_float_int W 22 3 .f64 .i64 M150 (-150) (by rw [Tryz.underlying22]; rfl) Tryz.underlying3 (by decide)
  have hmx : max (0 : Int) (-45) = 0 := by decide
  have E1 := Lib.hid (eof_int (-150) (by decide) (by decide))
  have E2 := Lib.hid (eof_int 2 (by decide) (by decide))
  have E3 := Lib.hid (eof_int 0 (by decide) (by decide))
  go_enter Tryz.func24, Tryz.ntmps24
  go_wp2_with (fail)
  refine (I1.out _).mono ?_
  rintro e w' ⟨rfl, rfl⟩
  go_wp2_with (fail)
  refine (T1.out _).mono ?_
  rintro e w' ⟨rfl, rfl⟩
  go_wp2_with (fail)
  refine (F1.out _).mono ?_
  rintro e w' ⟨⟨fr, rfl⟩, k1, rfl⟩
  go_wp2_with (fail)
  refine (L1.out _).mono ?_
  rintro e w' ⟨rfl, k2, rfl⟩
  have XR0 : Hid (Bx ((w.alloc (.cells #[.bool false, .slice none 0 0] 41)).drewN (k1 + k2)) w.heap.size false none 0 0) := Lib.hid (Bx.new w false none 0 0)
  have HW0 : Hid (Below w.heap.size w ((w.alloc (.cells #[.bool false, .slice none 0 0] 41)).drewN (k1 + k2))) := Lib.hid (below_drewN ((Below.refl _ w).alloc (Nat.le_refl _) _) _)
  go_wp2_with (fail)
  refine (E1.out _).mono ?_
  intro e w1 hr
  obtain ⟨s1, A1, n1, c1, rfl, hv1, hb1⟩ := hr.gen
  have XR1 := Lib.hid ((XR0.out.below hb1).alloc (.cells #[.bool s1, .slice A1 n1 c1] 41))
  have HV1 := Lib.hid hv1
  have HB1 := Lib.hid (bel_trans (B := w.heap.size) HW0.out hb1)
  clear hr hv1 hb1
  go_wp2_with (fail)
  have X1 := Lib.hid (Bx.new w1 s1 A1 n1 c1)
  have V1 := Lib.hid (HV1.out.alloc (.cells #[.bool s1, .slice A1 n1 c1] 41))
  have hbk := HB1.out
  have HB1b : Hid (Below w.heap.size w (w1.alloc (.cells #[.bool s1, .slice A1 n1 c1] 41))) := Lib.hid (hbk.alloc hbk.size _)
  clear hbk
  refine (E2.out _).mono ?_
  intro e w2 hr
  obtain ⟨s2, A2, n2, c2, rfl, hv2, hb2⟩ := hr.gen
  have XR2 := Lib.hid (XR1.out.below hb2)
  have X2 := Lib.hid (X1.out.below hb2)
  have V12 := Lib.hid (V1.out.keep hb2)
  have HV2 := Lib.hid hv2
  have HB2 := Lib.hid (bel_trans (B := w.heap.size) HB1b.out hb2)
  clear hr hv2 hb2
  go_wp2_with (fail)
  refine (E3.out _).mono ?_
  intro e w3 hr
  obtain ⟨s3, A3, n3, c3, rfl, hv3, hb3⟩ := hr.gen
  have XR3 := Lib.hid (XR2.out.below hb3)
  have X3 := Lib.hid (X2.out.below hb3)
  have V13 := Lib.hid (V12.out.keep hb3)
  have HP := Lib.hid (epow_go s2 s3 A2 A3 n2 c2 n3 c3 2 0 w3 (HV2.out.keep hb3) hv3 (small_not_big (by decide)) (by decide))
  have HB3 := Lib.hid (bel_trans (B := w.heap.size) HB2.out hb3)
  clear hr hv3 hb3
  go_wp2_with (fail)
  refine HP.out.mono ?_
  rintro e w4 ⟨s4, A4, n4, c4, er, rfl, hcase, hb4⟩
  have hpw : powI 0 1 2 = some 1 := by
    rw [powI, if_neg (by decide), if_neg (small_not_big (by decide)), if_pos (by decide)]
    rfl
  rw [hpw] at hcase
  obtain ⟨rfl, hv4⟩ : er = 0 ∧ IntV w4 (.agg #[.bool s4, .slice A4 n4 c4]) 1 := by
    rcases hcase with ⟨h, _⟩ | ⟨z, h, h1, h2⟩
    · cases h
    · injection h with h
      subst h
      exact ⟨h1, h2⟩
  have XR4 := Lib.hid (XR3.out.below hb4)
  have X4 := Lib.hid (X3.out.below hb4)
  have V14 := Lib.hid (V13.out.keep hb4)
  have HV4 := Lib.hid hv4
  have HB4 := Lib.hid (bel_trans (B := w.heap.size) HB3.out hb4)
  clear hcase hpw hv4 hb4
  have XR5 := Lib.hid (XR4.out.alloc (.cells #[.bool s4, .slice A4 n4 c4] 41))
  have X5 := Lib.hid (X4.out.alloc (.cells #[.bool s4, .slice A4 n4 c4] 41))
  have Y5 := Lib.hid (Bx.new w4 s4 A4 n4 c4)
  have V15 := Lib.hid (V14.out.alloc (.cells #[.bool s4, .slice A4 n4 c4] 41))
  have V45 := Lib.hid (HV4.out.alloc (.cells #[.bool s4, .slice A4 n4 c4] 41))
  have HB5 : Hid (Below w.heap.size w (w4.alloc (.cells #[.bool s4, .slice A4 n4 c4] 41))) := Lib.hid (HB4.out.alloc HB4.out.size _)
  have HM := Lib.hid (emul_int V15.out V45.out (small_not_big (by decide)) (small_not_big (by decide)))
  obtain ⟨q0, q1, -, -, ql⟩ := X4.out.facts
  go_wp2_with (fail)
  refine HM.out.mono ?_
  rintro e w6 ⟨s6, A6, n6, c6, er, rfl, hcase, hb6⟩
  have XR6 := Lib.hid (XR5.out.below hb6)
  have HB6 := Lib.hid (bel_trans (B := w.heap.size) HB5.out hb6)
  have HC6 := Lib.hid hcase
  obtain ⟨W, hW, ZR, hbW, hvW, -, -, -⟩ := stored_world XR6.out HB6.out (Nat.le_refl _) s6 A6 n6 c6
  obtain ⟨z0, z1, -, -, zl⟩ := ZR.facts
  obtain ⟨x0, x1, x2, x3, xl⟩ := XR6.out.facts
  have HBW := Lib.hid hbW
  have HVW := Lib.hid hvW
  clear hcase hb6 q0 q1 ql hbW hvW
  go_wp2_with (fail)
  first | rw [hW] | skip
  refine bodyPost_ret (v := .tuple #[.agg #[.bool s6, .slice A6 n6 c6], .int .i64 er]) (by simp [results, Tryz.results24, go_sem, z0, z1]) rfl ?_
  refine ⟨s6, A6, n6, c6, er, rfl, ?_, HBW.out⟩
  rcases HC6.out with ⟨a1, a2, a3⟩ | ⟨a1, a2, a3⟩
  · exact .inl ⟨a1, a2, HVW.out _ _ a3⟩
  · exact .inr ⟨a1, a2, HVW.out _ _ a3⟩

end LM
end Go.Proofs.YtpoojlnndgoeoaaGreatDoor



namespace Go.Proofs.YtpoojlnndgoeoaaGreatDoor
open Go Go.RowKit
namespace LM

/-- a slice that reads as this number, without leading zeros, of whatever room -/
def NumW (w : World) (v : Value) (n : Nat) : Prop := ∃ A c r, v = .slice A (List.length r) c ∧ r.length ≤ c ∧ c ≤ 9223372036854775807 ∧ Rd w A r ∧ Can r ∧ val r = n
/-- a text that is a number's -/
def OkText (l : List UInt8) : Prop := 1 ≤ l.length ∧ l.length ≤ 700 ∧ Digs l
/-- what Parse answers -/
def ParseE (l : List UInt8) (e : Ending) (w' : World) : Prop := ∃ v er, e = .returned (.tuple #[v, .int .i64 er]) ∧
  ((¬ OkText l ∧ v = .slice none 0 0 ∧ er = 13) ∨ (OkText l ∧ BIG (dval 0 l) ∧ v = .slice none 0 0 ∧ er = 11) ∨ (OkText l ∧ ¬ BIG (dval 0 l) ∧ er = 0 ∧ NumW w' v (dval 0 l)))

theorem own_below {B : Nat} {e : TypeId} {k : Nat} {v : Value} {n : Nat} {xs : List Value} {w w' : World} (h : w.ownsRow B e k v n xs) (hb : Below w.heap.size w w') : w'.ownsRow B e k v n xs :=
  h.kept (row := none) ⟨hb.os, hb.tape, hb.output, hb.size, fun j hj _ => hb.block j hj⟩ (by cases hv : v.ownBlock <;> simp)

/-- the library's sentinel lies where it is laid -/
abbrev SynCell (w : World) : Prop := ∃ ev, w.cell? ⟨1, 0, none⟩ = some ev ∧ 1 < w.heap.size ∧ (ev = .nilIface ∨ ∃ te pe, ev = .iface te pe)
theorem SynCell.below {w w' : World} (h : SynCell w) (hb : Below w.heap.size w w') : SynCell w' := by
  obtain ⟨ev, hc, hp, hev⟩ := h
  exact ⟨ev, by rw [← hc]; exact World.cell?_of_block (a := ⟨1, 0, none⟩) (hb.block _ hp), Nat.lt_of_lt_of_le hp hb.size, hev⟩

/-- where the loop stands -/
def PaRel (w : World) (l : List UInt8) (sv nv : Value) (wr : World) : Prop :=
  ∃ (pos : Nat) (t : ByteArray) (xs : List Nat), sv = .string t ∧ t.data.toList = l.drop pos ∧ pos ≤ l.length ∧ (pos = 0 ∨ (l.length - pos) % 9 = 0) ∧ Digs (l.take pos) ∧
    wr.ownsRow w.heap.size 88 1 nv xs.length (U xs) ∧ Lm xs ∧ val xs = dval 0 (l.take pos) ∧ xs.length ≤ pos ∧ Below w.heap.size w wr

end LM
end Go.Proofs.YtpoojlnndgoeoaaGreatDoor



namespace Go.Proofs.YtpoojlnndgoeoaaGreatDoor
open Go.RowKit
namespace LM
set_option linter.unusedVariables false

/-- the sign of a text, and what is behind it -/
def signOf (l : List UInt8) : Bool × List UInt8 := if Lib.hasPrefix l [45] then (true, Lib.trimPrefix l [45]) else (false, Lib.trimPrefix l [43])
/-- what a text's reading comes to -/
def POut (l : List UInt8) (z er : Int) : Prop := (¬ OkText (signOf l).2 ∧ z = 0 ∧ er = 13) ∨ (OkText (signOf l).2 ∧ BIG (dval 0 (signOf l).2) ∧ z = 0 ∧ er = 11) ∨ (OkText (signOf l).2 ∧ ¬ BIG (dval 0 (signOf l).2) ∧ z = sg (signOf l).1 (dval 0 (signOf l).2) ∧ er = 0)
def RetP (w : World) (l : List UInt8) (e : Ending) (w' : World) : Prop := ∃ s A n c er z, e = .returned (.tuple #[.agg #[.bool s, .slice A n c], .int .i64 er]) ∧ IntV w' (.agg #[.bool s, .slice A n c]) z ∧ POut l z er ∧ Below w.heap.size w w'
theorem parse_open {l : List UInt8} {e : Ending} {w' : World} (h : ParseE l e w') : ∃ A c r er, e = .returned (.tuple #[.slice A (List.length r) c, .int .i64 er]) ∧ r.length ≤ c ∧ c ≤ 9223372036854775807 ∧ Rd w' A r ∧ Can r ∧
    ((¬ OkText l ∧ val r = 0 ∧ er = 13) ∨ (OkText l ∧ BIG (dval 0 l) ∧ val r = 0 ∧ er = 11) ∨ (OkText l ∧ ¬ BIG (dval 0 l) ∧ val r = dval 0 l ∧ er = 0)) := by
  obtain ⟨v, er, rfl, ⟨h1, rfl, rfl⟩ | ⟨h1, h2, rfl, rfl⟩ | ⟨h1, h2, rfl, A, c, r, rfl, h3, h4, h5, h6, h7⟩⟩ := h
  · exact ⟨none, 0, [], 13, rfl, Nat.le_refl _, by decide, Rd.nil, can_nil, .inl ⟨h1, rfl, rfl⟩⟩
  · exact ⟨none, 0, [], 11, rfl, Nat.le_refl _, by decide, Rd.nil, can_nil, .inr (.inl ⟨h1, h2, rfl, rfl⟩)⟩
  · exact ⟨A, c, r, 0, rfl, h3, h4, h5, h6, .inr (.inr ⟨h1, h2, h7, rfl⟩)⟩
theorem trim_le (l p : List UInt8) : (Lib.trimPrefix l p).length ≤ l.length := by
  unfold Lib.trimPrefix
  split
  · simp
  · exact Nat.le_refl _

end LM
end Go.Proofs.YtpoojlnndgoeoaaGreatDoor

namespace Go.Proofs.YtpoojlnndgoeoaaGreatDoor
open Go Go.RowKit
namespace LM

set_option maxRecDepth 100000 in
theorem wp_copy {ops : Array Oper} {rest : List Oper} {o : Oper} {a : Act} {Q : Exit → Act → World → Prop} (hgd : o.guard = none) (s x : Operand)
    (ho : o.op = .call { callee := .builtin .append, args := #[s, x], argTypes := #[39, 39] }) (w : World) (A : Option Addr) (c : Nat) (xs : List Nat) (hr : Rd w A xs) (hl : xs.length ≤ 1000000) (hnil : A = none → xs.length = 0 ∧ c = 0)
    (hs : a.eval s = .slice (some ⟨w.heap.size, 0, none⟩) 0 0) (hx : a.eval x = .slice A xs.length c)
    (h : ∀ g cap w1, xs.length ≤ cap → cap ≤ 9223372036854775807 → w.heap.size ≤ g → g < w1.heap.size → Rd w1 (some ⟨g, 0, none⟩) xs → Below w.heap.size w w1 → wpList Tryz.prog ops Q rest (a.put o.dst (.slice (some ⟨g, 0, none⟩) xs.length cap)) w1) :
    wpList Tryz.prog ops Q (o :: rest) a (w.alloc (.cells #[] 88)) := by
  obtain ⟨i0, hi0, hz0, hz1, hz2⟩ := info_parts u32_info
  have hrow : (w.alloc (.cells #[] 88)).ownsRow w.heap.size 88 1 (.slice (some ⟨w.heap.size, 0, none⟩) 0 0) 0 [] :=
    ⟨rfl, .inr ⟨w.heap.size, 0, #[], rfl, Nat.le_refl _, heap_alloc_new w _, Nat.le_refl _, by decide, rfl, rfl⟩⟩
  have hba : Below w.heap.size w (w.alloc (.cells #[] 88)) := (Below.refl _ w).alloc (Nat.le_refl _) _
  rcases A with _ | ad
  · obtain ⟨hx0, rfl⟩ := hnil rfl
    obtain rfl : xs = [] := List.eq_nil_of_length_eq_zero hx0
    exact wpList_append_own_none hgd s x _ ho w.heap.size _ i0 1 Tryz.underlying39 hi0 _ _ _ hs hrow hx (h w.heap.size 0 _ (Nat.le_refl _) (by decide) (Nat.le_refl _) (by simp) Rd.nil hba)
  · have hsrc : ∀ j u, (U xs)[j]? = some u → (w.alloc (.cells #[] 88)).cell? (ad.add j) = some u := by
      intro j u hu
      have hj : j < xs.length := by
        rcases Nat.lt_or_ge j xs.length with h | h
        · exact h
        · rw [List.getElem?_eq_none (by rw [U_len]; exact h)] at hu; cases hu
      obtain ⟨b, off, e, hb, hc⟩ := hr.at_ hj
      injection e with e
      subst e
      rw [U_get _ _ hj] at hu
      rw [← hu, ← hc, addr_add]
      exact World.cell?_of_block (a := ⟨b, off + j, none⟩) (Below.heap_alloc w _ b hb)
    refine wpList_append_own _ hgd s x 39 ho w.heap.size 88 i0 (.int .u32 0) 1 4 Tryz.underlying39 hi0 hz0 hz1 hz2 rfl (by decide) _ _ _ hs hrow ad xs.length c (U xs) hx (by simp [U_len]) hsrc (u_one xs) (by unfold maxLen; omega) (by omega) (by simp) ?_
    intro v1 w1 hown1 hg1 hiff
    have hb1 : Below w.heap.size w w1 := hba.grown hg1 (by simp) (fun k e => by have e2 : (Value.slice (some ⟨w.heap.size, 0, none⟩) 0 0).ownBlock = some k := e; have e3 : some w.heap.size = some k := e2; injection e3 with e3; omega)
    rw [Nat.zero_add, List.nil_append] at hown1
    rcases own_cases hown1 with ⟨rfl, rfl⟩ | ⟨g, cap, rest', rfl, hgb, hB1, hcap, hcm, hlen⟩
    · have h2 : Value.slice (some ⟨w.heap.size, 0, none⟩) 0 0 = .slice none 0 0 := (hiff.1 rfl).1
      cases h2
    · exact h g cap w1 hcap (by unfold maxLen at hcm; omega) hgb hB1.lt (fun hl0 => ⟨g, 0, rfl, hB1.lt, fun k hk => by
        rw [Nat.zero_add, hB1.cell, List.getElem?_append_left (by rw [U_len]; exact hk), U_get _ _ hk]⟩) hb1

/-- two readings of one number without leading zeros -/
theorem read_len {r xs : List Nat} (hr : Can r) (hx : Lm xs) (hv : val r = val xs) : r.length ≤ xs.length := by
  rw [can_ext hr (can_trim hx) (hv.trans (val_trim xs).symm)]
  exact trim_length_le xs

end LM
end Go.Proofs.YtpoojlnndgoeoaaGreatDoor
