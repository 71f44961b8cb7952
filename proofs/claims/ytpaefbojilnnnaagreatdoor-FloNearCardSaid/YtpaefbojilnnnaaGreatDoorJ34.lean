/- Walks of the document's answer for layer 2: Text, Parse. -/
import Derived.Test.YtpaefbojilnnnaaGreatDoorJ26
import Derived.Test.YtpaefbojilnnnaaGreatDoorJ29
import Derived.Test.YtpaefbojilnnnaaGreatDoorJ30
import Derived.Test.YtpaefbojilnnnaaGreatDoorJ33
namespace Go.Proofs.YtpaefbojilnnnaaGreatDoor
open Go.RowKit
namespace LM
set_option linter.unusedVariables false

theorem first_eq (s : ByteArray) (h0 : 0 < s.size) : s.data.toList = s[0] :: s.data.toList.drop 1 := by
  have h : 0 < s.data.toList.length := by have := Lib.size_eq s; omega
  have e := List.getElem_cons_drop (i := 0) h
  rw [List.drop_zero] at e
  exact e.symm
theorem sign_first (s : ByteArray) (h0 : 0 < s.size) : signOf s.data.toList = if s[0] = 45 then (true, s.data.toList.drop 1) else if s[0] = 43 then (false, s.data.toList.drop 1) else (false, s.data.toList) := by
  have e := first_eq s h0
  generalize s[0] = c at *
  generalize s.data.toList.drop 1 = r at *
  rw [e]
  unfold signOf
  by_cases h : c = 45
  · subst h
    simp [Lib.hasPrefix, Lib.trimPrefix]
  · have h45 : (45 : UInt8) ≠ c := fun e => h e.symm
    rw [if_neg h]
    by_cases h2 : c = 43
    · subst h2
      simp [Lib.hasPrefix, Lib.trimPrefix]
    · have h43 : (43 : UInt8) ≠ c := fun e => h2 e.symm
      rw [if_neg h2]
      simp [Lib.hasPrefix, Lib.trimPrefix, h45, h43]
theorem sign_none (s : ByteArray) (h0 : s.size = 0) : signOf s.data.toList = (false, s.data.toList) := by
  have e : s.data.toList = [] := List.eq_nil_of_length_eq_zero (by have := Lib.size_eq s; omega)
  rw [e]
  rfl
/-- the document's reading of a text -/
def RetPR (w : World) (l : List UInt8) (e : Ending) (w' : World) : Prop := ∃ s A n c er z, e = .returned (.tuple #[.agg #[.bool s, .slice A n c], .int .i64 er]) ∧ IntR w' (.agg #[.bool s, .slice A n c]) z ∧ POut l z er ∧ Below w.heap.size w w'
theorem POut.same {l : List UInt8} {a b e f : Int} (h : POut l a e) (k : POut l b f) : a = b ∧ e = f := by
  rcases h with ⟨h1, rfl, rfl⟩ | ⟨h1, h2, rfl, rfl⟩ | ⟨h1, h2, rfl, rfl⟩ <;> rcases k with ⟨k1, rfl, rfl⟩ | ⟨k1, k2, rfl, rfl⟩ | ⟨k1, k2, rfl, rfl⟩ <;> first | exact ⟨rfl, rfl⟩ | exact absurd k1 h1 | exact absurd h1 k1 | exact absurd k2 h2 | exact absurd h2 k2
theorem POut.fit {l : List UInt8} {a e : Int} (h : POut l a e) : ¬ BigI a := by
  rcases h with ⟨_, rfl, _⟩ | ⟨_, _, rfl, _⟩ | ⟨_, h, rfl, _⟩
  · exact not_big_zero
  · exact not_big_zero
  · exact fun hb => h ((bigI_sg _ _).1 hb)

theorem cut_one (s : ByteArray) : (s.extract 1 s.size).data.toList = s.data.toList.drop 1 := by
  rw [Lib.extract_data, List.take_of_length_le (by rw [List.length_drop]; have := Lib.size_eq s; omega)]

set_option maxRecDepth 100000 in
set_option maxHeartbeats 2000000 in
theorem rtext2_pos (A : Option Addr) (ca : Nat) (xs : List Nat) (w : World) (ha : Rd w A xs) (hx : Can xs) (hxl : xs.length ≤ 64) (hna : A = none → xs.length = 0 ∧ ca = 0) :
    Calls Tryz.prog 54 #[.agg #[.bool false, .slice A xs.length ca]] w fun e w' => e = .returned (.string ⟨(Lib.decDigits (val xs)).toArray⟩) ∧ Below w.heap.size w w' := by
  have hb0 : Below w.heap.size w (w.alloc (.cells #[.bool false, .slice A xs.length ca] 38)) := (Below.refl _ w).alloc (Nat.le_refl _) _
  have HB0 := Lib.hid hb0
  have H1 := Lib.hid (rtext_any A ca xs _ (ha.below hb0) hx.1 (by omega) hna)
  have NX := Lib.hid (not_big_len hx hxl)
  clear hb0 ha hx hna
  go_enter Tryz.func54, Tryz.ntmps54
  go_wp2_with fail
  refine H1.out.mono ?_
  rintro e w1 ⟨⟨l, rfl, hl⟩, hb1⟩
  obtain rfl : l = _ := hl.elim (fun h => absurd h.1 NX.out) fun h => h.2
  have HB1 := Lib.hid (HB0.out.trans (hb1.mono HB0.out.size))
  clear hl hb1
  go_wp2
  go_ret
  exact ⟨rfl, HB1.out⟩

set_option maxRecDepth 100000 in
set_option maxHeartbeats 2000000 in
theorem rtext2_neg (A : Option Addr) (ca : Nat) (xs : List Nat) (w : World) (ha : Rd w A xs) (hx : Can xs) (hxl : xs.length ≤ 64) (hna : A = none → xs.length = 0 ∧ ca = 0) :
    Calls Tryz.prog 54 #[.agg #[.bool true, .slice A xs.length ca]] w fun e w' => e = .returned (.string ⟨(45 :: Lib.decDigits (val xs)).toArray⟩) ∧ Below w.heap.size w w' := by
  have hb0 : Below w.heap.size w (w.alloc (.cells #[.bool true, .slice A xs.length ca] 38)) := (Below.refl _ w).alloc (Nat.le_refl _) _
  have HB0 := Lib.hid hb0
  have H1 := Lib.hid (rtext_any A ca xs _ (ha.below hb0) hx.1 (by omega) hna)
  have NX := Lib.hid (not_big_len hx hxl)
  clear hb0 ha hx hna
  go_enter Tryz.func54, Tryz.ntmps54
  go_wp2_with fail
  refine H1.out.mono ?_
  rintro e w1 ⟨⟨l, rfl, hl⟩, hb1⟩
  obtain rfl : l = _ := hl.elim (fun h => absurd h.1 NX.out) fun h => h.2
  have HB1 := Lib.hid (HB0.out.trans (hb1.mono HB0.out.size))
  have hsz : ¬ 9223372036854775807 < 1 + (Lib.decDigits (val xs)).length := by
    have := (dec_fits NX.out).2
    omega
  have HSC := Lib.hid (str_cons 45 (Lib.decDigits (val xs)))
  clear hl hb1
  go_wp2
  go_ret
  exact ⟨congrArg (fun t => Ending.returned (.string t)) HSC.out, HB1.out⟩

/-- the document's text of what is right -/
theorem rtext2_right (s : Bool) (A : Option Addr) (ca : Nat) (xs : List Nat) (w : World) (ha : Rd w A xs) (hx : Lm xs) (hr : rightB s xs = true) (hna : A = none → xs.length = 0 ∧ ca = 0) :
    Calls Tryz.prog 54 #[.agg #[.bool s, .slice A xs.length ca]] w fun e w' => e = .returned (.string ⟨(decI (sg s (val xs))).toArray⟩) ∧ Below w.heap.size w w' := by
  obtain ⟨h1, h2, h3, h4, h5⟩ := right_parts hr hx
  unfold decI
  rw [← h4]
  by_cases hn : sg s (val xs) < 0
  · rw [decide_eq_true hn] at h3
    rw [if_pos hn, h3]
    exact rtext2_neg A ca xs w ha h2 h1 hna
  · rw [decide_eq_false hn] at h3
    rw [if_neg hn, h3]
    exact rtext2_pos A ca xs w ha h2 h1 hna

end LM
end Go.Proofs.YtpaefbojilnnnaaGreatDoor
