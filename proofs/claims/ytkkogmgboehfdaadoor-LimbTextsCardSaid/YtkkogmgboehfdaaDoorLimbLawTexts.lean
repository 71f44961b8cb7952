/- The walk of the statement LimbTexts. -/
import Derived.Test.YtkkogmgboehfdaaDoorLimbRText
import Derived.Test.YtkkogmgboehfdaaDoorLimbRParse
namespace Go.Proofs.YtkkogmgboehfdaaDoor
open Go.RowKit
namespace LM

/-- both readings of a text answer the same -/
theorem parse_both {l : List UInt8} {v v' : Value} {er er' : Int} {w1 w2 : World}
    (h1 : (¬ OkText l ∧ v = .slice none 0 0 ∧ er = 13) ∨ (OkText l ∧ BIG (dval 0 l) ∧ v = .slice none 0 0 ∧ er = 11) ∨ (OkText l ∧ ¬ BIG (dval 0 l) ∧ er = 0 ∧ NumW w1 v (dval 0 l)))
    (h2 : (¬ OkText l ∧ v' = .slice none 0 0 ∧ er' = 13) ∨ (OkText l ∧ BIG (dval 0 l) ∧ v' = .slice none 0 0 ∧ er' = 11) ∨ (OkText l ∧ ¬ BIG (dval 0 l) ∧ er' = 0 ∧ NumR w2 v' (dval 0 l))) :
    ∃ (A1 A2 : Option Addr) (k1 k2 : Nat) (r1 r2 : List Nat), v = .slice A1 r1.length k1 ∧ v' = .slice A2 r2.length k2 ∧ Rd w1 A1 r1 ∧ Rd w2 A2 r2 ∧ sameB r1 r2 = true ∧ r1.length ≤ 64 ∧ er = er' := by
  rcases h1 with ⟨a1, rfl, rfl⟩ | ⟨a1, a2, rfl, rfl⟩ | ⟨a1, a2, rfl, A1, k1, r1, rfl, _, _, c1, c2, c3⟩
  · rcases h2 with ⟨_, rfl, rfl⟩ | ⟨b1, _⟩ | ⟨b1, _⟩
    · exact ⟨none, none, 0, 0, [], [], rfl, rfl, Rd.nil, Rd.nil, sameB_self _, by simp, rfl⟩
    · exact absurd b1 a1
    · exact absurd b1 a1
  · rcases h2 with ⟨b1, _⟩ | ⟨_, _, rfl, rfl⟩ | ⟨_, b1, _⟩
    · exact absurd a1 b1
    · exact ⟨none, none, 0, 0, [], [], rfl, rfl, Rd.nil, Rd.nil, sameB_self _, by simp, rfl⟩
    · exact absurd a2 b1
  · rcases h2 with ⟨b1, _⟩ | ⟨_, b1, _⟩ | ⟨_, _, rfl, A2, k2, r2, rfl, _, d1, d2, d3⟩
    · exact absurd a1 b1
    · exact absurd b1 a2
    · refine ⟨A1, A2, k1, k2, r1, r2, rfl, rfl, c1, d1, ?_, ?_, rfl⟩
      · rw [can_ext c2 d2 (by rw [c3, d3])]; exact sameB_self _
      · rcases Nat.lt_or_ge 64 r1.length with h | h
        · exact absurd ((big_iff c2).1 h) (by rw [c3]; exact a2)
        · exact h
/-- both texts of a number are the same -/
theorem text_both {n : Nat} {e e' : Ending} (h1 : TextE n e) (h2 : TextE n e') : ∃ t : ByteArray, e = .returned (.string t) ∧ e' = .returned (.string t) := by
  obtain ⟨l, rfl, h1⟩ := h1
  obtain ⟨l', rfl, h2⟩ := h2
  rcases h1 with ⟨a, rfl⟩ | ⟨a, rfl⟩
  · rcases h2 with ⟨_, rfl⟩ | ⟨b, _⟩
    · exact ⟨_, rfl, rfl⟩
    · exact absurd a b
  · rcases h2 with ⟨b, _⟩ | ⟨_, rfl⟩
    · exact absurd b a
    · exact ⟨_, rfl, rfl⟩

set_option maxRecDepth 100000 in
set_option maxHeartbeats 4000000 in
theorem texts_walk (A : Option Addr) (ca : Nat) (xs : List Nat) (s : ByteArray) (w : World) (ha : Rd w A xs) (hx : Lm xs) (hna : A = none → xs.length = 0 ∧ ca = 0) (hsm : s.size ≤ 9223372036854775807)
    (hs : ∃ ev, w.cell? ⟨0, 0, none⟩ = some ev ∧ 0 < w.heap.size ∧ (ev = .nilIface ∨ ∃ te pe, ev = .iface te pe))
    (htab : Lib.TabIs Tryd.prog w "internal/strconv.uint64pow10" .u64 Lib.pow10Tab) :
    Calls Tryd.prog 8 #[.slice A xs.length ca, .string s] w fun e w' => e = .returned (.bool true) ∧ Below w.heap.size w w' := by
  have HAL := Lib.hid (alive_any w htab)
  have HTAB := Lib.hid htab
  have HS := Lib.hid hs
  have HNA := Lib.hid hna
  clear htab hs hna
  by_cases h1 : 70 < xs.length
  · have hd : decide (70 < (xs.length : Int)) = true := decide_eq_true (by omega)
    go_enter Tryd.func8, Tryd.ntmps8
    go_wp2_with fail
    refine HAL.out.mono ?_
    rintro e w1 ⟨rfl, b1⟩
    go_wp2
    go_ret
    exact ⟨rfl, b1⟩
  have hd : decide (70 < (xs.length : Int)) = false := decide_eq_false (by omega)
  by_cases h2 : 800 < s.size
  · have hd2 : decide (800 < (s.size : Int)) = true := decide_eq_true (by omega)
    go_enter Tryd.func8, Tryd.ntmps8
    go_wp2_with fail
    refine HAL.out.mono ?_
    rintro e w1 ⟨rfl, b1⟩
    go_wp2
    go_ret
    exact ⟨rfl, b1⟩
  have hd2 : decide (800 < (s.size : Int)) = false := decide_eq_false (by omega)
  have hlx : xs.length ≤ 70 := by omega
  clear h1 h2
  go_enter Tryd.func8, Tryd.ntmps8
  go_wp2_with fail
  refine HAL.out.mono ?_
  rintro e w1 ⟨rfl, b1⟩
  have ha1 := ha.below b1
  obtain ⟨ev, hc, hp, hev⟩ := HS.out
  have hc1 : w1.cell? ⟨0, 0, none⟩ = some ev := by rw [← hc]; exact World.cell?_of_block (a := ⟨0, 0, none⟩) (b1.block 0 hp)
  have hpa := parse_any s w1 hsm (fun _ => ⟨ev, hc1, Nat.lt_of_lt_of_le hp b1.size, hev⟩)
  have HPA := Lib.hid hpa
  clear hpa hc hc1 hp hev ha
  go_wp2_with fail
  refine HPA.out.mono ?_
  rintro e w2 ⟨⟨v, er, rfl, hpe⟩, b2⟩
  have B2 := b1.trans (b2.mono b1.size)
  have ha2 := ha1.below b2
  have HPE := Lib.hid hpe
  clear hpe ha1 b1 b2 HPA
  go_wp2_with fail
  refine (rparse_any s w2 hsm).mono ?_
  rintro e w3 ⟨⟨v', er', rfl, hre⟩, b3⟩
  obtain ⟨A1, A2, k1, k2, r1, r2, rfl, rfl, c1, c2, c3, c4, rfl⟩ := parse_both HPE.out hre
  have B3 := B2.trans (b3.mono B2.size)
  have ha3 := ha2.below b3
  have hr1 := c1.below b3
  have HC3 := Lib.hid c3
  clear hre ha2 b3 c1 c3 HPE
  go_wp2_with (at_builtin; refine wp_copy rfl _ _ rfl w3 A ca xs ha3 (by omega) HNA.out rfl rfl ?_; intro g1 kk w4 p1 p2 p3 p4 p5 p6)
  have B4 := B3.trans (p6.mono B3.size)
  have ha4 := ha3.below p6
  have hr4 := hr1.below p6
  have hq4 := c2.below p6
  clear ha3 hr1 c2 p6
  refine (text_row (some ⟨g1, 0, none⟩) kk xs w4 p5 hx p1 p2 (tab_below HTAB.out B4)).mono ?_
  rintro e w5 ⟨ht1, b5⟩
  obtain ⟨l1, rfl, hl1⟩ := ht1
  have HL1 := Lib.hid hl1
  have B5 := B4.trans (b5.mono B4.size)
  have ha5 := ha4.below b5
  have hr5 := hr4.below b5
  have hq5 := hq4.below b5
  clear hl1 ha4 hr4 hq4 b5 p5
  go_wp2_with fail
  refine (rtext_any A ca xs w5 ha5 hx (by omega) HNA.out).mono ?_
  rintro e w6 ⟨ht2, b6⟩
  obtain ⟨t, e1, rfl⟩ := text_both ⟨l1, rfl, HL1.out⟩ ht2
  have e2 : ({ data := l1.toArray } : ByteArray) = t := by injection e1 with e1; injection e1
  rw [e2]
  have B6 := B5.trans (b6.mono B5.size)
  have hr6 := hr5.below b6
  have hq6 := hq5.below b6
  have sm := same_any A1 A2 k1 k2 r1 r2 w6 hr6 hq6 (by omega)
  rw [HC3.out] at sm
  have SM := Lib.hid sm
  clear sm ht2 e1 e2 HL1 ha5 hr5 hq5 b6
  go_wp2_with fail
  refine SM.out.mono ?_
  rintro e w7 ⟨rfl, b7⟩
  go_wp2
  go_ret
  exact ⟨rfl, B6.trans (b7.mono B6.size)⟩

end LM
end Go.Proofs.YtkkogmgboehfdaaDoor
