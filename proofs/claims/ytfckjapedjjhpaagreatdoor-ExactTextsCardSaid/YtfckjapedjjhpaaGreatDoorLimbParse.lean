/- Walks of package limb: Parse: the number of decimal digits. -/
import Derived.Test.YtfckjapedjjhpaaGreatDoorShelfP
import Derived.Test.YtfckjapedjjhpaaGreatDoorLimbParseMath
import Derived.Test.YtfckjapedjjhpaaGreatDoorLimbF
import Derived.Test.YtfckjapedjjhpaaGreatDoorLimbM
import Derived.Lib.AtoiErrMem
namespace Go.Proofs.YtfckjapedjjhpaaGreatDoor
open Go Go.RowKit
namespace LM

/-- a slice that reads as this number, without leading zeros, of whatever room -/
def NumW (w : World) (v : Value) (n : Nat) : Prop := ∃ A c r, v = .slice A (List.length r) c ∧ r.length ≤ c ∧ c ≤ 9223372036854775807 ∧ Rd w A r ∧ Can r ∧ val r = n
/-- a text that is a number's -/
def OkText (l : List UInt8) : Prop := 1 ≤ l.length ∧ l.length ≤ 700 ∧ Digs l
/-- what Parse answers -/
def ParseE (l : List UInt8) (e : Ending) (w' : World) : Prop := ∃ v er, e = .returned (.tuple #[v, .int .i64 er]) ∧
  ((¬ OkText l ∧ v = .slice none 0 0 ∧ er = 13) ∨ (OkText l ∧ BIG (dval 0 l) ∧ v = .slice none 0 0 ∧ er = 11) ∨ (OkText l ∧ ¬ BIG (dval 0 l) ∧ er = 0 ∧ NumW w' v (dval 0 l)))

/-- the library's ParseUint at most nine bytes -/
theorem pu_ok (t : ByteArray) (h1 : 1 ≤ t.size) (h2 : t.size ≤ 9) (hd : Digs t.data.toList) (w : World) :
    Calls Tryz.prog 29 #[.string t, .int .i64 10, .int .i64 32] w fun e w' => e = .returned (.tuple #[.int .u64 (dval 0 t.data.toList : Nat), .nilIface]) ∧ Below w.heap.size w w' :=
  (Tryz.strconv_ParseUint_10_at32_ok t (by omega) _ (parseB_ok hd (by rw [← Lib.size_eq]; exact h1) (by rw [← Lib.size_eq]; exact h2)) w).mono fun e w' ⟨he, hw⟩ => ⟨he, by
    rcases hw with rfl | rfl
    · exact Below.refl _ _
    · exact Lib.bytesWorld_below _ _ _⟩
theorem pu_bad (t : ByteArray) (h2 : t.size ≤ 9) (hd : ¬ Digs t.data.toList) (ev : Value) (w : World) (hv : w.cell? ⟨0, 0, none⟩ = some ev) (hev : ev = .nilIface ∨ ∃ te pe, ev = .iface te pe) :
    Calls Tryz.prog 29 #[.string t, .int .i64 10, .int .i64 32] w fun e w' => (∃ T N, e = .returned (.tuple #[.int .u64 0, .iface T (.pointer (some ⟨N, 0, none⟩))])) ∧ Below w.heap.size w w' := by
  obtain ⟨b1, b2⟩ := parseB_bad hd (by rw [← Lib.size_eq]; exact h2)
  cases hp : Lib.parseUintB 32 t.data.toList
  case ok u => exact absurd hp (b1 u)
  case range => exact absurd hp b2
  all_goals
    exact (Any.strconv_ParseUint_10_at32_syntax Tryz.laysPu14 t (by omega) hp ev w hv hev).mono fun e w' ⟨N, he, _, _, hb⟩ => ⟨⟨_, N, he⟩, hb⟩

theorem own_below {B : Nat} {e : TypeId} {k : Nat} {v : Value} {n : Nat} {xs : List Value} {w w' : World} (h : w.ownsRow B e k v n xs) (hb : Below w.heap.size w w') : w'.ownsRow B e k v n xs :=
  h.kept (row := none) ⟨hb.os, hb.tape, hb.output, hb.size, fun j hj _ => hb.block j hj⟩ (by cases hv : v.ownBlock <;> simp)

/-- the library's sentinel lies where it is laid -/
abbrev SynCell (w : World) : Prop := ∃ ev, w.cell? ⟨0, 0, none⟩ = some ev ∧ 0 < w.heap.size ∧ (ev = .nilIface ∨ ∃ te pe, ev = .iface te pe)
theorem SynCell.below {w w' : World} (h : SynCell w) (hb : Below w.heap.size w w') : SynCell w' := by
  obtain ⟨ev, hc, hp, hev⟩ := h
  exact ⟨ev, by rw [← hc]; exact World.cell?_of_block (a := ⟨0, 0, none⟩) (hb.block _ hp), Nat.lt_of_lt_of_le hp hb.size, hev⟩

/-- where the loop stands -/
def PaRel (w : World) (l : List UInt8) (sv nv : Value) (wr : World) : Prop :=
  ∃ (pos : Nat) (t : ByteArray) (xs : List Nat), sv = .string t ∧ t.data.toList = l.drop pos ∧ pos ≤ l.length ∧ (pos = 0 ∨ (l.length - pos) % 9 = 0) ∧ Digs (l.take pos) ∧
    wr.ownsRow w.heap.size 54 1 nv xs.length (U xs) ∧ Lm xs ∧ val xs = dval 0 (l.take pos) ∧ xs.length ≤ pos ∧ Below w.heap.size w wr

set_option maxRecDepth 100000 in
set_option maxHeartbeats 2000000 in
theorem parse_any (s : ByteArray) (w : World) (hs : s.size ≤ 9223372036854775807) (hv : ¬ Digs s.data.toList → SynCell w) :
    Calls Tryz.prog 18 #[.string s] w fun e w' => ParseE s.data.toList e w' ∧ Below w.heap.size w w' := by
  have hsl : s.size = s.data.toList.length := Lib.size_eq s
  rcases Nat.eq_zero_or_pos s.size with h0 | h0
  · have hz : ((s.size : Int) == 0) = true := by rw [h0]; rfl
    have HZ := Lib.hid h0
    have HSL := Lib.hid hsl
    clear h0 hsl
    go_enter Tryz.func18, Tryz.ntmps18
    go_wp2
    go_ret2
    refine ⟨⟨_, _, rfl, .inl ⟨fun h => ?_, rfl, rfl⟩⟩, Below.refl _ _⟩
    have := h.1
    rw [← HSL.out, HZ.out] at this
    omega
  have hz : ((s.size : Int) == 0) = false := by rw [beq_eq_false_iff_ne]; omega
  by_cases h7 : 700 < s.size
  · have hd : decide (700 < (s.size : Int)) = true := decide_eq_true (by omega)
    have HZ := Lib.hid h7
    have HSL := Lib.hid hsl
    clear h0 hsl h7
    go_enter Tryz.func18, Tryz.ntmps18
    go_wp2
    go_ret2
    refine ⟨⟨_, _, rfl, .inl ⟨fun h => ?_, rfl, rfl⟩⟩, Below.refl _ _⟩
    have := h.2.1
    rw [← HSL.out] at this
    have := HZ.out
    omega
  have hd : decide (700 < (s.size : Int)) = false := decide_eq_false (by omega)
  generalize hl : s.data.toList = l at *
  have HL := Lib.hid hl
  have HV := Lib.hid hv
  have HSL := Lib.hid hsl
  clear hl hv hsl
  go_enter Tryz.func18, Tryz.ntmps18
  go_wp2
  go_loopw [0, 4] (fun sv nv wr => PaRel w l sv nv wr) (fun sv _ _ => match sv with | .string t => t.size | _ => 0)
  case atStart => exact ⟨0, s, [], rfl, HL.out, Nat.zero_le _, .inl rfl, (fun c hc => by cases hc), ⟨rfl, .inl ⟨rfl, rfl⟩⟩, Lm.nil, rfl, Nat.le_refl _, Below.refl _ _⟩
  case round =>
    obtain ⟨pos, t, xs, rfl, ht, hpl, h9, hdp, hown, hxL, hxv, hxl, hbe⟩ := hrel
    have htl : t.size = l.length - pos := by rw [Lib.size_eq, ht, List.length_drop]
    have hl7 : l.length ≤ 700 := by have := HSL.out; omega
    have HT := Lib.hid ht
    have HXV := Lib.hid hxv
    have HTL := Lib.hid htl
    have HOWN := Lib.hid hown
    rcases Nat.eq_zero_or_pos t.size with ht0 | ht0
    · have hd0 : decide (0 < (t.size : Int)) = false := decide_eq_false (by omega)
      have hpe : pos = l.length := by omega
      have hpl7 : pos ≤ 700 := by omega
      have HPE := Lib.hid hpe
      have HTZ := Lib.hid ht0
      have hdl : Digs l := by rw [hpe, List.take_length] at hdp; exact hdp
      have hbg : 64 < (trim xs).length ↔ BIG (dval 0 l) := by rw [big_trim hxL, hxv, hpe, List.take_length]
      have hxv2 : val (trim xs) = dval 0 l := by rw [val_trim, hxv, hpe, List.take_length]
      have HBG := Lib.hid hbg
      have HX2 := Lib.hid hxv2
      have hrd : Rd wr none ([] : List Nat) := fun h => by cases h
      have hle := trim_length_le xs
      clear ht hxv htl ht0 hpe hbg hxv2
      have hd1 : decide (0 < t.size) = false := by rw [← hd0]; simp
      rcases own_cases hown with ⟨rfl, rfl⟩ | ⟨g, cap, rest, rfl, hgb, hB, hcap, hcm, hlen⟩
      · have h64 : (trim ([] : List Nat)).length ≤ 64 := Nat.le_trans hle (Nat.zero_le _)
        go_wp2_with fail
        refine (bounded_ok none 0 [] wr hrd (Nat.le_refl _) (Nat.zero_le _) h64).mono ?_; rintro e w1 ⟨rfl, rfl⟩
        go_wp2
        go_ret2
        refine ⟨⟨_, _, rfl, .inr (.inr ⟨⟨by have := HSL.out; omega, hl7, hdl⟩, fun h => ?_, rfl, _, _, _, rfl, hle, Nat.zero_le _, hrd.trim, can_trim hxL, HX2.out⟩)⟩, hbe⟩
        have := HBG.out.2 h
        omega
      · have hrx : Rd wr (some ⟨g, 0, none⟩) xs := by
          exact fun hl => ⟨g, 0, rfl, hB.lt, fun k hk => by rw [Nat.zero_add, hB.cell, List.getElem?_append_left (by rw [U_len]; exact hk), U_get _ _ hk]⟩
        have hcm2 : cap ≤ 9223372036854775807 := by unfold maxLen at hcm; exact hcm
        have HHB := Lib.hid hB
        clear hB hlen
        by_cases hl : 64 < (trim xs).length
        · go_wp2_with fail
          refine (bounded_big (some ⟨g, 0, none⟩) cap xs wr hrx hcap hcm hl).mono ?_; rintro e w1 ⟨rfl, rfl⟩
          go_wp2
          go_ret2
          exact ⟨⟨_, _, rfl, .inr (.inl ⟨⟨by have := HSL.out; omega, hl7, hdl⟩, HBG.out.1 hl, rfl, rfl⟩)⟩, hbe⟩
        · go_wp2_with fail
          refine (bounded_ok (some ⟨g, 0, none⟩) cap xs wr hrx hcap hcm (by omega)).mono ?_; rintro e w1 ⟨rfl, rfl⟩
          go_wp2
          go_ret2
          exact ⟨⟨_, _, rfl, .inr (.inr ⟨⟨by have := HSL.out; omega, hl7, hdl⟩, fun h => hl (HBG.out.2 h), rfl, _, _, _, rfl, by omega, hcm2, hrx.trim, can_trim hxL, HX2.out⟩)⟩, hbe⟩
    · have hts : t.size ≤ 700 := by omega
      have ht1 : (1 : Int) ≤ (t.size : Int) := by omega
      have ht7 : (t.size : Int) ≤ 700 := by omega
      have hd0 : decide (0 < (t.size : Int)) = true := decide_eq_true (by omega)
      obtain ⟨n, hn⟩ : ∃ n, n = (t.size - 1) % 9 + 1 := ⟨_, rfl⟩
      have hn9 : 1 ≤ n ∧ n ≤ 9 ∧ n ≤ t.size := by omega
      have hni : ((t.size : Int) - 1) % 9 + 1 = (n : Int) := by omega
      have hst : n = 9 ∨ pos = 0 := by omega
      have hq9 : (l.length - (pos + n)) % 9 = 0 := by omega
      have hq0 : pos + n ≤ l.length := by omega
      obtain ⟨q, hq⟩ : ∃ q, (l.drop pos).take n = q := ⟨_, rfl⟩
      have hql : q.length = n := by rw [← hq, List.length_take, List.length_drop]; omega
      have hqe : (t.extract 0 n).data.toList = q := by rw [Lib.extract_data, ht, List.drop_zero, Nat.sub_zero, hq]
      have hqs : (t.extract 0 n).size = n := by rw [Lib.size_eq, hqe, hql]
      have htk : l.take (pos + n) = l.take pos ++ q := by rw [← hq, List.take_add]
      have hrest : (t.extract n t.size).data.toList = l.drop (pos + n) := by
        rw [Lib.extract_data, ht, List.drop_drop]
        exact List.take_of_length_le (by rw [List.length_drop]; omega)
      have hrs : (t.extract n t.size).size = t.size - n := by rw [Lib.size_eq, hrest, List.length_drop]; omega
      have HN := Lib.hid hn
      have HQ := Lib.hid hq
      have HQS := Lib.hid hqs
      have HQL := Lib.hid hql
      have HTK := Lib.hid htk
      have HREST := Lib.hid hrest
      have HRS := Lib.hid hrs
      have HST := Lib.hid hst
      have HQ9 := Lib.hid hq9
      have HQE := Lib.hid hqe
      clear ht hxv htl hn hq hqs hql htk hrest hrs hst hq9 hqe
      by_cases hdg : Digs q
      · have hpk := fun W => pu_ok (t.extract 0 n) (by rw [HQS.out]; omega) (by rw [HQS.out]; omega) (by rw [HQE.out]; exact hdg) W
        rw [HQE.out] at hpk
        have hp9 : dval 0 q < 1000000000 := Nat.lt_of_lt_of_le (dval_lt hdg) (by rw [HQL.out]; exact Nat.pow_le_pow_right (n := 10) (by decide) hn9.2.1)
        obtain ⟨p, hp⟩ : ∃ p, dval 0 q = p := ⟨_, rfl⟩
        rw [hp] at hpk hp9
        have HP := Lib.hid hp
        have HPK := Lib.hid hpk
        have HDG := Lib.hid hdg
        clear hp hpk hdg
        go_wp2_with fail
        refine (HPK.out wr).mono ?_; rintro e w1 ⟨rfl, hb1⟩
        have hown1 := own_below hown hb1
        go_wp2_with fail
        refine (timesPlus_any w.heap.size u4 xs 1000000000 p w1 hown1 hxL (by decide) (by omega) (by omega) (Nat.le_trans hbe.size hb1.size)).mono ?_
        rintro e w2 ⟨v, zs, rfl, hown2, hzL, hzv, hzl, hb2⟩
        have HZV := Lib.hid hzv
        have HO2 := Lib.hid hown2
        clear hown hown1 hown2 hzv
        go_wp2
        go_roundw
        case rel =>
          refine ⟨pos + n, _, zs, rfl, HREST.out, hq0, .inr HQ9.out, ?_, HO2.out, hzL, ?_, by omega, ?_⟩
          · rw [HTK.out]; exact hdp.append HDG.out
          · rw [HZV.out, HXV.out, HTK.out, dval_append, dval_shift q (dval 0 (l.take pos)), HP.out, HQL.out]
            rcases HST.out with h | h
            · rw [h]
            · rw [h]; simp [dval_nil]
          · exact (hbe.trans (hb1.mono hbe.size)).trans hb2
        case measure =>
          show (t.extract n t.size).size < t.size
          rw [HRS.out]; omega
      · have hnd : ¬ Digs l := fun h => hdg (by rw [← HQ.out]; exact (h.drop pos).take n)
        obtain ⟨ev, hc, hp, hev⟩ := HV.out hnd
        have hc1 : wr.cell? ⟨0, 0, none⟩ = some ev := by rw [← hc]; exact World.cell?_of_block (a := ⟨0, 0, none⟩) (hbe.block _ hp)
        have hpk := pu_bad (t.extract 0 n) (by rw [HQS.out]; omega) (by rw [HQE.out]; exact hdg) ev wr hc1 hev
        have HPK := Lib.hid hpk
        have HND := Lib.hid hnd
        clear hpk hnd hc hc1 hev hp hdg
        go_wp2_with fail
        refine HPK.out.mono ?_; rintro e w1 ⟨⟨T, N, rfl⟩, hb1⟩
        go_wp2
        go_ret2
        exact ⟨⟨_, _, rfl, .inl ⟨fun h => HND.out h.2.2, rfl, rfl⟩⟩, hbe.trans (hb1.mono hbe.size)⟩

end LM
end Go.Proofs.YtfckjapedjjhpaaGreatDoor
