/- The walk of the statement ExactTexts. -/
import Derived.Test.YtfckjapedjjhpaaGreatDoorLimbU
import Derived.Test.YtfckjapedjjhpaaGreatDoorLimbDivAny
import Derived.Test.YtfckjapedjjhpaaGreatDoorLimbX
import Derived.Test.YtfckjapedjjhpaaGreatDoorLimbTextRow
import Derived.Laws.IdiomStrings
import Derived.Test.YtfckjapedjjhpaaGreatDoorLimbTimes
import Derived.Test.YtfckjapedjjhpaaGreatDoorLimbParse
import Derived.LoopTactic
import Derived.Deep.DrawnRows
import Derived.Test.YtfckjapedjjhpaaGreatDoorExactAlive
import Derived.Test.YtfckjapedjjhpaaGreatDoorShelfX
import Derived.Test.YtfckjapedjjhpaaGreatDoorExactS
import Derived.Test.YtfckjapedjjhpaaGreatDoorExactR
import Derived.Deep.RegionHeld3
namespace Go.Proofs.YtfckjapedjjhpaaGreatDoor
open Go Go.RowKit
namespace LM

set_option maxRecDepth 100000 in
theorem wp_copy {ops : Array Oper} {rest : List Oper} {o : Oper} {a : Act} {Q : Exit → Act → World → Prop} (hgd : o.guard = none) (s x : Operand)
    (ho : o.op = .call { callee := .builtin .append, args := #[s, x], argTypes := #[22, 22] }) (w : World) (A : Option Addr) (c : Nat) (xs : List Nat) (hr : Rd w A xs) (hl : xs.length ≤ 1000000) (hnil : A = none → xs.length = 0 ∧ c = 0)
    (hs : a.eval s = .slice (some ⟨w.heap.size, 0, none⟩) 0 0) (hx : a.eval x = .slice A xs.length c)
    (h : ∀ g cap w1, xs.length ≤ cap → cap ≤ 9223372036854775807 → w.heap.size ≤ g → g < w1.heap.size → Rd w1 (some ⟨g, 0, none⟩) xs → Below w.heap.size w w1 → wpList Tryz.prog ops Q rest (a.put o.dst (.slice (some ⟨g, 0, none⟩) xs.length cap)) w1) :
    wpList Tryz.prog ops Q (o :: rest) a (w.alloc (.cells #[] 54)) := by
  obtain ⟨i0, hi0, hz0, hz1, hz2⟩ := info_parts u32_info
  have hrow : (w.alloc (.cells #[] 54)).ownsRow w.heap.size 54 1 (.slice (some ⟨w.heap.size, 0, none⟩) 0 0) 0 [] :=
    ⟨rfl, .inr ⟨w.heap.size, 0, #[], rfl, Nat.le_refl _, heap_alloc_new w _, Nat.le_refl _, by decide, rfl, rfl⟩⟩
  have hba : Below w.heap.size w (w.alloc (.cells #[] 54)) := (Below.refl _ w).alloc (Nat.le_refl _) _
  rcases A with _ | ad
  · obtain ⟨hx0, rfl⟩ := hnil rfl
    obtain rfl : xs = [] := List.eq_nil_of_length_eq_zero hx0
    exact wpList_append_own_none hgd s x _ ho w.heap.size _ i0 1 Tryz.underlying22 hi0 _ _ _ hs hrow hx (h w.heap.size 0 _ (Nat.le_refl _) (by decide) (Nat.le_refl _) (by simp) Rd.nil hba)
  · have hsrc : ∀ j u, (U xs)[j]? = some u → (w.alloc (.cells #[] 54)).cell? (ad.add j) = some u := by
      intro j u hu
      have hj : j < xs.length := by
        rcases Nat.lt_or_ge j xs.length with h | h
        · exact h
        · rw [List.getElem?_eq_none (by rw [U_len]; exact h)] at hu; cases hu
      obtain ⟨b, off, e, hb, hc⟩ := hr.at_ hj
      injection e with e
      subst e
      rw [U_get _ _ hj] at hu
      rw [← hu, ← hc, addr_add]
      exact World.cell?_of_block (a := ⟨b, off + j, none⟩) (Below.heap_alloc w _ b hb)
    refine wpList_append_own _ hgd s x 22 ho w.heap.size 54 i0 (.int .u32 0) 1 4 Tryz.underlying22 hi0 hz0 hz1 hz2 rfl (by decide) _ _ _ hs hrow ad xs.length c (U xs) hx (by simp [U_len]) hsrc (u_one xs) (by unfold maxLen; omega) (by omega) (by simp) ?_
    intro v1 w1 hown1 hg1 hiff
    have hb1 : Below w.heap.size w w1 := hba.grown hg1 (by simp) (fun k e => by have e2 : (Value.slice (some ⟨w.heap.size, 0, none⟩) 0 0).ownBlock = some k := e; have e3 : some w.heap.size = some k := e2; injection e3 with e3; omega)
    rw [Nat.zero_add, List.nil_append] at hown1
    rcases own_cases hown1 with ⟨rfl, rfl⟩ | ⟨g, cap, rest', rfl, hgb, hB1, hcap, hcm, hlen⟩
    · have h2 : Value.slice (some ⟨w.heap.size, 0, none⟩) 0 0 = .slice none 0 0 := (hiff.1 rfl).1
      cases h2
    · exact h g cap w1 hcap (by unfold maxLen at hcm; omega) hgb hB1.lt (fun hl0 => ⟨g, 0, rfl, hB1.lt, fun k hk => by
        rw [Nat.zero_add, hB1.cell, List.getElem?_append_left (by rw [U_len]; exact hk), U_get _ _ hk]⟩) hb1

/-- two readings of one number without leading zeros -/
theorem read_len {r xs : List Nat} (hr : Can r) (hx : Lm xs) (hv : val r = val xs) : r.length ≤ xs.length := by
  rw [can_ext hr (can_trim hx) (hv.trans (val_trim xs).symm)]
  exact trim_length_le xs

end LM
end Go.Proofs.YtfckjapedjjhpaaGreatDoor

namespace Go.Proofs.YtfckjapedjjhpaaGreatDoor
open Go.RowKit
namespace LM

set_option maxHeartbeats 400000 in
theorem rbig_any (A : Option Addr) (c : Nat) (xs : List Nat) (w : World) (hr : Rd w A xs) (hx : Lm xs) (hl : xs.length ≤ 1000000) (hnil : A = none → xs.length = 0 ∧ c = 0) :
    Calls Tryz.prog 34 #[.slice A xs.length c] w fun e w' => (∃ b : Bool, e = .returned (.bool b) ∧ (b = true ↔ BIG (val xs))) ∧ Below w.heap.size w w' := by
  go_enter Tryz.func34, Tryz.ntmps34
  go_wp2_with fail
  refine (rtrim_any A c xs w hr hx hl hnil).mono ?_
  rintro e w1 ⟨⟨v, rfl, A1, c1, r, rfl, _, hr1, hcr, hvr⟩, hb⟩
  have hbi := big_iff hcr
  rw [hvr] at hbi
  have HBI := Lib.hid hbi
  clear hbi hvr
  go_wp2
  go_ret
  refine ⟨⟨decide (64 < r.length), ?_, by rw [decide_eq_true_iff]; exact HBI.out⟩, hb⟩
  congr 2
  simp
  omega

end LM
end Go.Proofs.YtfckjapedjjhpaaGreatDoor

namespace Go.Proofs.YtfckjapedjjhpaaGreatDoor
open Go Go.RowKit
namespace LM

/-- the digits of a number; none of nought -/
def dg (n : Nat) : List UInt8 := if n = 0 then [] else Lib.decDigits n
theorem dg_step {m : Nat} (h : 0 < m) : dg m = dg (m / 10) ++ [UInt8.ofNat (48 + m % 10)] := by
  unfold dg
  rw [if_neg (by omega)]
  by_cases h1 : m < 10
  · rw [Lib.decDigits_one h1, if_pos (by omega), Nat.mod_eq_of_lt h1]; rfl
  · rw [dec_big h1, if_neg (by omega)]
theorem dg_pos {m : Nat} (h : 0 < m) : 1 ≤ (dg m).length := by rw [dg_step h]; simp

set_option maxRecDepth 100000 in
theorem wp_pre {ops : Array Oper} {rest : List Oper} {o : Oper} {a : Act} {Q : Exit → Act → World → Prop} (hgd : o.guard = none) (s x : Operand)
    (ho : o.op = .call { callee := .builtin .append, args := #[s, x], argTypes := #[22, 22] }) (w : World) (q : Nat) (A : Option Addr) (c : Nat) (xs : List Nat) (hr : Rd w A xs) (hl : xs.length ≤ 1000000) (hnil : A ≠ none)
    (hs : a.eval s = .slice (some ⟨w.heap.size, 0, none⟩) 1 1) (hx : a.eval x = .slice A xs.length c)
    (h : ∀ g cap w1, Rd w1 (some ⟨g, 0, none⟩) (q :: xs) → Below w.heap.size w w1 → wpList Tryz.prog ops Q rest (a.put o.dst (.slice (some ⟨g, 0, none⟩) (xs.length + 1) cap)) w1) :
    wpList Tryz.prog ops Q (o :: rest) a (w.alloc (.cells #[.int .u32 (q : Int)] 54)) := by
  obtain ⟨i0, hi0, hz0, hz1, hz2⟩ := info_parts u32_info
  have hrow : (w.alloc (.cells #[.int .u32 (q : Int)] 54)).ownsRow w.heap.size 54 1 (.slice (some ⟨w.heap.size, 0, none⟩) 1 1) 1 [.int .u32 (q : Int)] :=
    ⟨rfl, .inr ⟨w.heap.size, 1, #[.int .u32 (q : Int)], rfl, Nat.le_refl _, heap_alloc_new w _, Nat.le_refl _, by decide, rfl, rfl⟩⟩
  have hba : Below w.heap.size w (w.alloc (.cells #[.int .u32 (q : Int)] 54)) := (Below.refl _ w).alloc (Nat.le_refl _) _
  rcases A with _ | ad
  · exact absurd rfl hnil
  · have hsrc : ∀ j u, (U xs)[j]? = some u → (w.alloc (.cells #[.int .u32 (q : Int)] 54)).cell? (ad.add j) = some u := by
      intro j u hu
      have hj : j < xs.length := by
        rcases Nat.lt_or_ge j xs.length with h | h
        · exact h
        · rw [List.getElem?_eq_none (by rw [U_len]; exact h)] at hu; cases hu
      obtain ⟨b, off, e, hb, hc⟩ := hr.at_ hj
      injection e with e
      subst e
      rw [U_get _ _ hj] at hu
      rw [← hu, ← hc, addr_add]
      exact World.cell?_of_block (a := ⟨b, off + j, none⟩) (Below.heap_alloc w _ b hb)
    refine wpList_append_own _ hgd s x 22 ho w.heap.size 54 i0 (.int .u32 0) 1 4 Tryz.underlying22 hi0 hz0 hz1 hz2 rfl (by decide) _ _ _ hs hrow ad xs.length c (U xs) hx (by simp [U_len]) hsrc (u_one xs) (by unfold maxLen; omega) (by omega) (by simp) ?_
    intro v1 w1 hown1 hg1 hiff
    have hb1 : Below w.heap.size w w1 := hba.grown hg1 (by simp) (fun k e => by have e2 : (Value.slice (some ⟨w.heap.size, 0, none⟩) 1 1).ownBlock = some k := e; have e3 : some w.heap.size = some k := e2; injection e3 with e3; omega)
    have e0 : 1 + xs.length = (q :: xs).length := by simp; omega
    have e1 : [Value.int .u32 (q : Int)] ++ U xs = U (q :: xs) := rfl
    rw [e0, e1] at hown1
    rcases own_cases hown1 with ⟨_, h2⟩ | ⟨g, cap, rest', rfl, hgb, hB1, hcap, hcm, hlen⟩
    · cases h2
    · exact h g cap w1 (fun hl0 => ⟨g, 0, rfl, hB1.lt, fun k hk => by
        rw [Nat.zero_add, hB1.cell, List.getElem?_append_left (by rw [U_len]; exact hk), U_get _ _ hk]⟩) hb1

/-- one digit, as a text -/
theorem one_byte (R : Nat) (hR : R < 10) (W : World) :
    (convert 64 9 (.slice (some ⟨W.heap.size, 0, none⟩) 1 1)).run Tryz.prog (W.alloc (.cells #[.int .u8 (48 + (R : Int))] 5)) = .ok (.string ⟨#[UInt8.ofNat (48 + R)]⟩) (W.alloc (.cells #[.int .u8 (48 + (R : Int))] 5)) := by
  refine run_convert_bytes_back (P := Tryz.prog) _ 64 9 5 ⟨W.heap.size, 0, none⟩ 1 [UInt8.ofNat (48 + R)] Tryz.underlying64 Tryz.underlying5 Tryz.underlying9 (fun j hj => ?_)
  obtain rfl : j = 0 := by simpa using hj
  have e : (UInt8.ofNat (48 + R)).toNat = 48 + R := by simp; omega
  rw [addr_add, Nat.zero_add, List.getElem_cons_zero, e]
  rw [cell_of_row _ W.heap.size 0 _ _ (0, 0) (heap_alloc_new W _)]
  simp

/-- where the outer loop stands -/
def RtOuter (n len : Nat) (w : World) (v0 v3 : Value) (wr : World) : Prop :=
  ∃ (A : Option Addr) (c : Nat) (cs : List Nat) (t : ByteArray), v0 = .slice A len c ∧ cs.length = len ∧ Rd wr A cs ∧ Lm cs ∧ v3 = .string t ∧ dg n = dg (val cs) ++ t.data.toList ∧ (A = none → cs.length = 0 ∧ c = 0) ∧ Below w.heap.size w wr
/-- where the inner loop stands -/
def RtInner (cs : List Nat) (w1 : World) (v4 v5 v6 : Value) (wr : World) : Prop :=
  ∃ (j g c R : Nat) (ns : List Nat), j ≤ cs.length ∧ v6 = .int .i64 ((j : Int) - 1) ∧ v4 = .slice (some ⟨g, 0, none⟩) (cs.length - j) c ∧ ns.length = cs.length - j ∧ Rd wr (some ⟨g, 0, none⟩) ns ∧ Lm ns ∧ v5 = .int .u64 (R : Int) ∧ R < 10 ∧ val (cs.drop j) = 10 * val ns + R ∧ Below w1.heap.size w1 wr

theorem rt_step {cs ns : List Nat} {m R x : Nat} (hm : m < cs.length) (hR : R < 10) (hx : x < 4294967296) (he : cs[m]?.getD 0 = x) (hv : val (cs.drop (m + 1)) = 10 * val ns + R) :
    (R * 4294967296 + x) / 10 < 4294967296 ∧ val (cs.drop m) = 10 * val ((R * 4294967296 + x) / 10 :: ns) + (R * 4294967296 + x) % 10 := by
  refine ⟨by omega, ?_⟩
  rw [drop_cons_get cs m hm, val, val, he, hv]
  generalize val ns = V
  omega

set_option maxRecDepth 100000 in
set_option maxHeartbeats 4000000 in
theorem rtext_any (A : Option Addr) (c : Nat) (xs : List Nat) (w : World) (ha : Rd w A xs) (hx : Lm xs) (hl : xs.length ≤ 1000) (hna : A = none → xs.length = 0 ∧ c = 0) :
    Calls Tryz.prog 23 #[.slice A xs.length c] w fun e w' => TextE (val xs) e ∧ Below w.heap.size w w' := by
  have HNA := Lib.hid hna
  clear hna
  go_enter Tryz.func23, Tryz.ntmps23
  go_wp2_with fail
  refine (rbig_any A c xs w ha hx (by omega) HNA.out).mono ?_
  rintro e w1 ⟨⟨bo, rfl, hbo⟩, b1⟩
  by_cases hb : BIG (val xs)
  · obtain rfl := hbo.2 hb
    have HB := Lib.hid hb
    clear hb hbo
    go_wp2
    go_ret
    exact ⟨⟨[], rfl, .inl ⟨HB.out, rfl⟩⟩, b1⟩
  obtain rfl : bo = false := by cases bo; rfl; exact absurd (hbo.1 rfl) hb
  have HB := Lib.hid hb
  have ha1 := ha.below b1
  clear hb hbo ha
  go_wp2_with fail
  refine (rtrim_any A c xs w1 ha1 hx (by omega) HNA.out).mono ?_
  rintro e w2 ⟨⟨v5, rfl, A5, k5, fs, rfl, f1, f2, f3, f4⟩, b2⟩
  have B2 := b1.trans (b2.mono b1.size)
  have ha2 := ha1.below b2
  rcases Nat.eq_zero_or_pos (val xs) with h0 | h0
  · obtain rfl : fs = [] := by
      have := (can_len f3 0).1
      rcases Nat.eq_zero_or_pos fs.length with h | h
      · exact List.eq_nil_of_length_eq_zero h
      · have := this h; rw [f4, h0] at this; exact absurd this (by decide)
    have H0 := Lib.hid h0
    clear h0 f4 f3
    go_wp2
    go_ret
    refine ⟨⟨[48], rfl, .inr ⟨HB.out, ?_⟩⟩, B2⟩
    rw [H0.out, Lib.decDigits_one (by decide)]
    rfl
  have hfl : 0 < fs.length := by
    rcases Nat.eq_zero_or_pos fs.length with h | h
    · rw [List.eq_nil_of_length_eq_zero h] at f4; rw [← f4] at h0; exact absurd h0 (by decide)
    · exact h
  have hfz : ((fs.length : Int) == 0) = false := by rw [beq_eq_false_iff_ne]; omega
  have H0 := Lib.hid h0
  clear h0 f4 f3 ha1 b1 b2
  obtain ⟨N, hN⟩ : ∃ N, (dg (val xs)).length = N := ⟨_, rfl⟩
  have HNN := Lib.hid hN
  clear hN
  go_wp2_with fail
  go_loopw [0, 3] (fun v0 v3 wr => RtOuter (val xs) xs.length w v0 v3 wr) (fun _ v3 _ => match v3 with | .string t => N - t.size | _ => 0)
  case atStart => exact ⟨A, c, xs, ⟨#[]⟩, rfl, rfl, ha2, hx, rfl, by simp, HNA.out, B2⟩
  case round =>
    obtain ⟨A', c', cs, t, rfl, hcl, hrc, hcL, rfl, hdg, hna', hbw⟩ := hrel
    have HDG := Lib.hid hdg
    have HNA' := Lib.hid hna'
    clear hdg hna' ha2
    rw [← hcl]
    have hlc : cs.length ≤ 1000 := by omega
    have HCL := Lib.hid hcl
    clear hcl
    go_wp2_with fail
    refine (rtrim_any A' c' cs wr hrc hcL (by omega) HNA'.out).mono ?_
    rintro e w3 ⟨⟨v6, rfl, A6, k6, gs, rfl, g1, g2, g3, g4⟩, b3⟩
    have hrc3 := hrc.below b3
    have B3 := hbw.trans (b3.mono hbw.size)
    clear hrc
    rcases Nat.eq_zero_or_pos (val cs) with h0 | h0
    · obtain rfl : gs = [] := by
        have := (can_len g3 0).1
        rcases Nat.eq_zero_or_pos gs.length with h | h
        · exact List.eq_nil_of_length_eq_zero h
        · have := this h; rw [g4, h0] at this; exact absurd this (by decide)
      have HC0 := Lib.hid h0
      clear h0 g4 g3
      go_wp2
      go_ret
      refine ⟨⟨t.data.toList, rfl, .inr ⟨HB.out, ?_⟩⟩, B3⟩
      have h := HDG.out
      rw [HC0.out] at h
      unfold dg at h
      rw [if_neg (by have := H0.out; omega), if_pos rfl, List.nil_append] at h
      exact h.symm
    have hgl : 0 < gs.length := by
      rcases Nat.eq_zero_or_pos gs.length with h | h
      · rw [List.eq_nil_of_length_eq_zero h] at g4; rw [← g4] at h0; exact absurd h0 (by decide)
      · exact h
    have hgd : decide (0 < (gs.length : Int)) = true := decide_eq_true (by omega)
    have hgd2 : decide (0 < gs.length) = true := decide_eq_true hgl
    have HC0 := Lib.hid h0
    clear h0 g4 g3
    go_wp2_with fail
    go_loopw [4, 5, 6] (fun v4 v5 v6 wi => RtInner cs w3 v4 v5 v6 wi) (fun _ _ v6 _ => (intOf v6 + 1).toNat)
    case atStart =>
      exact ⟨cs.length, w3.heap.size, 0, 0, [], Nat.le_refl _, rfl, by rw [Nat.sub_self], by simp, Rd.nil, Lm.nil, rfl, by decide, by rw [List.drop_length]; rfl, (Below.refl _ _).alloc (Nat.le_refl _) _⟩
    case round =>
      obtain ⟨j, g, c2, R, ns, hj, rfl, rfl, hnl, hrn, hnL, rfl, hR, hv, hbi⟩ := hrel
      rw [← hnl]
      have HV := Lib.hid hv
      clear hv
      rcases j with _ | m
      · have HNL := Lib.hid hnl
        clear hnl
        have hcv := one_byte R hR
        have hvl : val cs / 10 = val ns ∧ val cs % 10 = R := by
          have h := HV.out
          rw [List.drop_zero] at h
          omega
        have HVL := Lib.hid hvl
        have hsz : t.size < N := by
          have h := HNN.out
          rw [HDG.out, List.length_append, ← Lib.size_eq] at h
          have := dg_pos HC0.out
          omega
        have ht6 : t.size ≤ 617 := by
          have h := HNN.out
          unfold dg at h
          rw [if_neg (by have := H0.out; omega)] at h
          have := (dec_fits HB.out).2
          omega
        have HSZ := Lib.hid hsz
        have hdt : dg (val xs) = dg (val ns) ++ (({ data := #[48 + UInt8.ofNat R] } : ByteArray) ++ t).data.toList := by
          rw [HDG.out, dg_step HC0.out, hvl.1, hvl.2]
          simp [ByteArray.data_append]
        have HDT := Lib.hid hdt
        have hsz2 : (({ data := #[48 + UInt8.ofNat R] } : ByteArray) ++ t).size = t.size + 1 := by
          rw [Lib.size_eq, Lib.size_eq]
          simp [ByteArray.data_append]
        have HSZ2 := Lib.hid hsz2
        clear hvl hdt hsz hsz2
        rw [show ((0 : Nat) : Int) - 1 = -1 from rfl]
        have hdn : decide ((0 : Int) ≤ -1) = false := by decide
        go_wp2_with fail
        refine ⟨⟨some ⟨g, 0, none⟩, c2, ns, _, by rw [HNL.out]; rfl, by rw [HNL.out]; rfl, hrn.alloc _, hnL, rfl, HDT.out, (fun h => by cases h), ((B3.trans (hbi.mono B3.size))).alloc (Nat.le_trans B3.size hbi.size) _⟩, ?_⟩
        show N - _ < N - t.size
        rw [HSZ2.out]
        have := HSZ.out
        omega
      · have hst := rt_step (cs := cs) (ns := ns) (m := m) (R := R) (by omega) hR (hcL.get m) rfl HV.out
        have hri := hrc3.below hbi
        obtain ⟨b, off, rfl, _, hc⟩ := hri.at_ (k := m) (by omega)
        rw [show ((m + 1 : Nat) : Int) - 1 = (m : Int) from by omega]
        have hxm := hcL.get m
        generalize cs[m]?.getD 0 = x at *
        obtain ⟨T, hT⟩ : ∃ T, R * 4294967296 + x = T := ⟨_, rfl⟩
        rw [hT] at hst
        have hTi : (R : Int) * 4294967296 + (x : Int) = (T : Int) := by omega
        have hTl : T < 42949672960 := by omega
        obtain ⟨q, hq⟩ : ∃ q, T / 10 = q := ⟨_, rfl⟩
        obtain ⟨r, hr⟩ : ∃ r, T % 10 = r := ⟨_, rfl⟩
        have hqi : (T : Int) / 10 = (q : Int) := by omega
        have hri2 : (T : Int) % 10 = (r : Int) := by omega
        have hr10 : r < 10 := by omega
        rw [hq, hr] at hst
        have hq32 : q < 4294967296 := hst.1
        have HST := Lib.hid hst
        clear hst hT hq hr
        go_wp2_with (at_builtin; refine wp_pre rfl _ _ rfl wr q (some ⟨g, 0, none⟩) c2 ns hrn (by omega) (by simp) rfl rfl ?_; intro g1 cap1 w4 p1 p2)
        go_roundw
        case rel => exact ⟨m, g1, cap1, r, q :: ns, by omega, rfl, by congr 1; omega, by simp; omega, p1, Lm.cons hq32 hnL, by rw [hri2], hr10, HST.out.2, hbi.trans (p2.mono hbi.size)⟩
        case measure => simp [intOf]

end LM
end Go.Proofs.YtfckjapedjjhpaaGreatDoor

namespace Go.Proofs.YtfckjapedjjhpaaGreatDoor
open Go Go.RowKit
namespace LM
attribute [local go_sem ↓] Go.wp_at_zero Go.wp_at_succ

/-- what the document's Parse answers -/
def RParseE (l : List UInt8) (e : Ending) (w' : World) : Prop := ∃ v er, e = .returned (.tuple #[v, .int .i64 er]) ∧
  ((¬ OkText l ∧ v = .slice none 0 0 ∧ er = 13) ∨ (OkText l ∧ BIG (dval 0 l) ∧ v = .slice none 0 0 ∧ er = 11) ∨ (OkText l ∧ ¬ BIG (dval 0 l) ∧ er = 0 ∧ NumR w' v (dval 0 l)))

theorem rd_at {W : World} {g : Nat} {l : List Nat} (h : W.heap[g]? = some (.cells (U l).toArray 54 (0, 0))) : Rd W (some ⟨g, 0, none⟩) l := by
  have h2 : Blk W g (U l) := h
  exact fun hl => ⟨g, 0, rfl, h2.lt, fun k hk => by rw [Nat.zero_add, h2.cell, U_get _ _ hk]⟩

theorem pow_700 : (10 : Nat) ^ 700 ≤ 4294967296 ^ 100 := of_decide_eq_true (by kernel_rfl)
/-- where the second loop stands -/
def RpRel (l : List UInt8) (w : World) (v4 v6 : Value) (wr : World) : Prop :=
  ∃ (j c : Nat) (A : Option Addr) (r : List Nat), j ≤ l.length ∧ v6 = .int .i64 (j : Int) ∧ v4 = .slice A r.length c ∧ (A = none → r.length = 0 ∧ c = 0) ∧ Rd wr A r ∧ Can r ∧ val r = dval 0 (l.take j) ∧ Below w.heap.size w wr

set_option maxRecDepth 100000 in
set_option maxHeartbeats 4000000 in
theorem rparse_any (s : ByteArray) (w : World) (hs : s.size ≤ 9223372036854775807) :
    Calls Tryz.prog 20 #[.string s] w fun e w' => RParseE s.data.toList e w' ∧ Below w.heap.size w w' := by
  have hsl : s.size = s.data.toList.length := Lib.size_eq s
  rcases Nat.eq_zero_or_pos s.size with h0 | h0
  · have hz : decide ((s.size : Int) < 1) = true := decide_eq_true (by omega)
    have hz2 : decide (s.size < 1) = true := decide_eq_true (by omega)
    have HZ := Lib.hid h0
    have HSL := Lib.hid hsl
    clear h0 hsl
    go_enter Tryz.func20, Tryz.ntmps20
    go_wp2
    go_ret2
    refine ⟨⟨_, _, rfl, .inl ⟨fun h => ?_, rfl, rfl⟩⟩, Below.refl _ _⟩
    have := h.1
    rw [← HSL.out, HZ.out] at this
    omega
  by_cases h7 : 700 < s.size
  · have hz : decide ((s.size : Int) < 1) = false := decide_eq_false (by omega)
    have hd : decide (700 < (s.size : Int)) = true := decide_eq_true (by omega)
    have HZ := Lib.hid h7
    have HSL := Lib.hid hsl
    clear h0 hsl h7
    go_enter Tryz.func20, Tryz.ntmps20
    go_wp2
    all_goals
      go_ret2
      refine ⟨⟨_, _, rfl, .inl ⟨fun h => ?_, rfl, rfl⟩⟩, Below.refl _ _⟩
      have := h.2.1
      rw [← HSL.out] at this
      have := HZ.out
      omega
  have hz : decide ((s.size : Int) < 1) = false := decide_eq_false (by omega)
  have hd : decide (700 < (s.size : Int)) = false := decide_eq_false (by omega)
  generalize hl : s.data.toList = l at *
  have HL := Lib.hid hl
  have HSL := Lib.hid hsl
  have hs7 : s.size ≤ 700 := by omega
  have hget : ∀ j (h : j < s.size), l[j]? = some s[j] := fun j h => by
    rw [← hl, Array.getElem?_toList, Array.getElem?_eq_getElem h]; rfl
  have HGET := Lib.hid hget
  clear hl hsl h7 hget
  go_enter Tryz.func20, Tryz.ntmps20
  go_wp2_with fail
  go_loop [5] (fun i => ∃ j : Nat, j ≤ s.size ∧ i = .int .i64 (j : Int) ∧ Digs (l.take j)) (fun i => (s.size - intOf i).toNat)
  case atStart => exact ⟨0, Nat.zero_le _, rfl, fun c hc => by cases hc⟩
  case round =>
    obtain ⟨j, hj, rfl, hdj⟩ := hrel
    have HDJ := Lib.hid hdj
    clear hdj
    by_cases hlt : j < s.size
    · have hlti : (j : Int) < (s.size : Int) := by omega
      have hdlt : decide ((j : Int) < (s.size : Int)) = true := decide_eq_true hlti
      have hmem : s[j] ∈ l := List.mem_of_getElem? (HGET.out j hlt)
      have hsuc : l.take (j + 1) = l.take j ++ [s[j]] := by rw [List.take_add_one, HGET.out j hlt]; rfl
      have HMEM := Lib.hid hmem
      have HSUC := Lib.hid hsuc
      clear hmem hsuc
      go_wp2_with fail
      · go_ret2
        refine ⟨⟨_, _, rfl, .inl ⟨fun h => ?_, rfl, rfl⟩⟩, (Below.refl _ _).alloc (Nat.le_refl _) _⟩
        have := h.2.2 _ HMEM.out
        omega
      · refine ⟨⟨j + 1, by omega, by congr 1, ?_⟩, by simp [intOf]; omega⟩
        rw [HSUC.out]
        refine (HDJ.out).append fun c hc => ?_
        obtain rfl := List.mem_singleton.1 hc
        omega
      · go_ret2
        refine ⟨⟨_, _, rfl, .inl ⟨fun h => ?_, rfl, rfl⟩⟩, (Below.refl _ _).alloc (Nat.le_refl _) _⟩
        have := h.2.2 _ HMEM.out
        omega
    · have hdlt : decide ((j : Int) < (s.size : Int)) = false := decide_eq_false (by omega)
      obtain rfl : j = s.size := by omega
      have hdl : Digs l := by have h := HDJ.out; rwa [HSL.out, List.take_length] at h
      have HDL := Lib.hid hdl
      clear hdl
      go_wp2_with fail
      go_loopw [4, 6] (fun v4 v6 wr => RpRel l w v4 v6 wr) (fun _ v6 _ => (s.size - intOf v6).toNat)
      case atStart => exact ⟨0, 0, _, [], Nat.zero_le _, rfl, rfl, (fun h => by cases h), Rd.nil, can_nil, rfl, (Below.refl _ _).alloc (Nat.le_refl _) _⟩
      case round =>
        obtain ⟨j, c, A, r, hj2, rfl, rfl, hna, hra, hrc, hrv, hbw⟩ := hrel
        have HRV := Lib.hid hrv
        have HNA := Lib.hid hna
        have hrl : r.length ≤ 100 := by
          have h1 := dval_lt (HDL.out.take j)
          rw [← hrv] at h1
          refine num_len hrc rfl (Nat.lt_of_lt_of_le h1 (Nat.le_trans (Nat.pow_le_pow_right (by decide) ?_) pow_700))
          have := HSL.out
          simp
          omega
        clear hrv hna hj hlt hdlt
        have hj3 : j ≤ s.size := by have := HSL.out; omega
        by_cases hlt : j < s.size
        · have hlti : (j : Int) < (s.size : Int) := by omega
          have hdlt : decide ((j : Int) < (s.size : Int)) = true := decide_eq_true hlti
          have hsuc : l.take (j + 1) = l.take j ++ [s[j]] := by rw [List.take_add_one, HGET.out j hlt]; rfl
          have hxb := HDL.out s[j] (List.mem_of_getElem? (HGET.out j hlt))
          obtain ⟨d, hd⟩ : ∃ d, s[j].toNat - 48 = d := ⟨_, rfl⟩
          have hdi : ((s[j].toNat : Nat) : Int) - 48 = (d : Int) := by omega
          have hd9 : d ≤ 9 := by omega
          have hx1 : (48 : Int) ≤ ((s[j].toNat : Nat) : Int) := by omega
          have hx2 : ((s[j].toNat : Nat) : Int) ≤ 57 := by omega
          have HSUC := Lib.hid hsuc
          have HD := Lib.hid hd
          clear hsuc hd
          go_wp2_with fail
          have hwr : IntKind.u32.wrap (IntKind.u32.wrap ((s[j].toNat : Nat) : Int) - 48) = (d : Int) := by
            rw [← hdi]
            simp [IntKind.wrap, IntKind.signed, IntKind.bits]
            omega
          have HWR := Lib.hid hwr
          have hT : ∀ W g, Below wr.heap.size wr W → Rd W A r → W.heap[g]? = some (.cells #[.int .u32 10] 54 (0, 0)) →
              Calls Tryz.prog 33 #[.slice A r.length c, .slice (some ⟨g, 0, none⟩) 1 1] W fun e w' =>
                (∃ A1 c1 r1, e = .returned (.slice A1 (List.length r1) c1) ∧ Rd w' A1 r1 ∧ Can r1 ∧ val r1 = val r * 10) ∧ Below W.heap.size W w' ∧ Below wr.heap.size wr w' := fun W g hB h1 h2 => by
            have h3 : Rd W (some ⟨g, 0, none⟩) [10] := rd_at h2
            refine (rtimes_any A (some ⟨g, 0, none⟩) c 1 r [10] W h1 h3 hrc.1 (Lm.cons (by decide) Lm.nil) (by omega) (by simp)).mono ?_
            rintro e w' ⟨⟨v, rfl, A1, c1, r1, rfl, _, q2, q3, q4⟩, bT⟩
            exact ⟨⟨A1, c1, r1, rfl, q2, q3, q4⟩, bT, hB.trans (bT.mono hB.size)⟩
          have hP : ∀ W g A1 c1 r1, Below wr.heap.size wr W → Can r1 → val r1 = val r * 10 → Rd W A1 r1 → W.heap[g]? = some (.cells #[.int .u32 (IntKind.u32.wrap (IntKind.u32.wrap ((s[j].toNat : Nat) : Int) - 48))] 54 (0, 0)) →
              Calls Tryz.prog 32 #[.slice A1 r1.length c1, .slice (some ⟨g, 0, none⟩) 1 1] W fun e w' =>
                (∃ A2 c2 r2, e = .returned (.slice A2 (List.length r2) c2) ∧ (A2 = none → List.length r2 = 0 ∧ c2 = 0) ∧ Rd w' A2 r2 ∧ Can r2 ∧ val r2 = dval 0 (l.take (j + 1))) ∧ Below wr.heap.size wr w' := fun W g A1 c1 r1 hB hc hv h1 h2 => by
            have h3 : Rd W (some ⟨g, 0, none⟩) [d] := rd_at (by rw [h2, hwr]; rfl)
            have hl1 : r1.length ≤ 101 := num_len hc hv (by
              have e1 := val_len_lt hrc.1 hrl
              rw [Nat.pow_succ]
              omega)
            refine (rplus_any A1 (some ⟨g, 0, none⟩) c1 1 r1 [d] W h1 h3 hc.1 (Lm.cons (by omega) Lm.nil) (by omega) (by simp)).mono ?_
            rintro e w' ⟨⟨v, rfl, A2, c2, r2, rfl, q1, q2, q3, q4⟩, bP⟩
            refine ⟨⟨A2, c2, r2, rfl, q1, q2, q3, ?_⟩, hB.trans (bP.mono hB.size)⟩
            rw [q4, hv, HRV.out, HSUC.out, dval_snoc, HD.out]
            simp [val]
          have HT := Lib.hid hT
          have HP := Lib.hid hP
          clear hT hP hwr
          go_region_with (first
            | (go_at_call 33
               refine (HT.out _ _ (by first | exact (((Below.refl _ wr).alloc (Nat.le_refl _) _).alloc (by simp) _).drew | exact ((Below.refl _ wr).alloc (Nat.le_refl _) _).drew) (by first | exact ((hra.alloc _).alloc _).drew | exact (hra.alloc _).drew)
                 (by first | exact heap_alloc_new wr _ | exact (Below.heap_alloc _ _ _ (by simp)).trans (heap_alloc_new wr _) | exact (by have h := heap_alloc_new (wr.alloc (.cells #[.int .u32 (IntKind.u32.wrap (IntKind.u32.wrap ((s[j].toNat : Nat) : Int) - 48))] 54)) (.cells #[.int .u32 10] 54); rw [World.size_alloc] at h; exact h))).mono ?_
               rintro e w1 ⟨⟨A1, c1, r1, rfl, q2, q3, q4⟩, bT, bW⟩)
            | (go_at_call 32
               refine (HP.out _ _ A1 c1 r1 (by first | exact bW | exact bW.alloc bW.size _) q3 q4 (by first | exact q2 | exact q2.alloc _)
                 (by first | exact heap_alloc_new w1 _
                           | exact (bT.block _ (by simp <;> omega)).trans (heap_alloc_new wr _)
                           | exact (bT.block _ (by simp <;> omega)).trans ((Below.heap_alloc _ _ _ (by simp)).trans (heap_alloc_new wr _))
                           | exact (bT.block _ (by simp <;> omega)).trans (by have h := heap_alloc_new (wr.alloc (.cells #[.int .u32 10] 54)) (.cells #[.int .u32 (IntKind.u32.wrap (IntKind.u32.wrap ((s[j].toNat : Nat) : Int) - 48))] 54); rw [World.size_alloc] at h; exact h))).mono ?_
               rintro e w2 ⟨⟨A2, c2, r2, rfl, s1, s2, s3, s4⟩, bP⟩))
          all_goals
            go_wp2_with fail
            first
            | refine ⟨⟨j + 1, c2, A2, r2, by have := HSL.out; omega, by congr 1, rfl, s1, s2, s3, s4, hbw.trans (bP.mono hbw.size)⟩, ?_⟩
              simp [intOf]
              omega
            | go_roundw
              case rel => exact ⟨j + 1, c2, A2, r2, by have := HSL.out; omega, by congr 1, rfl, s1, s2, s3, s4, hbw.trans (bP.mono hbw.size)⟩
              case measure => simp [intOf]; omega
        · have hdlt : decide ((j : Int) < (s.size : Int)) = false := decide_eq_false (by omega)
          obtain rfl : j = s.size := by omega
          have hv : val r = dval 0 l := by rw [HRV.out, HSL.out, List.take_length]
          have hok : OkText l := ⟨by have := HSL.out; omega, by have := HSL.out; omega, HDL.out⟩
          have HV := Lib.hid hv
          have HOK := Lib.hid hok
          clear hv hok
          go_wp2_with fail
          refine (rbig_any A c r wr hra hrc.1 (by omega) HNA.out).mono ?_
          rintro e w2 ⟨⟨bo, rfl, hbo⟩, b2⟩
          rw [HV.out] at hbo
          have B2 := hbw.trans (b2.mono hbw.size)
          cases bo with
          | true =>
            have HB := Lib.hid (hbo.1 rfl)
            clear hbo
            go_wp2
            go_ret2
            exact ⟨⟨_, _, rfl, .inr (.inl ⟨HOK.out, HB.out, rfl, rfl⟩)⟩, B2⟩
          | false =>
            have hnb : ¬ BIG (dval 0 l) := fun h => by have := hbo.2 h; cases this
            have HB := Lib.hid hnb
            clear hbo hnb
            go_wp2
            go_ret2
            exact ⟨⟨_, _, rfl, .inr (.inr ⟨HOK.out, HB.out, rfl, A, c, r, rfl, HNA.out, hra.below b2, hrc, HV.out⟩)⟩, B2⟩

end LM
end Go.Proofs.YtfckjapedjjhpaaGreatDoor

namespace Go.Proofs.YtfckjapedjjhpaaGreatDoor
open Go.RowKit
namespace LM
set_option linter.unusedVariables false

/-- the sign of a text, and what is behind it -/
def signOf (l : List UInt8) : Bool × List UInt8 := if Lib.hasPrefix l [45] then (true, Lib.trimPrefix l [45]) else (false, Lib.trimPrefix l [43])
/-- what a text's reading comes to -/
def POut (l : List UInt8) (z er : Int) : Prop := (¬ OkText (signOf l).2 ∧ z = 0 ∧ er = 13) ∨ (OkText (signOf l).2 ∧ BIG (dval 0 (signOf l).2) ∧ z = 0 ∧ er = 11) ∨ (OkText (signOf l).2 ∧ ¬ BIG (dval 0 (signOf l).2) ∧ z = sg (signOf l).1 (dval 0 (signOf l).2) ∧ er = 0)
def RetP (w : World) (l : List UInt8) (e : Ending) (w' : World) : Prop := ∃ s A n c er z, e = .returned (.tuple #[.agg #[.bool s, .slice A n c], .int .i64 er]) ∧ IntV w' (.agg #[.bool s, .slice A n c]) z ∧ POut l z er ∧ Below w.heap.size w w'
theorem parse_open {l : List UInt8} {e : Ending} {w' : World} (h : ParseE l e w') : ∃ A c r er, e = .returned (.tuple #[.slice A (List.length r) c, .int .i64 er]) ∧ r.length ≤ c ∧ c ≤ 9223372036854775807 ∧ Rd w' A r ∧ Can r ∧
    ((¬ OkText l ∧ val r = 0 ∧ er = 13) ∨ (OkText l ∧ BIG (dval 0 l) ∧ val r = 0 ∧ er = 11) ∨ (OkText l ∧ ¬ BIG (dval 0 l) ∧ val r = dval 0 l ∧ er = 0)) := by
  obtain ⟨v, er, rfl, ⟨h1, rfl, rfl⟩ | ⟨h1, h2, rfl, rfl⟩ | ⟨h1, h2, rfl, A, c, r, rfl, h3, h4, h5, h6, h7⟩⟩ := h
  · exact ⟨none, 0, [], 13, rfl, Nat.le_refl _, by decide, Rd.nil, can_nil, .inl ⟨h1, rfl, rfl⟩⟩
  · exact ⟨none, 0, [], 11, rfl, Nat.le_refl _, by decide, Rd.nil, can_nil, .inr (.inl ⟨h1, h2, rfl, rfl⟩)⟩
  · exact ⟨A, c, r, 0, rfl, h3, h4, h5, h6, .inr (.inr ⟨h1, h2, h7, rfl⟩)⟩
theorem trim_le (l p : List UInt8) : (Lib.trimPrefix l p).length ≤ l.length := by
  unfold Lib.trimPrefix
  split
  · simp
  · exact Nat.le_refl _

set_option maxRecDepth 100000 in
set_option maxHeartbeats 2000000 in
theorem eparse_minus (s : ByteArray) (w : World) (hs : s.size ≤ 9223372036854775807) (hp : Lib.hasPrefix s.data.toList [45] = true) (hv : ∀ W, Below w.heap.size w W → ¬ Digs (signOf s.data.toList).2 → SynCell W) :
    Calls Tryz.prog 6 #[.string s] w (RetP w s.data.toList) := by
  have hso : signOf s.data.toList = (true, Lib.trimPrefix s.data.toList [45]) := by unfold signOf; rw [hp]; rfl
  have hsz : (⟨(Lib.trimPrefix s.data.toList [45]).toArray⟩ : ByteArray).size ≤ 9223372036854775807 := by
    have h1 := trim_le s.data.toList [45]
    have h2 : s.size = s.data.toList.length := Lib.size_eq s
    have h3 := Lib.size_eq (⟨(Lib.trimPrefix s.data.toList [45]).toArray⟩ : ByteArray)
    simp only [] at h3
    rw [h3]
    omega
  obtain ⟨hb0, x0⟩ := new1 w
  have HB0 := Lib.hid hb0
  have X0 := Lib.hid x0
  rw [hso] at hv
  have H1 := Lib.hid (parse_any ⟨(Lib.trimPrefix s.data.toList [45]).toArray⟩ _ hsz (hv _ hb0))
  have HSO := Lib.hid hso
  have HP := Lib.hid hp
  have HPR := Lib.hid (Tryz.strings_CutPrefix s ⟨#[45]⟩ (w.alloc (.cells #[.bool false, .slice none 0 0] 24)))
  rw [show Lib.hasPrefix s.data.toList (⟨#[45]⟩ : ByteArray).data.toList = true from hp] at HPR
  clear hb0 x0 hso hp hv
  go_enter Tryz.func6, Tryz.ntmps6
  go_wp2_with fail
  refine HPR.out.mono ?_
  rintro e w1 ⟨rfl, rfl⟩
  go_wp2_with fail
  refine H1.out.mono ?_
  rintro e w2 ⟨hpe, hb2⟩
  obtain ⟨A1, c1, r1, er, rfl, hr1, hc1, hrd, hcan, hcase⟩ := parse_open hpe
  have HS := Lib.hid (signed_num true A1 c1 r1 w2 hr1 hc1 hrd hcan)
  have X2 := Lib.hid (X0.out.below hb2)
  have HB2 := Lib.hid (HB0.out.trans (hb2.mono HB0.out.size))
  have HC := Lib.hid hcase
  clear hpe hrd hcan hb2 hcase hsz
  go_wp2_with fail
  refine HS.out.mono ?_
  intro e w3 hr
  obtain ⟨s3, A3, n3, c3, rfl, hv3, hb3⟩ := hr.gen
  have Z3 := Lib.hid (X2.out.below hb3)
  obtain ⟨q0, q1, z0, z1, zl⟩ := Z3.out.facts
  have HB3 := Lib.hid (HB2.out.trans (hb3.mono HB2.out.size))
  have HV3 := Lib.hid hv3
  clear hr hv3 hb3
  go_wp2
  obtain ⟨W4, hW4, Z, hb4, hv4, -, -, -⟩ := stored_world Z3.out HB3.out (by omega) s3 A3 n3 c3
  rw [hW4]
  have HV4 := Lib.hid (hv4 _ _ HV3.out)
  obtain ⟨c0, c1', -, -, -⟩ := Z.facts
  clear q0 q1 z0 z1 zl hW4 hv4
  refine bodyPost_ret (v := .tuple #[.agg #[.bool s3, .slice A3 n3 c3], .int .i64 er]) (by simp [results, Tryz.results6, go_sem, c0, c1']) rfl ?_
  refine ⟨_, _, _, _, _, _, rfl, HV4.out, ?_, hb4⟩
  unfold POut
  rw [HSO.out]
  have h := HC.out
  rcases h with ⟨k1, k2, k3⟩ | ⟨k1, k2, k3, k4⟩ | ⟨k1, k2, k3, k4⟩
  · exact .inl ⟨k1, by rw [k2, sg_zero], k3⟩
  · exact .inr (.inl ⟨k1, k2, by rw [k3, sg_zero], k4⟩)
  · exact .inr (.inr ⟨k1, k2, by rw [k3], k4⟩)

set_option maxRecDepth 100000 in
set_option maxHeartbeats 2000000 in
theorem eparse_plus (s : ByteArray) (w : World) (hs : s.size ≤ 9223372036854775807) (hp : Lib.hasPrefix s.data.toList [45] = false) (hv : ∀ W, Below w.heap.size w W → ¬ Digs (signOf s.data.toList).2 → SynCell W) :
    Calls Tryz.prog 6 #[.string s] w (RetP w s.data.toList) := by
  have hso : signOf s.data.toList = (false, Lib.trimPrefix s.data.toList [43]) := by unfold signOf; rw [hp]; rfl
  have hsz : (⟨(Lib.trimPrefix s.data.toList [43]).toArray⟩ : ByteArray).size ≤ 9223372036854775807 := by
    have h1 := trim_le s.data.toList [43]
    have h2 : s.size = s.data.toList.length := Lib.size_eq s
    have h3 := Lib.size_eq (⟨(Lib.trimPrefix s.data.toList [43]).toArray⟩ : ByteArray)
    simp only [] at h3
    rw [h3]
    omega
  obtain ⟨hb0, x0⟩ := new1 w
  have HB0 := Lib.hid hb0
  have X0 := Lib.hid x0
  rw [hso] at hv
  have H1 := Lib.hid (parse_any ⟨(Lib.trimPrefix s.data.toList [43]).toArray⟩ _ hsz (hv _ hb0))
  have HSO := Lib.hid hso
  have HP := Lib.hid hp
  have HPR := Lib.hid (Tryz.strings_CutPrefix s ⟨#[45]⟩ (w.alloc (.cells #[.bool false, .slice none 0 0] 24)))
  rw [show Lib.hasPrefix s.data.toList (⟨#[45]⟩ : ByteArray).data.toList = false from hp] at HPR
  clear hb0 x0 hso hp hv
  go_enter Tryz.func6, Tryz.ntmps6
  go_wp2_with fail
  refine HPR.out.mono ?_
  rintro e w1 ⟨rfl, rfl⟩
  go_wp2_with fail
  refine (Tryz.strings_TrimPrefix s ⟨#[43]⟩ _).mono ?_
  rintro e w1 ⟨rfl, rfl⟩
  go_wp2_with fail
  refine H1.out.mono ?_
  rintro e w2 ⟨hpe, hb2⟩
  obtain ⟨A1, c1, r1, er, rfl, hr1, hc1, hrd, hcan, hcase⟩ := parse_open hpe
  have HS := Lib.hid (signed_num false A1 c1 r1 w2 hr1 hc1 hrd hcan)
  have X2 := Lib.hid (X0.out.below hb2)
  have HB2 := Lib.hid (HB0.out.trans (hb2.mono HB0.out.size))
  have HC := Lib.hid hcase
  clear hpe hrd hcan hb2 hcase hsz
  go_wp2_with fail
  refine HS.out.mono ?_
  intro e w3 hr
  obtain ⟨s3, A3, n3, c3, rfl, hv3, hb3⟩ := hr.gen
  have Z3 := Lib.hid (X2.out.below hb3)
  obtain ⟨q0, q1, z0, z1, zl⟩ := Z3.out.facts
  have HB3 := Lib.hid (HB2.out.trans (hb3.mono HB2.out.size))
  have HV3 := Lib.hid hv3
  clear hr hv3 hb3
  go_wp2
  obtain ⟨W4, hW4, Z, hb4, hv4, -, -, -⟩ := stored_world Z3.out HB3.out (by omega) s3 A3 n3 c3
  rw [hW4]
  have HV4 := Lib.hid (hv4 _ _ HV3.out)
  obtain ⟨c0, c1', -, -, -⟩ := Z.facts
  clear q0 q1 z0 z1 zl hW4 hv4
  refine bodyPost_ret (v := .tuple #[.agg #[.bool s3, .slice A3 n3 c3], .int .i64 er]) (by simp [results, Tryz.results6, go_sem, c0, c1']) rfl ?_
  refine ⟨_, _, _, _, _, _, rfl, HV4.out, ?_, hb4⟩
  unfold POut
  rw [HSO.out]
  have h := HC.out
  rcases h with ⟨k1, k2, k3⟩ | ⟨k1, k2, k3, k4⟩ | ⟨k1, k2, k3, k4⟩
  · exact .inl ⟨k1, by rw [k2, sg_zero], k3⟩
  · exact .inr (.inl ⟨k1, k2, by rw [k3, sg_zero], k4⟩)
  · exact .inr (.inr ⟨k1, k2, by rw [k3], k4⟩)

theorem eparse_any (s : ByteArray) (w : World) (hs : s.size ≤ 9223372036854775807) (hv : ∀ W, Below w.heap.size w W → ¬ Digs (signOf s.data.toList).2 → SynCell W) :
    Calls Tryz.prog 6 #[.string s] w (RetP w s.data.toList) := by
  by_cases h : Lib.hasPrefix s.data.toList [45] = true
  · exact eparse_minus s w hs h hv
  · exact eparse_plus s w hs (by simpa using h) hv

end LM
end Go.Proofs.YtfckjapedjjhpaaGreatDoor

namespace Go.Proofs.YtfckjapedjjhpaaGreatDoor
open Go.RowKit
namespace LM
set_option linter.unusedVariables false

theorem first_eq (s : ByteArray) (h0 : 0 < s.size) : s.data.toList = s[0] :: s.data.toList.drop 1 := by
  have h : 0 < s.data.toList.length := by have := Lib.size_eq s; omega
  have e := List.getElem_cons_drop (i := 0) h
  rw [List.drop_zero] at e
  exact e.symm
theorem sign_first (s : ByteArray) (h0 : 0 < s.size) : signOf s.data.toList = if s[0] = 45 then (true, s.data.toList.drop 1) else if s[0] = 43 then (false, s.data.toList.drop 1) else (false, s.data.toList) := by
  have e := first_eq s h0
  generalize s[0] = c at *
  generalize s.data.toList.drop 1 = r at *
  rw [e]
  unfold signOf
  by_cases h : c = 45
  · subst h
    simp [Lib.hasPrefix, Lib.trimPrefix]
  · have h45 : (45 : UInt8) ≠ c := fun e => h e.symm
    rw [if_neg h]
    by_cases h2 : c = 43
    · subst h2
      simp [Lib.hasPrefix, Lib.trimPrefix]
    · have h43 : (43 : UInt8) ≠ c := fun e => h2 e.symm
      rw [if_neg h2]
      simp [Lib.hasPrefix, Lib.trimPrefix, h45, h43]
theorem sign_none (s : ByteArray) (h0 : s.size = 0) : signOf s.data.toList = (false, s.data.toList) := by
  have e : s.data.toList = [] := List.eq_nil_of_length_eq_zero (by have := Lib.size_eq s; omega)
  rw [e]
  rfl
/-- the document's reading of a text -/
def RetPR (w : World) (l : List UInt8) (e : Ending) (w' : World) : Prop := ∃ s A n c er z, e = .returned (.tuple #[.agg #[.bool s, .slice A n c], .int .i64 er]) ∧ IntR w' (.agg #[.bool s, .slice A n c]) z ∧ POut l z er ∧ Below w.heap.size w w'
theorem POut.same {l : List UInt8} {a b e f : Int} (h : POut l a e) (k : POut l b f) : a = b ∧ e = f := by
  rcases h with ⟨h1, rfl, rfl⟩ | ⟨h1, h2, rfl, rfl⟩ | ⟨h1, h2, rfl, rfl⟩ <;> rcases k with ⟨k1, rfl, rfl⟩ | ⟨k1, k2, rfl, rfl⟩ | ⟨k1, k2, rfl, rfl⟩ <;> first | exact ⟨rfl, rfl⟩ | exact absurd k1 h1 | exact absurd h1 k1 | exact absurd k2 h2 | exact absurd h2 k2
theorem POut.fit {l : List UInt8} {a e : Int} (h : POut l a e) : ¬ BigI a := by
  rcases h with ⟨_, rfl, _⟩ | ⟨_, _, rfl, _⟩ | ⟨_, h, rfl, _⟩
  · exact not_big_zero
  · exact not_big_zero
  · exact fun hb => h ((bigI_sg _ _).1 hb)

theorem cut_one (s : ByteArray) : (s.extract 1 s.size).data.toList = s.data.toList.drop 1 := by
  rw [Lib.extract_data, List.take_of_length_le (by rw [List.length_drop]; have := Lib.size_eq s; omega)]

set_option maxRecDepth 100000 in
set_option maxHeartbeats 2000000 in
theorem rparse2_empty (s : ByteArray) (w : World) (hs : s.size ≤ 9223372036854775807) (h0 : s.size = 0) :
    Calls Tryz.prog 7 #[.string s] w (RetPR w s.data.toList) := by
  have hso : signOf s.data.toList = (false, s.data.toList) := sign_none s h0
  have HSO := Lib.hid hso
  obtain ⟨hb0, x0⟩ := newc1 w
  have HB0 := Lib.hid hb0
  have X0 := Lib.hid x0
  have hd : decide (0 < (s.size : Int)) = false := decide_eq_false (by omega)
  have hd2 : decide (0 < s.size) = false := decide_eq_false (by omega)
  have H1 := Lib.hid (rparse_any s (w.alloc (.cells #[.bool false, .slice none 0 0] 24)) hs)
  clear hb0 x0 hso
  go_enter Tryz.func7, Tryz.ntmps7
  go_wp2_with fail
  refine H1.out.mono ?_
  rintro e w2 ⟨hpe, hb2⟩
  have X2 := Lib.hid (X0.out.below hb2)
  have HB2 := Lib.hid (HB0.out.trans (hb2.mono HB0.out.size))
  obtain ⟨v, er, rfl, hpe⟩ := hpe
  clear hb2
  rcases hpe with ⟨h1, rfl, rfl⟩ | ⟨h1, h2, rfl, rfl⟩ | ⟨h1, h2, rfl, A1, c1, r1, rfl, -, h3, h4, h5⟩
  · have K1 := Lib.hid h1
    clear h1
    obtain ⟨q0, q1, z0, z1, zl⟩ := X2.out.facts
    go_wp2
    obtain ⟨W4, hW4, Z, hb4, -, -, -, -⟩ := stored_world X2.out HB2.out (by omega) false none 0 0
    rw [hW4]
    obtain ⟨c0, c1', -, -, -⟩ := Z.facts
    clear q0 q1 z0 z1 zl hW4
    refine bodyPost_ret (v := .tuple #[.agg #[.bool false, .slice none 0 0], .int .i64 13]) (by simp [results, Tryz.results7, go_sem, c0, c1']) rfl ?_
    exact ⟨_, _, _, _, _, _, rfl, intR_nil _, .inl ⟨by rw [HSO.out]; exact K1.out, rfl, rfl⟩, hb4⟩
  · have K1 := Lib.hid h1
    have K2 := Lib.hid h2
    clear h1 h2
    obtain ⟨q0, q1, z0, z1, zl⟩ := X2.out.facts
    go_wp2
    obtain ⟨W4, hW4, Z, hb4, -, -, -, -⟩ := stored_world X2.out HB2.out (by omega) false none 0 0
    rw [hW4]
    obtain ⟨c0, c1', -, -, -⟩ := Z.facts
    clear q0 q1 z0 z1 zl hW4
    refine bodyPost_ret (v := .tuple #[.agg #[.bool false, .slice none 0 0], .int .i64 11]) (by simp [results, Tryz.results7, go_sem, c0, c1']) rfl ?_
    exact ⟨_, _, _, _, _, _, rfl, intR_nil _, .inr (.inl ⟨by rw [HSO.out]; exact K1.out, by rw [HSO.out]; exact K2.out, rfl, rfl⟩), hb4⟩
  · have K1 := Lib.hid h1
    have K2 := Lib.hid h2
    have hl := len_not_big h4 (by rw [h5]; exact h2)
    have HM := Lib.hid (rmade_num false A1 c1 r1 w2 (by omega) h3 h4)
    rw [h5] at HM
    clear h1 h2 h3 h4 h5
    go_wp2_with fail
    refine HM.out.mono ?_
    rintro e w3 ⟨s3, A3, n3, c3, rfl, hv3, hb3⟩
    have Z3 := Lib.hid (X2.out.below hb3)
    obtain ⟨q0, q1, z0, z1, zl⟩ := Z3.out.facts
    have HB3 := Lib.hid (HB2.out.trans (hb3.mono HB2.out.size))
    have HV3 := Lib.hid hv3
    clear hv3 hb3
    go_wp2
    obtain ⟨W4, hW4, Z, hb4, -, hv4, -, -⟩ := stored_world Z3.out HB3.out (by omega) s3 A3 n3 c3
    rw [hW4]
    have HV4 := Lib.hid (hv4 _ _ HV3.out)
    obtain ⟨c0, c1', -, -, -⟩ := Z.facts
    clear q0 q1 z0 z1 zl hW4 hv4
    refine bodyPost_ret (v := .tuple #[.agg #[.bool s3, .slice A3 n3 c3], .int .i64 0]) (by simp [results, Tryz.results7, go_sem, c0, c1']) rfl ?_
    exact ⟨_, _, _, _, _, _, rfl, HV4.out, .inr (.inr ⟨by rw [HSO.out]; exact K1.out, by rw [HSO.out]; exact K2.out, by rw [HSO.out], rfl⟩), hb4⟩

set_option maxRecDepth 100000 in
set_option maxHeartbeats 2000000 in
theorem rparse2_other (s : ByteArray) (w : World) (hs : s.size ≤ 9223372036854775807) (h0 : 0 < s.size) (h45 : s[0] ≠ 45) (h43 : s[0] ≠ 43) :
    Calls Tryz.prog 7 #[.string s] w (RetPR w s.data.toList) := by
  have hso : signOf s.data.toList = (false, s.data.toList) := by rw [sign_first s h0, if_neg h45, if_neg h43]
  have HSO := Lib.hid hso
  obtain ⟨hb0, x0⟩ := newc1 w
  have HB0 := Lib.hid hb0
  have X0 := Lib.hid x0
  have hd : decide (0 < (s.size : Int)) = true := decide_eq_true (by omega)
  have hd2 : decide (0 < s.size) = true := decide_eq_true h0
  have e43 : (((s[0].toNat : Nat) : Int) == 43) = false := by rw [beq_eq_false_iff_ne]; intro h; exact h43 (UInt8.toNat_inj.1 (by simp only [UInt8.reduceToNat]; omega))
  have e45 : (((s[0].toNat : Nat) : Int) == 45) = false := by rw [beq_eq_false_iff_ne]; intro h; exact h45 (UInt8.toNat_inj.1 (by simp only [UInt8.reduceToNat]; omega))
  have H1 := Lib.hid (rparse_any s (w.alloc (.cells #[.bool false, .slice none 0 0] 24)) hs)
  clear hb0 x0 hso
  go_enter Tryz.func7, Tryz.ntmps7
  go_wp2_with fail
  refine H1.out.mono ?_
  rintro e w2 ⟨hpe, hb2⟩
  have X2 := Lib.hid (X0.out.below hb2)
  have HB2 := Lib.hid (HB0.out.trans (hb2.mono HB0.out.size))
  obtain ⟨v, er, rfl, hpe⟩ := hpe
  clear hb2
  rcases hpe with ⟨h1, rfl, rfl⟩ | ⟨h1, h2, rfl, rfl⟩ | ⟨h1, h2, rfl, A1, c1, r1, rfl, -, h3, h4, h5⟩
  · have K1 := Lib.hid h1
    clear h1
    obtain ⟨q0, q1, z0, z1, zl⟩ := X2.out.facts
    go_wp2
    obtain ⟨W4, hW4, Z, hb4, -, -, -, -⟩ := stored_world X2.out HB2.out (by omega) false none 0 0
    rw [hW4]
    obtain ⟨c0, c1', -, -, -⟩ := Z.facts
    clear q0 q1 z0 z1 zl hW4
    refine bodyPost_ret (v := .tuple #[.agg #[.bool false, .slice none 0 0], .int .i64 13]) (by simp [results, Tryz.results7, go_sem, c0, c1']) rfl ?_
    exact ⟨_, _, _, _, _, _, rfl, intR_nil _, .inl ⟨by rw [HSO.out]; exact K1.out, rfl, rfl⟩, hb4⟩
  · have K1 := Lib.hid h1
    have K2 := Lib.hid h2
    clear h1 h2
    obtain ⟨q0, q1, z0, z1, zl⟩ := X2.out.facts
    go_wp2
    obtain ⟨W4, hW4, Z, hb4, -, -, -, -⟩ := stored_world X2.out HB2.out (by omega) false none 0 0
    rw [hW4]
    obtain ⟨c0, c1', -, -, -⟩ := Z.facts
    clear q0 q1 z0 z1 zl hW4
    refine bodyPost_ret (v := .tuple #[.agg #[.bool false, .slice none 0 0], .int .i64 11]) (by simp [results, Tryz.results7, go_sem, c0, c1']) rfl ?_
    exact ⟨_, _, _, _, _, _, rfl, intR_nil _, .inr (.inl ⟨by rw [HSO.out]; exact K1.out, by rw [HSO.out]; exact K2.out, rfl, rfl⟩), hb4⟩
  · have K1 := Lib.hid h1
    have K2 := Lib.hid h2
    have hl := len_not_big h4 (by rw [h5]; exact h2)
    have HM := Lib.hid (rmade_num false A1 c1 r1 w2 (by omega) h3 h4)
    rw [h5] at HM
    clear h1 h2 h3 h4 h5
    go_wp2_with fail
    refine HM.out.mono ?_
    rintro e w3 ⟨s3, A3, n3, c3, rfl, hv3, hb3⟩
    have Z3 := Lib.hid (X2.out.below hb3)
    obtain ⟨q0, q1, z0, z1, zl⟩ := Z3.out.facts
    have HB3 := Lib.hid (HB2.out.trans (hb3.mono HB2.out.size))
    have HV3 := Lib.hid hv3
    clear hv3 hb3
    go_wp2
    obtain ⟨W4, hW4, Z, hb4, -, hv4, -, -⟩ := stored_world Z3.out HB3.out (by omega) s3 A3 n3 c3
    rw [hW4]
    have HV4 := Lib.hid (hv4 _ _ HV3.out)
    obtain ⟨c0, c1', -, -, -⟩ := Z.facts
    clear q0 q1 z0 z1 zl hW4 hv4
    refine bodyPost_ret (v := .tuple #[.agg #[.bool s3, .slice A3 n3 c3], .int .i64 0]) (by simp [results, Tryz.results7, go_sem, c0, c1']) rfl ?_
    exact ⟨_, _, _, _, _, _, rfl, HV4.out, .inr (.inr ⟨by rw [HSO.out]; exact K1.out, by rw [HSO.out]; exact K2.out, by rw [HSO.out], rfl⟩), hb4⟩

set_option maxRecDepth 100000 in
set_option maxHeartbeats 2000000 in
theorem rparse2_plus (s : ByteArray) (w : World) (hs : s.size ≤ 9223372036854775807) (h0 : 0 < s.size) (hc : s[0] = 43) :
    Calls Tryz.prog 7 #[.string s] w (RetPR w s.data.toList) := by
  have hso : signOf s.data.toList = (false, s.data.toList.drop 1) := by rw [sign_first s h0, hc, if_neg (by decide), if_pos rfl]
  have HSO := Lib.hid hso
  obtain ⟨hb0, x0⟩ := newc1 w
  have HB0 := Lib.hid hb0
  have X0 := Lib.hid x0
  have hd : decide (0 < (s.size : Int)) = true := decide_eq_true (by omega)
  have hd2 : decide (0 < s.size) = true := decide_eq_true h0
  have e43 : (((s[0].toNat : Nat) : Int) == 43) = true := by rw [hc]; rfl
  have e45 : (((s[0].toNat : Nat) : Int) == 45) = false := by rw [hc]; rfl
  have hcut : (s.extract 1 s.size).data.toList = s.data.toList.drop 1 := cut_one s
  have H1 := Lib.hid (rparse_any (s.extract 1 s.size) (w.alloc (.cells #[.bool false, .slice none 0 0] 24)) (by have h1 := Lib.size_eq (s.extract 1 s.size); rw [hcut, List.length_drop] at h1; have h2 := Lib.size_eq s; omega))
  have HLS := Lib.hid hcut
  clear hcut
  clear hb0 x0 hso
  go_enter Tryz.func7, Tryz.ntmps7
  go_wp2_with fail
  refine H1.out.mono ?_
  rintro e w2 ⟨hpe, hb2⟩
  rw [HLS.out] at hpe
  have X2 := Lib.hid (X0.out.below hb2)
  have HB2 := Lib.hid (HB0.out.trans (hb2.mono HB0.out.size))
  obtain ⟨v, er, rfl, hpe⟩ := hpe
  clear hb2
  rcases hpe with ⟨h1, rfl, rfl⟩ | ⟨h1, h2, rfl, rfl⟩ | ⟨h1, h2, rfl, A1, c1, r1, rfl, -, h3, h4, h5⟩
  · have K1 := Lib.hid h1
    clear h1
    obtain ⟨q0, q1, z0, z1, zl⟩ := X2.out.facts
    go_wp2
    obtain ⟨W4, hW4, Z, hb4, -, -, -, -⟩ := stored_world X2.out HB2.out (by omega) false none 0 0
    rw [hW4]
    obtain ⟨c0, c1', -, -, -⟩ := Z.facts
    clear q0 q1 z0 z1 zl hW4
    refine bodyPost_ret (v := .tuple #[.agg #[.bool false, .slice none 0 0], .int .i64 13]) (by simp [results, Tryz.results7, go_sem, c0, c1']) rfl ?_
    exact ⟨_, _, _, _, _, _, rfl, intR_nil _, .inl ⟨by rw [HSO.out]; exact K1.out, rfl, rfl⟩, hb4⟩
  · have K1 := Lib.hid h1
    have K2 := Lib.hid h2
    clear h1 h2
    obtain ⟨q0, q1, z0, z1, zl⟩ := X2.out.facts
    go_wp2
    obtain ⟨W4, hW4, Z, hb4, -, -, -, -⟩ := stored_world X2.out HB2.out (by omega) false none 0 0
    rw [hW4]
    obtain ⟨c0, c1', -, -, -⟩ := Z.facts
    clear q0 q1 z0 z1 zl hW4
    refine bodyPost_ret (v := .tuple #[.agg #[.bool false, .slice none 0 0], .int .i64 11]) (by simp [results, Tryz.results7, go_sem, c0, c1']) rfl ?_
    exact ⟨_, _, _, _, _, _, rfl, intR_nil _, .inr (.inl ⟨by rw [HSO.out]; exact K1.out, by rw [HSO.out]; exact K2.out, rfl, rfl⟩), hb4⟩
  · have K1 := Lib.hid h1
    have K2 := Lib.hid h2
    have hl := len_not_big h4 (by rw [h5]; exact h2)
    have HM := Lib.hid (rmade_num false A1 c1 r1 w2 (by omega) h3 h4)
    rw [h5] at HM
    clear h1 h2 h3 h4 h5
    go_wp2_with fail
    refine HM.out.mono ?_
    rintro e w3 ⟨s3, A3, n3, c3, rfl, hv3, hb3⟩
    have Z3 := Lib.hid (X2.out.below hb3)
    obtain ⟨q0, q1, z0, z1, zl⟩ := Z3.out.facts
    have HB3 := Lib.hid (HB2.out.trans (hb3.mono HB2.out.size))
    have HV3 := Lib.hid hv3
    clear hv3 hb3
    go_wp2
    obtain ⟨W4, hW4, Z, hb4, -, hv4, -, -⟩ := stored_world Z3.out HB3.out (by omega) s3 A3 n3 c3
    rw [hW4]
    have HV4 := Lib.hid (hv4 _ _ HV3.out)
    obtain ⟨c0, c1', -, -, -⟩ := Z.facts
    clear q0 q1 z0 z1 zl hW4 hv4
    refine bodyPost_ret (v := .tuple #[.agg #[.bool s3, .slice A3 n3 c3], .int .i64 0]) (by simp [results, Tryz.results7, go_sem, c0, c1']) rfl ?_
    exact ⟨_, _, _, _, _, _, rfl, HV4.out, .inr (.inr ⟨by rw [HSO.out]; exact K1.out, by rw [HSO.out]; exact K2.out, by rw [HSO.out], rfl⟩), hb4⟩

set_option maxRecDepth 100000 in
set_option maxHeartbeats 2000000 in
theorem rparse2_minus (s : ByteArray) (w : World) (hs : s.size ≤ 9223372036854775807) (h0 : 0 < s.size) (hc : s[0] = 45) :
    Calls Tryz.prog 7 #[.string s] w (RetPR w s.data.toList) := by
  have hso : signOf s.data.toList = (true, s.data.toList.drop 1) := by rw [sign_first s h0, hc, if_pos rfl]
  have HSO := Lib.hid hso
  obtain ⟨hb0, x0⟩ := newc1 w
  have HB0 := Lib.hid hb0
  have X0 := Lib.hid x0
  have hd : decide (0 < (s.size : Int)) = true := decide_eq_true (by omega)
  have hd2 : decide (0 < s.size) = true := decide_eq_true h0
  have e43 : (((s[0].toNat : Nat) : Int) == 43) = false := by rw [hc]; rfl
  have e45 : (((s[0].toNat : Nat) : Int) == 45) = true := by rw [hc]; rfl
  have hcut : (s.extract 1 s.size).data.toList = s.data.toList.drop 1 := cut_one s
  have H1 := Lib.hid (rparse_any (s.extract 1 s.size) (w.alloc (.cells #[.bool false, .slice none 0 0] 24)) (by have h1 := Lib.size_eq (s.extract 1 s.size); rw [hcut, List.length_drop] at h1; have h2 := Lib.size_eq s; omega))
  have HLS := Lib.hid hcut
  clear hcut
  clear hb0 x0 hso
  go_enter Tryz.func7, Tryz.ntmps7
  go_wp2_with fail
  refine H1.out.mono ?_
  rintro e w2 ⟨hpe, hb2⟩
  rw [HLS.out] at hpe
  have X2 := Lib.hid (X0.out.below hb2)
  have HB2 := Lib.hid (HB0.out.trans (hb2.mono HB0.out.size))
  obtain ⟨v, er, rfl, hpe⟩ := hpe
  clear hb2
  rcases hpe with ⟨h1, rfl, rfl⟩ | ⟨h1, h2, rfl, rfl⟩ | ⟨h1, h2, rfl, A1, c1, r1, rfl, -, h3, h4, h5⟩
  · have K1 := Lib.hid h1
    clear h1
    obtain ⟨q0, q1, z0, z1, zl⟩ := X2.out.facts
    go_wp2
    obtain ⟨W4, hW4, Z, hb4, -, -, -, -⟩ := stored_world X2.out HB2.out (by omega) false none 0 0
    rw [hW4]
    obtain ⟨c0, c1', -, -, -⟩ := Z.facts
    clear q0 q1 z0 z1 zl hW4
    refine bodyPost_ret (v := .tuple #[.agg #[.bool false, .slice none 0 0], .int .i64 13]) (by simp [results, Tryz.results7, go_sem, c0, c1']) rfl ?_
    exact ⟨_, _, _, _, _, _, rfl, intR_nil _, .inl ⟨by rw [HSO.out]; exact K1.out, rfl, rfl⟩, hb4⟩
  · have K1 := Lib.hid h1
    have K2 := Lib.hid h2
    clear h1 h2
    obtain ⟨q0, q1, z0, z1, zl⟩ := X2.out.facts
    go_wp2
    obtain ⟨W4, hW4, Z, hb4, -, -, -, -⟩ := stored_world X2.out HB2.out (by omega) false none 0 0
    rw [hW4]
    obtain ⟨c0, c1', -, -, -⟩ := Z.facts
    clear q0 q1 z0 z1 zl hW4
    refine bodyPost_ret (v := .tuple #[.agg #[.bool false, .slice none 0 0], .int .i64 11]) (by simp [results, Tryz.results7, go_sem, c0, c1']) rfl ?_
    exact ⟨_, _, _, _, _, _, rfl, intR_nil _, .inr (.inl ⟨by rw [HSO.out]; exact K1.out, by rw [HSO.out]; exact K2.out, rfl, rfl⟩), hb4⟩
  · have K1 := Lib.hid h1
    have K2 := Lib.hid h2
    have hl := len_not_big h4 (by rw [h5]; exact h2)
    have HM := Lib.hid (rmade_num true A1 c1 r1 w2 (by omega) h3 h4)
    rw [h5] at HM
    clear h1 h2 h3 h4 h5
    go_wp2_with fail
    refine HM.out.mono ?_
    rintro e w3 ⟨s3, A3, n3, c3, rfl, hv3, hb3⟩
    have Z3 := Lib.hid (X2.out.below hb3)
    obtain ⟨q0, q1, z0, z1, zl⟩ := Z3.out.facts
    have HB3 := Lib.hid (HB2.out.trans (hb3.mono HB2.out.size))
    have HV3 := Lib.hid hv3
    clear hv3 hb3
    go_wp2
    obtain ⟨W4, hW4, Z, hb4, -, hv4, -, -⟩ := stored_world Z3.out HB3.out (by omega) s3 A3 n3 c3
    rw [hW4]
    have HV4 := Lib.hid (hv4 _ _ HV3.out)
    obtain ⟨c0, c1', -, -, -⟩ := Z.facts
    clear q0 q1 z0 z1 zl hW4 hv4
    refine bodyPost_ret (v := .tuple #[.agg #[.bool s3, .slice A3 n3 c3], .int .i64 0]) (by simp [results, Tryz.results7, go_sem, c0, c1']) rfl ?_
    exact ⟨_, _, _, _, _, _, rfl, HV4.out, .inr (.inr ⟨by rw [HSO.out]; exact K1.out, by rw [HSO.out]; exact K2.out, by rw [HSO.out], rfl⟩), hb4⟩

theorem rparse2_any (s : ByteArray) (w : World) (hs : s.size ≤ 9223372036854775807) : Calls Tryz.prog 7 #[.string s] w (RetPR w s.data.toList) := by
  rcases Nat.eq_zero_or_pos s.size with h0 | h0
  · exact rparse2_empty s w hs h0
  · by_cases h45 : s[0] = 45
    · exact rparse2_minus s w hs h0 h45
    · by_cases h43 : s[0] = 43
      · exact rparse2_plus s w hs h0 h43
      · exact rparse2_other s w hs h0 h45 h43

set_option maxRecDepth 100000 in
set_option maxHeartbeats 2000000 in
theorem rtext2_pos (A : Option Addr) (ca : Nat) (xs : List Nat) (w : World) (ha : Rd w A xs) (hx : Can xs) (hxl : xs.length ≤ 64) (hna : A = none → xs.length = 0 ∧ ca = 0) :
    Calls Tryz.prog 9 #[.agg #[.bool false, .slice A xs.length ca]] w fun e w' => e = .returned (.string ⟨(Lib.decDigits (val xs)).toArray⟩) ∧ Below w.heap.size w w' := by
  have hb0 : Below w.heap.size w (w.alloc (.cells #[.bool false, .slice A xs.length ca] 24)) := (Below.refl _ w).alloc (Nat.le_refl _) _
  have HB0 := Lib.hid hb0
  have H1 := Lib.hid (rtext_any A ca xs _ (ha.below hb0) hx.1 (by omega) hna)
  have NX := Lib.hid (not_big_len hx hxl)
  clear hb0 ha hx hna
  go_enter Tryz.func9, Tryz.ntmps9
  go_wp2_with fail
  refine H1.out.mono ?_
  rintro e w1 ⟨⟨l, rfl, hl⟩, hb1⟩
  obtain rfl : l = _ := hl.elim (fun h => absurd h.1 NX.out) fun h => h.2
  have HB1 := Lib.hid (HB0.out.trans (hb1.mono HB0.out.size))
  clear hl hb1
  go_wp2
  go_ret
  exact ⟨rfl, HB1.out⟩

set_option maxRecDepth 100000 in
set_option maxHeartbeats 2000000 in
theorem rtext2_neg (A : Option Addr) (ca : Nat) (xs : List Nat) (w : World) (ha : Rd w A xs) (hx : Can xs) (hxl : xs.length ≤ 64) (hna : A = none → xs.length = 0 ∧ ca = 0) :
    Calls Tryz.prog 9 #[.agg #[.bool true, .slice A xs.length ca]] w fun e w' => e = .returned (.string ⟨(45 :: Lib.decDigits (val xs)).toArray⟩) ∧ Below w.heap.size w w' := by
  have hb0 : Below w.heap.size w (w.alloc (.cells #[.bool true, .slice A xs.length ca] 24)) := (Below.refl _ w).alloc (Nat.le_refl _) _
  have HB0 := Lib.hid hb0
  have H1 := Lib.hid (rtext_any A ca xs _ (ha.below hb0) hx.1 (by omega) hna)
  have NX := Lib.hid (not_big_len hx hxl)
  clear hb0 ha hx hna
  go_enter Tryz.func9, Tryz.ntmps9
  go_wp2_with fail
  refine H1.out.mono ?_
  rintro e w1 ⟨⟨l, rfl, hl⟩, hb1⟩
  obtain rfl : l = _ := hl.elim (fun h => absurd h.1 NX.out) fun h => h.2
  have HB1 := Lib.hid (HB0.out.trans (hb1.mono HB0.out.size))
  have hsz : ¬ 9223372036854775807 < 1 + (Lib.decDigits (val xs)).length := by
    have := (dec_fits NX.out).2
    omega
  have HSC := Lib.hid (str_cons 45 (Lib.decDigits (val xs)))
  clear hl hb1
  go_wp2
  go_ret
  exact ⟨congrArg (fun t => Ending.returned (.string t)) HSC.out, HB1.out⟩

/-- the document's text of what is right -/
theorem rtext2_right (s : Bool) (A : Option Addr) (ca : Nat) (xs : List Nat) (w : World) (ha : Rd w A xs) (hx : Lm xs) (hr : rightB s xs = true) (hna : A = none → xs.length = 0 ∧ ca = 0) :
    Calls Tryz.prog 9 #[.agg #[.bool s, .slice A xs.length ca]] w fun e w' => e = .returned (.string ⟨(decI (sg s (val xs))).toArray⟩) ∧ Below w.heap.size w w' := by
  obtain ⟨h1, h2, h3, h4, h5⟩ := right_parts hr hx
  unfold decI
  rw [← h4]
  by_cases hn : sg s (val xs) < 0
  · rw [decide_eq_true hn] at h3
    rw [if_pos hn, h3]
    exact rtext2_neg A ca xs w ha h2 h1 hna
  · rw [decide_eq_false hn] at h3
    rw [if_neg hn, h3]
    exact rtext2_pos A ca xs w ha h2 h1 hna

end LM
end Go.Proofs.YtfckjapedjjhpaaGreatDoor

namespace Go.Proofs.YtfckjapedjjhpaaGreatDoor
open Go.RowKit
namespace LM

/-- what is listed of the library's sentinel -/
theorem sentinel_of {l : List (String × DataW Unit)} {W : World} {nm : String} {d : DataW Unit} (h : laidMetH Tryz.prog l W)
    (he : ((l.filter fun x => x.2.handleName?.isNone).filter fun x => x.1 == "strconv.ErrSyntax") = [("strconv.ErrSyntax", .iface nm d)]) :
    SynCell W := by
  have h1 := (laidMetH_iff.1 h).1.filter fun x => x.1 == "strconv.ErrSyntax"
  rw [he] at h1
  obtain ⟨ps, ⟨g', t', cs, fuel, p, q, hg', ht', hvar, hd, _, _⟩, _⟩ := h1
  obtain rfl := Option.some.inj ((show Tryz.prog.globalNamed "strconv.ErrSyntax" = some 0 by kernel_rfl).symm.trans hg')
  obtain rfl := Option.some.inj ((show (Tryz.prog.globals[0]?).map (·.type) = some 56 by kernel_rfl).symm.trans ht')
  obtain ⟨_, u, v, hcs, _, _⟩ := iface_of_trod Tryz.underlying56 hd
  have hc : W.cell? ⟨0, 0, none⟩ = some (.iface u v) := (World.var?_cell (by kernel_rfl) hvar 0).trans (by rw [← Array.getElem?_toList, hcs]; rfl)
  exact ⟨_, hc, (spot_none hc).2, .inr ⟨_, _, rfl⟩⟩

end LM
end Go.Proofs.YtfckjapedjjhpaaGreatDoor

namespace Go.Proofs.YtfckjapedjjhpaaGreatDoor
open Go.RowKit
namespace LM
set_option linter.unusedVariables false

set_option maxRecDepth 10000000 in
set_option maxHeartbeats 8000000 in
theorem etexts_a (s : Bool) (A : Option Addr) (ca : Nat) (xs : List Nat) (T : ByteArray) (w : World) (ha : Rd w A xs) (hx : Lm xs) (hca : xs.length ≤ ca) (hcam : ca ≤ 9223372036854775807) (hna : A = none → xs.length = 0 ∧ ca = 0) (hT : T.size ≤ 9223372036854775807) (hs : SynCell w)
    (htab : Lib.TabIs Tryz.prog w "internal/strconv.uint64pow10" .u64 Lib.pow10Tab) (hl : 800 < T.size) :
    Calls Tryz.prog 3 #[.agg #[.bool s, .slice A xs.length ca], .string T] w fun e w' => e = .returned (.bool true) ∧ Below w.heap.size w w' := by
  have dt1 : decide (800 < (T.size : Int)) = true := decide_eq_true (by omega)
  have dt2 : decide (800 < T.size) = true := decide_eq_true (by omega)
  have hb0 : Below w.heap.size w (w.alloc (.cells #[.bool s, .slice A xs.length ca] 24)) := (Below.refl _ w).alloc (Nat.le_refl _) _
  have HB0 := Lib.hid hb0
  have XS0 := Lib.hid (Bxs.nil.cons (Bx.new w s A xs.length ca))
  have HAL := Lib.hid (ealive_any _ (tab_below htab hb0))
  have HTAB := Lib.hid (tab_below htab hb0)
  have HA0 := Lib.hid (ha.below hb0)
  have HSY := Lib.hid (hs.below hb0)
  have HX := Lib.hid hx
  have HNA := Lib.hid hna
  clear hb0 ha hx hna htab hs 
  go_enter Tryz.func3, Tryz.ntmps3
  go_wp2_with fail
  refine HAL.out.mono ?_
  rintro e w1 ⟨rfl, hb1⟩
  have XS1 := Lib.hid (XS0.out.below hb1)
  have HB1 := Lib.hid (HB0.out.trans (hb1.mono HB0.out.size))
  have HA1 := Lib.hid (HA0.out.below hb1)
  have HTAB1 := Lib.hid (tab_below HTAB.out hb1)
  have HSY1 := Lib.hid (HSY.out.below hb1)
  clear hb1
  go_wp2
  go_ret
  exact ⟨rfl, HB1.out⟩

set_option maxRecDepth 10000000 in
set_option maxHeartbeats 8000000 in
theorem etexts_b (s : Bool) (A : Option Addr) (ca : Nat) (xs : List Nat) (T : ByteArray) (w : World) (ha : Rd w A xs) (hx : Lm xs) (hca : xs.length ≤ ca) (hcam : ca ≤ 9223372036854775807) (hna : A = none → xs.length = 0 ∧ ca = 0) (hT : T.size ≤ 9223372036854775807) (hs : SynCell w)
    (htab : Lib.TabIs Tryz.prog w "internal/strconv.uint64pow10" .u64 Lib.pow10Tab) (hl : ¬ 800 < T.size) (hrx : rightB s xs = false) :
    Calls Tryz.prog 3 #[.agg #[.bool s, .slice A xs.length ca], .string T] w fun e w' => e = .returned (.bool true) ∧ Below w.heap.size w w' := by
  have dt1 : decide (800 < (T.size : Int)) = false := decide_eq_false (by omega)
  have dt2 : decide (800 < T.size) = false := decide_eq_false (by omega)
  have hb0 : Below w.heap.size w (w.alloc (.cells #[.bool s, .slice A xs.length ca] 24)) := (Below.refl _ w).alloc (Nat.le_refl _) _
  have HB0 := Lib.hid hb0
  have XS0 := Lib.hid (Bxs.nil.cons (Bx.new w s A xs.length ca))
  have HAL := Lib.hid (ealive_any _ (tab_below htab hb0))
  have HTAB := Lib.hid (tab_below htab hb0)
  have HA0 := Lib.hid (ha.below hb0)
  have HSY := Lib.hid (hs.below hb0)
  have HX := Lib.hid hx
  have HNA := Lib.hid hna
  have HRX := Lib.hid hrx
  clear hb0 ha hx hna htab hs hrx
  go_enter Tryz.func3, Tryz.ntmps3
  go_wp2_with fail
  refine HAL.out.mono ?_
  rintro e w1 ⟨rfl, hb1⟩
  have XS1 := Lib.hid (XS0.out.below hb1)
  have HB1 := Lib.hid (HB0.out.trans (hb1.mono HB0.out.size))
  have HA1 := Lib.hid (HA0.out.below hb1)
  have HTAB1 := Lib.hid (tab_below HTAB.out hb1)
  have HSY1 := Lib.hid (HSY.out.below hb1)
  clear hb1
  have R1 := Lib.hid (rright_any s A ca xs w1 HA1.out HX.out hca hcam HNA.out)
  rw [HRX.out] at R1
  obtain ⟨q0, q1, -, -, ql⟩ := XS1.out.hd.facts
  go_wp2_with fail
  refine R1.out.mono ?_
  rintro e w2 ⟨rfl, hb2⟩
  have HB2 := Lib.hid (HB1.out.trans (hb2.mono HB1.out.size))
  clear hb2 q0 q1 ql
  go_wp2
  go_ret
  exact ⟨rfl, HB2.out⟩

set_option maxRecDepth 10000000 in
set_option maxHeartbeats 8000000 in
theorem etexts_main (s : Bool) (A : Option Addr) (ca : Nat) (xs : List Nat) (T : ByteArray) (w : World) (ha : Rd w A xs) (hx : Lm xs) (hca : xs.length ≤ ca) (hcam : ca ≤ 9223372036854775807) (hna : A = none → xs.length = 0 ∧ ca = 0) (hT : T.size ≤ 9223372036854775807) (hs : SynCell w)
    (htab : Lib.TabIs Tryz.prog w "internal/strconv.uint64pow10" .u64 Lib.pow10Tab) (hl : ¬ 800 < T.size) (hrx : rightB s xs = true) :
    Calls Tryz.prog 3 #[.agg #[.bool s, .slice A xs.length ca], .string T] w fun e w' => e = .returned (.bool true) ∧ Below w.heap.size w w' := by
  have dt1 : decide (800 < (T.size : Int)) = false := decide_eq_false (by omega)
  have dt2 : decide (800 < T.size) = false := decide_eq_false (by omega)
  have hb0 : Below w.heap.size w (w.alloc (.cells #[.bool s, .slice A xs.length ca] 24)) := (Below.refl _ w).alloc (Nat.le_refl _) _
  have HB0 := Lib.hid hb0
  have XS0 := Lib.hid (Bxs.nil.cons (Bx.new w s A xs.length ca))
  have HAL := Lib.hid (ealive_any _ (tab_below htab hb0))
  have HTAB := Lib.hid (tab_below htab hb0)
  have HA0 := Lib.hid (ha.below hb0)
  have HSY := Lib.hid (hs.below hb0)
  have HX := Lib.hid hx
  have HNA := Lib.hid hna
  have HRX := Lib.hid hrx
  clear hb0 ha hx hna htab hs hrx
  go_enter Tryz.func3, Tryz.ntmps3
  go_wp2_with fail
  refine HAL.out.mono ?_
  rintro e w1 ⟨rfl, hb1⟩
  have XS1 := Lib.hid (XS0.out.below hb1)
  have HB1 := Lib.hid (HB0.out.trans (hb1.mono HB0.out.size))
  have HA1 := Lib.hid (HA0.out.below hb1)
  have HTAB1 := Lib.hid (tab_below HTAB.out hb1)
  have HSY1 := Lib.hid (HSY.out.below hb1)
  clear hb1
  have R1 := Lib.hid (rright_any s A ca xs w1 HA1.out HX.out hca hcam HNA.out)
  rw [HRX.out] at R1
  obtain ⟨q0, q1, -, -, ql⟩ := XS1.out.hd.facts
  go_wp2_with fail
  refine R1.out.mono ?_
  rintro e w2 ⟨rfl, hb2⟩
  have HB2 := Lib.hid (HB1.out.trans (hb2.mono HB1.out.size))
  have XS2 := Lib.hid (XS1.out.below hb2)
  have HA2 := Lib.hid (HA1.out.below hb2)
  have HTAB2 := Lib.hid (tab_below HTAB1.out hb2)
  have HSY2 := Lib.hid (HSY1.out.below hb2)
  have P1 := Lib.hid (eparse_any T w2 hT (fun W hb _ => HSY2.out.below hb))
  clear hb2 q0 q1 ql
  go_wp2_with fail
  refine P1.out.mono ?_
  rintro e w3 ⟨s3, A3, n3, c3, e3, z3, rfl, hv3, ho3, hb3⟩
  have XS3 := Lib.hid ((XS2.out.below hb3).new s3 A3 n3 c3)
  have HA3 := Lib.hid ((HA2.out.below hb3).alloc (.cells #[.bool s3, .slice A3 n3 c3] 24))
  have HTAB3 := Lib.hid (tab_below (tab_below HTAB2.out hb3) ((Below.refl _ w3).alloc (Nat.le_refl _) (.cells #[.bool s3, .slice A3 n3 c3] 24)))
  have V3 := Lib.hid (hv3.toR.alloc (.cells #[.bool s3, .slice A3 n3 c3] 24))
  have O3 := Lib.hid ho3
  have hbk := HB2.out.trans (hb3.mono HB2.out.size)
  have HB3 := Lib.hid (hbk.alloc hbk.size (.cells #[.bool s3, .slice A3 n3 c3] 24))
  have P2 := Lib.hid (rparse2_any T (w3.alloc (.cells #[.bool s3, .slice A3 n3 c3] 24)) hT)
  clear hb3 hv3 ho3 hbk
  go_wp2_with fail
  refine P2.out.mono ?_
  rintro e w4 ⟨s4, A4, n4, c4, e4, z4, rfl, hv4, ho4, hb4⟩
  obtain ⟨rfl, rfl⟩ := O3.out.same ho4
  have XS4 := Lib.hid ((XS3.out.below hb4).new s4 A4 n4 c4).drew
  have HA4 := Lib.hid ((HA3.out.below hb4).alloc (.cells #[.bool s4, .slice A4 n4 c4] 24)).drew
  have HTAB4 := Lib.hid (tab_below (tab_below HTAB3.out hb4) ((Below.refl _ w4).alloc (Nat.le_refl _) (.cells #[.bool s4, .slice A4 n4 c4] 24)).drew)
  have V4 := Lib.hid ((V3.out.keep hb4).alloc (.cells #[.bool s4, .slice A4 n4 c4] 24)).drew
  have U4 := Lib.hid (hv4.alloc (.cells #[.bool s4, .slice A4 n4 c4] 24)).drew
  have hbk := HB3.out.trans (hb4.mono HB3.out.size)
  have HB4 := Lib.hid (hbk.alloc hbk.size (.cells #[.bool s4, .slice A4 n4 c4] 24)).drew
  have FZ := Lib.hid ho4.fit
  clear hb4 hv4 ho4 hbk
  obtain ⟨hvx, nbx⟩ := intV_of HRX.out HA4.out HX.out hca hcam
  have NX := Lib.hid nbx
  have C1 := Lib.hid (etext_int hvx nbx HTAB4.out)
  have KS : Hid (∀ W, Bxs W [(w4.heap.size, s4, A4, n4, c4), (w3.heap.size, s3, A3, n3, c3), (w.heap.size, s, A, xs.length, ca)] → W.cell? ⟨w.heap.size, 0, none⟩ = some (.bool s) ∧ W.cell? ⟨w.heap.size, 1, none⟩ = some (.slice A xs.length ca) ∧ W.cell? ⟨w3.heap.size, 0, none⟩ = some (.bool s3) ∧ W.cell? ⟨w3.heap.size, 1, none⟩ = some (.slice A3 n3 c3) ∧ W.cell? ⟨w4.heap.size, 0, none⟩ = some (.bool s4) ∧ W.cell? ⟨w4.heap.size, 1, none⟩ = some (.slice A4 n4 c4)) := Lib.hid (fun W h => ⟨h.tl.tl.hd.c0, h.tl.tl.hd.c1, h.tl.hd.c0, h.tl.hd.c1, h.hd.c0, h.hd.c1⟩)
  clear hvx nbx
  go_wp2
  first
  | go_region_held3 (fun W => W.cell? ⟨w.heap.size, 0, none⟩ = some (.bool s) ∧ W.cell? ⟨w.heap.size, 1, none⟩ = some (.slice A xs.length ca) ∧ W.cell? ⟨w3.heap.size, 0, none⟩ = some (.bool s3) ∧ W.cell? ⟨w3.heap.size, 1, none⟩ = some (.slice A3 n3 c3) ∧ W.cell? ⟨w4.heap.size, 0, none⟩ = some (.bool s4) ∧ W.cell? ⟨w4.heap.size, 1, none⟩ = some (.slice A4 n4 c4))
      ((exact KS.out _ (Hid.out (by assumption))))
      (first
        | (go_at_call 8; (with_reducible refine C1.out.mono ?_); rintro e w5 ⟨rfl, hb5⟩; have XS5 := Lib.hid (XS4.out.below hb5); have HB5 := Lib.hid (HB4.out.trans (hb5.mono HB4.out.size)); have V5 := Lib.hid (V4.out.keep hb5); have U5 := Lib.hid (U4.out.keep hb5); have C2 := Lib.hid (rtext2_right s A ca xs w5 (HA4.out.below hb5) HX.out HRX.out HNA.out); clear hb5)
        | (go_at_call 9; (with_reducible refine C2.out.mono ?_); rintro e w6 ⟨rfl, hb6⟩; have XS6 := Lib.hid (XS5.out.below hb6); have HB6 := Lib.hid (HB5.out.trans (hb6.mono HB5.out.size)); have C3 := Lib.hid (rsame2_yes (V5.out.keep hb6) (U5.out.keep hb6) FZ.out); clear hb6)
        | (go_at_call 10; (with_reducible refine C3.out.mono ?_); rintro e w7 ⟨rfl, hb7⟩; have XS7 := Lib.hid (XS6.out.below hb7); have HB7 := Lib.hid (HB6.out.trans (hb7.mono HB6.out.size)); clear hb7))
  | fail "the region"
  all_goals
    go_wp2
    go_ret
    exact ⟨rfl, HB7.out⟩

theorem etexts_walk (s : Bool) (A : Option Addr) (ca : Nat) (xs : List Nat) (T : ByteArray) (w : World) (ha : Rd w A xs) (hx : Lm xs) (hca : xs.length ≤ ca) (hcam : ca ≤ 9223372036854775807) (hna : A = none → xs.length = 0 ∧ ca = 0) (hT : T.size ≤ 9223372036854775807) (hs : SynCell w)
    (htab : Lib.TabIs Tryz.prog w "internal/strconv.uint64pow10" .u64 Lib.pow10Tab) :
    Calls Tryz.prog 3 #[.agg #[.bool s, .slice A xs.length ca], .string T] w fun e w' => e = .returned (.bool true) ∧ Below w.heap.size w w' := by
  by_cases hl : 800 < T.size
  · exact etexts_a s A ca xs T w ha hx hca hcam hna hT hs htab hl
  · by_cases r1 : rightB s xs = true
    · exact etexts_main s A ca xs T w ha hx hca hcam hna hT hs htab hl r1
    · exact etexts_b s A ca xs T w ha hx hca hcam hna hT hs htab hl (by simpa using r1)

end LM
end Go.Proofs.YtfckjapedjjhpaaGreatDoor
