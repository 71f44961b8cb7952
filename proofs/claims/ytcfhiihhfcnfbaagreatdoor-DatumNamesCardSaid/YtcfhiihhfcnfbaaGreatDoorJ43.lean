/- Walks of package datum: how many NODES a datum has. -/
import Derived.Test.YtcfhiihhfcnfbaaGreatDoorJ21
import Derived.Deep.LoopGhost
namespace Go.Proofs.YtcfhiihhfcnfbaaGreatDoor
open Go Go.RowKit
namespace LM
set_option linter.unusedVariables false

/-- what a datum holds but its Items -/
structure Hd where
  k : Int
  n : Int
  fl : Bool
  f : Nat
  s : Bool
  A : Option Addr
  xs : List Nat
  c : Nat
  t : ByteArray
  B : Option Addr
  cap : Nat
/-- data one behind the other -/
inductive Fr where
  | nil : Fr
  | cons (h : Hd) (kids rest : Fr) : Fr
def Fr.len : Fr → Nat
  | .nil => 0
  | .cons _ _ r => r.len + 1
def Fr.size : Fr → Nat
  | .nil => 0
  | .cons _ k r => k.size + r.size + 1
/-- a datum as a value -/
abbrev datA (h : Hd) (n : Nat) : Value := .agg #[.int .i64 h.k, .int .i64 h.n, .bool h.fl, .float .f64 h.f, .bool h.s, .slice h.A h.xs.length h.c, .string h.t, .slice h.B n h.cap]
/-- and as a block -/
abbrev datO (h : Hd) (n : Nat) : Obj := .cells #[.int .i64 h.k, .int .i64 h.n, .bool h.fl, .float .f64 h.f, .bool h.s, .slice h.A h.xs.length h.c, .string h.t, .slice h.B n h.cap] 49 (0, 0)
/-- a datum's eight cells -/
structure C8 (w : World) (b off : Nat) (h : Hd) (n : Nat) : Prop where
  c0 : w.cell? ⟨b, off, none⟩ = some (.int .i64 h.k)
  c1 : w.cell? ⟨b, off + 1, none⟩ = some (.int .i64 h.n)
  c2 : w.cell? ⟨b, off + 2, none⟩ = some (.bool h.fl)
  c3 : w.cell? ⟨b, off + 3, none⟩ = some (.float .f64 h.f)
  c4 : w.cell? ⟨b, off + 4, none⟩ = some (.bool h.s)
  c5 : w.cell? ⟨b, off + 5, none⟩ = some (.slice h.A h.xs.length h.c)
  c6 : w.cell? ⟨b, off + 6, none⟩ = some (.string h.t)
  c7 : w.cell? ⟨b, off + 7, none⟩ = some (.slice h.B n h.cap)
/-- data that lie from a place on -/
def FAt (w : World) : Nat → Nat → Fr → Prop
  | _, _, .nil => True
  | b, off, .cons h kids rest => b < w.heap.size ∧ C8 w b off h kids.len ∧ Rd w h.A h.xs ∧ (∃ b' off', (0 < kids.len → h.B = some ⟨b', off', none⟩) ∧ FAt w b' off' kids) ∧ FAt w b (off + 8) rest
/-- a datum that is handed on: its Items lie in memory -/
structure DatV (w : World) (h : Hd) (kids : Fr) : Prop where
  xs : Rd w h.A h.xs
  items : ∃ b off, (0 < kids.len → h.B = some ⟨b, off, none⟩) ∧ FAt w b off kids
/-- what is so of each datum that there can be -/
structure Hd.Ok (h : Hd) (m : Nat) : Prop where
  k : -9223372036854775808 ≤ h.k ∧ h.k ≤ 9223372036854775807
  n : -9223372036854775808 ≤ h.n ∧ h.n ≤ 9223372036854775807
  f : h.f < 18446744073709551616
  lm : Lm h.xs
  c : h.xs.length ≤ h.c ∧ h.c ≤ 9223372036854775807
  nA : h.A = none → h.xs.length = 0 ∧ h.c = 0
  l : h.xs.length ≤ 1000
  t : h.t.size ≤ 281474976710656
  cap : m ≤ h.cap ∧ h.cap ≤ 9223372036854775807
  nB : h.B = none → m = 0 ∧ h.cap = 0
  sA : ∀ ad, h.A = some ad → ad.spot = none
  sB : ∀ ad, h.B = some ad → ad.spot = none
def Fr.Ok : Fr → Prop
  | .nil => True
  | .cons h kids rest => h.Ok kids.len ∧ kids.Ok ∧ rest.Ok

theorem C8.keep {w w' : World} {b off : Nat} {h : Hd} {n B : Nat} (hc : C8 w b off h n) (hb : Below B w w') (hlt : b < B) : C8 w' b off h n :=
  ⟨(hb.cell (p := ⟨b, _, none⟩) hlt).trans hc.c0, (hb.cell (p := ⟨b, _, none⟩) hlt).trans hc.c1, (hb.cell (p := ⟨b, _, none⟩) hlt).trans hc.c2, (hb.cell (p := ⟨b, _, none⟩) hlt).trans hc.c3,
    (hb.cell (p := ⟨b, _, none⟩) hlt).trans hc.c4, (hb.cell (p := ⟨b, _, none⟩) hlt).trans hc.c5, (hb.cell (p := ⟨b, _, none⟩) hlt).trans hc.c6, (hb.cell (p := ⟨b, _, none⟩) hlt).trans hc.c7⟩
theorem FAt.below {w w' : World} (hb : Below w.heap.size w w') : ∀ (fr : Fr) (b off : Nat), FAt w b off fr → FAt w' b off fr := by
  intro fr
  induction fr with
  | nil => intro b off _; exact trivial
  | cons h kids rest ihk ihr =>
    intro b off hf
    obtain ⟨h1, h2, h3, ⟨b', off', h4, h5⟩, h6⟩ := hf
    exact ⟨Nat.lt_of_lt_of_le h1 hb.size, h2.keep hb h1, h3.below hb, ⟨b', off', h4, ihk _ _ h5⟩, ihr _ _ h6⟩
theorem DatV.below {w w' : World} {h : Hd} {kids : Fr} (hd : DatV w h kids) (hb : Below w.heap.size w w') : DatV w' h kids := by
  obtain ⟨h1, b, off, h2, h3⟩ := hd
  exact ⟨h1.below hb, b, off, h2, FAt.below hb _ _ _ h3⟩
theorem C8.of_block {w : World} {b : Nat} {h : Hd} {n : Nat} (hb : w.heap[b]? = some (datO h n)) : C8 w b 0 h n :=
  ⟨by rw [ob_cell hb]; rfl, by rw [ob_cell hb]; rfl, by rw [ob_cell hb]; rfl, by rw [ob_cell hb]; rfl, by rw [ob_cell hb]; rfl, by rw [ob_cell hb]; rfl, by rw [ob_cell hb]; rfl, by rw [ob_cell hb]; rfl⟩
/-- one of data one behind the other -/
theorem FAt.hd {w : World} {b off : Nat} {h : Hd} {kids rest : Fr} (hf : FAt w b off (.cons h kids rest)) : b < w.heap.size ∧ C8 w b off h kids.len ∧ DatV w h kids ∧ FAt w b (off + 8) rest := by
  obtain ⟨h1, h2, h3, h4, h5⟩ := hf
  exact ⟨h1, h2, ⟨h3, h4⟩, h5⟩
/-- the data behind the first i -/
def Fr.drop : Nat → Fr → Fr
  | 0, fr => fr
  | _ + 1, .nil => .nil
  | i + 1, .cons _ _ r => r.drop i
theorem Fr.len_drop : ∀ (i : Nat) (fr : Fr), (fr.drop i).len = fr.len - i := by
  intro i
  induction i with
  | zero => intro fr; rfl
  | succ i ih =>
    intro fr
    cases fr with
    | nil => show 0 = 0 - (i + 1); omega
    | cons h k r =>
      have := ih r
      show (r.drop i).len = (r.len + 1) - (i + 1)
      omega
theorem Fr.size_drop : ∀ (i : Nat) (fr : Fr), (fr.drop i).size ≤ fr.size := by
  intro i
  induction i with
  | zero => intro fr; exact Nat.le_refl _
  | succ i ih =>
    intro fr
    cases fr with
    | nil => exact Nat.le_refl _
    | cons h k r =>
      have := ih r
      show (r.drop i).size ≤ k.size + r.size + 1
      omega
theorem FAt.drop {w : World} {b : Nat} : ∀ (i : Nat) (fr : Fr) (off : Nat), FAt w b off fr → FAt w b (off + i * 8) (fr.drop i) := by
  intro i
  induction i with
  | zero => intro fr off h; rw [Nat.zero_mul]; exact h
  | succ i ih =>
    intro fr off h
    cases fr with
    | nil => exact trivial
    | cons hh k r =>
      have := ih r (off + 8) h.hd.2.2.2
      rw [show off + (i + 1) * 8 = off + 8 + i * 8 from by omega]
      exact this
theorem Fr.Ok.drop : ∀ (i : Nat) {fr : Fr}, fr.Ok → (fr.drop i).Ok := by
  intro i
  induction i with
  | zero => intro fr h; exact h
  | succ i ih =>
    intro fr h
    cases fr with
    | nil => exact trivial
    | cons hh k r => exact ih h.2.2
theorem Fr.cons_of_lt {fr : Fr} {i : Nat} (hi : i < fr.len) : ∃ h k r, fr.drop i = .cons h k r ∧ fr.drop (i + 1) = r := by
  induction i generalizing fr with
  | zero =>
    cases fr with
    | nil => exact absurd hi (by show ¬ 0 < 0; omega)
    | cons h k r => exact ⟨h, k, r, rfl, rfl⟩
  | succ i ih =>
    cases fr with
    | nil => exact absurd hi (by show ¬ i + 1 < 0; omega)
    | cons h k r =>
      have h2 : i < r.len := by have h3 : i + 1 < r.len + 1 := hi; omega
      exact ih h2

end LM
end Go.Proofs.YtcfhiihhfcnfbaaGreatDoor

namespace Go.Proofs.YtcfhiihhfcnfbaaGreatDoor
open Go Go.RowKit
namespace LM
set_option linter.unusedVariables false
attribute [local go_sem] run_store_flt

/-- the count, which gives up at most -/
def cnt : Int → Int → Fr → Int
  | _, n, .nil => n
  | most, n, .cons _ kids rest => if most ≤ n then n else cnt most (n + cnt (most - n) 1 kids) rest
theorem cnt_bd : ∀ (fr : Fr) (most n : Int), n ≤ cnt most n fr ∧ (cnt most n fr ≤ n ∨ cnt most n fr ≤ most) ∧ (n < most → 1 ≤ n → cnt most n fr ≤ most) := by
  intro fr
  induction fr with
  | nil => intro most n; exact ⟨Int.le_refl _, .inl (Int.le_refl _), fun h _ => by show n ≤ most; omega⟩
  | cons h kids rest ihk ihr =>
    intro most n
    unfold cnt
    by_cases hm : most ≤ n
    · rw [if_pos hm]
      exact ⟨Int.le_refl _, .inl (Int.le_refl _), fun h _ => by omega⟩
    · rw [if_neg hm]
      have h1 := ihk (most - n) 1
      have h2 := ihr most (n + cnt (most - n) 1 kids)
      generalize cnt (most - n) 1 kids = c at *
      refine ⟨by omega, ?_, fun _ _ => ?_⟩ <;> omega
def Fr.nodes : Fr → Nat
  | .nil => 0
  | .cons _ kids rest => kids.nodes + 1 + rest.nodes
/-- as long as there are no more than most, it is their number -/
theorem cnt_nodes : ∀ (fr : Fr) (most n : Int), n + fr.nodes ≤ most → cnt most n fr = n + fr.nodes := by
  intro fr
  induction fr with
  | nil => intro most n _; show n = n + ((0 : Nat) : Int); omega
  | cons h kids rest ihk ihr =>
    intro most n hm
    have hm' : n + ((kids.nodes + 1 + rest.nodes : Nat) : Int) ≤ most := hm
    show (if most ≤ n then n else cnt most (n + cnt (most - n) 1 kids) rest) = n + ((kids.nodes + 1 + rest.nodes : Nat) : Int)
    rw [if_neg (by omega), ihk _ _ (by omega), ihr _ _ (by omega)]
    omega
/-- and else at least most -/
theorem cnt_more : ∀ (fr : Fr) (most n : Int), most ≤ n + fr.nodes → most ≤ cnt most n fr := by
  intro fr
  induction fr with
  | nil => intro most n h; have h' : most ≤ n + ((0 : Nat) : Int) := h; show most ≤ n; omega
  | cons h kids rest ihk ihr =>
    intro most n hm
    have hm' : most ≤ n + ((kids.nodes + 1 + rest.nodes : Nat) : Int) := hm
    show most ≤ (if most ≤ n then n else cnt most (n + cnt (most - n) 1 kids) rest)
    by_cases h1 : most ≤ n
    · rw [if_pos h1]; exact h1
    · rw [if_neg h1]
      by_cases h2 : most - n ≤ 1 + kids.nodes
      · have h3 := ihk (most - n) 1 (by omega)
        have h4 := (cnt_bd rest most (n + cnt (most - n) 1 kids)).1
        omega
      · rw [cnt_nodes kids _ _ (by omega)]
        exact ihr _ _ (by omega)

/-- the address of the j-th of data -/
theorem counted_item {w : World} {b off j : Nat} {fr : Fr} {hh : Hd} {k r : Fr} (hf : FAt w b off fr) (hj : fr.drop j = .cons hh k r) : b < w.heap.size ∧ C8 w b (off + j * 8) hh k.len ∧ DatV w hh k := by
  have h := FAt.drop j fr off hf
  rw [hj] at h
  exact ⟨h.hd.1, h.hd.2.1, h.hd.2.2.1⟩
theorem size_item {fr : Fr} {j : Nat} {hh : Hd} {k r : Fr} (hj : fr.drop j = .cons hh k r) : k.size < fr.size := by
  have h := Fr.size_drop j fr
  rw [hj] at h
  have h2 : k.size + r.size + 1 ≤ fr.size := h
  omega

set_option maxRecDepth 100000 in
set_option maxHeartbeats 4000000 in
theorem counted_any : ∀ (m : Nat) (kids : Fr), kids.size < m → kids.Ok → ∀ (h : Hd) (most : Int) (w : World), DatV w h kids → kids.len ≤ h.cap → h.cap ≤ 9223372036854775807 → 1 ≤ most → most ≤ 4611686018427387904 →
    Calls Tryz.prog 71 #[datA h kids.len, .int .i64 most] w fun e w' => e = .returned (.int .i64 (cnt most 1 kids)) ∧ Below w.heap.size w w' := by
  intro m
  induction m with
  | zero => intro kids h; omega
  | succ m ih =>
    intro kids hsz hok h most w hd hc1 hc2 hm1 hm2
    obtain ⟨W0, hW0⟩ : ∃ W0, w.alloc (datO h kids.len) = W0 := ⟨_, rfl⟩
    have hb0 : Below w.heap.size w W0 := by rw [← hW0]; exact (Below.refl _ w).alloc (Nat.le_refl _) _
    have ho : W0.heap[w.heap.size]? = some (datO h kids.len) := by rw [← hW0]; unfold World.alloc; simp
    have hs0 : w.heap.size < W0.heap.size := by rw [← hW0]; simp
    have c7 : W0.cell? ⟨w.heap.size, 7, none⟩ = some (.slice h.B kids.len h.cap) := (C8.of_block ho).c7
    obtain ⟨b, off, hB, hF⟩ := (hd.below hb0).items
    have HW0 := Lib.hid hW0
    have HB0 := Lib.hid hb0
    have HO := Lib.hid ho
    have HF := Lib.hid hF
    have HB := Lib.hid hB
    have HOK := Lib.hid hok
    have IH := Lib.hid ih
    have HSZ := Lib.hid hsz
    clear hW0 hb0 ho hF hB hok ih hsz hd
    go_enter Tryz.func71, Tryz.ntmps71
    go_wp2_with (fail)
    rw [HW0.out]
    go_loopg [5, 10] kids.len (fun kk n i wr => Below W0.heap.size W0 wr ∧ ∃ j : Nat, j ≤ kids.len ∧ kk = kids.len - j ∧ i = .int .i64 (j : Int) ∧ ∃ a : Int, n = .int .i64 a ∧ cnt most a (kids.drop j) = cnt most 1 kids ∧ 1 ≤ a ∧ (a ≤ 1 ∨ a ≤ most))
    case atStart => exact ⟨Below.refl _ _, 0, Nat.zero_le _, rfl, rfl, 1, rfl, rfl, by omega, by omega⟩
    case round =>
      obtain ⟨hbr, j, hj, rfl, rfl, a, rfl, hcn, ha1, ha2⟩ := hrel
      have HBR := Lib.hid hbr
      have HCN := Lib.hid hcn
      have e7 : wr.cell? ⟨w.heap.size, 7, none⟩ = some (.slice h.B kids.len h.cap) := (hbr.cell (p := ⟨w.heap.size, 7, none⟩) hs0).trans c7
      clear hbr hcn
      by_cases hjl : j < kids.len
      · obtain ⟨hh, k, r, hdr, hdr1⟩ := Fr.cons_of_lt hjl
        rw [HB.out (by omega)] at e7
        have hcn := HCN.out
        rw [hdr] at hcn
        obtain ⟨hbl, C, D⟩ := counted_item (FAt.below HBR.out _ _ _ HF.out) hdr
        have hks := size_item hdr
        have hko := HOK.out.drop j
        rw [hdr] at hko
        by_cases hmo : most ≤ a
        · have d1 : decide (most ≤ a) = true := decide_eq_true hmo
          have hres : a = cnt most 1 kids := by rw [← hcn]; unfold cnt; rw [if_pos hmo]
          have HR := Lib.hid hres
          clear hmo hcn hdr hdr1 C D hks hko hres
          go_wp2_with (fail)
          go_ret
          exact ⟨by rw [← HR.out]; rfl, bel_trans (B := w.heap.size) HB0.out HBR.out⟩
        · have d1 : decide (most ≤ a) = false := decide_eq_false hmo
          have hcn2 : cnt most (a + cnt (most - a) 1 k) r = cnt most 1 kids := by rw [← hcn]; conv => rhs; unfold cnt; rw [if_neg hmo]
          have hb1 := cnt_bd k (most - a) 1
          have CK := Lib.hid (IH.out k (by have := HSZ.out; omega) hko.2.1 hh (most - a) wr D hko.1.cap.1 hko.1.cap.2 (by omega) (by omega))
          have HCN2 := Lib.hid hcn2
          have HB1 := Lib.hid hb1
          have HDR := Lib.hid hdr1
          have w1 : IntKind.i64.wrap (most - a) = most - a := by rw [IntKind.wrap_i64]; omega
          obtain ⟨x0, x1, x2, x3, x4, x5, x6, x7⟩ := C
          clear hcn hcn2 hdr hdr1 hb1 hks hko D
          go_wp2_with (fail)
          refine CK.out.mono ?_
          rintro e w2 ⟨rfl, hb2⟩
          have HB2 := Lib.hid (bel_trans (B := W0.heap.size) HBR.out hb2)
          clear hb2
          have w2 : IntKind.i64.wrap (a + cnt (most - a) 1 k) = a + cnt (most - a) 1 k := by rw [IntKind.wrap_i64]; have := HB1.out; omega
          go_wp2_with (fail)
          go_roundg (kids.len - (j + 1))
          case measure => omega
          case rel => exact ⟨HB2.out, j + 1, by omega, rfl, by go_num, _, rfl, by rw [HDR.out]; exact HCN2.out, by have := HB1.out; omega, by have := HB1.out; omega⟩
      · have hje : j = kids.len := by omega
        subst hje
        have hcn := HCN.out
        have hnil : kids.drop kids.len = .nil := by
          have h1 := Fr.len_drop kids.len kids
          cases h2 : kids.drop kids.len with
          | nil => rfl
          | cons x y z => rw [h2] at h1; have h3 : z.len + 1 = kids.len - kids.len := h1; omega
        rw [hnil] at hcn
        have HR : Hid (a = cnt most 1 kids) := Lib.hid hcn
        clear hcn hnil
        go_wp2_with (fail)
        go_ret
        exact ⟨by rw [← HR.out]; rfl, bel_trans (B := w.heap.size) HB0.out HBR.out⟩
end LM
end Go.Proofs.YtcfhiihhfcnfbaaGreatDoor
