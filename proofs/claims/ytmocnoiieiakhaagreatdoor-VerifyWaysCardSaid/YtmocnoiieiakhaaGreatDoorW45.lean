/- The law VerifyWays walked, whatever is known of the program's constants. Written by genVy.py. -/
import Derived.Test.YtmocnoiieiakhaaGreatDoorW44
namespace Go.Proofs.YtmocnoiieiakhaaGreatDoor
open Go Go.RowKit
namespace LM
set_option linter.unusedVariables false

/-- a row of bools that came in -/
structure BoolsAt (w : World) (B : Option Addr) (b off cap : Nat) (bs : List Bool) : Prop where
  hB : 0 < bs.length → B = some ⟨b, off, none⟩
  at_ : ∀ (j : Nat) x, bs[j]? = some x → b < w.heap.size ∧ w.cell? ⟨b, off + j, none⟩ = some (.bool x)
  cap : bs.length ≤ cap ∧ cap ≤ 9223372036854775807
theorem BoolsAt.below {w w' : World} {B : Option Addr} {b off cap : Nat} {bs : List Bool} (h : BoolsAt w B b off cap bs) (hb : Below w.heap.size w w') : BoolsAt w' B b off cap bs :=
  ⟨h.hB, fun j x hj => ⟨Nat.lt_of_lt_of_le (h.at_ j x hj).1 hb.size, (hb.cell (p := ⟨b, off + j, none⟩) (h.at_ j x hj).1).trans (h.at_ j x hj).2⟩, h.cap⟩
theorem lw_w1 {d t : Int} (h : 0 ≤ d ∧ d ≤ 100001000) (k : 0 ≤ t ∧ t ≤ 100000000) : RowKit.wrap64 (d - t) = d - t := by unfold RowKit.wrap64; omega
theorem lw_w2 {d t u : Int} (h : 0 ≤ d ∧ d ≤ 100001000) (k : 0 ≤ t ∧ t ≤ 100000000) (k2 : 0 ≤ u ∧ u ≤ 1) : RowKit.wrap64 (d - t + u) = d - t + u := by unfold RowKit.wrap64; omega
theorem insE_bound {c : Cod} {p : Prh} {k : Int} {x : Ins} (h : insE c p k x = 0) : x.a < boundV c p k x.op := by
  unfold insE at h
  split at h
  · cases h
  split at h
  · cases h
  omega

set_option maxRecDepth 100000 in
set_option maxHeartbeats 64000000 in
theorem vways_by (c : Cod) (proc : Int) (bs : List Bool) (B : Option Addr) (b off cap : Nat) (k : Int) (w : World) (hv : CodV w c) (hps : c.ps.length ≤ c.pc ∧ c.pc ≤ 9223372036854775807) (hcp : ∀ p ∈ c.ps, p.code.length ≤ p.cap ∧ p.cap ≤ 9223372036854775807) (hbs : BoolsAt w B b off cap bs)
    (hal : ∀ W, Below w.heap.size w W → Calls Tryz.prog 8 #[] W fun e w' => e = .returned (.bool true) ∧ Below W.heap.size W w')
    (hM : ∀ (n : Nat) W, n ≤ 40000 → Calls Tryz.prog 47 #[.int .u64 1, .int .u64 (n : Int)] W fun e w' => e = .returned (.tuple #[.int .u64 0, .int .u64 (n : Int)]) ∧ W = w')
    (hck : greatV c = false → ∃ r, (∀ W, Below w.heap.size w W → CheckW (CheckP (tkC c.ps) puC c k r) c W) ∧ (r = true → RightC (tkC c.ps) puC w c)) :
    Calls Tryz.prog 4 #[codA c, .int .i64 proc, .slice B bs.length cap] w fun e w' => e = .returned (.bool true) ∧ Below w.heap.size w w' := by
  obtain ⟨W1, hW1⟩ : ∃ W1, w.alloc (codO c) = W1 := ⟨_, rfl⟩
  have hb1 : Below w.heap.size w W1 := by rw [← hW1]; exact (Below.refl _ w).alloc (Nat.le_refl _) _
  have hs1 : w.heap.size < W1.heap.size := by rw [← hW1]; simp
  have o1 : W1.heap[w.heap.size]? = some (codO c) := by rw [← hW1]; exact Array.getElem?_push_size
  -- what is read in any world that has grown behind
  have FA : Hid (∀ W, Below W1.heap.size W1 W → (W.cell? ⟨w.heap.size, 0, none⟩ = some (.slice c.PB c.ps.length c.pc) ∧ W.cell? ⟨w.heap.size, 1, none⟩ = some (.slice c.CB c.kids.len c.cc) ∧ W.cell? ⟨w.heap.size, 2, none⟩ = some (.slice c.GB c.gs.length c.gc)) ∧ Below w.heap.size w W) := Lib.hid fun W hW => by
    have e3 : W.heap[w.heap.size]? = some (codO c) := (hW.block _ hs1).trans o1
    exact ⟨⟨ob_cell e3 0, ob_cell e3 1, ob_cell e3 2⟩, bel_trans (B := w.heap.size) hb1 hW⟩
  have AL := Lib.hid (hal W1 hb1)
  have hfd : ∀ (z m i : Int) (W : World), (Instr.field 24 (.agg #[.int .i64 z, .int .i64 m, .int .i64 i]) 0).run Tryz.prog W = .ok (.int .i64 z) W := fun _ _ _ _ => by kernel_rfl
  obtain ⟨n, hn⟩ : ∃ n, bs.length = n := ⟨_, rfl⟩
  rw [hn]
  have HN := Lib.hid hn
  have HW1 := Lib.hid hW1
  have HB1 := Lib.hid hb1
  have HV := Lib.hid hv
  have HPS := Lib.hid hps
  have HCP := Lib.hid hcp
  have HBS := Lib.hid hbs
  have HM := Lib.hid hM
  have HCK := Lib.hid hck
  clear hW1 hb1 hs1 o1 hal hn hv hps hcp hbs hM hck
  go_enter Tryz.func4, Tryz.ntmps4
  go_upto_region 1 with (fail)
  rw [HW1.out]
  go_wp2_with (fail)
  refine AL.out.mono ?_
  rintro e w2 ⟨rfl, hb2⟩
  obtain ⟨⟨y0, y1, y2⟩, hw2⟩ := FA.out w2 hb2
  have GR := Lib.hid (vgreat_any c w2 (HV.out.below hw2) HPS.out)
  have HB2 := Lib.hid hb2
  clear hb2 hw2
  obtain ⟨gr, hgr⟩ : ∃ gr, greatV c = gr := ⟨_, rfl⟩
  rw [hgr] at GR
  go_wp2_with (fail)
  refine GR.out.mono ?_
  rintro e w3 ⟨rfl, hb3⟩
  obtain ⟨⟨x0, x1, x2⟩, hw3⟩ := FA.out w3 (bel_trans (B := W1.heap.size) HB2.out hb3)
  have HB3 := Lib.hid (bel_trans (B := W1.heap.size) HB2.out hb3)
  have HB03 := Lib.hid hw3
  clear hb3 hw3 y0 y1 y2
  cases gr
  case true =>
    go_wp2_with (fail)
    go_ret
    exact ⟨rfl, HB03.out⟩
  by_cases h500 : 500 < n
  · have d1 : decide ((500 : Int) < (n : Int)) = true := decide_eq_true (by omega)
    have d1' : decide (500 < n) = true := decide_eq_true h500
    clear h500 hgr
    go_wp2_with (fail)
    go_ret
    exact ⟨rfl, HB03.out⟩
  have d1 : decide ((500 : Int) < (n : Int)) = false := decide_eq_false (by omega)
  have d1' : decide (500 < n) = false := decide_eq_false h500
  have H500 := Lib.hid h500
  obtain ⟨r, hr1, hr2⟩ := HCK.out hgr
  have CK := Lib.hid (hr1 w3 HB03.out)
  have HR1 := Lib.hid hr1
  have HR2 := Lib.hid hr2
  obtain ⟨g1, g2, g3, g4⟩ := greatV_no hgr
  have HG := Lib.hid (And.intro g1 (And.intro g2 (And.intro g3 g4)))
  clear h500 hgr hr1 hr2 g1 g2 g3 g4
  go_wp2_with (fail)
  refine CK.out.mono ?_
  rintro e w4 ⟨z, m, i, hz, rfl, hb4⟩
  obtain ⟨⟨y0, y1, y2⟩, hw4⟩ := FA.out w4 (bel_trans (B := W1.heap.size) HB3.out hb4)
  have HB4 := Lib.hid (bel_trans (B := W1.heap.size) HB3.out hb4)
  have HB04 := Lib.hid hw4
  clear hb4 hw4 x0 x1 x2
  by_cases hz0 : z = 0
  case neg =>
    have zb : (z == 0) = false := beq_eq_false_iff_ne.2 hz0
    have zb' : (z != 0) = true := by simpa using hz0
    clear hz hz0
    go_wp2_with (fail)
    go_ret
    exact ⟨rfl, HB04.out⟩
  subst hz0
  obtain ⟨hr, hno⟩ := check_none hz
  have HNO := Lib.hid hno
  have HRC := Lib.hid (HR2.out hr)
  have CS : Hid (∀ W, Below w.heap.size w W → CheckW (fun z m i => z = 0 ∧ m = 0 ∧ i = 0) c W) := Lib.hid fun W hW => by
    refine (HR1.out W hW).mono ?_
    rintro e w' ⟨z, m, i, hz, rfl, hb⟩
    exact ⟨z, m, i, check_same HRC.out.pr hr hno hz, rfl, hb⟩
  clear hz hr hno
  by_cases hp0 : proc < 0
  · have d2 : decide (proc < 0) = true := decide_eq_true hp0
    clear hp0
    go_wp2_with (fail)
    go_ret
    exact ⟨rfl, HB04.out⟩
  have d2 : decide (proc < 0) = false := decide_eq_false hp0
  by_cases hp1 : (c.ps.length : Int) ≤ proc
  · have d3 : decide ((c.ps.length : Int) ≤ proc) = true := decide_eq_true hp1
    clear hp0 hp1
    go_wp2_with (fail)
    go_ret
    exact ⟨rfl, HB04.out⟩
  have d3 : decide ((c.ps.length : Int) ≤ proc) = false := decide_eq_false hp1
  obtain ⟨pn, rfl⟩ : ∃ pn : Nat, proc = (pn : Int) := ⟨proc.toNat, (Int.toNat_of_nonneg (by omega)).symm⟩
  have hpn : pn < c.ps.length := by omega
  have a1 : (0 : Int) ≤ (pn : Int) := Int.natCast_nonneg pn
  have d3' : decide (c.ps.length ≤ pn) = false := decide_eq_false (by omega)
  obtain ⟨p, hp⟩ : ∃ p, c.ps[pn]? = some p := ⟨_, List.getElem?_eq_getElem hpn⟩
  have hpm := List.mem_of_getElem? hp
  obtain ⟨pb, po, hPB, hPF⟩ := HV.out.ps
  have hPBs := hPB (by omega)
  have hpv := HV.out.pv p hpm
  obtain ⟨ib, io, hib, hia⟩ := hpv
  have hpk : PK w w.heap.size pb (po + pn * 7) ib io p := ⟨(hPF pn p hp).2, (hPF pn p hp).1, hib, hia, fun hl => (hia 0 _ (List.getElem?_eq_getElem hl)).1, HCP.out p hpm⟩
  obtain ⟨N, hN⟩ : ∃ N, c.ps.length = N := ⟨_, rfl⟩
  have a2 : (pn : Int) < (N : Int) := by omega
  have a3 : (N : Int) ≤ (c.pc : Int) := by have := HPS.out; omega
  have a4 : (c.pc : Int) ≤ 9223372036854775807 := by have := HPS.out; omega
  rw [hPBs, hN] at y0
  rw [hN] at d3 d3'
  obtain ⟨z0, z1, z2, z3, z4, z5, z6⟩ := (hpk.keep HB04.out (Nat.le_refl _)).p7
  obtain ⟨W5, hW5⟩ : ∃ W5, w4.alloc (.cells #[.string p.nm, .int .i64 p.pa, .bool p.rs, .int .i64 p.sl, .int .i64 p.de, .int .i64 p.fr, .slice p.B p.code.length p.cap] 39 (0, 0)) = W5 := ⟨_, rfl⟩
  have hb5 : Below w4.heap.size w4 W5 := by rw [← hW5]; exact (Below.refl _ w4).alloc (Nat.le_refl _) _
  have ho5 : W5.heap[w4.heap.size]? = some (prO p) := by rw [← hW5]; exact Array.getElem?_push_size
  have hB5 : Below W1.heap.size W1 W5 := bel_trans (B := W1.heap.size) HB4.out hb5
  have hw5 := (FA.out W5 hB5).2
  have hpr := HRC.out.pr p hpm
  have hfl := HNO.out.pr p hpm
  have VD := Lib.hid (vdepthsF_any (tkC c.ps) puC c p k pn p.code.length pb po ib io W5 hPBs hpn HPS.out (hpk.up hw5 (Nat.le_refl _) hw5.size) rfl (by have := HG.out.2.2.2 p hpm; omega) hpr.1
    (fun x hx W hW => HRC.out.ef p hpm x hx W (bel_trans (B := w.heap.size) hw5 hW)) hpr.2.2 (fun W => HM.out _ W (by have := HG.out.2.2.2 p hpm; omega)) hfl (fun W hW => CS.out W (bel_trans (B := w.heap.size) hw5 hW)))
  -- what the flaws told
  have hIns : ∀ y ∈ p.code, insE c p k y = 0 := by
    generalize hz : (0 : Int) = z at hfl
    generalize hi0 : (0 : Nat) = i0 at hfl
    cases hfl with
    | num h => exact absurd hz.symm h
    | ins i x a1 a2 a3 a4 => exact absurd hz.symm a4
    | run i e a1 a2 a3 a4 => exact absurd hz.symm a3
    | none ds a1 a2 a4 => rw [← hz]; exact a2
  have hNum : numE p = 0 := by
    generalize hz : (0 : Int) = z at hfl
    generalize hi0 : (0 : Nat) = i0 at hfl
    cases hfl with
    | num h => exact absurd hz.symm h
    | ins i x a1 a2 a3 a4 => exact absurd hz.symm a4
    | run i e a1 a2 a3 a4 => exact absurd hz.symm a3
    | none ds a1 a2 a4 => rw [← hz]; exact a1
  obtain ⟨-, -, -, hpos, hde⟩ := numE_ok hpr.1 hNum
  have hpB := hib hpos
  have HINS := Lib.hid hIns
  have HPR := Lib.hid hpr.2.2
  have HPM := Lib.hid hpm
  have HPK := Lib.hid hpk
  have HDE := Lib.hid hde
  have HPBS := Lib.hid (And.intro hPBs hN)
  have HL3 := Lib.hid (HG.out.2.2.2 p hpm)
  have O5 := Lib.hid ho5
  have HB5 := Lib.hid hB5
  have HW5 := Lib.hid hW5
  have HPBB := Lib.hid hpB
  have hpc := HCP.out p hpm
  obtain ⟨cn, hcn⟩ : ∃ cn, p.code.length = cn := ⟨_, rfl⟩
  have HCN := Lib.hid hcn
  have c1 : (cn : Int) ≤ (p.cap : Int) := by rw [← hcn]; omega
  have c2 : (p.cap : Int) ≤ 9223372036854775807 := by omega
  clear hp0 hp1 hpn hp hpm hPB hPF hPBs hib hia hpk hN hb5 ho5 hB5 hw5 hpr hfl hIns hNum hpos hde hpB hW5 hpc hcn
  go_upto_region 6 with (fail)
  rw [HW5.out]
  clear z0 z1 z2 z3 z4 z5 z6
  obtain ⟨⟨u0, u1, u2⟩, -⟩ := FA.out W5 HB5.out
  go_wp2_with (fail)
  refine VD.out.mono ?_
  rintro e w6 ⟨ds, g, q1, q2, rfl, q3, q4, hb6⟩
  have HB6 := Lib.hid (bel_trans (B := W1.heap.size) HB5.out hb6)
  have O6 := Lib.hid ((hb6.block _ (hlt_of O5.out)).trans O5.out)
  have Q := Lib.hid (And.intro q1 (And.intro q2 q4))
  obtain ⟨dn, hdn⟩ : ∃ dn, ds.length = dn := ⟨_, rfl⟩
  rw [hdn]
  have HDN : Hid (dn = cn) := Lib.hid (by rw [← hdn, q1.1, HCN.out])
  have HDL := Lib.hid hdn
  -- what is read in the loop
  have FB : Hid (∀ W, Below w6.heap.size w6 W → (W.cell? ⟨w4.heap.size, 3, none⟩ = some (.int .i64 p.sl) ∧ W.cell? ⟨w4.heap.size, 4, none⟩ = some (.int .i64 p.de) ∧ W.cell? ⟨w4.heap.size, 6, none⟩ = some (.slice (some ⟨ib, io, none⟩) cn p.cap)) ∧ W.heap[g]? = some (.cells (ivs ds).toArray 3 (0, 0)) ∧ InsAt W ib io p.code ∧ BoolsAt W B b off cap bs ∧ Below W1.heap.size W1 W) := Lib.hid fun W hW => by
    have e1 := (hW.block _ (hlt_of O6.out)).trans O6.out
    have hB := bel_trans (B := W1.heap.size) HB6.out hW
    have hw := (FA.out W hB).2
    have e6 : W.cell? ⟨w4.heap.size, 6, none⟩ = some (.slice p.B p.code.length p.cap) := ob_cell e1 6
    rw [HPBB.out, HCN.out] at e6
    exact ⟨⟨ob_cell e1 3, ob_cell e1 4, e6⟩, (hW.block _ (hlt_of Q.out.2.2)).trans Q.out.2.2, HPK.out.ins.below hw, HBS.out.below hw, hB⟩
  clear q1 q2 q3 q4 hb6 hdn u0 u1 u2 y0 y1 y2
  go_wp2_with (fail)
  go_loopg [9, 10, 52] n (fun kk av dv jv wr => ∃ (at_ j : Nat) (d : Int), av = .int .i64 (at_ : Int) ∧ dv = .int .i64 d ∧ jv = .int .i64 (j : Int) ∧ kk = n - j ∧ j ≤ n ∧ Hid (ds[at_]? = some d ∧ 0 ≤ d) ∧ Hid (Below w6.heap.size w6 wr))
  case atStart => exact ⟨0, 0, 0, rfl, rfl, rfl, rfl, Nat.zero_le _, Lib.hid ⟨Q.out.2.1, Int.le_refl _⟩, Lib.hid (Below.refl _ _)⟩
  case round =>
    obtain ⟨at_, j, d, rfl, rfl, rfl, hk, hj, HD, HBr⟩ := hrel
    obtain ⟨⟨f3, f4, f6⟩, fds, fin_, fbs, hbr⟩ := FB.out wr HBr.out
    obtain ⟨⟨v0, v1, v2⟩, hw0⟩ := FA.out wr hbr
    by_cases hlt : j < n
    case neg =>
      have b1 : decide (j < n) = false := decide_eq_false hlt
      clear hlt hk hj fds fin_ fbs hbr
      have HW0 := Lib.hid hw0
      clear hw0
      go_wp2_with (fail)
      go_ret
      exact ⟨rfl, HW0.out⟩
    have b1 : decide (j < n) = true := decide_eq_true hlt
    have hB := fbs.hB (by rw [HN.out]; omega)
    obtain ⟨y, hy⟩ : ∃ y, bs[j]? = some y := ⟨_, List.getElem?_eq_getElem (by rw [HN.out]; exact hlt)⟩
    have cy := (fbs.at_ j y hy).2
    have hcb := fbs.cap
    rw [HN.out] at hcb
    have b2 : (0 : Int) ≤ (j : Int) := Int.natCast_nonneg j
    have b3 : (j : Int) < (n : Int) := Int.ofNat_lt.2 hlt
    have b4 : (n : Int) ≤ (cap : Int) := Int.ofNat_le.2 hcb.1
    have b5 : (cap : Int) ≤ 9223372036854775807 := by have := hcb.2; omega
    have hal := (List.getElem?_eq_some_iff.1 HD.out.1).1
    rw [HDL.out, HDN.out] at hal
    have b6 : (0 : Int) ≤ (at_ : Int) := Int.natCast_nonneg at_
    have b7 : (at_ : Int) < (cn : Int) := Int.ofNat_lt.2 hal
    have b8 : decide ((at_ : Int) < 0) = false := decide_eq_false (by omega)
    have b9 : decide ((cn : Int) ≤ (at_ : Int)) = false := decide_eq_false (by omega)
    have b9' : decide (cn ≤ at_) = false := decide_eq_false (by omega)
    have b10 : decide ((dn : Int) ≤ (at_ : Int)) = false := decide_eq_false (by rw [HDN.out]; omega)
    have b10' : decide (dn ≤ at_) = false := decide_eq_false (by rw [HDN.out]; omega)
    have b11 : (at_ : Int) < (dn : Int) := by rw [HDN.out]; exact b7
    have b12 : (dn : Int) ≤ 9223372036854775807 := by have := HL3.out; have := HCN.out; have := HDN.out; omega
    have cd : wr.cell? ⟨g, at_, none⟩ = some (.int .i64 d) := by rw [ob_cell fds]; simp [ivs, HD.out.1]
    have b13 : (d != d) = false := by simp
    obtain ⟨x, hx⟩ : ∃ x, p.code[at_]? = some x := ⟨_, List.getElem?_eq_getElem (by rw [HCN.out]; exact hal)⟩
    have hxm := List.mem_of_getElem? hx
    obtain ⟨-, i0, i1, i2⟩ := fin_ at_ x hx
    obtain ⟨W7, hW7⟩ : ∃ W7, wr.alloc (insO x) = W7 := ⟨_, rfl⟩
    have hb7 : Below wr.heap.size wr W7 := by rw [← hW7]; exact (Below.refl _ wr).alloc (Nat.le_refl _) _
    have ho7 : W7.heap[wr.heap.size]? = some (insO x) := by rw [← hW7]; exact Array.getElem?_push_size
    have hB7 : Below w6.heap.size w6 W7 := bel_trans (B := w6.heap.size) HBr.out hb7
    obtain ⟨⟨f3', f4', f6'⟩, -, -, -, hbr7⟩ := FB.out W7 hB7
    obtain ⟨⟨v0', v1', v2'⟩, hw7⟩ := FA.out W7 hbr7
    obtain ⟨z0, z1, z2⟩ := I3.of_block ho7
    simp only [Nat.zero_add] at z0 z1 z2
    have EF := Lib.hid (HRC.out.ef p HPM.out x hxm W7 hw7)
    obtain ⟨t1, t2, t3⟩ := HPR.out x hxm
    obtain ⟨k1, k2, k3, k4⟩ := Q.out.1.2 at_ d HD.out.1 (by have := HD.out.2; omega) x d hx HD.out.1
    have hbd := insE_bound (HINS.out x hxm)
    obtain ⟨t, ht⟩ : ∃ t, tkC c.ps x = t := ⟨_, rfl⟩
    obtain ⟨u, hu⟩ : ∃ u, puC x = u := ⟨_, rfl⟩
    rw [ht, hu] at EF
    rw [ht] at t1
    rw [hu] at t2
    rw [ht, hu] at k2 k3 k4
    rw [ht] at k1
    have hd1 : 0 ≤ d ∧ d ≤ 100001000 := by have := HDE.out; have := HD.out.2; omega
    have wa : RowKit.wrap64 (d - t) = d - t := lw_w1 hd1 t1
    have wb : RowKit.wrap64 (d - t + u) = d - t + u := lw_w2 hd1 t1 t2
    have wc : RowKit.wrap64 ((at_ : Int) + 1) = ((at_ + 1 : Nat) : Int) := by have := HL3.out; have := HCN.out; unfold RowKit.wrap64; omega
    have wd : RowKit.wrap64 ((j : Int) + 1) = ((j + 1 : Nat) : Int) := by have := H500.out; unfold RowKit.wrap64; omega
    have e1 : decide (d < t) = false := decide_eq_false (by omega)
    have e2 : decide (p.de < d - t + u) = false := decide_eq_false (by omega)
    have NX : Hid ((goesB x = true → ds[at_ + 1]? = some (d - t + u)) ∧ (jumpB x = true → ds[x.a.toNat]? = some (d - t + u)) ∧ 0 ≤ d - t + u) := Lib.hid ⟨fun hg => (k3 hg).2, k4, by omega⟩
    have HBD := Lib.hid (And.intro t3 hbd)
    have HLT := Lib.hid (And.intro hlt hk)
    have HW7 := Lib.hid hW7
    have HB7 := Lib.hid hB7
    have O7 := Lib.hid ho7
    rw [hB]
    have HBB := Lib.hid hB
    clear hlt hk hj fds fin_ fbs hbr hw0 hB hy hcb hal hx hxm hW7 hb7 ho7 hB7 hbr7 hw7 t1 t2 t3 k1 k2 k3 k4 hbd ht hu hd1
    obtain ⟨op, a, xb⟩ := x
    dsimp only at i0 i1 i2 z0 z1 z2 HW7 HBD NX O7
    by_cases q0 : op = 0
    · subst q0
      have g1 : decide ((c.kids.len : Int) ≤ a) = false := decide_eq_false (by have := HBD.out.2; simp [boundV] at this; omega)
      go_upto_region 14 with (fail)
      rw [HW7.out]
      go_wp2_with (fail)
      refine EF.out.mono ?_
      rintro e w8 ⟨rfl, hb8⟩
      have hB8 := bel_trans (B := w6.heap.size) HB7.out hb8
      obtain ⟨⟨h3, h4, h6⟩, -, -, -, hbr8⟩ := FB.out w8 hB8
      obtain ⟨⟨r0, r1, r2⟩, hw8⟩ := FA.out w8 hbr8
      have o8 := (hb8.block _ (hlt_of O7.out)).trans O7.out
      have s0 : w8.cell? ⟨wr.heap.size, 0, none⟩ = some (.int .i64 0) := ob_cell o8 0
      have s1 : w8.cell? ⟨wr.heap.size, 1, none⟩ = some (.int .i64 a) := ob_cell o8 1
      have HB8 := Lib.hid hB8
      have HW8 := Lib.hid hw8
      clear b1 b2 b3 b4 b5 b6 b7 b8 b9 b9' b10 b10' b11 b12 b13 cd cy hfd a1 a2 a3 a4 c1 c2 d1 d1' d2 d3 d3'
      clear hb8 hB8 hbr8 hw8 o8 i0 i1 i2 z0 z1 z2 f3 f4 f6 v0 v1 v2 f3' f4' f6' v0' v1' v2'
      go_wp2_with (fail)
      rw [← HBB.out]
      go_roundg (n - (j + 1))
      case measure => have := HLT.out; omega
      case rel => exact ⟨at_ + 1, j + 1, d - t + u, (by first | rfl | rw [wc]), (by first | rfl | rw [wb]), (by first | rfl | rw [wd]), rfl, by have := HLT.out; omega, Lib.hid ⟨NX.out.1 rfl, NX.out.2.2⟩, HB8⟩
    have e_0 : (op == 0) = false := beq_eq_false_iff_ne.2 q0
    by_cases q18 : op = 18
    · subst q18
      have g1 : decide ((c.kids.len : Int) ≤ a) = false := decide_eq_false (by have := HBD.out.2; simp [boundV] at this; omega)
      go_upto_region 14 with (fail)
      rw [HW7.out]
      go_wp2_with (fail)
      refine EF.out.mono ?_
      rintro e w8 ⟨rfl, hb8⟩
      have hB8 := bel_trans (B := w6.heap.size) HB7.out hb8
      obtain ⟨⟨h3, h4, h6⟩, -, -, -, hbr8⟩ := FB.out w8 hB8
      obtain ⟨⟨r0, r1, r2⟩, hw8⟩ := FA.out w8 hbr8
      have o8 := (hb8.block _ (hlt_of O7.out)).trans O7.out
      have s0 : w8.cell? ⟨wr.heap.size, 0, none⟩ = some (.int .i64 18) := ob_cell o8 0
      have s1 : w8.cell? ⟨wr.heap.size, 1, none⟩ = some (.int .i64 a) := ob_cell o8 1
      have HB8 := Lib.hid hB8
      have HW8 := Lib.hid hw8
      clear b1 b2 b3 b4 b5 b6 b7 b8 b9 b9' b10 b10' b11 b12 b13 cd cy hfd a1 a2 a3 a4 c1 c2 d1 d1' d2 d3 d3'
      clear hb8 hB8 hbr8 hw8 o8 i0 i1 i2 z0 z1 z2 f3 f4 f6 v0 v1 v2 f3' f4' f6' v0' v1' v2'
      go_wp2_with (fail)
      rw [← HBB.out]
      go_roundg (n - (j + 1))
      case measure => have := HLT.out; omega
      case rel => exact ⟨at_ + 1, j + 1, d - t + u, (by first | rfl | rw [wc]), (by first | rfl | rw [wb]), (by first | rfl | rw [wd]), rfl, by have := HLT.out; omega, Lib.hid ⟨NX.out.1 rfl, NX.out.2.2⟩, HB8⟩
    have e_18 : (op == 18) = false := beq_eq_false_iff_ne.2 q18
    by_cases q1 : op = 1
    · subst q1
      have g1 : decide (p.sl ≤ a) = false := decide_eq_false (by have := HBD.out.2; simp [boundV] at this; omega)
      go_upto_region 14 with (fail)
      rw [HW7.out]
      go_wp2_with (fail)
      refine EF.out.mono ?_
      rintro e w8 ⟨rfl, hb8⟩
      have hB8 := bel_trans (B := w6.heap.size) HB7.out hb8
      obtain ⟨⟨h3, h4, h6⟩, -, -, -, hbr8⟩ := FB.out w8 hB8
      obtain ⟨⟨r0, r1, r2⟩, hw8⟩ := FA.out w8 hbr8
      have o8 := (hb8.block _ (hlt_of O7.out)).trans O7.out
      have s0 : w8.cell? ⟨wr.heap.size, 0, none⟩ = some (.int .i64 1) := ob_cell o8 0
      have s1 : w8.cell? ⟨wr.heap.size, 1, none⟩ = some (.int .i64 a) := ob_cell o8 1
      have HB8 := Lib.hid hB8
      have HW8 := Lib.hid hw8
      clear b1 b2 b3 b4 b5 b6 b7 b8 b9 b9' b10 b10' b11 b12 b13 cd cy hfd a1 a2 a3 a4 c1 c2 d1 d1' d2 d3 d3'
      clear hb8 hB8 hbr8 hw8 o8 i0 i1 i2 z0 z1 z2 f3 f4 f6 v0 v1 v2 f3' f4' f6' v0' v1' v2'
      go_wp2_with (fail)
      rw [← HBB.out]
      go_roundg (n - (j + 1))
      case measure => have := HLT.out; omega
      case rel => exact ⟨at_ + 1, j + 1, d - t + u, (by first | rfl | rw [wc]), (by first | rfl | rw [wb]), (by first | rfl | rw [wd]), rfl, by have := HLT.out; omega, Lib.hid ⟨NX.out.1 rfl, NX.out.2.2⟩, HB8⟩
    have e_1 : (op == 1) = false := beq_eq_false_iff_ne.2 q1
    by_cases q2 : op = 2
    · subst q2
      have g1 : decide (p.sl ≤ a) = false := decide_eq_false (by have := HBD.out.2; simp [boundV] at this; omega)
      go_upto_region 14 with (fail)
      rw [HW7.out]
      go_wp2_with (fail)
      refine EF.out.mono ?_
      rintro e w8 ⟨rfl, hb8⟩
      have hB8 := bel_trans (B := w6.heap.size) HB7.out hb8
      obtain ⟨⟨h3, h4, h6⟩, -, -, -, hbr8⟩ := FB.out w8 hB8
      obtain ⟨⟨r0, r1, r2⟩, hw8⟩ := FA.out w8 hbr8
      have o8 := (hb8.block _ (hlt_of O7.out)).trans O7.out
      have s0 : w8.cell? ⟨wr.heap.size, 0, none⟩ = some (.int .i64 2) := ob_cell o8 0
      have s1 : w8.cell? ⟨wr.heap.size, 1, none⟩ = some (.int .i64 a) := ob_cell o8 1
      have HB8 := Lib.hid hB8
      have HW8 := Lib.hid hw8
      clear b1 b2 b3 b4 b5 b6 b7 b8 b9 b9' b10 b10' b11 b12 b13 cd cy hfd a1 a2 a3 a4 c1 c2 d1 d1' d2 d3 d3'
      clear hb8 hB8 hbr8 hw8 o8 i0 i1 i2 z0 z1 z2 f3 f4 f6 v0 v1 v2 f3' f4' f6' v0' v1' v2'
      go_wp2_with (fail)
      rw [← HBB.out]
      go_roundg (n - (j + 1))
      case measure => have := HLT.out; omega
      case rel => exact ⟨at_ + 1, j + 1, d - t + u, (by first | rfl | rw [wc]), (by first | rfl | rw [wb]), (by first | rfl | rw [wd]), rfl, by have := HLT.out; omega, Lib.hid ⟨NX.out.1 rfl, NX.out.2.2⟩, HB8⟩
    have e_2 : (op == 2) = false := beq_eq_false_iff_ne.2 q2
    by_cases q10 : op = 10
    · subst q10
      have g1 : decide ((c.ps.length : Int) ≤ a) = false := decide_eq_false (by have := HBD.out.2; simp [boundV] at this; omega)
      go_upto_region 14 with (fail)
      rw [HW7.out]
      go_wp2_with (fail)
      refine EF.out.mono ?_
      rintro e w8 ⟨rfl, hb8⟩
      have hB8 := bel_trans (B := w6.heap.size) HB7.out hb8
      obtain ⟨⟨h3, h4, h6⟩, -, -, -, hbr8⟩ := FB.out w8 hB8
      obtain ⟨⟨r0, r1, r2⟩, hw8⟩ := FA.out w8 hbr8
      have o8 := (hb8.block _ (hlt_of O7.out)).trans O7.out
      have s0 : w8.cell? ⟨wr.heap.size, 0, none⟩ = some (.int .i64 10) := ob_cell o8 0
      have s1 : w8.cell? ⟨wr.heap.size, 1, none⟩ = some (.int .i64 a) := ob_cell o8 1
      have HB8 := Lib.hid hB8
      have HW8 := Lib.hid hw8
      clear b1 b2 b3 b4 b5 b6 b7 b8 b9 b9' b10 b10' b11 b12 b13 cd cy hfd a1 a2 a3 a4 c1 c2 d1 d1' d2 d3 d3'
      clear hb8 hB8 hbr8 hw8 o8 i0 i1 i2 z0 z1 z2 f3 f4 f6 v0 v1 v2 f3' f4' f6' v0' v1' v2'
      go_wp2_with (fail)
      rw [← HBB.out]
      go_roundg (n - (j + 1))
      case measure => have := HLT.out; omega
      case rel => exact ⟨at_ + 1, j + 1, d - t + u, (by first | rfl | rw [wc]), (by first | rfl | rw [wb]), (by first | rfl | rw [wd]), rfl, by have := HLT.out; omega, Lib.hid ⟨NX.out.1 rfl, NX.out.2.2⟩, HB8⟩
    have e_10 : (op == 10) = false := beq_eq_false_iff_ne.2 q10
    by_cases q11 : op = 11
    · subst q11
      obtain ⟨aN, rfl⟩ : ∃ aN : Nat, a = (aN : Int) := ⟨a.toNat, (Int.toNat_of_nonneg HBD.out.1).symm⟩
      go_upto_region 14 with (fail)
      rw [HW7.out]
      go_wp2_with (fail)
      refine EF.out.mono ?_
      rintro e w8 ⟨rfl, hb8⟩
      have hB8 := bel_trans (B := w6.heap.size) HB7.out hb8
      obtain ⟨⟨h3, h4, h6⟩, -, -, -, hbr8⟩ := FB.out w8 hB8
      obtain ⟨⟨r0, r1, r2⟩, hw8⟩ := FA.out w8 hbr8
      have o8 := (hb8.block _ (hlt_of O7.out)).trans O7.out
      have s0 : w8.cell? ⟨wr.heap.size, 0, none⟩ = some (.int .i64 11) := ob_cell o8 0
      have s1 : w8.cell? ⟨wr.heap.size, 1, none⟩ = some (.int .i64 (aN : Int)) := ob_cell o8 1
      have HB8 := Lib.hid hB8
      have HW8 := Lib.hid hw8
      clear b1 b2 b3 b4 b5 b6 b7 b8 b9 b9' b10 b10' b11 b12 b13 cd cy hfd a1 a2 a3 a4 c1 c2 d1 d1' d2 d3 d3'
      clear hb8 hB8 hbr8 hw8 o8 i0 i1 i2 z0 z1 z2 f3 f4 f6 v0 v1 v2 f3' f4' f6' v0' v1' v2'
      go_wp2_with (fail)
      rw [← HBB.out]
      go_roundg (n - (j + 1))
      case measure => have := HLT.out; omega
      case rel => exact ⟨aN, j + 1, d - t + u, (by first | rfl | rw [wc]), (by first | rfl | rw [wb]), (by first | rfl | rw [wd]), rfl, by have := HLT.out; omega, Lib.hid ⟨NX.out.2.1 rfl, NX.out.2.2⟩, HB8⟩
    have e_11 : (op == 11) = false := beq_eq_false_iff_ne.2 q11
    by_cases q12 : op = 12
    · subst q12
      obtain ⟨aN, rfl⟩ : ∃ aN : Nat, a = (aN : Int) := ⟨a.toNat, (Int.toNat_of_nonneg HBD.out.1).symm⟩
      cases y
      · go_upto_region 14 with (fail)
        rw [HW7.out]
        go_wp2_with (fail)
        refine EF.out.mono ?_
        rintro e w8 ⟨rfl, hb8⟩
        have hB8 := bel_trans (B := w6.heap.size) HB7.out hb8
        obtain ⟨⟨h3, h4, h6⟩, -, -, -, hbr8⟩ := FB.out w8 hB8
        obtain ⟨⟨r0, r1, r2⟩, hw8⟩ := FA.out w8 hbr8
        have o8 := (hb8.block _ (hlt_of O7.out)).trans O7.out
        have s0 : w8.cell? ⟨wr.heap.size, 0, none⟩ = some (.int .i64 12) := ob_cell o8 0
        have s1 : w8.cell? ⟨wr.heap.size, 1, none⟩ = some (.int .i64 (aN : Int)) := ob_cell o8 1
        have HB8 := Lib.hid hB8
        have HW8 := Lib.hid hw8
        clear b1 b2 b3 b4 b5 b6 b7 b8 b9 b9' b10 b10' b11 b12 b13 cd cy hfd a1 a2 a3 a4 c1 c2 d1 d1' d2 d3 d3'
        clear hb8 hB8 hbr8 hw8 o8 i0 i1 i2 z0 z1 z2 f3 f4 f6 v0 v1 v2 f3' f4' f6' v0' v1' v2'
        go_wp2_with (fail)
        rw [← HBB.out]
        go_roundg (n - (j + 1))
        case measure => have := HLT.out; omega
        case rel => exact ⟨at_ + 1, j + 1, d - t + u, (by first | rfl | rw [wc]), (by first | rfl | rw [wb]), (by first | rfl | rw [wd]), rfl, by have := HLT.out; omega, Lib.hid ⟨NX.out.1 rfl, NX.out.2.2⟩, HB8⟩
      · go_upto_region 14 with (fail)
        rw [HW7.out]
        go_wp2_with (fail)
        refine EF.out.mono ?_
        rintro e w8 ⟨rfl, hb8⟩
        have hB8 := bel_trans (B := w6.heap.size) HB7.out hb8
        obtain ⟨⟨h3, h4, h6⟩, -, -, -, hbr8⟩ := FB.out w8 hB8
        obtain ⟨⟨r0, r1, r2⟩, hw8⟩ := FA.out w8 hbr8
        have o8 := (hb8.block _ (hlt_of O7.out)).trans O7.out
        have s0 : w8.cell? ⟨wr.heap.size, 0, none⟩ = some (.int .i64 12) := ob_cell o8 0
        have s1 : w8.cell? ⟨wr.heap.size, 1, none⟩ = some (.int .i64 (aN : Int)) := ob_cell o8 1
        have HB8 := Lib.hid hB8
        have HW8 := Lib.hid hw8
        clear b1 b2 b3 b4 b5 b6 b7 b8 b9 b9' b10 b10' b11 b12 b13 cd cy hfd a1 a2 a3 a4 c1 c2 d1 d1' d2 d3 d3'
        clear hb8 hB8 hbr8 hw8 o8 i0 i1 i2 z0 z1 z2 f3 f4 f6 v0 v1 v2 f3' f4' f6' v0' v1' v2'
        go_wp2_with (fail)
        rw [← HBB.out]
        go_roundg (n - (j + 1))
        case measure => have := HLT.out; omega
        case rel => exact ⟨aN, j + 1, d - t + u, (by first | rfl | rw [wc]), (by first | rfl | rw [wb]), (by first | rfl | rw [wd]), rfl, by have := HLT.out; omega, Lib.hid ⟨NX.out.2.1 rfl, NX.out.2.2⟩, HB8⟩
    have e_12 : (op == 12) = false := beq_eq_false_iff_ne.2 q12
    by_cases q14 : op = 14
    · subst q14
      go_upto_region 14 with (fail)
      rw [HW7.out]
      go_wp2_with (fail)
      refine EF.out.mono ?_
      rintro e w8 ⟨rfl, hb8⟩
      have hB8 := bel_trans (B := w6.heap.size) HB7.out hb8
      obtain ⟨⟨h3, h4, h6⟩, -, -, -, hbr8⟩ := FB.out w8 hB8
      obtain ⟨⟨r0, r1, r2⟩, hw8⟩ := FA.out w8 hbr8
      have o8 := (hb8.block _ (hlt_of O7.out)).trans O7.out
      have s0 : w8.cell? ⟨wr.heap.size, 0, none⟩ = some (.int .i64 14) := ob_cell o8 0
      have s1 : w8.cell? ⟨wr.heap.size, 1, none⟩ = some (.int .i64 a) := ob_cell o8 1
      have HB8 := Lib.hid hB8
      have HW8 := Lib.hid hw8
      clear b1 b2 b3 b4 b5 b6 b7 b8 b9 b9' b10 b10' b11 b12 b13 cd cy hfd a1 a2 a3 a4 c1 c2 d1 d1' d2 d3 d3'
      clear hb8 hB8 hbr8 hw8 o8 i0 i1 i2 z0 z1 z2 f3 f4 f6 v0 v1 v2 f3' f4' f6' v0' v1' v2'
      go_wp2_with (fail)
      go_ret
      exact ⟨rfl, HW8.out⟩
    have e_14 : (op == 14) = false := beq_eq_false_iff_ne.2 q14
    by_cases q15 : op = 15
    · subst q15
      go_upto_region 14 with (fail)
      rw [HW7.out]
      go_wp2_with (fail)
      refine EF.out.mono ?_
      rintro e w8 ⟨rfl, hb8⟩
      have hB8 := bel_trans (B := w6.heap.size) HB7.out hb8
      obtain ⟨⟨h3, h4, h6⟩, -, -, -, hbr8⟩ := FB.out w8 hB8
      obtain ⟨⟨r0, r1, r2⟩, hw8⟩ := FA.out w8 hbr8
      have o8 := (hb8.block _ (hlt_of O7.out)).trans O7.out
      have s0 : w8.cell? ⟨wr.heap.size, 0, none⟩ = some (.int .i64 15) := ob_cell o8 0
      have s1 : w8.cell? ⟨wr.heap.size, 1, none⟩ = some (.int .i64 a) := ob_cell o8 1
      have HB8 := Lib.hid hB8
      have HW8 := Lib.hid hw8
      clear b1 b2 b3 b4 b5 b6 b7 b8 b9 b9' b10 b10' b11 b12 b13 cd cy hfd a1 a2 a3 a4 c1 c2 d1 d1' d2 d3 d3'
      clear hb8 hB8 hbr8 hw8 o8 i0 i1 i2 z0 z1 z2 f3 f4 f6 v0 v1 v2 f3' f4' f6' v0' v1' v2'
      go_wp2_with (fail)
      go_ret
      exact ⟨rfl, HW8.out⟩
    have e_15 : (op == 15) = false := beq_eq_false_iff_ne.2 q15
    go_upto_region 14 with (fail)
    rw [HW7.out]
    go_wp2_with (fail)
    refine EF.out.mono ?_
    rintro e w8 ⟨rfl, hb8⟩
    have hB8 := bel_trans (B := w6.heap.size) HB7.out hb8
    obtain ⟨⟨h3, h4, h6⟩, -, -, -, hbr8⟩ := FB.out w8 hB8
    obtain ⟨⟨r0, r1, r2⟩, hw8⟩ := FA.out w8 hbr8
    have o8 := (hb8.block _ (hlt_of O7.out)).trans O7.out
    have s0 : w8.cell? ⟨wr.heap.size, 0, none⟩ = some (.int .i64 op) := ob_cell o8 0
    have s1 : w8.cell? ⟨wr.heap.size, 1, none⟩ = some (.int .i64 a) := ob_cell o8 1
    have HB8 := Lib.hid hB8
    have HW8 := Lib.hid hw8
    clear b1 b2 b3 b4 b5 b6 b7 b8 b9 b9' b10 b10' b11 b12 b13 cd cy hfd a1 a2 a3 a4 c1 c2 d1 d1' d2 d3 d3'
    clear hb8 hB8 hbr8 hw8 o8 i0 i1 i2 z0 z1 z2 f3 f4 f6 v0 v1 v2 f3' f4' f6' v0' v1' v2'
    go_wp2_with (fail)
    rw [← HBB.out]
    go_roundg (n - (j + 1))
    case measure => have := HLT.out; omega
    case rel => exact ⟨at_ + 1, j + 1, d - t + u, (by first | rfl | rw [wc]), (by first | rfl | rw [wb]), (by first | rfl | rw [wd]), rfl, by have := HLT.out; omega, Lib.hid ⟨NX.out.1 (by simp [goesB]; exact ⟨q11, q14, q15⟩), NX.out.2.2⟩, HB8⟩

end LM
end Go.Proofs.YtmocnoiieiakhaaGreatDoor
