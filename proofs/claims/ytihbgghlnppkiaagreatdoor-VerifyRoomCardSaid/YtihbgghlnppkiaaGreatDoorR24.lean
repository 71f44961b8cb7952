import Derived.Test.YtihbgghlnppkiaaGreatDoorR23
import Derived.Test.YtihbgghlnppkiaaGreatDoorR20
import Derived.Test.YtihbgghlnppkiaaGreatDoorR22
set_option linter.unusedVariables false
set_option linter.unusedSimpArgs false
set_option maxRecDepth 100000
set_option maxHeartbeats 16000000
namespace Go.Proofs.YtihbgghlnppkiaaGreatDoor
open Go Go.RowKit
namespace LM
theorem take_snoc {α : Type} {l : List α} {j : Nat} {x : α} (h : l[j]? = some x) {P : α → Prop} (h1 : ∀ y ∈ l.take j,P y) (h2 : P x) : ∀ y ∈ l.take (j + 1),P y:=by
  intro y hy
  rw [List.take_add_one,h] at hy
  rcases List.mem_append.1 hy with hy | hy
  · exact h1 y hy
  · simp only [Option.toList_some,List.mem_singleton] at hy
    subst hy
    exact h2
theorem take_all {α : Type} {l : List α} {j : Nat} (h : l.length ≤ j) {P : α → Prop} (h1 : ∀ y ∈ l.take j,P y) : ∀ y ∈ l,P y:=by
  rw [List.take_of_length_le h] at h1
  exact h1
inductive FlawP (tk pu : Ins → Int) (c : Cod) (k : Int) (p : Prh) : Int → Nat → Prop
  | num : numE p ≠ 0 → FlawP tk pu c k p (numE p) 0
  | ins (i : Nat) (x : Ins) : numE p = 0 → p.code[i]? = some x → (∀ y ∈ p.code.take i,insE c p k y = 0) → insE c p k x ≠ 0 → FlawP tk pu c k p (insE c p k x) i
  | run (i : Nat) (e : Int) : numE p = 0 → (∀ y ∈ p.code,insE c p k y = 0) → e ≠ 0 → RunW tk pu p.code p.de ((List.replicate p.code.length (-1)).set 0 0) [0] (.inr (e,i)) → FlawP tk pu c k p e i
  | none (ds : List Int) : numE p = 0 → (∀ y ∈ p.code,insE c p k y = 0) → RunW tk pu p.code p.de ((List.replicate p.code.length (-1)).set 0 0) [0] (.inl ds) → FlawP tk pu c k p 0 0
def flN (e : Int) (n : Nat) : Int:=if e = 0 then 0 else (n : Int)
theorem flN_zero (n : Nat) : flN 0 n = 0:=rfl
theorem flN_some {e : Int} (h : e ≠ 0) (n : Nat) : flN e n = (n : Int):=if_neg h
theorem run_ne {tk pu : Ins → Int} {code : List Ins} {de : Int} {ds q : List Int} {o : List Int ⊕ Int × Nat} (h : RunW tk pu code de ds q o) : ∀ e i,o = .inr (e,i) → e ≠ 0:=by
  induction h with
  | done=>intro e i h; cases h
  | stop h1 h2 h3 h4 h5=>intro e i h; injection h with h; injection h with h _; rw [← h]; exact h5
  | step h1 h2 h3 h4 h5 h6 ih=>exact ih
theorem fl_new (w : World) (a b c : Int) : (w.alloc (flawO a b c)).heap[w.heap.size]? = some (flawO a b c):=Array.getElem?_push_size
theorem fl_blk0 {w : World} {f : Nat} {a b c : Int} (h : w.heap[f]? = some (.cells #[.int .i64 0,.int .i64 0,.int .i64 0] 31 (0,0))) : (((w.setCell ⟨f,0,none⟩ (.int .i64 a)).setCell ⟨f,1,none⟩ (.int .i64 b)).setCell ⟨f,2,none⟩ (.int .i64 c)).heap[f]? = some (flawO a b c):=fl_blk h
theorem numE_ok {p : Prh} (hn : PrN p) (h : numE p = 0) : nmV p ≤ p.sl∧p.sl + p.de ≤ 180∧p.fr ≤ 180∧0 < p.code.length∧(0 ≤ p.de∧p.de ≤ 1000):=by
  unfold numE at h
  obtain ⟨⟨a1,a2⟩,⟨a3,a4⟩,⟨a5,a6⟩,a7,a8⟩:=hn
  split at h
  · cases h
  split at h
  · cases h
  split at h
  · cases h
  split at h
  · cases h
  omega
theorem insE_jump {c : Cod} {p : Prh} {k : Int} {x : Ins} (h : insE c p k x = 0) (hj : jumpB x = true) : x.a < p.code.length:=by
  unfold jumpB at hj
  unfold insE at h
  split at h
  · cases h
  split at h
  · cases h
  rename_i h1 h2
  have hb : boundV c p k x.op = p.code.length:=by
    unfold boundV
    simp only [Bool.or_eq_true,beq_iff_eq] at hj
    rcases hj with e | e <;> rw [e] <;> simp
  omega
theorem vflaw_any (tk pu : Ins → Int) (c : Cod) (p : Prh) (L pn n pb po ib io : Nat) (k : Int) (w : World) (hPB : c.PB = some ⟨pb,po,none⟩) (hpn : pn < c.ps.length) (hcap : c.ps.length ≤ c.pc∧c.pc ≤ 9223372036854775807)
    (hl : L6 w L c pb (po + pn * 7) pn k) (hLw : L < w.heap.size) (hp : PK w w.heap.size pb (po + pn * 7) ib io p) (hn : p.code.length = n) (hnn : n ≤ 40000) (hpr : PrN p)
    (cb coff : Nat) (hCB : 0 < c.kids.len → c.CB = some ⟨cb,coff,none⟩) (hCF : FAt w cb coff c.kids) (hcc : c.kids.len ≤ c.cc∧c.cc ≤ 9223372036854775807)
    (hE : ∀ x ∈ p.code,∀ W,Below w.heap.size w W → Calls Tryz.prog 8 #[insA x,codA c] W fun e w'=>e = .returned (.tuple #[.int .i64 (tk x),.int .i64 (pu x)])∧Below W.heap.size W w')
    (hB : ∀ x ∈ p.code,(0 ≤ tk x∧tk x ≤ 100000000)∧(0 ≤ pu x∧pu x ≤ 1)∧0 ≤ x.a)
    (hM : ∀ W,Calls Tryz.prog 45 #[.int .u64 1,.int .u64 (n : Int)] W fun e w'=>e = .returned (.tuple #[.int .u64 0,.int .u64 (n : Int)])∧W = w') :
    Calls Tryz.prog 13 #[.pointer (some ⟨L,0,none⟩)] w fun e w'=>∃ (z : Int) (i : Nat),FlawP tk pu c k p z i∧e = .returned (.agg #[.int .i64 z,.int .i64 (flN z pn),.int .i64 (i : Int)])∧Below w.heap.size w w':=by
  obtain ⟨W1,hW1⟩ : ∃ W1,w.alloc (flawO 0 0 0) = W1:=⟨_,rfl⟩
  have hb1 : Below w.heap.size w W1:=by rw [← hW1]; exact (Below.refl _ w).alloc (Nat.le_refl _) _
  have hs1 : W1.heap.size = w.heap.size + 1:=by rw [← hW1]; unfold World.alloc; simp
  have o1 : W1.heap[w.heap.size]? = some (flawO 0 0 0):=by rw [← hW1]; unfold World.alloc; simp
  have hl1:=hl.keep hb1 hLw
  have NE:=Lib.hid (vnumbers_any L c pb (po + pn * 7) pn k p hpr W1 hl1 (hp.keep hb1 (Nat.le_refl _)).p7)
  have HW1:=Lib.hid hW1
  have HB1:=Lib.hid hb1
  have HS1:=Lib.hid hs1
  have O1:=Lib.hid o1
  have HL:=Lib.hid hl
  have HLw:=Lib.hid hLw
  have HP:=Lib.hid hp
  have HC:=Lib.hid (And.intro hPB (And.intro hpn hcap))
  have HN:=Lib.hid (And.intro hn hnn)
  have HR:=Lib.hid hpr
  have HCF:=Lib.hid (And.intro hCB (And.intro hCF hcc))
  have HE:=Lib.hid hE
  have HB:=Lib.hid hB
  have HM:=Lib.hid hM
  have FA : Hid (∀ W,Below W1.heap.size W1 W → L6 W L c pb (po + pn * 7) pn k∧PK W w.heap.size pb (po + pn * 7) ib io p∧W.heap[w.heap.size]? = some (flawO 0 0 0)∧Below w.heap.size w W):=Lib.hid fun W hW=>by
    have hbw : Below w.heap.size w W:=bel_trans (B:=w.heap.size) hb1 hW
    exact ⟨hl.keep hbw hLw,hp.keep hbw (Nat.le_refl _),(hW.block _ (by omega)).trans o1,hbw⟩
  clear hPB hpn hcap hl hLw hp hn hnn hpr hCB hCF hcc hE hB hM hW1 hb1 hs1 o1 hl1
  obtain ⟨E,hE⟩ : ∃ E,numE p = E:=⟨_,rfl⟩
  rw [hE] at NE
  have HEE:=Lib.hid hE
  clear hE
  go_enter Tryz.func13,Tryz.ntmps13
  go_wp2_with (fail)
  rw [HW1.out]
  refine NE.out.mono ?_
  rintro e w2 ⟨rfl,hb2⟩
  obtain ⟨⟨y0,y1,y2,y3,y4,y5⟩,kp2,of2,hbw2⟩:=FA.out w2 hb2
  have f0 : w2.cell? ⟨w.heap.size,0,none⟩ = some (.int .i64 0):=ob_cell of2 0
  have f1 : w2.cell? ⟨w.heap.size,1,none⟩ = some (.int .i64 0):=ob_cell of2 1
  have f2 : w2.cell? ⟨w.heap.size,2,none⟩ = some (.int .i64 0):=ob_cell of2 2
  have l0:=ob_free of2 0 (by simp)
  have l1:=ob_free of2 1 (by simp)
  have l2:=ob_free of2 2 (by simp)
  have HB2:=Lib.hid hb2
  have OF2:=Lib.hid of2
  by_cases hE0 : E = 0
  · have b2 : (E != 0) = false:=by rw [hE0]; rfl
    have e0 : numE p = 0:=HEE.out.trans hE0
    have K0:=Lib.hid e0
    obtain ⟨g1,g2,g3,g4,g5⟩:=numE_ok HR.out e0
    have hpB:=kp2.hB g4
    have y6 : w2.cell? ⟨pb,po + pn * 7 + 6,none⟩ = some (.slice (some ⟨ib,io,none⟩) n p.cap):=by rw [← hpB,← HN.out.1]; exact kp2.p7.c6
    have HG:=Lib.hid (And.intro g4 g5)
    have hcapn:=kp2.cap
    rw [HN.out.1] at hcapn
    have c1 : (n : Int) ≤ (p.cap : Int):=Int.ofNat_le.2 hcapn.1
    have c2 : (p.cap : Int) ≤ 9223372036854775807:=by have:=hcapn.2; omega
    clear hE0 e0 g1 g2 g3 g4 g5 hpB kp2 hbw2 of2 hb2 hcapn
    go_wp2_with (fail)
    clear f0 f1 f2 l0 l1 l2 y0 y1 y2 y3 y4 y5 y6
    go_loopg [27] n (fun kk jv wr=>∃ j : Nat,jv = .int .i64 (j : Int)∧kk = n - j∧j ≤ n∧Hid (∀ y ∈ p.code.take j,insE c p k y = 0)∧Hid (Below W1.heap.size W1 wr))
    case atStart=>exact ⟨0,rfl,rfl,Nat.zero_le _,Lib.hid (fun y hy=>by simp at hy),HB2⟩
    case round =>
      obtain ⟨j,rfl,hk,hj,HI,HBr⟩:=hrel
      obtain ⟨lw,kpw,ofw,hbw⟩:=FA.out wr HBr.out
      by_cases hlt : j < n
      · have q1 : decide (j < n) = true:=decide_eq_true hlt
        obtain ⟨x,hx⟩ : ∃ x,p.code[j]? = some x:=⟨_,List.getElem?_eq_getElem (by rw [HN.out.1]; exact hlt)⟩
        obtain ⟨hib,i0,i1,i2⟩:=kpw.ins j x hx
        obtain ⟨W3,hW3⟩ : ∃ W3,wr.alloc (insO x) = W3:=⟨_,rfl⟩
        have hb3 : Below wr.heap.size wr W3:=by rw [← hW3]; exact (Below.refl _ wr).alloc (Nat.le_refl _) _
        have ho3 : W3.heap[wr.heap.size]? = some (insO x):=by rw [← hW3]; unfold World.alloc; simp
        have hB3 : Below W1.heap.size W1 W3:=bel_trans (B:=W1.heap.size) HBr.out hb3
        obtain ⟨l3,k3,of3,hbw3⟩:=FA.out W3 hB3
        obtain ⟨z0,z1,z2⟩:=I3.of_block ho3
        have hxm:=List.mem_of_getElem? hx
        have VI:=Lib.hid (vinstr_any L c pb (po + pn * 7) pn k p x (HB.out x hxm).2.2 W3 (Nat.lt_of_lt_of_le HLw.out hbw3.size) (Nat.lt_of_lt_of_le k3.pB hbw3.size) l3 k3.p7 cb coff HCF.out.1 (FAt.below hbw3 _ _ _ HCF.out.2.1) HCF.out.2.2)
        obtain ⟨R,hR⟩ : ∃ R,insE c p k x = R:=⟨_,rfl⟩
        rw [hR] at VI
        have HRR:=Lib.hid hR
        have HX:=Lib.hid hx
        have HW3:=Lib.hid hW3
        have HB3:=Lib.hid hB3
        have a1 : (0 : Int) ≤ (j : Int):=Int.natCast_nonneg j
        have a2 : (j : Int) < (n : Int):=Int.ofNat_lt.2 hlt
        have HLT:=Lib.hid (And.intro hlt hk)
        have wj : RowKit.wrap64 ((j : Int) + 1) = ((j + 1 : Nat) : Int):=by have:=HN.out.2; unfold RowKit.wrap64; omega
        clear hW3 hB3 hb3 ho3 l3 k3 of3 hbw3 hx hxm hR lw kpw ofw hbw hlt hk hj hib
        go_wp2_with (fail)
        rw [HW3.out]
        go_wp2_with (fail)
        refine VI.out.mono ?_
        rintro e w4 ⟨rfl,hb4⟩
        have HB4:=Lib.hid (bel_trans (B:=W1.heap.size) HB3.out hb4)
        clear hb4 z0 z1 z2 i0 i1 i2
        by_cases hz : R = 0
        · have b3 : (R != 0) = false:=by rw [hz]; rfl
          have HI2 : Hid (∀ y ∈ p.code.take (j + 1),insE c p k y = 0):=Lib.hid (take_snoc HX.out HI.out (by rw [HRR.out]; exact hz))
          clear hz
          go_wp2_with (fail)
          go_roundg (n - (j + 1))
          case measure=>have:=HLT.out; omega
          case rel=>exact ⟨j + 1,rfl,rfl,by have:=HLT.out; omega,HI2,HB4⟩
        · have b3 : (R != 0) = true:=by simpa using hz
          have ST : Hid (FlawP tk pu c k p R j):=Lib.hid (by rw [← HRR.out]; exact .ins j x K0.out HX.out HI.out (by rw [HRR.out]; exact hz))
          have SN:=Lib.hid (flN_some hz pn)
          obtain ⟨⟨y0,y1,y2,y3,y4,y5⟩,-,of4,hbw4⟩:=FA.out w4 HB4.out
          have f0 : w4.cell? ⟨w.heap.size,0,none⟩ = some (.int .i64 0):=ob_cell of4 0
          have f1 : w4.cell? ⟨w.heap.size,1,none⟩ = some (.int .i64 0):=ob_cell of4 1
          have f2 : w4.cell? ⟨w.heap.size,2,none⟩ = some (.int .i64 0):=ob_cell of4 2
          have l0:=ob_free of4 0 (by simp)
          have l1:=ob_free of4 1 (by simp)
          have l2:=ob_free of4 2 (by simp)
          have OF4:=Lib.hid of4
          have HBW:=Lib.hid hbw4
          obtain ⟨WF,hWF⟩ : ∃ WF,((w4.setCell ⟨w.heap.size,0,none⟩ (.int .i64 R)).setCell ⟨w.heap.size,1,none⟩ (.int .i64 (pn : Int))).setCell ⟨w.heap.size,2,none⟩ (.int .i64 (j : Int)) = WF:=⟨_,rfl⟩
          have HWF:=Lib.hid hWF
          clear hWF hz of4 hbw4
          go_wp2_with (fail)
          rw [HWF.out]
          have of5 : WF.heap[w.heap.size]? = some (flawO R pn j):=by rw [← HWF.out]; exact fl_blk OF4.out
          have f0 : WF.cell? ⟨w.heap.size,0,none⟩ = some (.int .i64 R):=ob_cell of5 0
          have f1 : WF.cell? ⟨w.heap.size,1,none⟩ = some (.int .i64 (pn : Int)):=ob_cell of5 1
          have f2 : WF.cell? ⟨w.heap.size,2,none⟩ = some (.int .i64 (j : Int)):=ob_cell of5 2
          clear of5
          go_wp2_with (fail)
          refine bodyPost_ret (v:=.agg #[.int .i64 R,.int .i64 (pn : Int),.int .i64 (j : Int)]) (by simp [results,Tryz.results13,go_sem,f0,f1,f2]) rfl ⟨R,j,ST.out,by rw [SN.out],?_⟩
          rw [← HWF.out]
          exact fl_below HBW.out (Nat.le_refl _)
      · have q1 : decide (j < n) = false:=decide_eq_false hlt
        have hall : ∀ y ∈ p.code,insE c p k y = 0:=take_all (by rw [HN.out.1]; omega) HI.out
        obtain ⟨y0,y1,y2,y3,y4,y5⟩:=lw
        have HA:=Lib.hid hall
        have DPW : Hid (∀ W,Below wr.heap.size wr W → Calls Tryz.prog 14 #[codA c,.int .i64 (pn : Int)] W fun e w'=>∃ (sv : Value) (z : Int) (i : Nat),FlawP tk pu c k p z i∧e = .returned (.tuple #[sv,.agg #[.int .i64 z,.int .i64 (flN z pn),.int .i64 (i : Int)]])∧Below W.heap.size W w'):=Lib.hid fun W hW=>by
          have hbW : Below w.heap.size w W:=bel_trans (B:=w.heap.size) hbw hW
          refine (vdepths_any tk pu c p pn n pb po ib io W HC.out.1 HC.out.2.1 HC.out.2.2 (kpw.up (hW.mono hbw.size) hbw.size hbW.size) HN.out.1 (by have:=HG.out.1; rw [HN.out.1] at this; exact this) HN.out.2 HG.out.2
            (fun y hy W2 hW2=>HE.out y hy W2 (bel_trans (B:=w.heap.size) hbW hW2)) (fun y hy=>⟨(HB.out y hy).1,(HB.out y hy).2.1,fun hjj=>⟨(HB.out y hy).2.2,insE_jump (hall y hy) hjj⟩⟩) HM.out).mono ?_
          rintro e w' ⟨o,g1,hrun,rfl,-,hb⟩
          rw [← HN.out.1] at hrun
          rcases o with ds | ⟨z,i⟩
          · exact ⟨_,0,0,.none ds K0.out HA.out hrun,rfl,hb⟩
          · have hz:=run_ne hrun z i rfl
            exact ⟨_,z,i,.run i z K0.out HA.out hz hrun,by rw [flN_some hz]; rfl,hb⟩
        have hbA : Below wr.heap.size wr (wr.alloc (.cells #[.int .i64 0,.int .i64 0,.int .i64 0] 31 (0,0))):=(Below.refl _ wr).alloc (Nat.le_refl _) _
        have DPA:=Lib.hid (DPW.out wr.drew (Below.refl _ wr).drew)
        have DPB:=Lib.hid (DPW.out (wr.alloc (.cells #[.int .i64 0,.int .i64 0,.int .i64 0] 31 (0,0))).drew hbA.drew)
        have RD : Hid (∀ W,Below W1.heap.size W1 W → (W.cell? ⟨L,0,none⟩ = some (.slice c.PB c.ps.length c.pc)∧W.cell? ⟨L,1,none⟩ = some (.slice c.CB c.kids.len c.cc)∧W.cell? ⟨L,2,none⟩ = some (.slice c.GB c.gs.length c.gc)∧W.cell? ⟨L,4,none⟩ = some (.int .i64 (pn : Int)))):=Lib.hid fun W hW=>by
          have h:=(FA.out W hW).1
          exact ⟨h.c0,h.c1,h.c2,h.c4⟩
        obtain ⟨s0,s1,s2,s4⟩:=RD.out _ (bel_trans (B:=W1.heap.size) HBr.out hbA)
        clear hall hlt hk hj kpw ofw hbw hbA
        go_upto_region 11 with (fail)
        go_cut [8] (fun v wx=>∃ (fb i : Nat) (z : Int),v = .pointer (some ⟨fb,0,none⟩)∧Hid (FlawP tk pu c k p z i)∧Hid (wx.heap[fb]? = some (flawO z (flN z pn) i))∧Hid (Below W1.heap.size W1 wx))
        case first =>
          go_region_law (go_simp; go_at_call 14; first
            | (with_reducible refine DPA.out.mono ?_; rintro e v2 ⟨sv,z,i,hz,rfl,hb⟩; have HZ:=Lib.hid hz; have HBV:=Lib.hid (bel_trans (B:=W1.heap.size) HBr.out.drew hb); clear hz hb; obtain ⟨r0,r1,r2,r4⟩:=RD.out v2 HBV.out; obtain ⟨t0,t1,t2,t4⟩:=RD.out _ (HBV.out.alloc HBV.out.size (.cells #[.int .i64 0,.int .i64 0,.int .i64 0] 31 (0,0))))
            | (with_reducible refine DPB.out.mono ?_; rintro e v2 ⟨sv,z,i,hz,rfl,hb⟩; have HZ:=Lib.hid hz; have hk:=(hb.block wr.heap.size (by simp)).trans (new_at wr _); have g0:=ob_cell hk 0; have g1:=ob_cell hk 1; have g2:=ob_cell hk 2; have l0:=ob_free hk 0 (by simp); have l1:=ob_free hk 1 (by simp); have l2:=ob_free hk 2 (by simp); have HK:=Lib.hid hk; have HBV:=Lib.hid (bel_trans (B:=W1.heap.size) (HBr.out.alloc HBr.out.size (.cells #[.int .i64 0,.int .i64 0,.int .i64 0] 31 (0,0))).drew hb); clear hk hz hb; obtain ⟨r0,r1,r2,r4⟩:=RD.out v2 HBV.out))
          all_goals
            go_wp2_with (fail)
            go_meet
            first
              | with_reducible exact ⟨_,_,_,rfl,HZ,Lib.hid (fl_new _ _ _ _),Lib.hid (HBV.out.alloc HBV.out.size _)⟩
              | with_reducible exact ⟨_,_,_,rfl,HZ,Lib.hid (fl_blk0 HK.out),Lib.hid (fl_below HBV.out HBr.out.size)⟩
        case rest =>
          obtain ⟨fb,i,z,rfl,HZ,HFB,HBV⟩:=hcut
          obtain ⟨-,-,of5,hb5⟩:=FA.out wc HBV.out
          have g0:=ob_cell HFB.out 0
          have g1:=ob_cell HFB.out 1
          have g2:=ob_cell HFB.out 2
          have f0 : wc.cell? ⟨w.heap.size,0,none⟩ = some (.int .i64 0):=ob_cell of5 0
          have f1 : wc.cell? ⟨w.heap.size,1,none⟩ = some (.int .i64 0):=ob_cell of5 1
          have f2 : wc.cell? ⟨w.heap.size,2,none⟩ = some (.int .i64 0):=ob_cell of5 2
          have l0:=ob_free of5 0 (by simp)
          have l1:=ob_free of5 1 (by simp)
          have l2:=ob_free of5 2 (by simp)
          have OF5:=Lib.hid of5
          have HBW:=Lib.hid hb5
          obtain ⟨m,hm⟩ : ∃ m,flN z pn = m:=⟨_,rfl⟩
          have HMM:=Lib.hid hm
          obtain ⟨WF,hWF⟩ : ∃ WF,((wc.setCell ⟨w.heap.size,0,none⟩ (.int .i64 z)).setCell ⟨w.heap.size,1,none⟩ (.int .i64 m)).setCell ⟨w.heap.size,2,none⟩ (.int .i64 (i : Int)) = WF:=⟨_,rfl⟩
          have HWF:=Lib.hid hWF
          rw [hm] at HFB g1
          clear hWF of5 hb5 hm
          go_wp2_with (fail)
          rw [HWF.out]
          have of6 : WF.heap[w.heap.size]? = some (flawO z m i):=by rw [← HWF.out]; exact fl_blk OF5.out
          have f0 : WF.cell? ⟨w.heap.size,0,none⟩ = some (.int .i64 z):=ob_cell of6 0
          have f1 : WF.cell? ⟨w.heap.size,1,none⟩ = some (.int .i64 m):=ob_cell of6 1
          have f2 : WF.cell? ⟨w.heap.size,2,none⟩ = some (.int .i64 (i : Int)):=ob_cell of6 2
          clear of6
          go_wp2_with (fail)
          refine bodyPost_ret (v:=.agg #[.int .i64 z,.int .i64 m,.int .i64 (i : Int)]) (by simp [results,Tryz.results13,go_sem,f0,f1,f2]) rfl ⟨z,i,HZ.out,by rw [HMM.out],?_⟩
          rw [← HWF.out]
          exact fl_below HBW.out (Nat.le_refl _)
  · have b2 : (E != 0) = true:=by simpa using hE0
    have ST : Hid (FlawP tk pu c k p E 0):=Lib.hid (by rw [← HEE.out]; exact .num (by rw [HEE.out]; exact hE0))
    have SN:=Lib.hid (flN_some hE0 pn)
    obtain ⟨WF,hWF⟩ : ∃ WF,((w2.setCell ⟨w.heap.size,0,none⟩ (.int .i64 E)).setCell ⟨w.heap.size,1,none⟩ (.int .i64 (pn : Int))).setCell ⟨w.heap.size,2,none⟩ (.int .i64 0) = WF:=⟨_,rfl⟩
    have HWF:=Lib.hid hWF
    have HBW:=Lib.hid hbw2
    clear hWF hE0 kp2 of2 hb2 hbw2
    go_wp2_with (fail)
    rw [HWF.out]
    have of3 : WF.heap[w.heap.size]? = some (flawO E pn 0):=by rw [← HWF.out]; exact fl_blk OF2.out
    have f0 : WF.cell? ⟨w.heap.size,0,none⟩ = some (.int .i64 E):=ob_cell of3 0
    have f1 : WF.cell? ⟨w.heap.size,1,none⟩ = some (.int .i64 (pn : Int)):=ob_cell of3 1
    have f2 : WF.cell? ⟨w.heap.size,2,none⟩ = some (.int .i64 0):=ob_cell of3 2
    clear of3
    go_wp2_with (fail)
    refine bodyPost_ret (v:=.agg #[.int .i64 E,.int .i64 (pn : Int),.int .i64 0]) (by simp [results,Tryz.results13,go_sem,f0,f1,f2]) rfl ⟨E,0,ST.out,by rw [SN.out]; rfl,?_⟩
    rw [← HWF.out]
    exact fl_below HBW.out (Nat.le_refl _)
end LM
end Go.Proofs.YtihbgghlnppkiaaGreatDoor
