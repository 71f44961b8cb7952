import Derived.Test.YtihbgghlnppkiaaGreatDoorR22
set_option linter.unusedVariables false
set_option linter.unusedSimpArgs false
set_option maxRecDepth 100000
set_option maxHeartbeats 16000000
namespace Go.Proofs.YtihbgghlnppkiaaGreatDoor
open Go Go.RowKit
namespace LM
abbrev flawO (a b c : Int) : Obj:=.cells #[.int .i64 a,.int .i64 b,.int .i64 c] 31 (0,0)
abbrev wk0O : Obj:=.cells #[.slice none 0 0,.slice none 0 0,.slice none 0 0,.pointer none,.slice none 0 0,.slice none 0 0] 78 (0,0)
theorem wk_cells {w : World} {k : Nat} (h : w.heap[k]? = some wk0O) :
    (w.cell? ⟨k,0,none⟩ = some (.slice none 0 0)∧w.cell? ⟨k,1,none⟩ = some (.slice none 0 0)∧w.cell? ⟨k,2,none⟩ = some (.slice none 0 0)∧w.cell? ⟨k,3,none⟩ = some (.pointer none)∧w.cell? ⟨k,4,none⟩ = some (.slice none 0 0)∧w.cell? ⟨k,5,none⟩ = some (.slice none 0 0)) ∧
      (w.frozen? ⟨k,0,none⟩ = false∧w.frozen? ⟨k,1,none⟩ = false∧w.frozen? ⟨k,2,none⟩ = false∧w.frozen? ⟨k,3,none⟩ = false∧w.frozen? ⟨k,4,none⟩ = false∧w.frozen? ⟨k,5,none⟩ = false) :=
  ⟨⟨ob_cell h 0,ob_cell h 1,ob_cell h 2,ob_cell h 3,ob_cell h 4,ob_cell h 5⟩,ob_free h 0 (by simp),ob_free h 1 (by simp),ob_free h 2 (by simp),ob_free h 3 (by simp),ob_free h 4 (by simp),ob_free h 5 (by simp)⟩
theorem new_at (w : World) (o : Obj) : (w.alloc o).drew.heap[w.heap.size]? = some o:=Array.getElem?_push_size
theorem new_at2 (w : World) (o o2 : Obj) : ((w.alloc o2).alloc o).drew.heap[w.heap.size + 1]? = some o:=by rw [← World.size_alloc w o2]; exact new_at _ _
theorem new_at1 (w : World) (o o2 : Obj) : ((w.alloc o2).alloc o).drew.heap[w.heap.size]? = some o2:=(Below.heap_alloc _ _ _ (by simp)).trans (new_at w o2)
theorem nn2 (n : Nat) : n + 1 + 1 ≠ n:=by omega
theorem nl2 (n : Nat) : n ≤ n + 1 + 1:=by omega
theorem sz1 (w : World) (o : Obj) : (w.alloc o).drew.heap.size = w.heap.size + 1:=by simp
theorem sz2 (w : World) (o o2 : Obj) : ((w.alloc o2).alloc o).drew.heap.size = w.heap.size + 1 + 1:=by simp
theorem ws_of {w : World} {B W0 g1 n : Nat} {p0 p1 p2 p3 : Value} (h0 : w.heap[W0]? = some (.cells (walkC p0 p1 p2 p3 g1 n (.slice none 0 0)) 78 (0,0))) (h1 : w.heap[g1]? = some (.cells (ivs (List.replicate n (-1))).toArray 3 (0,0))) (hne : g1 ≠ W0) (hB : B ≤ W0) (hg : B ≤ g1) :
    WS w B W0 g1 p0 p1 p2 p3 (List.replicate n (-1)) (.slice none 0 0) [] :=
  ⟨⟨by rw [List.length_replicate]; exact h0,rfl,World.ownsRow_nil _ _ _ _,by simp [Value.ownBlock]⟩,h1,hne,by simp [Value.ownBlock],hB,hg,Nat.le_trans hB (Nat.le_of_lt (hlt_of h0))⟩
theorem ws_a {W2 v2 : World} {g1 n : Nat} {p0 p1 p2 p3 : Value} (hg : v2.heap[g1]? = some (.cells (ivs (List.replicate n (-1))).toArray 3 (0,0))) (hb : Below W2.heap.size W2 v2) (h1 : W2.heap.size ≤ g1) :
    ∃ W0 g,Value.pointer (some ⟨v2.heap.size,0,none⟩) = .pointer (some ⟨W0,0,none⟩)∧Hid (WS (v2.alloc (.cells (walkC p0 p1 p2 p3 g1 n (.slice none 0 0)) 78 (0,0))) W2.heap.size W0 g p0 p1 p2 p3 (List.replicate n (-1)) (.slice none 0 0) [])∧Hid (Below W2.heap.size W2 (v2.alloc (.cells (walkC p0 p1 p2 p3 g1 n (.slice none 0 0)) 78 (0,0)))) :=
  ⟨_,g1,rfl,Lib.hid (ws_of Array.getElem?_push_size ((Below.heap_alloc _ _ _ (hlt_of hg)).trans hg) (Nat.ne_of_lt (hlt_of hg)) hb.size h1),Lib.hid (hb.alloc hb.size _)⟩
theorem ws_b {W2 v2 : World} {k g1 n : Nat} {p0 p1 p2 p3 : Value} (hk : v2.heap[k]? = some wk0O) (hg : v2.heap[g1]? = some (.cells (ivs (List.replicate n (-1))).toArray 3 (0,0))) (hb : Below W2.heap.size W2 v2) (h1 : W2.heap.size ≤ g1) (h2 : W2.heap.size ≤ k) (hne : g1 ≠ k) :
    ∃ W0 g,Value.pointer (some ⟨k,0,none⟩) = .pointer (some ⟨W0,0,none⟩) ∧
      Hid (WS ((((((v2.setCell ⟨k,0,none⟩ p0).setCell ⟨k,1,none⟩ p1).setCell ⟨k,2,none⟩ p2).setCell ⟨k,3,none⟩ p3).setCell ⟨k,4,none⟩ (.slice (some ⟨g1,0,none⟩) n n)).setCell ⟨k,5,none⟩ (.slice none 0 0)) W2.heap.size W0 g p0 p1 p2 p3 (List.replicate n (-1)) (.slice none 0 0) []) ∧
      Hid (Below W2.heap.size W2 ((((((v2.setCell ⟨k,0,none⟩ p0).setCell ⟨k,1,none⟩ p1).setCell ⟨k,2,none⟩ p2).setCell ⟨k,3,none⟩ p3).setCell ⟨k,4,none⟩ (.slice (some ⟨g1,0,none⟩) n n)).setCell ⟨k,5,none⟩ (.slice none 0 0))):=by
  refine ⟨_,g1,rfl,Lib.hid (ws_of ?_ ?_ hne h2 h1),Lib.hid ((((((hb.setCell h2 _).setCell h2 _).setCell h2 _).setCell h2 _).setCell h2 _).setCell h2 _)⟩
  · have e0:=Go.Lib.heap_setCell_same (i:=0) hk p0
    have e1:=Go.Lib.heap_setCell_same (i:=1) e0 p1
    have e2:=Go.Lib.heap_setCell_same (i:=2) e1 p2
    have e3:=Go.Lib.heap_setCell_same (i:=3) e2 p3
    have e4:=Go.Lib.heap_setCell_same (i:=4) e3 (.slice (some ⟨g1,0,none⟩) n n)
    have e5:=Go.Lib.heap_setCell_same (i:=5) e4 (.slice none 0 0)
    exact e5
  · rw [heap_setCell_other _ (⟨k,5,none⟩ : Addr) _ _ hne,heap_setCell_other _ (⟨k,4,none⟩ : Addr) _ _ hne,heap_setCell_other _ (⟨k,3,none⟩ : Addr) _ _ hne,heap_setCell_other _ (⟨k,2,none⟩ : Addr) _ _ hne,heap_setCell_other _ (⟨k,1,none⟩ : Addr) _ _ hne,heap_setCell_other _ (⟨k,0,none⟩ : Addr) _ _ hne]
    exact hg
theorem PK.up {w w' : World} {B B' pb po ib io : Nat} {p : Prh} (h : PK w B pb po ib io p) (hb : Below B w w') (hw : B ≤ w.heap.size) (hB : B ≤ B') : PK w' B' pb po ib io p:=by
  have k:=h.keep hb hw
  exact ⟨k.p7,Nat.lt_of_lt_of_le k.pB hB,k.hB,k.ins,fun hl=>Nat.lt_of_lt_of_le (k.iB hl) hB,k.cap⟩
theorem WI.perm {n : Nat} {de : Int} {ds q q' : List Int} (h : WI n de ds q) (hp : q'.Perm q) : WI n de ds q':=⟨h.len,h.dep,fun x hx=>h.wait x (hp.mem_iff.1 hx),by rw [hp.length_eq]; exact h.cnt⟩
theorem RunW.perm {tk pu : Ins → Int} {code : List Ins} {de : Int} {ds q q' : List Int} {o : List Int ⊕ Int × Nat} (h : RunW tk pu code de ds q o) (hp : q'.Perm q) : RunW tk pu code de ds q' o:=by
  cases h with
  | done=>rw [hp.eq_nil]; exact .done
  | stop h1 h2 h3 h4 h5=>exact .stop (hp.trans h1) h2 h3 h4 h5
  | step h1 h2 h3 h4 h5 h6=>exact .step (hp.trans h1) h2 h3 h4 h5 h6
theorem fl_blk {w : World} {f : Nat} {a b c : Int} (h : w.heap[f]? = some (flawO 0 0 0)) : (((w.setCell ⟨f,0,none⟩ (.int .i64 a)).setCell ⟨f,1,none⟩ (.int .i64 b)).setCell ⟨f,2,none⟩ (.int .i64 c)).heap[f]? = some (flawO a b c):=by
  have h1:=Go.Lib.heap_setCell_same (i:=0) h (.int .i64 a)
  have h2:=Go.Lib.heap_setCell_same (i:=1) h1 (.int .i64 b)
  have h3:=Go.Lib.heap_setCell_same (i:=2) h2 (.int .i64 c)
  exact h3
theorem fl_other {w : World} {f k : Nat} {a b c : Value} (hk : k ≠ f) : (((w.setCell ⟨f,0,none⟩ a).setCell ⟨f,1,none⟩ b).setCell ⟨f,2,none⟩ c).heap[k]? = w.heap[k]?:=by
  rw [heap_setCell_other _ (⟨f,2,none⟩ : Addr) _ _ hk,heap_setCell_other _ (⟨f,1,none⟩ : Addr) _ _ hk,heap_setCell_other _ (⟨f,0,none⟩ : Addr) _ _ hk]
theorem fl_below {w0 w : World} {B f : Nat} {a b c : Value} (h : Below B w0 w) (hf : B ≤ f) : Below B w0 (((w.setCell ⟨f,0,none⟩ a).setCell ⟨f,1,none⟩ b).setCell ⟨f,2,none⟩ c):=((h.setCell hf _).setCell hf _).setCell hf _
theorem WS.form {w : World} {B W0 g1 : Nat} {p0 p1 p2 p3 : Value} {ds : List Int} {lv : Value} {q : List Int} (h : WS w B W0 g1 p0 p1 p2 p3 ds lv q) : ∃ A cap,lv = .slice A q.length cap:=by
  obtain ⟨-,⟨rfl,h2⟩ | ⟨g,cap,cur,rfl,-⟩⟩:=h.hq.own
  · exact ⟨none,0,by simp_all⟩
  · exact ⟨_,_,rfl⟩
theorem vdepths_any (tk pu : Ins → Int) (c : Cod) (p : Prh) (pn n pb po ib io : Nat) (w : World) (hPB : c.PB = some ⟨pb,po,none⟩) (hpn : pn < c.ps.length) (hcap : c.ps.length ≤ c.pc∧c.pc ≤ 9223372036854775807)
    (hp : PK w w.heap.size pb (po + pn * 7) ib io p) (hn : p.code.length = n) (hn0 : 0 < n) (hnn : n ≤ 40000) (hde : 0 ≤ p.de∧p.de ≤ 1000)
    (hE : ∀ x ∈ p.code,∀ W,Below w.heap.size w W → Calls Tryz.prog 8 #[insA x,codA c] W fun e w'=>e = .returned (.tuple #[.int .i64 (tk x),.int .i64 (pu x)])∧Below W.heap.size W w')
    (hB : ∀ x ∈ p.code,(0 ≤ tk x∧tk x ≤ 100000000)∧(0 ≤ pu x∧pu x ≤ 1)∧(jumpB x = true → 0 ≤ x.a∧x.a < p.code.length))
    (hM : ∀ W,Calls Tryz.prog 45 #[.int .u64 1,.int .u64 (n : Int)] W fun e w'=>e = .returned (.tuple #[.int .u64 0,.int .u64 (n : Int)])∧W = w') :
    Calls Tryz.prog 14 #[codA c,.int .i64 (pn : Int)] w fun e w'=>∃ o g1,RunW tk pu p.code p.de ((List.replicate n (-1)).set 0 0) [0] o∧e = .returned (dsR pn g1 o)∧(∀ ds,o = .inl ds → w.heap.size ≤ g1∧w'.heap[g1]? = some (.cells (ivs ds).toArray 3 (0,0)))∧Below w.heap.size w w':=by
  obtain ⟨D0,hD0⟩ : ∃ D0,(List.replicate n (-1 : Int)).set 0 0 = D0:=⟨_,rfl⟩
  rw [hD0]
  have HD0:=Lib.hid hD0
  clear hD0
  obtain ⟨W1,hW1⟩ : ∃ W1,w.alloc (codO c) = W1:=⟨_,rfl⟩
  obtain ⟨W2,hW2⟩ : ∃ W2,W1.alloc (flawO 0 0 0) = W2:=⟨_,rfl⟩
  have HW1:=Lib.hid hW1
  have HW2:=Lib.hid hW2
  have a1 : (0 : Int) ≤ (pn : Int):=Int.natCast_nonneg pn
  have a2 : (pn : Int) < (c.ps.length : Int):=Int.ofNat_lt.2 hpn
  have a3 : (c.ps.length : Int) ≤ (c.pc : Int):=Int.ofNat_le.2 hcap.1
  have a4 : (c.pc : Int) ≤ 9223372036854775807:=by have:=hcap.2; omega
  have hb1 : Below w.heap.size w W1:=by rw [← hW1]; exact (Below.refl _ w).alloc (Nat.le_refl _) _
  have hs1 : W1.heap.size = w.heap.size + 1:=by rw [← hW1]; unfold World.alloc; simp
  have hb2 : Below W1.heap.size W1 W2:=by rw [← hW2]; exact (Below.refl _ W1).alloc (Nat.le_refl _) _
  have hs2 : W2.heap.size = w.heap.size + 2:=by rw [← hW2]; unfold World.alloc; simp [hs1]
  have o1 : W1.heap[w.heap.size]? = some (codO c):=by rw [← hW1]; unfold World.alloc; simp
  have o2 : W2.heap[w.heap.size + 1]? = some (flawO 0 0 0):=by rw [← hW2,← hs1]; unfold World.alloc; simp
  have o3 : W2.heap[w.heap.size]? = some (codO c):=(hb2.block _ (hlt_of o1)).trans o1
  have y0 : W2.cell? ⟨w.heap.size,0,none⟩ = some (.slice (some ⟨pb,po,none⟩) c.ps.length c.pc):=by rw [← hPB]; exact ob_cell o3 0
  have y1 : W2.cell? ⟨w.heap.size,1,none⟩ = some (.slice c.CB c.kids.len c.cc):=ob_cell o3 1
  have y2 : W2.cell? ⟨w.heap.size,2,none⟩ = some (.slice c.GB c.gs.length c.gc):=ob_cell o3 2
  have b12 : Below w.heap.size w W2:=bel_trans (B:=w.heap.size) hb1 hb2
  have HB2:=Lib.hid b12
  have HS2:=Lib.hid hs2
  have O2:=Lib.hid o2
  have O3:=Lib.hid o3
  have HP:=Lib.hid hp
  have HPB:=Lib.hid hPB
  have HN:=Lib.hid (And.intro hn (And.intro hn0 (And.intro hnn hde)))
  have HE:=Lib.hid hE
  have HB:=Lib.hid hB
  have HM:=Lib.hid hM
  clear hp hPB hn hn0 hnn hde hE hB hM hcap hpn hW1 hW2 hb1 hs1 hb2 hs2 o1 o2 o3 b12
  go_enter Tryz.func14,Tryz.ntmps14
  go_upto_region 1 with (fail)
  rw [HW1.out,HW2.out]
  go_upto_region 2 with (fail)
  go_cut [7] (fun v wx=>∃ W0 g1,v = .pointer (some ⟨W0,0,none⟩)∧Hid (WS wx W2.heap.size W0 g1 (.slice c.PB c.ps.length c.pc) (.slice c.CB c.kids.len c.cc) (.slice c.GB c.gs.length c.gc) (.pointer (some ⟨pb,po + pn * 7,none⟩)) (List.replicate n (-1)) (.slice none 0 0) [])∧Hid (Below W2.heap.size W2 wx))
  case first =>
    have hp2:=HP.out.up HB2.out (Nat.le_refl _) (show w.heap.size ≤ W2.heap.size by rw [HS2.out]; omega)
    have hpB:=hp2.hB (by rw [HN.out.1]; exact HN.out.2.1)
    have y6 : W2.cell? ⟨pb,po + pn * 7 + 6,none⟩ = some (.slice (some ⟨ib,io,none⟩) n p.cap):=by rw [← hpB,← HN.out.1]; exact hp2.p7.c6
    have bA : Below W2.heap.size W2 (W2.alloc (.cells #[.int .i64 (-1)] 3 (0,0))):=(Below.refl _ W2).alloc (Nat.le_refl _) _
    have bC : Below W2.heap.size W2 (W2.alloc (.cells #[.slice none 0 0,.slice none 0 0,.slice none 0 0,.pointer none,.slice none 0 0,.slice none 0 0] 78 (0,0))):=(Below.refl _ W2).alloc (Nat.le_refl _) _
    have bB : Below W2.heap.size W2 ((W2.alloc (.cells #[.int .i64 (-1)] 3 (0,0))).alloc (.cells #[.slice none 0 0,.slice none 0 0,.slice none 0 0,.pointer none,.slice none 0 0,.slice none 0 0] 78 (0,0))):=bA.alloc (by simp) _
    have bD : Below W2.heap.size W2 ((W2.alloc (.cells #[.slice none 0 0,.slice none 0 0,.slice none 0 0,.pointer none,.slice none 0 0,.slice none 0 0] 78 (0,0))).alloc (.cells #[.int .i64 (-1)] 3 (0,0))):=bC.alloc (by simp) _
    have RPA:=Lib.hid (vrepeat_any W2.heap.size n (W2.alloc (.cells #[.int .i64 (-1)] 3 (0,0))).drew (Array.getElem?_push_size) HN.out.2.1 HN.out.2.2.1 HM.out)
    have RPB:=Lib.hid (vrepeat_any W2.heap.size n ((W2.alloc (.cells #[.int .i64 (-1)] 3 (0,0))).alloc (.cells #[.slice none 0 0,.slice none 0 0,.slice none 0 0,.pointer none,.slice none 0 0,.slice none 0 0] 78 (0,0))).drew ((Below.heap_alloc _ _ _ (by simp)).trans (Array.getElem?_push_size)) HN.out.2.1 HN.out.2.2.1 HM.out)
    have RPD:=Lib.hid (vrepeat_any (W2.heap.size + 1) n ((W2.alloc (.cells #[.slice none 0 0,.slice none 0 0,.slice none 0 0,.pointer none,.slice none 0 0,.slice none 0 0] 78 (0,0))).alloc (.cells #[.int .i64 (-1)] 3 (0,0))).drew (by rw [← World.size_alloc W2]; exact Array.getElem?_push_size) HN.out.2.1 HN.out.2.2.1 HM.out)
    have RD : Hid (∀ v2,Below W2.heap.size W2 v2 → v2.cell? ⟨w.heap.size,0,none⟩ = some (.slice (some ⟨pb,po,none⟩) c.ps.length c.pc)∧v2.cell? ⟨w.heap.size,1,none⟩ = some (.slice c.CB c.kids.len c.cc)∧v2.cell? ⟨w.heap.size,2,none⟩ = some (.slice c.GB c.gs.length c.gc)∧v2.cell? ⟨pb,po + pn * 7 + 6,none⟩ = some (.slice (some ⟨ib,io,none⟩) n p.cap)):=Lib.hid fun v2 hv=>by
      have k:=HP.out.up (bel_trans (B:=w.heap.size) HB2.out hv) (Nat.le_refl _) (show w.heap.size ≤ W2.heap.size by rw [HS2.out]; omega)
      have kB:=k.hB (by rw [HN.out.1]; exact HN.out.2.1)
      have e6:=k.p7.c6
      rw [kB,HN.out.1] at e6
      have e3 : v2.heap[w.heap.size]? = some (codO c):=(hv.block _ (by rw [HS2.out]; omega)).trans O3.out
      exact ⟨by rw [← HPB.out]; exact ob_cell e3 0,ob_cell e3 1,ob_cell e3 2,e6⟩
    obtain ⟨s0,s1,s2,s6⟩:=RD.out _ bA
    obtain ⟨t0,t1,t2,t6⟩:=RD.out _ bB
    obtain ⟨u0,u1,u2,u6⟩:=RD.out _ bC
    obtain ⟨v0,v1,v2,v6⟩:=RD.out _ bD
    have BA:=Lib.hid bA
    have BB:=Lib.hid bB
    have BD:=Lib.hid bD
    clear hp2 hpB bA bB bC bD
    go_region_law (go_simp; go_at_call 27; first
      | (with_reducible refine RPA.out.mono ?_; rintro e v2 ⟨rfl,hg,hb⟩; rw [sz1] at hg; have HG:=Lib.hid hg; have HBV:=Lib.hid (BA.out.drew.trans (hb.mono (by simp))); clear hg hb; obtain ⟨r0,r1,r2,r6⟩:=RD.out v2 HBV.out; obtain ⟨q0,q1,q2,q6⟩:=RD.out _ (HBV.out.alloc HBV.out.size (.cells #[.slice none 0 0,.slice none 0 0,.slice none 0 0,.pointer none,.slice none 0 0,.slice none 0 0] 78 (0,0))))
      | (with_reducible refine RPB.out.mono ?_; rintro e v2 ⟨rfl,hg,hb⟩; rw [sz2] at hg; have HG:=Lib.hid hg; have hk:=(hb.block _ (by simp)).trans (new_at2 W2 _ _); obtain ⟨⟨c0,c1,c2,c3,c4,c5⟩,uf0,uf1,uf2,uf3,uf4,uf5⟩:=wk_cells hk; have HK:=Lib.hid hk; clear hk; have HBV:=Lib.hid (BB.out.drew.trans (hb.mono (by simp; omega))); clear hg hb; obtain ⟨r0,r1,r2,r6⟩:=RD.out v2 HBV.out)
      | (with_reducible refine RPD.out.mono ?_; rintro e v2 ⟨rfl,hg,hb⟩; rw [sz2] at hg; have HG:=Lib.hid hg; have hk:=(hb.block _ (by simp; omega)).trans (new_at1 W2 _ _); obtain ⟨⟨c0,c1,c2,c3,c4,c5⟩,uf0,uf1,uf2,uf3,uf4,uf5⟩:=wk_cells hk; have HK:=Lib.hid hk; clear hk; have HBV:=Lib.hid (BD.out.drew.trans (hb.mono (by simp; omega))); clear hg hb; obtain ⟨r0,r1,r2,r6⟩:=RD.out v2 HBV.out))
    all_goals
      go_wp2_with (fail)
      go_meet
      rw [HPB.out]
      first
        | with_reducible exact ws_a HG.out HBV.out (Nat.le_succ _)
        | with_reducible exact ws_b HK.out HG.out HBV.out (nl2 _) (Nat.le_succ _) (Nat.succ_ne_self _)
        | with_reducible exact ws_b HK.out HG.out HBV.out (nl2 _) (Nat.le_refl _) (nn2 _)
        | exact ws_a HG.out HBV.out (Nat.le_succ _)
        | exact ws_b HK.out HG.out HBV.out (nl2 _) (Nat.le_succ _) (Nat.succ_ne_self _)
        | exact ws_b HK.out HG.out HBV.out (nl2 _) (Nat.le_refl _) (nn2 _)
  case rest =>
    obtain ⟨W0,g1,rfl,HWS,HBC⟩:=hcut
    have CM:=Lib.hid (vcome_any W2.heap.size W0 g1 _ _ _ _ (List.replicate n (-1)) (.slice none 0 0) [] 0 0 wc HWS.out (by rw [List.length_replicate]; exact HN.out.2.1) (by rw [List.length_replicate]; exact lk_len HN.out.2.2.1) (by simp))
    have e1 : comS (List.replicate n (-1)) 0 0 = (true,(List.replicate n (-1)).set 0 0,[((0 : Nat) : Int)]):=by
      unfold comS
      rw [if_pos (by rw [List.getElem?_replicate,if_pos HN.out.2.1])]
    rw [e1] at CM
    rw [HD0.out] at CM
    have wi : WI p.code.length p.de D0 [0]:=by
      have h0 : WI n p.de (List.replicate n (-1)) []:=⟨List.length_replicate ..,fun d hd=>(by rw [List.eq_of_mem_replicate hd]; have:=HN.out.2.2.2; omega),fun x hx=>absurd hx (List.not_mem_nil),by rw [List.count_replicate_self]; exact Nat.le_refl _⟩
      have h1:=com_wi h0 (i:=0) (d:=0) HN.out.2.1 (Int.le_refl _) HN.out.2.2.2.1
      rw [e1,HD0.out] at h1
      rw [HN.out.1]
      exact h1
    have WI0:=Lib.hid wi
    clear wi e1 y0 y1 y2
    go_wp2_with (fail)
    refine CM.out.mono ?_
    rintro e w3 ⟨rfl,lv,q0,k1,k2,k3,-⟩
    have K1:=Lib.hid k1
    have K2:=Lib.hid k2
    have K3:=Lib.hid (HBC.out.trans k3)
    clear k1 k2 k3 CM
    go_wp2_with (fail)
    go_loopg [] (leftW D0 q0) (fun kk wr=>∃ ds lv q,Hid (WS wr W2.heap.size W0 g1 (.slice c.PB c.ps.length c.pc) (.slice c.CB c.kids.len c.cc) (.slice c.GB c.gs.length c.gc) (.pointer (some ⟨pb,po + pn * 7,none⟩)) ds lv q)∧Hid (WI p.code.length p.de ds q)∧Hid (leftW ds q = kk)∧Hid (∀ o,RunW tk pu p.code p.de ds q o → RunW tk pu p.code p.de D0 [0] o)∧Hid (Below W2.heap.size W2 wr))
    case atStart=>exact ⟨D0,lv,q0,K2,Lib.hid (WI0.out.perm K1.out),Lib.hid rfl,Lib.hid (fun o h=>h.perm K1.out.symm),K3⟩
    case round =>
      obtain ⟨ds,lv,q,IS,IW,IL,IR,IB⟩:=hrel
      obtain ⟨A,cap,hlv⟩:=IS.out.form
      have x5 : wr.cell? ⟨W0,5,none⟩ = some (.slice A q.length cap):=by rw [← hlv]; exact IS.out.hq.at5'
      have x4 : wr.cell? ⟨W0,4,none⟩ = some (.slice (some ⟨g1,0,none⟩) ds.length ds.length):=ob_cell IS.out.hq.blk 4
      have of : wr.heap[w.heap.size + 1]? = some (flawO 0 0 0):=(IB.out.block _ (by rw [HS2.out]; omega)).trans O2.out
      have f0 : wr.cell? ⟨w.heap.size + 1,0,none⟩ = some (.int .i64 0):=ob_cell of 0
      have f1 : wr.cell? ⟨w.heap.size + 1,1,none⟩ = some (.int .i64 0):=ob_cell of 1
      have f2 : wr.cell? ⟨w.heap.size + 1,2,none⟩ = some (.int .i64 0):=ob_cell of 2
      have l0:=ob_free of 0 (by simp)
      have l1:=ob_free of 1 (by simp)
      have l2:=ob_free of 2 (by simp)
      have OF:=Lib.hid of
      clear of
      have LN:=Lib.hid (vlen_any A q.length cap wr)
      clear hlv
      rcases Nat.eq_zero_or_pos q.length with hz | hz
      · rw [hz] at LN x5
        have HZ:=Lib.hid hz
        clear hz
        go_wp2_with (fail)
        refine LN.out.mono ?_
        rintro e w4 ⟨rfl,rfl⟩
        obtain ⟨WF,hWF⟩ : ∃ WF,((wr.setCell ⟨w.heap.size + 1,0,none⟩ (.int .i64 0)).setCell ⟨w.heap.size + 1,1,none⟩ (.int .i64 0)).setCell ⟨w.heap.size + 1,2,none⟩ (.int .i64 0) = WF:=⟨_,rfl⟩
        have HWF:=Lib.hid hWF
        clear hWF
        go_wp2_with (fail)
        rw [HWF.out]
        have of2 : WF.heap[w.heap.size + 1]? = some (flawO 0 0 0):=by rw [← HWF.out]; exact fl_blk OF.out
        have f0 : WF.cell? ⟨w.heap.size + 1,0,none⟩ = some (.int .i64 0):=ob_cell of2 0
        have f1 : WF.cell? ⟨w.heap.size + 1,1,none⟩ = some (.int .i64 0):=ob_cell of2 1
        have f2 : WF.cell? ⟨w.heap.size + 1,2,none⟩ = some (.int .i64 0):=ob_cell of2 2
        clear of2
        go_wp2_with (fail)
        refine bodyPost_ret (v:=.tuple #[.slice (some ⟨g1,0,none⟩) ds.length ds.length,.agg #[.int .i64 0,.int .i64 0,.int .i64 0]]) (by simp [results,Tryz.results14,go_sem,f0,f1,f2]) rfl ⟨.inl ds,g1,IR.out _ (by rw [List.eq_nil_of_length_eq_zero HZ.out]; exact .done),rfl,?_,?_⟩
        · intro ds' h
          injection h with h
          subst h
          have:=IS.out.bg
          have h2:=HS2.out
          exact ⟨by omega,by rw [← HWF.out,fl_other (by omega)]; exact IS.out.dep⟩
        · rw [← HWF.out]
          exact fl_below (bel_trans (B:=w.heap.size) HB2.out IB.out) (Nat.le_succ _)
      · have b1 : decide (0 < q.length) = true:=decide_eq_true hz
        have PO:=Lib.hid (vwpop_any W2.heap.size W0 g1 _ _ _ _ ds lv q wr IS.out hz (by have:=IW.out.cnt; have:=HN.out; omega))
        have TA:=fun v xt W=>ta_int v xt W
        have HZ:=Lib.hid hz
        clear hz
        go_wp2_with (fail)
        refine LN.out.mono ?_
        rintro e w4 ⟨rfl,rfl⟩
        go_wp2_with (fail)
        refine PO.out.mono ?_
        rintro e w5 ⟨v,rest,lv5,rfl,j1,j2,j3⟩
        have hv:=IW.out.wait v (j1.mem_iff.2 (List.mem_cons_self ..))
        obtain ⟨i,rfl⟩ : ∃ i : Nat,v = (i : Int):=⟨v.toNat,(Int.toNat_of_nonneg hv.1).symm⟩
        have hi : i < p.code.length:=Int.ofNat_lt.1 hv.2
        obtain ⟨x,hx⟩ : ∃ x,p.code[i]? = some x:=⟨_,List.getElem?_eq_getElem hi⟩
        obtain ⟨d,hd⟩ : ∃ d,ds[i]? = some d:=⟨_,List.getElem?_eq_getElem (by rw [IW.out.len]; exact hi)⟩
        have hxm:=List.mem_of_getElem? hx
        have hdm:=IW.out.dep d (List.mem_of_getElem? hd)
        have hbx:=HB.out x hxm
        have hb5 : Below W2.heap.size W2 w5:=IB.out.trans j3
        have hbw5 : Below w.heap.size w w5:=bel_trans (B:=w.heap.size) HB2.out hb5
        have LK:=Lib.hid (vlook_any tk pu W2.heap.size W0 g1 pb (po + pn * 7) ib io c p ds lv5 rest i x d w5 j2 (HP.out.up hbw5 (Nat.le_refl _) (by rw [HS2.out]; omega))
          (fun W hW=>HE.out x hxm W (bel_trans (B:=w.heap.size) hbw5 hW)) hx hd IW.out.len (by rw [IW.out.len,HN.out.1]; exact HN.out.2.2.1) (by have h1:=IW.out.cnt; have h2:=j1.length_eq; have h3:=HN.out; simp at h2; omega) hbx.1 hbx.2.1 (by have:=HN.out.2.2.2; omega) hbx.2.2)
        have WI5 : Hid (WI p.code.length p.de ds rest):=Lib.hid ⟨IW.out.len,IW.out.dep,fun y hy=>IW.out.wait y (j1.mem_iff.2 (List.mem_cons_of_mem _ hy)),by have h1:=IW.out.cnt; have h2:=j1.length_eq; simp at h2; omega⟩
        have LW:=Lib.hid (look_wi (tk:=tk) (pu:=pu) (x:=x) (d:=d) WI5.out hi hbx.2.1.1 hbx.2.2)
        have LL:=Lib.hid (look_left (tk:=tk) (pu:=pu) (code:=p.code) (de:=p.de) (i:=i) (x:=x) (d:=d) (ds:=ds) (q:=rest) hbx.2.1.1)
        have J1:=Lib.hid j1
        have J3:=Lib.hid hb5
        have HX:=Lib.hid hx
        have HDD:=Lib.hid hd
        obtain ⟨S,hS⟩ : ∃ S,lookS tk pu p.code p.de i x d ds = S:=⟨_,rfl⟩
        rw [hS] at LK LW LL
        obtain ⟨E,D1,N1⟩:=S
        dsimp only at LK LW LL
        have HSS:=Lib.hid hS
        clear j1 j2 j3 hv hi hx hd hxm hdm hbx hb5 hbw5 hS f0 f1 f2 l0 l1 l2 x4 x5
        go_wp2_with (fail)
        refine LK.out.mono ?_
        rintro e w6 ⟨rfl,lv6,q6,k1,k2,k3⟩
        have K2:=Lib.hid k2
        have B6 : Hid (Below W2.heap.size W2 w6):=Lib.hid (J3.out.trans k3)
        have K1:=Lib.hid k1
        clear k1 k2 k3
        by_cases hE0 : E = 0
        · have b2 : (E != 0) = false:=by rw [hE0]; rfl
          have ST : Hid (∀ o,RunW tk pu p.code p.de D1 q6 o → RunW tk pu p.code p.de ds q o):=Lib.hid fun o h=>RunW.step J1.out HX.out HDD.out (by rw [HSS.out]; exact hE0) (q':=q6) (by rw [HSS.out]; exact K1.out) (by rw [HSS.out]; exact h)
          clear hE0
          go_wp2_with (fail)
          go_roundg (leftW D1 q6)
          case measure =>
            have h1:=LL.out
            have h2:=IL.out
            have h3:=K1.out.length_eq
            have h4:=J1.out.length_eq
            unfold leftW at h1 h2 ⊢
            simp at h4
            omega
          case rel=>exact ⟨D1,lv6,q6,K2,Lib.hid (LW.out.perm K1.out),Lib.hid rfl,Lib.hid (fun o h=>IR.out o (ST.out o h)),B6⟩
        · have b2 : (E != 0) = true:=by simpa using hE0
          have ST : Hid (RunW tk pu p.code p.de ds q (.inr (E,i))):=Lib.hid (RunW.stop J1.out HX.out HDD.out (by rw [HSS.out]) hE0)
          have of : w6.heap[w.heap.size + 1]? = some (flawO 0 0 0):=(B6.out.block _ (by rw [HS2.out]; omega)).trans O2.out
          have f0 : w6.cell? ⟨w.heap.size + 1,0,none⟩ = some (.int .i64 0):=ob_cell of 0
          have f1 : w6.cell? ⟨w.heap.size + 1,1,none⟩ = some (.int .i64 0):=ob_cell of 1
          have f2 : w6.cell? ⟨w.heap.size + 1,2,none⟩ = some (.int .i64 0):=ob_cell of 2
          have l0:=ob_free of 0 (by simp)
          have l1:=ob_free of 1 (by simp)
          have l2:=ob_free of 2 (by simp)
          have OF:=Lib.hid of
          obtain ⟨WF,hWF⟩ : ∃ WF,((w6.setCell ⟨w.heap.size + 1,0,none⟩ (.int .i64 E)).setCell ⟨w.heap.size + 1,1,none⟩ (.int .i64 (pn : Int))).setCell ⟨w.heap.size + 1,2,none⟩ (.int .i64 (i : Int)) = WF:=⟨_,rfl⟩
          have HWF:=Lib.hid hWF
          clear hWF of hE0
          go_wp2_with (fail)
          rw [HWF.out]
          have of2 : WF.heap[w.heap.size + 1]? = some (flawO E pn i):=by rw [← HWF.out]; exact fl_blk OF.out
          have f0 : WF.cell? ⟨w.heap.size + 1,0,none⟩ = some (.int .i64 E):=ob_cell of2 0
          have f1 : WF.cell? ⟨w.heap.size + 1,1,none⟩ = some (.int .i64 (pn : Int)):=ob_cell of2 1
          have f2 : WF.cell? ⟨w.heap.size + 1,2,none⟩ = some (.int .i64 (i : Int)):=ob_cell of2 2
          clear of2
          go_wp2_with (fail)
          refine bodyPost_ret (v:=.tuple #[.slice none 0 0,.agg #[.int .i64 E,.int .i64 (pn : Int),.int .i64 (i : Int)]]) (by simp [results,Tryz.results14,go_sem,f0,f1,f2]) rfl ⟨.inr (E,i),g1,IR.out _ ST.out,rfl,(fun ds' h=>nomatch h),?_⟩
          rw [← HWF.out]
          exact fl_below (bel_trans (B:=w.heap.size) HB2.out B6.out) (Nat.le_succ _)
end LM
end Go.Proofs.YtihbgghlnppkiaaGreatDoor
