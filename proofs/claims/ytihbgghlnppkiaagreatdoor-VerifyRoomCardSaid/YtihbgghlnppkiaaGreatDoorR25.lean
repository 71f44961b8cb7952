import Derived.Test.YtihbgghlnppkiaaGreatDoorR24
set_option linter.unusedVariables false
set_option linter.unusedSimpArgs false
set_option maxRecDepth 100000
set_option maxHeartbeats 16000000
namespace Go.Proofs.YtihbgghlnppkiaaGreatDoor
open Go Go.RowKit
namespace LM
def primL : List UInt8:=(((([43,32,45,32,42,32,47,32,61,32,60,32,62,32,60,61,32,62,61,32,113,117,111,116,105,101,110,116,32,114,101,109,97,105,110,100,101,114,32,109,111,100,117,108,111,32,103,99,100,32,101,120,112,116,32,110,117,109,98,101,114,63].append [32,101,120,97,99,116,63,32,105,110,101,120,97,99,116,63,32,110,97,110,63,32,122,101,114,111,63,32,112,111,115,105,116,105,118,101,63,32,110,101,103,97,116,105,118,101,63,32,111,100,100,63,32,101,118,101,110,63,32,97,98,115,32]).append ([109,105,110,32,109,97,120,32,101,120,97,99,116,32,105,110,101,120,97,99,116,32,102,108,111,111,114,32,116,114,117,110,99,97,116,101,32,114,111,117,110,100,32,115,113,114,116,32,110,117,109,98,101,114,45,62,115,116,114,105,110,103].append [32,115,116,114,105,110,103,45,62,110,117,109,98,101,114,32,110,111,116,32,101,113,63,32,101,113,117,97,108,63,32,98,111,111,108,101,97,110,63,32,115,121,109,98,111,108,63,32,115,116,114,105,110,103,63,32,99,104,97,114,63,32,112])).append (([97,105,114,63,32,110,117,108,108,63,32,118,101,99,116,111,114,63,32,98,121,116,101,118,101,99,116,111,114,63,32,112,114,111,99,101,100,117,114,101,63,32,98,111,120,63,32,114,101,99,111,114,100,63,32,116,97,98,108,101,63,32].append [114,101,115,117,109,112,116,105,111,110,63,32,101,111,102,45,111,98,106,101,99,116,63,32,99,111,110,115,32,99,97,114,32,99,100,114,32,115,101,116,45,99,97,114,33,32,115,101,116,45,99,100,114,33,32,108,105,115,116,32,108,105,115]).append ([116,63,32,108,101,110,103,116,104,32,97,112,112,101,110,100,32,114,101,118,101,114,115,101,32,108,105,115,116,45,114,101,102,32,109,101,109,118,32,109,101,109,98,101,114,32,97,115,115,118,32,97,115,115,111,99,32,115,121,109,98,111].append [108,45,62,115,116,114,105,110,103,32,115,116,114,105,110,103,45,62,115,121,109,98,111,108,32,99,104,97,114,45,62,105,110,116,101,103,101,114,32,105,110,116,101,103,101,114,45,62,99,104,97,114,32,115,116,114,105,110,103,45,108,101,110]))).append ((([103,116,104,32,115,116,114,105,110,103,45,114,101,102,32,115,117,98,115,116,114,105,110,103,32,115,116,114,105,110,103,45,97,112,112,101,110,100,32,115,116,114,105,110,103,61,63,32,115,116,114,105,110,103,60,63,32,115,116,114,105,110].append [103,45,62,108,105,115,116,32,108,105,115,116,45,62,115,116,114,105,110,103,32,118,101,99,116,111,114,32,109,97,107,101,45,118,101,99,116,111,114,32,118,101,99,116,111,114,45,108,101,110,103,116,104,32,118,101,99,116,111,114,45,114,101]).append ([102,32,118,101,99,116,111,114,45,115,101,116,33,32,118,101,99,116,111,114,45,62,108,105,115,116,32,108,105,115,116,45,62,118,101,99,116,111,114,32,109,97,107,101,45,98,121,116,101,118,101,99,116,111,114,32,98,121,116,101,118,101].append [99,116,111,114,45,108,101,110,103,116,104,32,98,121,116,101,118,101,99,116,111,114,45,117,56,45,114,101,102,32,98,121,116,101,118,101,99,116,111,114,45,117,56,45,115,101,116,33,32,114,101,99,111,114,100,32,114,101,99,111,114,100,45])).append (([116,97,103,32,114,101,99,111,114,100,45,108,101,110,103,116,104,32,114,101,99,111,114,100,45,114,101,102,32,114,101,99,111,114,100,45,115,101,116,33,32,109,97,107,101,45,116,97,98,108,101,32,116,97,98,108,101,45,114,101,102,32].append [116,97,98,108,101,45,115,101,116,33,32,116,97,98,108,101,45,100,101,108,101,116,101,33,32,116,97,98,108,101,45,99,111,117,110,116,32,116,97,98,108,101,45,107,101,121,115,32,98,111,120,32,117,110,98,111,120,32,115,101,116,45,98]).append ([111,120,33,32,97,112,112,108,121,32,114,101,115,117,109,101,32,100,105,115,99,111,110,116,105,110,117,101,32,99,108,111,110,101,32,114,97,105,115,101,32,100,105,115,112,108,97,121,32,119,114,105,116,101,32,110,101,119,108,105,110,101].append [32,114,101,97,100,45,108,105,110,101,32,99,108,111,99,107,32,112,105,99,107,32,97,103,101,110,100,97,45,97,100,100,33,32,97,103,101,110,100,97,45,110,101,120,116,32,97,103,101,110,100,97,45,99,111,117,110,116,32,118,111,105,100]))))
def primS : ByteArray:=⟨primL.toArray⟩
inductive CheckP (tk pu : Ins → Int) (c : Cod) (k : Int) (r : Bool) : Int → Int → Nat → Prop
  | code : r = false → CheckP tk pu c k r 101 0 0
  | begin : r = true → beginB c.ps = false → CheckP tk pu c k r 112 0 0
  | flaw (j i : Nat) (p : Prh) (e : Int) : r = true → beginB c.ps = true → c.ps[j]? = some p → (∀ q ∈ c.ps.take j,FlawP tk pu c k q 0 0) → e ≠ 0 → FlawP tk pu c k p e i → CheckP tk pu c k r e (j : Int) i
  | none : r = true → beginB c.ps = true → (∀ q ∈ c.ps,FlawP tk pu c k q 0 0) → CheckP tk pu c k r 0 0 0
structure RightC (tk pu : Ins → Int) (w : World) (c : Cod) : Prop where
  pr : ∀ p ∈ c.ps,PrN p∧p.code.length ≤ 40000∧(∀ x ∈ p.code,(0 ≤ tk x∧tk x ≤ 100000000)∧(0 ≤ pu x∧pu x ≤ 1)∧0 ≤ x.a)
  ef : ∀ p ∈ c.ps,∀ x ∈ p.code,∀ W,Below w.heap.size w W → Calls Tryz.prog 8 #[insA x,codA c] W fun e w'=>e = .returned (.tuple #[.int .i64 (tk x),.int .i64 (pu x)])∧Below W.heap.size W w'
theorem flaw_zero {tk pu : Ins → Int} {c : Cod} {k : Int} {p : Prh} {i : Nat} (h : FlawP tk pu c k p 0 i) : i = 0:=by
  generalize hz : (0 : Int) = z at h
  cases h with
  | num h=>exact absurd hz.symm h
  | ins i x h0 h1 h2 h3=>exact absurd hz.symm h3
  | run i e h0 h1 h2 h3=>exact absurd hz.symm h2
  | none ds h0 h1 h2=>rfl
theorem PK.of {w : World} {c : Cod} {p : Prh} {j b off : Nat} (hF : PrcAt w b off c.ps) (hpv : PrV w p) (hok : p.Ok) (hj : c.ps[j]? = some p) : ∃ ib io,PK w w.heap.size b (off + j * 7) ib io p:=by
  obtain ⟨h1,h2⟩:=hF j p hj
  obtain ⟨ib,io,h3,h4⟩:=hpv
  exact ⟨ib,io,h2,h1,h3,h4,fun hl=>(h4 0 _ (List.getElem?_eq_getElem hl)).1,hok.cap⟩
theorem begin_ne {ps : List Prh} (h : beginB ps = true) : 0 < ps.length:=by
  cases ps with
  | nil=>cases h
  | cons p l=>simp
theorem vcheck_any (tk pu : Ins → Int) (c : Cod) (k : Nat) (r : Bool) (w : World) (hv : CodV w c) (hok : c.Ok) (hc40 : c.ps.length ≤ 140737488355328)
    (hR : ∀ W,Below w.heap.size w W → Calls Tryz.prog 10 #[codA c] W fun e w'=>e = .returned (.bool r)∧Below W.heap.size W w')
    (hRC : r = true → RightC tk pu w c)
    (hF : ∀ W,Below w.heap.size w W → Calls Tryz.prog 12 #[.string primS] W fun e w'=>(∃ A cap,e = .returned (.slice A k cap))∧Below W.heap.size W w')
    (hM : ∀ (n : Nat) W,n ≤ 40000 → Calls Tryz.prog 45 #[.int .u64 1,.int .u64 (n : Int)] W fun e w'=>e = .returned (.tuple #[.int .u64 0,.int .u64 (n : Int)])∧W = w') :
    Calls Tryz.prog 6 #[codA c] w fun e w'=>∃ (z m : Int) (i : Nat),CheckP tk pu c k r z m i∧e = .returned (.agg #[.int .i64 z,.int .i64 m,.int .i64 (i : Int)])∧Below w.heap.size w w':=by
  obtain ⟨W1,hW1⟩ : ∃ W1,w.alloc (codO c) = W1:=⟨_,rfl⟩
  obtain ⟨W2,hW2⟩ : ∃ W2,W1.alloc (flawO 0 0 0) = W2:=⟨_,rfl⟩
  have hb1 : Below w.heap.size w W1:=by rw [← hW1]; exact (Below.refl _ w).alloc (Nat.le_refl _) _
  have hs1 : W1.heap.size = w.heap.size + 1:=by rw [← hW1]; unfold World.alloc; simp
  have hb2 : Below W1.heap.size W1 W2:=by rw [← hW2]; exact (Below.refl _ W1).alloc (Nat.le_refl _) _
  have hs2 : W2.heap.size = w.heap.size + 2:=by rw [← hW2]; unfold World.alloc; simp [hs1]
  have o1 : W1.heap[w.heap.size]? = some (codO c):=by rw [← hW1]; unfold World.alloc; simp
  have o2 : W2.heap[w.heap.size + 1]? = some (flawO 0 0 0):=by rw [← hW2,← hs1]; unfold World.alloc; simp
  have o3 : W2.heap[w.heap.size]? = some (codO c):=(hb2.block _ (hlt_of o1)).trans o1
  have b12 : Below w.heap.size w W2:=bel_trans (B:=w.heap.size) hb1 hb2
  obtain ⟨pb,po,hPB,hPF⟩:=hv.ps
  obtain ⟨cb,coff,hCB,hCF⟩:=hv.kids
  have FA : Hid (∀ W,Below W2.heap.size W2 W → (W.cell? ⟨w.heap.size,0,none⟩ = some (.slice c.PB c.ps.length c.pc)∧W.cell? ⟨w.heap.size,1,none⟩ = some (.slice c.CB c.kids.len c.cc)∧W.cell? ⟨w.heap.size,2,none⟩ = some (.slice c.GB c.gs.length c.gc))∧W.heap[w.heap.size + 1]? = some (flawO 0 0 0)∧Below w.heap.size w W):=Lib.hid fun W hW=>by
    have e3 : W.heap[w.heap.size]? = some (codO c):=(hW.block _ (by omega)).trans o3
    exact ⟨⟨ob_cell e3 0,ob_cell e3 1,ob_cell e3 2⟩,(hW.block _ (by omega)).trans o2,bel_trans (B:=w.heap.size) b12 hW⟩
  have HW1:=Lib.hid hW1
  have HW2:=Lib.hid hW2
  have HS2:=Lib.hid hs2
  have HP:=Lib.hid (And.intro hPB hPF)
  have HC:=Lib.hid (And.intro hCB hCF)
  have HV:=Lib.hid hv
  have HK:=Lib.hid hok
  have HR:=Lib.hid hR
  have HRC:=Lib.hid hRC
  have HF:=Lib.hid hF
  have HM:=Lib.hid hM
  have H40:=Lib.hid hc40
  have FIN : Hid (∀ (z m : Int) (i : Nat) W W',CheckP tk pu c k r z m i → Below W2.heap.size W2 W → ((W.setCell ⟨w.heap.size + 1,0,none⟩ (.int .i64 z)).setCell ⟨w.heap.size + 1,1,none⟩ (.int .i64 m)).setCell ⟨w.heap.size + 1,2,none⟩ (.int .i64 (i : Int)) = W' →
      (W'.cell? ⟨w.heap.size + 1,0,none⟩ = some (.int .i64 z)∧W'.cell? ⟨w.heap.size + 1,1,none⟩ = some (.int .i64 m)∧W'.cell? ⟨w.heap.size + 1,2,none⟩ = some (.int .i64 (i : Int)))∧Below w.heap.size w W'):=Lib.hid fun z m i W W' hz hW hW'=>by
    obtain ⟨-,e2,e3⟩:=FA.out W hW
    have h1:=Go.Lib.heap_setCell_same (i:=0) e2 (.int .i64 z)
    have h2:=Go.Lib.heap_setCell_same (i:=1) h1 (.int .i64 m)
    have h3:=Go.Lib.heap_setCell_same (i:=2) h2 (.int .i64 (i : Int))
    rw [hW'] at h3
    exact ⟨⟨ob_cell h3 0,ob_cell h3 1,ob_cell h3 2⟩,by rw [← hW']; exact fl_below e3 (Nat.le_succ _)⟩
  obtain ⟨⟨y0,y1,y2⟩,of2,-⟩:=FA.out W2 (Below.refl _ _)
  clear hPB hPF hCB hCF hv hok hR hRC hF hM hc40 hW1 hW2 hb1 hs1 hb2 hs2 o1 o2 o3 b12 of2
  have HB12:=Lib.hid (FA.out W2 (Below.refl _ _)).2.2
  go_enter Tryz.func6,Tryz.ntmps6
  go_upto_region 1 with (fail)
  rw [HW1.out,HW2.out]
  go_wp2_with (fail)
  refine (HR.out W2 HB12.out).mono ?_
  rintro e w3 ⟨rfl,hb3⟩
  have HB3:=Lib.hid hb3
  obtain ⟨⟨x0,x1,x2⟩,ofl,hb03⟩:=FA.out w3 hb3
  have HB03:=Lib.hid hb03
  have f0 : w3.cell? ⟨w.heap.size + 1,0,none⟩ = some (.int .i64 0):=ob_cell ofl 0
  have f1 : w3.cell? ⟨w.heap.size + 1,1,none⟩ = some (.int .i64 0):=ob_cell ofl 1
  have f2 : w3.cell? ⟨w.heap.size + 1,2,none⟩ = some (.int .i64 0):=ob_cell ofl 2
  have l0:=ob_free ofl 0 (by simp)
  have l1:=ob_free ofl 1 (by simp)
  have l2:=ob_free ofl 2 (by simp)
  clear hb3 hb03 ofl y0 y1 y2
  rcases (show r = true ∨ r = false by cases r <;> simp) with hr | hr
  · subst hr
    have BG:=Lib.hid (vbegin_any c.ps c.PB c.pc pb po w3 HP.out.1 (PrcAt.below HB03.out HP.out.2) HK.out.ps)
    obtain ⟨q,hq⟩ : ∃ q,beginB c.ps = q:=⟨_,rfl⟩
    rw [hq] at BG
    go_wp2_with (fail)
    refine BG.out.mono ?_
    rintro e w4 ⟨rfl,rfl⟩
    cases q
    · obtain ⟨WF,hWF⟩ : ∃ WF,((w4.setCell ⟨w.heap.size + 1,0,none⟩ (.int .i64 112)).setCell ⟨w.heap.size + 1,1,none⟩ (.int .i64 0)).setCell ⟨w.heap.size + 1,2,none⟩ (.int .i64 0) = WF:=⟨_,rfl⟩
      have CP : CheckP tk pu c k true 112 0 0:=.begin rfl hq
      have FF:=Lib.hid (FIN.out 112 0 0 w4 WF CP HB3.out hWF)
      have HWF:=Lib.hid hWF
      have HCP:=Lib.hid CP
      clear CP hWF hq
      go_wp2_with (fail)
      rw [HWF.out]
      obtain ⟨⟨g0,g1,g2⟩,-⟩:=FF.out
      clear f0 f1 f2 l0 l1 l2
      go_wp2_with (fail)
      exact bodyPost_ret (v:=.agg #[.int .i64 112,.int .i64 0,.int .i64 0]) (by simp [results,Tryz.results6,go_sem,g0,g1,g2]) rfl ⟨112,0,0,HCP.out,rfl,FF.out.2⟩
    · have HQ:=Lib.hid hq
      have hpos:=begin_ne hq
      have hPBs:=HP.out.1 hpos
      obtain ⟨N,hN⟩ : ∃ N,c.ps.length = N:=⟨_,rfl⟩
      rw [hPBs,hN] at x0
      have HPS:=Lib.hid (And.intro hPBs hN)
      clear hq hpos hPBs f0 f1 f2 l0 l1 l2
      go_upto_region 5 with (fail)
      rw [show (⟨(((([43,32,45,32,42,32,47,32,61,32,60,32,62,32,60,61,32,62,61,32,113,117,111,116,105,101,110,116,32,114,101,109,97,105,110,100,101,114,32,109,111,100,117,108,111,32,103,99,100,32,101,120,112,116,32,110,117,109,98,101,114,63].append [32,101,120,97,99,116,63,32,105,110,101,120,97,99,116,63,32,110,97,110,63,32,122,101,114,111,63,32,112,111,115,105,116,105,118,101,63,32,110,101,103,97,116,105,118,101,63,32,111,100,100,63,32,101,118,101,110,63,32,97,98,115,32]).append ([109,105,110,32,109,97,120,32,101,120,97,99,116,32,105,110,101,120,97,99,116,32,102,108,111,111,114,32,116,114,117,110,99,97,116,101,32,114,111,117,110,100,32,115,113,114,116,32,110,117,109,98,101,114,45,62,115,116,114,105,110,103].append [32,115,116,114,105,110,103,45,62,110,117,109,98,101,114,32,110,111,116,32,101,113,63,32,101,113,117,97,108,63,32,98,111,111,108,101,97,110,63,32,115,121,109,98,111,108,63,32,115,116,114,105,110,103,63,32,99,104,97,114,63,32,112])).append (([97,105,114,63,32,110,117,108,108,63,32,118,101,99,116,111,114,63,32,98,121,116,101,118,101,99,116,111,114,63,32,112,114,111,99,101,100,117,114,101,63,32,98,111,120,63,32,114,101,99,111,114,100,63,32,116,97,98,108,101,63,32].append [114,101,115,117,109,112,116,105,111,110,63,32,101,111,102,45,111,98,106,101,99,116,63,32,99,111,110,115,32,99,97,114,32,99,100,114,32,115,101,116,45,99,97,114,33,32,115,101,116,45,99,100,114,33,32,108,105,115,116,32,108,105,115]).append ([116,63,32,108,101,110,103,116,104,32,97,112,112,101,110,100,32,114,101,118,101,114,115,101,32,108,105,115,116,45,114,101,102,32,109,101,109,118,32,109,101,109,98,101,114,32,97,115,115,118,32,97,115,115,111,99,32,115,121,109,98,111].append [108,45,62,115,116,114,105,110,103,32,115,116,114,105,110,103,45,62,115,121,109,98,111,108,32,99,104,97,114,45,62,105,110,116,101,103,101,114,32,105,110,116,101,103,101,114,45,62,99,104,97,114,32,115,116,114,105,110,103,45,108,101,110]))).append ((([103,116,104,32,115,116,114,105,110,103,45,114,101,102,32,115,117,98,115,116,114,105,110,103,32,115,116,114,105,110,103,45,97,112,112,101,110,100,32,115,116,114,105,110,103,61,63,32,115,116,114,105,110,103,60,63,32,115,116,114,105,110].append [103,45,62,108,105,115,116,32,108,105,115,116,45,62,115,116,114,105,110,103,32,118,101,99,116,111,114,32,109,97,107,101,45,118,101,99,116,111,114,32,118,101,99,116,111,114,45,108,101,110,103,116,104,32,118,101,99,116,111,114,45,114,101]).append ([102,32,118,101,99,116,111,114,45,115,101,116,33,32,118,101,99,116,111,114,45,62,108,105,115,116,32,108,105,115,116,45,62,118,101,99,116,111,114,32,109,97,107,101,45,98,121,116,101,118,101,99,116,111,114,32,98,121,116,101,118,101].append [99,116,111,114,45,108,101,110,103,116,104,32,98,121,116,101,118,101,99,116,111,114,45,117,56,45,114,101,102,32,98,121,116,101,118,101,99,116,111,114,45,117,56,45,115,101,116,33,32,114,101,99,111,114,100,32,114,101,99,111,114,100,45])).append (([116,97,103,32,114,101,99,111,114,100,45,108,101,110,103,116,104,32,114,101,99,111,114,100,45,114,101,102,32,114,101,99,111,114,100,45,115,101,116,33,32,109,97,107,101,45,116,97,98,108,101,32,116,97,98,108,101,45,114,101,102,32].append [116,97,98,108,101,45,115,101,116,33,32,116,97,98,108,101,45,100,101,108,101,116,101,33,32,116,97,98,108,101,45,99,111,117,110,116,32,116,97,98,108,101,45,107,101,121,115,32,98,111,120,32,117,110,98,111,120,32,115,101,116,45,98]).append ([111,120,33,32,97,112,112,108,121,32,114,101,115,117,109,101,32,100,105,115,99,111,110,116,105,110,117,101,32,99,108,111,110,101,32,114,97,105,115,101,32,100,105,115,112,108,97,121,32,119,114,105,116,101,32,110,101,119,108,105,110,101].append [32,114,101,97,100,45,108,105,110,101,32,99,108,111,99,107,32,112,105,99,107,32,97,103,101,110,100,97,45,97,100,100,33,32,97,103,101,110,100,97,45,110,101,120,116,32,97,103,101,110,100,97,45,99,111,117,110,116,32,118,111,105,100])))).toArray⟩ : ByteArray) = primS from rfl]
      go_wp2_with (fail)
      refine (HF.out w4 HB03.out).mono ?_
      rintro e w5 ⟨⟨A,cap,rfl⟩,hb5⟩
      have HB5:=Lib.hid (HB3.out.trans (hb5.mono HB3.out.size))
      obtain ⟨⟨x0',-,-⟩,-,-⟩:=FA.out w5 HB5.out
      rw [HPS.out.1,HPS.out.2] at x0'
      have hcap:=HK.out.ps
      rw [hN] at hcap
      have c1 : (N : Int) ≤ (c.pc : Int):=Int.ofNat_le.2 hcap.1
      have c2 : (c.pc : Int) ≤ 9223372036854775807:=by have:=hcap.2; omega
      clear hb5 x0 x1 x2 hN hcap
      go_wp2_with (fail)
      clear x0'
      go_loopg [23] N (fun kk jv wr=>∃ j : Nat,jv = .int .i64 (j : Int)∧kk = N - j∧j ≤ N∧Hid (∀ q ∈ c.ps.take j,FlawP tk pu c k q 0 0)∧Hid (Below W2.heap.size W2 wr))
      case atStart=>exact ⟨0,rfl,rfl,Nat.zero_le _,Lib.hid (fun y hy=>by simp at hy),HB5⟩
      case round =>
        obtain ⟨j,rfl,hk,hj,HI,HBr⟩:=hrel
        obtain ⟨⟨x0,x1,x2⟩,ofw,hbw⟩:=FA.out wr HBr.out
        rw [HPS.out.1,HPS.out.2] at x0
        by_cases hlt : j < N
        · have q1 : decide (j < N) = true:=decide_eq_true hlt
          have a1 : (0 : Int) ≤ (j : Int):=Int.natCast_nonneg j
          have a2 : (j : Int) < (N : Int):=Int.ofNat_lt.2 hlt
          obtain ⟨⟨u0,u1,u2⟩,-,-⟩:=FA.out _ (HBr.out.alloc HBr.out.size (.cells #[.slice none 0 0,.slice none 0 0,.slice none 0 0,.pointer none,.int .i64 0,.int .i64 0] 48 (0,0)))
          rw [HPS.out.1,HPS.out.2] at u0
          obtain ⟨p,hp⟩ : ∃ p,c.ps[j]? = some p:=⟨_,List.getElem?_eq_getElem (by rw [HPS.out.2]; exact hlt)⟩
          have hpm:=List.mem_of_getElem? hp
          obtain ⟨ib,io,hpk⟩:=PK.of HP.out.2 (HV.out.pv p hpm) (HK.out.pr p hpm) hp
          obtain ⟨W5,hW5⟩ : ∃ W5,(wr.alloc (.cells #[.slice (some ⟨pb,po,none⟩) N c.pc,.slice c.CB c.kids.len c.cc,.slice c.GB c.gs.length c.gc,.pointer (some ⟨pb,po + j * 7,none⟩),.int .i64 (j : Int),.int .i64 (k : Int)] 48 (0,0))).drew = W5:=⟨_,rfl⟩
          have hb5 : Below wr.heap.size wr W5:=by rw [← hW5]; exact ((Below.refl _ wr).alloc (Nat.le_refl _) _).drew
          have ho5 : W5.heap[wr.heap.size]? = some (lookO c pb (po + j * 7) j k):=by rw [← hW5]; unfold lookO; rw [HPS.out.1,HPS.out.2]; exact new_at _ _
          have hB5 : Below W2.heap.size W2 W5:=bel_trans (B:=W2.heap.size) HBr.out hb5
          have hw5:=(FA.out W5 hB5).2.2
          have HRR:=HRC.out trivial
          have hpr:=HRR.pr p hpm
          have VF:=Lib.hid (vflaw_any tk pu c p wr.heap.size j p.code.length pb po ib io k W5 HPS.out.1 (by rw [HPS.out.2]; exact hlt) HK.out.ps (L6.of_block ho5) (hlt_of ho5) (hpk.up hw5 (Nat.le_refl _) hw5.size) rfl hpr.2.1 hpr.1 cb coff HC.out.1 (FAt.below hw5 _ _ _ HC.out.2) HK.out.kids
            (fun x hx W hW=>HRR.ef p hpm x hx W (bel_trans (B:=w.heap.size) hw5 hW)) hpr.2.2 (fun W=>HM.out _ W hpr.2.1))
          have HW5:=Lib.hid hW5
          have HB5':=Lib.hid hB5
          have HPP:=Lib.hid hp
          have HLT:=Lib.hid (And.intro hlt hk)
          have wj : RowKit.wrap64 ((j : Int) + 1) = ((j + 1 : Nat) : Int):=by have:=H40.out; have:=HPS.out.2; unfold RowKit.wrap64; omega
          clear hpm hpk hW5 hb5 ho5 hB5 hw5 HRR hpr hp hlt hk hj ofw hbw
          go_upto_region 9 with (fail)
          go_region
          rw [HW5.out]
          clear x0 x1 x2 u0 u1 u2
          go_wp2_with (fail)
          refine VF.out.mono ?_
          rintro e w6 ⟨z,i,hz,rfl,hb6⟩
          have HB6:=Lib.hid (bel_trans (B:=W2.heap.size) HB5'.out hb6)
          by_cases hz0 : z = 0
          · subst hz0
            obtain rfl:=flaw_zero hz
            have HI2 : Hid (∀ q ∈ c.ps.take (j + 1),FlawP tk pu c k q 0 0):=Lib.hid (take_snoc HPP.out HI.out hz)
            rw [flN_zero]
            obtain ⟨W7,hW7⟩ : ∃ W7,w6.alloc (.cells #[.int .i64 0,.int .i64 0,.int .i64 0] 31 (0,0)) = W7:=⟨_,rfl⟩
            have hB7 : Below W2.heap.size W2 W7:=by rw [← hW7]; exact HB6.out.alloc HB6.out.size _
            have ho7 : W7.heap[w6.heap.size]? = some (flawO 0 0 0):=by rw [← hW7]; exact Array.getElem?_push_size
            have v0 : W7.cell? ⟨w6.heap.size,0,none⟩ = some (.int .i64 0):=ob_cell ho7 0
            have v1 : W7.cell? ⟨w6.heap.size,1,none⟩ = some (.int .i64 0):=ob_cell ho7 1
            have v2 : W7.cell? ⟨w6.heap.size,2,none⟩ = some (.int .i64 0):=ob_cell ho7 2
            have HW7:=Lib.hid hW7
            have HB7:=Lib.hid hB7
            clear hz hb6 hW7 hB7 ho7
            go_upto_region 11 with (fail)
            rw [HW7.out]
            go_wp2_with (fail)
            go_roundg (N - (j + 1))
            case measure=>have:=HLT.out; omega
            case rel=>exact ⟨j + 1,rfl,rfl,by have:=HLT.out; omega,HI2,HB7⟩
          · have HZ:=Lib.hid hz
            have HZ0:=Lib.hid hz0
            obtain ⟨m,hm⟩ : ∃ m,flN z j = m:=⟨_,rfl⟩
            rw [hm]
            have HMM : Hid (m = (j : Int)):=Lib.hid (by rw [← hm]; exact flN_some hz0 j)
            obtain ⟨W7,hW7⟩ : ∃ W7,w6.alloc (.cells #[.int .i64 z,.int .i64 m,.int .i64 (i : Int)] 31 (0,0)) = W7:=⟨_,rfl⟩
            have hB7 : Below W2.heap.size W2 W7:=by rw [← hW7]; exact HB6.out.alloc HB6.out.size _
            have ho7 : W7.heap[w6.heap.size]? = some (flawO z m i):=by rw [← hW7]; exact Array.getElem?_push_size
            have v0 : W7.cell? ⟨w6.heap.size,0,none⟩ = some (.int .i64 z):=ob_cell ho7 0
            have v1 : W7.cell? ⟨w6.heap.size,1,none⟩ = some (.int .i64 m):=ob_cell ho7 1
            have v2 : W7.cell? ⟨w6.heap.size,2,none⟩ = some (.int .i64 (i : Int)):=ob_cell ho7 2
            have HW7:=Lib.hid hW7
            have HB7:=Lib.hid hB7
            have zb : (z == 0) = false:=beq_eq_false_iff_ne.2 hz0
            have CP : CheckP tk pu c k true z m i:=by rw [HMM.out]; exact .flaw j i p z rfl HQ.out HPP.out HI.out hz0 hz
            obtain ⟨-,of7,-⟩:=FA.out W7 hB7
            have f0 : W7.cell? ⟨w.heap.size + 1,0,none⟩ = some (.int .i64 0):=ob_cell of7 0
            have f1 : W7.cell? ⟨w.heap.size + 1,1,none⟩ = some (.int .i64 0):=ob_cell of7 1
            have f2 : W7.cell? ⟨w.heap.size + 1,2,none⟩ = some (.int .i64 0):=ob_cell of7 2
            have l0:=ob_free of7 0 (by simp)
            have l1:=ob_free of7 1 (by simp)
            have l2:=ob_free of7 2 (by simp)
            obtain ⟨WF,hWF⟩ : ∃ WF,((W7.setCell ⟨w.heap.size + 1,0,none⟩ (.int .i64 z)).setCell ⟨w.heap.size + 1,1,none⟩ (.int .i64 m)).setCell ⟨w.heap.size + 1,2,none⟩ (.int .i64 (i : Int)) = WF:=⟨_,rfl⟩
            have FF:=Lib.hid (FIN.out z m i W7 WF CP hB7 hWF)
            have HWF:=Lib.hid hWF
            have HCP:=Lib.hid CP
            clear hz hb6 hW7 hB7 ho7 hm hz0 CP of7 hWF
            go_upto_region 11 with (fail)
            rw [HW7.out]
            go_wp2_with (fail)
            rw [HWF.out]
            obtain ⟨⟨g0,g1,g2⟩,-⟩:=FF.out
            clear f0 f1 f2 l0 l1 l2 v0 v1 v2
            go_wp2_with (fail)
            exact bodyPost_ret (v:=.agg #[.int .i64 z,.int .i64 m,.int .i64 (i : Int)]) (by simp [results,Tryz.results6,go_sem,g0,g1,g2]) rfl ⟨z,m,i,HCP.out,rfl,FF.out.2⟩
        · have q1 : decide (j < N) = false:=decide_eq_false hlt
          have CP : CheckP tk pu c k true 0 0 0:=.none rfl HQ.out (take_all (by rw [HPS.out.2]; omega) HI.out)
          have f0 : wr.cell? ⟨w.heap.size + 1,0,none⟩ = some (.int .i64 0):=ob_cell ofw 0
          have f1 : wr.cell? ⟨w.heap.size + 1,1,none⟩ = some (.int .i64 0):=ob_cell ofw 1
          have f2 : wr.cell? ⟨w.heap.size + 1,2,none⟩ = some (.int .i64 0):=ob_cell ofw 2
          have l0:=ob_free ofw 0 (by simp)
          have l1:=ob_free ofw 1 (by simp)
          have l2:=ob_free ofw 2 (by simp)
          obtain ⟨WF,hWF⟩ : ∃ WF,((wr.setCell ⟨w.heap.size + 1,0,none⟩ (.int .i64 0)).setCell ⟨w.heap.size + 1,1,none⟩ (.int .i64 0)).setCell ⟨w.heap.size + 1,2,none⟩ (.int .i64 0) = WF:=⟨_,rfl⟩
          have FF:=Lib.hid (FIN.out 0 0 0 wr WF CP HBr.out hWF)
          have HWF:=Lib.hid hWF
          have HCP:=Lib.hid CP
          clear CP hWF hlt hk hj ofw hbw x0 x1 x2
          go_wp2_with (fail)
          rw [HWF.out]
          obtain ⟨⟨g0,g1,g2⟩,-⟩:=FF.out
          clear f0 f1 f2 l0 l1 l2
          go_wp2_with (fail)
          exact bodyPost_ret (v:=.agg #[.int .i64 0,.int .i64 0,.int .i64 0]) (by simp [results,Tryz.results6,go_sem,g0,g1,g2]) rfl ⟨0,0,0,HCP.out,rfl,FF.out.2⟩
  · subst hr
    obtain ⟨WF,hWF⟩ : ∃ WF,((w3.setCell ⟨w.heap.size + 1,0,none⟩ (.int .i64 101)).setCell ⟨w.heap.size + 1,1,none⟩ (.int .i64 0)).setCell ⟨w.heap.size + 1,2,none⟩ (.int .i64 0) = WF:=⟨_,rfl⟩
    have CP : CheckP tk pu c k false 101 0 0:=.code rfl
    have FF:=Lib.hid (FIN.out 101 0 0 w3 WF CP HB3.out hWF)
    have HWF:=Lib.hid hWF
    have HCP:=Lib.hid CP
    clear CP hWF
    go_wp2_with (fail)
    rw [HWF.out]
    obtain ⟨⟨g0,g1,g2⟩,-⟩:=FF.out
    clear f0 f1 f2 l0 l1 l2
    go_wp2_with (fail)
    exact bodyPost_ret (v:=.agg #[.int .i64 101,.int .i64 0,.int .i64 0]) (by simp [results,Tryz.results6,go_sem,g0,g1,g2]) rfl ⟨101,0,0,HCP.out,rfl,FF.out.2⟩
end LM
end Go.Proofs.YtihbgghlnppkiaaGreatDoor
