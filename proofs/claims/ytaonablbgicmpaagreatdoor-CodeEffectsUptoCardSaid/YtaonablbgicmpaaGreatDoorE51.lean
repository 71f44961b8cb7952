import Derived.Test.YtaonablbgicmpaaGreatDoorE46
import Derived.BigRegion
import Derived.Laws.Tables
set_option linter.unusedVariables false
set_option linter.unusedSimpArgs false
set_option maxRecDepth 100000
set_option maxHeartbeats 16000000
namespace Go.Proofs.YtaonablbgicmpaaGreatDoor
open Go Go.RowKit
namespace LM
attribute [local go_sem] run_store_flt
def tkC : Array Value:=#[.int .i64 0,.int .i64 0,.int .i64 1,.int .i64 0,.int .i64 0,.int .i64 1,.int .i64 1,.int .i64 1,.int .i64 1,.int .i64 2,.int .i64 0,.int .i64 0,.int .i64 1,.int .i64 0,.int .i64 0,.int .i64 1,.int .i64 1,.int .i64 0,.int .i64 1,.int .i64 0,.int .i64 0,.int .i64 0]
def puC : Array Value:=#[.int .i64 1,.int .i64 1,.int .i64 0,.int .i64 1,.int .i64 1,.int .i64 0,.int .i64 0,.int .i64 1,.int .i64 1,.int .i64 0,.int .i64 1,.int .i64 0,.int .i64 0,.int .i64 1,.int .i64 0,.int .i64 0,.int .i64 0,.int .i64 1,.int .i64 1,.int .i64 1,.int .i64 1,.int .i64 1]
theorem wpList_build_at {P : Program} {ops : Array Oper} {rest : List Oper} {o : Oper} {a : Act} {w : World} {Q : Exit → Act → World → Prop} (hgd : o.guard = none) (t : TypeId) (parts : Array (Nat × Operand)) (ho : o.op = .build t parts) (ds : Option Nat) (hds : o.dst = ds) (cells : Array Value)
  (hf : P.built t (parts.map fun (i,x)=>(i,a.eval x)).toList = some cells) (h : wpList P ops Q rest (a.put o.dst (.agg cells)) w) : wpList P ops Q (o :: rest) a w :=
 wpList_plain hgd fun _ hK=>wp_build t parts ho (by rw [hf]; rfl) (by rw [hf]; exact hK _ _ h)
theorem alloc_setRow (w : World) (old cells : Array Value) (t : TypeId) (fr : Nat × Nat) : (w.alloc (.cells old t fr)).setRow w.heap.size cells = w.alloc (.cells cells t fr):=by
 unfold World.setRow World.alloc
 congr 1
 apply Array.ext
 ·simp
 ·intro i h1 h2
  simp only [Array.getElem_modify,Array.getElem_push]
  by_cases hi : i < w.heap.size
  ·rw [if_neg (by omega)]
   simp [hi]
  ·have : i = w.heap.size:=by simp at h2; omega
   subst this
   simp
theorem wpList_store_new {P : Program} {ops : Array Oper} {rest : List Oper} {o : Oper} {a : Act} {w0 : World} {Q : Exit → Act → World → Prop} (hgd : o.guard = none) (ty : TypeId) (x y : Operand) (ho : o.op = .store ty x y) (cells old : Array Value) (t : TypeId) (g : Nat) (hg : g = w0.heap.size)
  (hx : a.eval x = .pointer (some ⟨g,0,none⟩)) (hy : a.eval y = .agg cells) (hi : (P.info? ty).map (·.size) = some cells.size) (hold : old.size = cells.size) (h1 : cells.all (·.oneCell') = true)
  (h : wpList P ops Q rest (a.put o.dst undef) (w0.alloc (.cells cells t (0,0)))) : wpList P ops Q (o :: rest) a (w0.alloc (.cells old t (0,0))):=by
 subst hg
 exact wpList_plain hgd fun _ hK=>wp_store_row ty x y ho w0.heap.size cells hx hy t old (by unfold World.alloc; simp) hi hold h1 (by rw [alloc_setRow]; exact hK _ _ h)
abbrev tkO : Obj:=.cells tkC 56 (0,0)
abbrev puO : Obj:=.cells puC 56 (0,0)
theorem reff_world (op a b : Int) (c : Cod) (w : World) : ∃ W3,(((w.alloc (.cells #[.int .i64 op,.int .i64 a,.int .i64 b] 23 (0,0))).alloc (codO c)).alloc tkO).alloc puO = W3∧Below w.heap.size w W3 ∧
  W3.heap[w.heap.size]? = some (.cells #[.int .i64 op,.int .i64 a,.int .i64 b] 23 (0,0))∧W3.heap[w.heap.size + 1]? = some (codO c)∧W3.heap[w.heap.size + 1 + 1]? = some tkO∧W3.heap[w.heap.size + 1 + 1 + 1]? = some puO:=by
 have h1:=(((Obs.nil.new (w:=w) (.cells #[.int .i64 op,.int .i64 a,.int .i64 b] 23 (0,0))).new (codO c)).new tkO).new puO
 simp only [World.size_alloc] at h1
 exact ⟨_,rfl,((((Below.refl _ w).alloc (Nat.le_refl _) _).alloc (by simp) _).alloc (by simp; omega) _).alloc (by simp; omega) _,h1.tl.tl.tl.hd,h1.tl.tl.hd,h1.tl.hd,h1.hd⟩
theorem reffect_0 (n : Nat) (hn : n ≤ 16777215) (b : Int) (c : Cod) (w : World) :
  Calls Tryz.prog 8 #[.agg #[.int .i64 0,.int .i64 (n : Int),.int .i64 b],codA c] w fun e w'=>e = .returned (.tuple #[.int .i64 (effK 0 n (frV c.ps n)),.int .i64 (effM 0)])∧Below w.heap.size w w':=by
 obtain ⟨W3,hW3,hb,ho,ho1,ho2,ho3⟩:=reff_world 0 n b c w
 obtain ⟨r,hr⟩ : ∃ r,effK 0 n (frV c.ps n) = r:=⟨_,rfl⟩
 obtain ⟨m,hm⟩ : ∃ m,effM 0 = m:=⟨_,rfl⟩
 rw [hr,hm]
 have y0 : ((((w.alloc (.cells #[.int .i64 0,.int .i64 (n : Int),.int .i64 b] 23 (0,0))).alloc (.cells #[.slice c.PB c.ps.length c.pc,.slice c.CB c.kids.len c.cc,.slice c.GB c.gs.length c.gc] 28 (0,0))).alloc tkO).alloc puO).cell? ⟨w.heap.size + 1 + 1,0,none⟩ = some (.int .i64 0):=by rw [show _ = W3 from hW3]; exact ob_cell ho2 0
 have y1 : ((((w.alloc (.cells #[.int .i64 0,.int .i64 (n : Int),.int .i64 b] 23 (0,0))).alloc (.cells #[.slice c.PB c.ps.length c.pc,.slice c.CB c.kids.len c.cc,.slice c.GB c.gs.length c.gc] 28 (0,0))).alloc tkO).alloc puO).cell? ⟨w.heap.size + 1 + 1 + 1,0,none⟩ = some (.int .i64 1):=by rw [show _ = W3 from hW3]; exact ob_cell ho3 0
 have HB:=Lib.hid hb
 have HW3:=Lib.hid hW3
 have HR:=Lib.hid hr
 have HM:=Lib.hid hm
 clear hW3 hb ho ho1 ho2 ho3 hr hm
 go_enter Tryz.func8,Tryz.ntmps8
 go_wp2_with (first
  | with_reducible refine wpList_build_at rfl 56 _ rfl (some 9) rfl tkC (by kernel_rfl) ?_
  | with_reducible refine wpList_build_at rfl 56 _ rfl (some 10) rfl puC (by kernel_rfl) ?_
  | with_reducible refine wpList_store_new rfl 56 (.tmp 6) (.tmp 9) rfl tkC _ _ (w.heap.size + 1 + 1) (by simp) (by kernel_rfl) (by kernel_rfl) (by kernel_rfl) (by kernel_rfl) (by kernel_rfl) ?_
  | with_reducible refine wpList_store_new rfl 56 (.tmp 7) (.tmp 10) rfl puC _ _ (w.heap.size + 1 + 1 + 1) (by simp) (by kernel_rfl) (by kernel_rfl) (by kernel_rfl) (by kernel_rfl) (by kernel_rfl) ?_)
 go_region
 go_wp2_with (fail)
 refine bodyPost_ret (v:=.tuple #[.int .i64 r,.int .i64 m]) ?_ rfl ⟨rfl,by first | exact HB.out | (have h:=HB.out; rw [← HW3.out] at h; exact h.drew)⟩
 rw [← HR.out,← HM.out]
 simp [results,Tryz.results8,go_sem,effK,effM]
 try omega
theorem reffect_1 (n : Nat) (hn : n ≤ 16777215) (b : Int) (c : Cod) (w : World) :
  Calls Tryz.prog 8 #[.agg #[.int .i64 1,.int .i64 (n : Int),.int .i64 b],codA c] w fun e w'=>e = .returned (.tuple #[.int .i64 (effK 1 n (frV c.ps n)),.int .i64 (effM 1)])∧Below w.heap.size w w':=by
 obtain ⟨W3,hW3,hb,ho,ho1,ho2,ho3⟩:=reff_world 1 n b c w
 obtain ⟨r,hr⟩ : ∃ r,effK 1 n (frV c.ps n) = r:=⟨_,rfl⟩
 obtain ⟨m,hm⟩ : ∃ m,effM 1 = m:=⟨_,rfl⟩
 rw [hr,hm]
 have y0 : ((((w.alloc (.cells #[.int .i64 1,.int .i64 (n : Int),.int .i64 b] 23 (0,0))).alloc (.cells #[.slice c.PB c.ps.length c.pc,.slice c.CB c.kids.len c.cc,.slice c.GB c.gs.length c.gc] 28 (0,0))).alloc tkO).alloc puO).cell? ⟨w.heap.size + 1 + 1,1,none⟩ = some (.int .i64 0):=by rw [show _ = W3 from hW3]; exact ob_cell ho2 1
 have y1 : ((((w.alloc (.cells #[.int .i64 1,.int .i64 (n : Int),.int .i64 b] 23 (0,0))).alloc (.cells #[.slice c.PB c.ps.length c.pc,.slice c.CB c.kids.len c.cc,.slice c.GB c.gs.length c.gc] 28 (0,0))).alloc tkO).alloc puO).cell? ⟨w.heap.size + 1 + 1 + 1,1,none⟩ = some (.int .i64 1):=by rw [show _ = W3 from hW3]; exact ob_cell ho3 1
 have HB:=Lib.hid hb
 have HW3:=Lib.hid hW3
 have HR:=Lib.hid hr
 have HM:=Lib.hid hm
 clear hW3 hb ho ho1 ho2 ho3 hr hm
 go_enter Tryz.func8,Tryz.ntmps8
 go_wp2_with (first
  | with_reducible refine wpList_build_at rfl 56 _ rfl (some 9) rfl tkC (by kernel_rfl) ?_
  | with_reducible refine wpList_build_at rfl 56 _ rfl (some 10) rfl puC (by kernel_rfl) ?_
  | with_reducible refine wpList_store_new rfl 56 (.tmp 6) (.tmp 9) rfl tkC _ _ (w.heap.size + 1 + 1) (by simp) (by kernel_rfl) (by kernel_rfl) (by kernel_rfl) (by kernel_rfl) (by kernel_rfl) ?_
  | with_reducible refine wpList_store_new rfl 56 (.tmp 7) (.tmp 10) rfl puC _ _ (w.heap.size + 1 + 1 + 1) (by simp) (by kernel_rfl) (by kernel_rfl) (by kernel_rfl) (by kernel_rfl) (by kernel_rfl) ?_)
 go_region
 go_wp2_with (fail)
 refine bodyPost_ret (v:=.tuple #[.int .i64 r,.int .i64 m]) ?_ rfl ⟨rfl,by first | exact HB.out | (have h:=HB.out; rw [← HW3.out] at h; exact h.drew)⟩
 rw [← HR.out,← HM.out]
 simp [results,Tryz.results8,go_sem,effK,effM]
 try omega
theorem reffect_2 (n : Nat) (hn : n ≤ 16777215) (b : Int) (c : Cod) (w : World) :
  Calls Tryz.prog 8 #[.agg #[.int .i64 2,.int .i64 (n : Int),.int .i64 b],codA c] w fun e w'=>e = .returned (.tuple #[.int .i64 (effK 2 n (frV c.ps n)),.int .i64 (effM 2)])∧Below w.heap.size w w':=by
 obtain ⟨W3,hW3,hb,ho,ho1,ho2,ho3⟩:=reff_world 2 n b c w
 obtain ⟨r,hr⟩ : ∃ r,effK 2 n (frV c.ps n) = r:=⟨_,rfl⟩
 obtain ⟨m,hm⟩ : ∃ m,effM 2 = m:=⟨_,rfl⟩
 rw [hr,hm]
 have y0 : ((((w.alloc (.cells #[.int .i64 2,.int .i64 (n : Int),.int .i64 b] 23 (0,0))).alloc (.cells #[.slice c.PB c.ps.length c.pc,.slice c.CB c.kids.len c.cc,.slice c.GB c.gs.length c.gc] 28 (0,0))).alloc tkO).alloc puO).cell? ⟨w.heap.size + 1 + 1,2,none⟩ = some (.int .i64 1):=by rw [show _ = W3 from hW3]; exact ob_cell ho2 2
 have y1 : ((((w.alloc (.cells #[.int .i64 2,.int .i64 (n : Int),.int .i64 b] 23 (0,0))).alloc (.cells #[.slice c.PB c.ps.length c.pc,.slice c.CB c.kids.len c.cc,.slice c.GB c.gs.length c.gc] 28 (0,0))).alloc tkO).alloc puO).cell? ⟨w.heap.size + 1 + 1 + 1,2,none⟩ = some (.int .i64 0):=by rw [show _ = W3 from hW3]; exact ob_cell ho3 2
 have HB:=Lib.hid hb
 have HW3:=Lib.hid hW3
 have HR:=Lib.hid hr
 have HM:=Lib.hid hm
 clear hW3 hb ho ho1 ho2 ho3 hr hm
 go_enter Tryz.func8,Tryz.ntmps8
 go_wp2_with (first
  | with_reducible refine wpList_build_at rfl 56 _ rfl (some 9) rfl tkC (by kernel_rfl) ?_
  | with_reducible refine wpList_build_at rfl 56 _ rfl (some 10) rfl puC (by kernel_rfl) ?_
  | with_reducible refine wpList_store_new rfl 56 (.tmp 6) (.tmp 9) rfl tkC _ _ (w.heap.size + 1 + 1) (by simp) (by kernel_rfl) (by kernel_rfl) (by kernel_rfl) (by kernel_rfl) (by kernel_rfl) ?_
  | with_reducible refine wpList_store_new rfl 56 (.tmp 7) (.tmp 10) rfl puC _ _ (w.heap.size + 1 + 1 + 1) (by simp) (by kernel_rfl) (by kernel_rfl) (by kernel_rfl) (by kernel_rfl) (by kernel_rfl) ?_)
 go_region
 go_wp2_with (fail)
 refine bodyPost_ret (v:=.tuple #[.int .i64 r,.int .i64 m]) ?_ rfl ⟨rfl,by first | exact HB.out | (have h:=HB.out; rw [← HW3.out] at h; exact h.drew)⟩
 rw [← HR.out,← HM.out]
 simp [results,Tryz.results8,go_sem,effK,effM]
 try omega
theorem reffect_3 (n : Nat) (hn : n ≤ 16777215) (b : Int) (c : Cod) (w : World) :
  Calls Tryz.prog 8 #[.agg #[.int .i64 3,.int .i64 (n : Int),.int .i64 b],codA c] w fun e w'=>e = .returned (.tuple #[.int .i64 (effK 3 n (frV c.ps n)),.int .i64 (effM 3)])∧Below w.heap.size w w':=by
 obtain ⟨W3,hW3,hb,ho,ho1,ho2,ho3⟩:=reff_world 3 n b c w
 obtain ⟨r,hr⟩ : ∃ r,effK 3 n (frV c.ps n) = r:=⟨_,rfl⟩
 obtain ⟨m,hm⟩ : ∃ m,effM 3 = m:=⟨_,rfl⟩
 rw [hr,hm]
 have y0 : ((((w.alloc (.cells #[.int .i64 3,.int .i64 (n : Int),.int .i64 b] 23 (0,0))).alloc (.cells #[.slice c.PB c.ps.length c.pc,.slice c.CB c.kids.len c.cc,.slice c.GB c.gs.length c.gc] 28 (0,0))).alloc tkO).alloc puO).cell? ⟨w.heap.size + 1 + 1,3,none⟩ = some (.int .i64 0):=by rw [show _ = W3 from hW3]; exact ob_cell ho2 3
 have y1 : ((((w.alloc (.cells #[.int .i64 3,.int .i64 (n : Int),.int .i64 b] 23 (0,0))).alloc (.cells #[.slice c.PB c.ps.length c.pc,.slice c.CB c.kids.len c.cc,.slice c.GB c.gs.length c.gc] 28 (0,0))).alloc tkO).alloc puO).cell? ⟨w.heap.size + 1 + 1 + 1,3,none⟩ = some (.int .i64 1):=by rw [show _ = W3 from hW3]; exact ob_cell ho3 3
 have HB:=Lib.hid hb
 have HW3:=Lib.hid hW3
 have HR:=Lib.hid hr
 have HM:=Lib.hid hm
 clear hW3 hb ho ho1 ho2 ho3 hr hm
 go_enter Tryz.func8,Tryz.ntmps8
 go_wp2_with (first
  | with_reducible refine wpList_build_at rfl 56 _ rfl (some 9) rfl tkC (by kernel_rfl) ?_
  | with_reducible refine wpList_build_at rfl 56 _ rfl (some 10) rfl puC (by kernel_rfl) ?_
  | with_reducible refine wpList_store_new rfl 56 (.tmp 6) (.tmp 9) rfl tkC _ _ (w.heap.size + 1 + 1) (by simp) (by kernel_rfl) (by kernel_rfl) (by kernel_rfl) (by kernel_rfl) (by kernel_rfl) ?_
  | with_reducible refine wpList_store_new rfl 56 (.tmp 7) (.tmp 10) rfl puC _ _ (w.heap.size + 1 + 1 + 1) (by simp) (by kernel_rfl) (by kernel_rfl) (by kernel_rfl) (by kernel_rfl) (by kernel_rfl) ?_)
 go_region
 go_wp2_with (fail)
 refine bodyPost_ret (v:=.tuple #[.int .i64 r,.int .i64 m]) ?_ rfl ⟨rfl,by first | exact HB.out | (have h:=HB.out; rw [← HW3.out] at h; exact h.drew)⟩
 rw [← HR.out,← HM.out]
 simp [results,Tryz.results8,go_sem,effK,effM]
 try omega
theorem reffect_4 (n : Nat) (hn : n ≤ 16777215) (b : Int) (c : Cod) (w : World) :
  Calls Tryz.prog 8 #[.agg #[.int .i64 4,.int .i64 (n : Int),.int .i64 b],codA c] w fun e w'=>e = .returned (.tuple #[.int .i64 (effK 4 n (frV c.ps n)),.int .i64 (effM 4)])∧Below w.heap.size w w':=by
 obtain ⟨W3,hW3,hb,ho,ho1,ho2,ho3⟩:=reff_world 4 n b c w
 obtain ⟨r,hr⟩ : ∃ r,effK 4 n (frV c.ps n) = r:=⟨_,rfl⟩
 obtain ⟨m,hm⟩ : ∃ m,effM 4 = m:=⟨_,rfl⟩
 rw [hr,hm]
 have y0 : ((((w.alloc (.cells #[.int .i64 4,.int .i64 (n : Int),.int .i64 b] 23 (0,0))).alloc (.cells #[.slice c.PB c.ps.length c.pc,.slice c.CB c.kids.len c.cc,.slice c.GB c.gs.length c.gc] 28 (0,0))).alloc tkO).alloc puO).cell? ⟨w.heap.size + 1 + 1,4,none⟩ = some (.int .i64 0):=by rw [show _ = W3 from hW3]; exact ob_cell ho2 4
 have y1 : ((((w.alloc (.cells #[.int .i64 4,.int .i64 (n : Int),.int .i64 b] 23 (0,0))).alloc (.cells #[.slice c.PB c.ps.length c.pc,.slice c.CB c.kids.len c.cc,.slice c.GB c.gs.length c.gc] 28 (0,0))).alloc tkO).alloc puO).cell? ⟨w.heap.size + 1 + 1 + 1,4,none⟩ = some (.int .i64 1):=by rw [show _ = W3 from hW3]; exact ob_cell ho3 4
 have HB:=Lib.hid hb
 have HW3:=Lib.hid hW3
 have HR:=Lib.hid hr
 have HM:=Lib.hid hm
 clear hW3 hb ho ho1 ho2 ho3 hr hm
 go_enter Tryz.func8,Tryz.ntmps8
 go_wp2_with (first
  | with_reducible refine wpList_build_at rfl 56 _ rfl (some 9) rfl tkC (by kernel_rfl) ?_
  | with_reducible refine wpList_build_at rfl 56 _ rfl (some 10) rfl puC (by kernel_rfl) ?_
  | with_reducible refine wpList_store_new rfl 56 (.tmp 6) (.tmp 9) rfl tkC _ _ (w.heap.size + 1 + 1) (by simp) (by kernel_rfl) (by kernel_rfl) (by kernel_rfl) (by kernel_rfl) (by kernel_rfl) ?_
  | with_reducible refine wpList_store_new rfl 56 (.tmp 7) (.tmp 10) rfl puC _ _ (w.heap.size + 1 + 1 + 1) (by simp) (by kernel_rfl) (by kernel_rfl) (by kernel_rfl) (by kernel_rfl) (by kernel_rfl) ?_)
 go_region
 go_wp2_with (fail)
 refine bodyPost_ret (v:=.tuple #[.int .i64 r,.int .i64 m]) ?_ rfl ⟨rfl,by first | exact HB.out | (have h:=HB.out; rw [← HW3.out] at h; exact h.drew)⟩
 rw [← HR.out,← HM.out]
 simp [results,Tryz.results8,go_sem,effK,effM]
 try omega
theorem reffect_5 (n : Nat) (hn : n ≤ 16777215) (b : Int) (c : Cod) (w : World) :
  Calls Tryz.prog 8 #[.agg #[.int .i64 5,.int .i64 (n : Int),.int .i64 b],codA c] w fun e w'=>e = .returned (.tuple #[.int .i64 (effK 5 n (frV c.ps n)),.int .i64 (effM 5)])∧Below w.heap.size w w':=by
 obtain ⟨W3,hW3,hb,ho,ho1,ho2,ho3⟩:=reff_world 5 n b c w
 obtain ⟨r,hr⟩ : ∃ r,effK 5 n (frV c.ps n) = r:=⟨_,rfl⟩
 obtain ⟨m,hm⟩ : ∃ m,effM 5 = m:=⟨_,rfl⟩
 rw [hr,hm]
 have y0 : ((((w.alloc (.cells #[.int .i64 5,.int .i64 (n : Int),.int .i64 b] 23 (0,0))).alloc (.cells #[.slice c.PB c.ps.length c.pc,.slice c.CB c.kids.len c.cc,.slice c.GB c.gs.length c.gc] 28 (0,0))).alloc tkO).alloc puO).cell? ⟨w.heap.size + 1 + 1,5,none⟩ = some (.int .i64 1):=by rw [show _ = W3 from hW3]; exact ob_cell ho2 5
 have y1 : ((((w.alloc (.cells #[.int .i64 5,.int .i64 (n : Int),.int .i64 b] 23 (0,0))).alloc (.cells #[.slice c.PB c.ps.length c.pc,.slice c.CB c.kids.len c.cc,.slice c.GB c.gs.length c.gc] 28 (0,0))).alloc tkO).alloc puO).cell? ⟨w.heap.size + 1 + 1 + 1,5,none⟩ = some (.int .i64 0):=by rw [show _ = W3 from hW3]; exact ob_cell ho3 5
 have HB:=Lib.hid hb
 have HW3:=Lib.hid hW3
 have HR:=Lib.hid hr
 have HM:=Lib.hid hm
 clear hW3 hb ho ho1 ho2 ho3 hr hm
 go_enter Tryz.func8,Tryz.ntmps8
 go_wp2_with (first
  | with_reducible refine wpList_build_at rfl 56 _ rfl (some 9) rfl tkC (by kernel_rfl) ?_
  | with_reducible refine wpList_build_at rfl 56 _ rfl (some 10) rfl puC (by kernel_rfl) ?_
  | with_reducible refine wpList_store_new rfl 56 (.tmp 6) (.tmp 9) rfl tkC _ _ (w.heap.size + 1 + 1) (by simp) (by kernel_rfl) (by kernel_rfl) (by kernel_rfl) (by kernel_rfl) (by kernel_rfl) ?_
  | with_reducible refine wpList_store_new rfl 56 (.tmp 7) (.tmp 10) rfl puC _ _ (w.heap.size + 1 + 1 + 1) (by simp) (by kernel_rfl) (by kernel_rfl) (by kernel_rfl) (by kernel_rfl) (by kernel_rfl) ?_)
 go_region
 go_wp2_with (fail)
 refine bodyPost_ret (v:=.tuple #[.int .i64 r,.int .i64 m]) ?_ rfl ⟨rfl,by first | exact HB.out | (have h:=HB.out; rw [← HW3.out] at h; exact h.drew)⟩
 rw [← HR.out,← HM.out]
 simp [results,Tryz.results8,go_sem,effK,effM]
 try omega
theorem reffect_6 (n : Nat) (hn : n ≤ 16777215) (b : Int) (c : Cod) (w : World) :
  Calls Tryz.prog 8 #[.agg #[.int .i64 6,.int .i64 (n : Int),.int .i64 b],codA c] w fun e w'=>e = .returned (.tuple #[.int .i64 (effK 6 n (frV c.ps n)),.int .i64 (effM 6)])∧Below w.heap.size w w':=by
 obtain ⟨W3,hW3,hb,ho,ho1,ho2,ho3⟩:=reff_world 6 n b c w
 obtain ⟨r,hr⟩ : ∃ r,effK 6 n (frV c.ps n) = r:=⟨_,rfl⟩
 obtain ⟨m,hm⟩ : ∃ m,effM 6 = m:=⟨_,rfl⟩
 rw [hr,hm]
 have y0 : ((((w.alloc (.cells #[.int .i64 6,.int .i64 (n : Int),.int .i64 b] 23 (0,0))).alloc (.cells #[.slice c.PB c.ps.length c.pc,.slice c.CB c.kids.len c.cc,.slice c.GB c.gs.length c.gc] 28 (0,0))).alloc tkO).alloc puO).cell? ⟨w.heap.size + 1 + 1,6,none⟩ = some (.int .i64 1):=by rw [show _ = W3 from hW3]; exact ob_cell ho2 6
 have y1 : ((((w.alloc (.cells #[.int .i64 6,.int .i64 (n : Int),.int .i64 b] 23 (0,0))).alloc (.cells #[.slice c.PB c.ps.length c.pc,.slice c.CB c.kids.len c.cc,.slice c.GB c.gs.length c.gc] 28 (0,0))).alloc tkO).alloc puO).cell? ⟨w.heap.size + 1 + 1 + 1,6,none⟩ = some (.int .i64 0):=by rw [show _ = W3 from hW3]; exact ob_cell ho3 6
 have HB:=Lib.hid hb
 have HW3:=Lib.hid hW3
 have HR:=Lib.hid hr
 have HM:=Lib.hid hm
 clear hW3 hb ho ho1 ho2 ho3 hr hm
 go_enter Tryz.func8,Tryz.ntmps8
 go_wp2_with (first
  | with_reducible refine wpList_build_at rfl 56 _ rfl (some 9) rfl tkC (by kernel_rfl) ?_
  | with_reducible refine wpList_build_at rfl 56 _ rfl (some 10) rfl puC (by kernel_rfl) ?_
  | with_reducible refine wpList_store_new rfl 56 (.tmp 6) (.tmp 9) rfl tkC _ _ (w.heap.size + 1 + 1) (by simp) (by kernel_rfl) (by kernel_rfl) (by kernel_rfl) (by kernel_rfl) (by kernel_rfl) ?_
  | with_reducible refine wpList_store_new rfl 56 (.tmp 7) (.tmp 10) rfl puC _ _ (w.heap.size + 1 + 1 + 1) (by simp) (by kernel_rfl) (by kernel_rfl) (by kernel_rfl) (by kernel_rfl) (by kernel_rfl) ?_)
 go_region
 go_wp2_with (fail)
 refine bodyPost_ret (v:=.tuple #[.int .i64 r,.int .i64 m]) ?_ rfl ⟨rfl,by first | exact HB.out | (have h:=HB.out; rw [← HW3.out] at h; exact h.drew)⟩
 rw [← HR.out,← HM.out]
 simp [results,Tryz.results8,go_sem,effK,effM]
 try omega
theorem reffect_7 (n : Nat) (hn : n ≤ 16777215) (b : Int) (c : Cod) (w : World) :
  Calls Tryz.prog 8 #[.agg #[.int .i64 7,.int .i64 (n : Int),.int .i64 b],codA c] w fun e w'=>e = .returned (.tuple #[.int .i64 (effK 7 n (frV c.ps n)),.int .i64 (effM 7)])∧Below w.heap.size w w':=by
 obtain ⟨W3,hW3,hb,ho,ho1,ho2,ho3⟩:=reff_world 7 n b c w
 obtain ⟨r,hr⟩ : ∃ r,effK 7 n (frV c.ps n) = r:=⟨_,rfl⟩
 obtain ⟨m,hm⟩ : ∃ m,effM 7 = m:=⟨_,rfl⟩
 rw [hr,hm]
 have y0 : ((((w.alloc (.cells #[.int .i64 7,.int .i64 (n : Int),.int .i64 b] 23 (0,0))).alloc (.cells #[.slice c.PB c.ps.length c.pc,.slice c.CB c.kids.len c.cc,.slice c.GB c.gs.length c.gc] 28 (0,0))).alloc tkO).alloc puO).cell? ⟨w.heap.size + 1 + 1,7,none⟩ = some (.int .i64 1):=by rw [show _ = W3 from hW3]; exact ob_cell ho2 7
 have y1 : ((((w.alloc (.cells #[.int .i64 7,.int .i64 (n : Int),.int .i64 b] 23 (0,0))).alloc (.cells #[.slice c.PB c.ps.length c.pc,.slice c.CB c.kids.len c.cc,.slice c.GB c.gs.length c.gc] 28 (0,0))).alloc tkO).alloc puO).cell? ⟨w.heap.size + 1 + 1 + 1,7,none⟩ = some (.int .i64 1):=by rw [show _ = W3 from hW3]; exact ob_cell ho3 7
 have HB:=Lib.hid hb
 have HW3:=Lib.hid hW3
 have HR:=Lib.hid hr
 have HM:=Lib.hid hm
 clear hW3 hb ho ho1 ho2 ho3 hr hm
 go_enter Tryz.func8,Tryz.ntmps8
 go_wp2_with (first
  | with_reducible refine wpList_build_at rfl 56 _ rfl (some 9) rfl tkC (by kernel_rfl) ?_
  | with_reducible refine wpList_build_at rfl 56 _ rfl (some 10) rfl puC (by kernel_rfl) ?_
  | with_reducible refine wpList_store_new rfl 56 (.tmp 6) (.tmp 9) rfl tkC _ _ (w.heap.size + 1 + 1) (by simp) (by kernel_rfl) (by kernel_rfl) (by kernel_rfl) (by kernel_rfl) (by kernel_rfl) ?_
  | with_reducible refine wpList_store_new rfl 56 (.tmp 7) (.tmp 10) rfl puC _ _ (w.heap.size + 1 + 1 + 1) (by simp) (by kernel_rfl) (by kernel_rfl) (by kernel_rfl) (by kernel_rfl) (by kernel_rfl) ?_)
 go_region
 go_wp2_with (fail)
 refine bodyPost_ret (v:=.tuple #[.int .i64 r,.int .i64 m]) ?_ rfl ⟨rfl,by first | exact HB.out | (have h:=HB.out; rw [← HW3.out] at h; exact h.drew)⟩
 rw [← HR.out,← HM.out]
 simp [results,Tryz.results8,go_sem,effK,effM]
 try omega
theorem reffect_8 (n : Nat) (hn : n ≤ 16777215) (b : Int) (c : Cod) (w : World) :
  Calls Tryz.prog 8 #[.agg #[.int .i64 8,.int .i64 (n : Int),.int .i64 b],codA c] w fun e w'=>e = .returned (.tuple #[.int .i64 (effK 8 n (frV c.ps n)),.int .i64 (effM 8)])∧Below w.heap.size w w':=by
 obtain ⟨W3,hW3,hb,ho,ho1,ho2,ho3⟩:=reff_world 8 n b c w
 obtain ⟨r,hr⟩ : ∃ r,effK 8 n (frV c.ps n) = r:=⟨_,rfl⟩
 obtain ⟨m,hm⟩ : ∃ m,effM 8 = m:=⟨_,rfl⟩
 rw [hr,hm]
 have y0 : ((((w.alloc (.cells #[.int .i64 8,.int .i64 (n : Int),.int .i64 b] 23 (0,0))).alloc (.cells #[.slice c.PB c.ps.length c.pc,.slice c.CB c.kids.len c.cc,.slice c.GB c.gs.length c.gc] 28 (0,0))).alloc tkO).alloc puO).cell? ⟨w.heap.size + 1 + 1,8,none⟩ = some (.int .i64 1):=by rw [show _ = W3 from hW3]; exact ob_cell ho2 8
 have y1 : ((((w.alloc (.cells #[.int .i64 8,.int .i64 (n : Int),.int .i64 b] 23 (0,0))).alloc (.cells #[.slice c.PB c.ps.length c.pc,.slice c.CB c.kids.len c.cc,.slice c.GB c.gs.length c.gc] 28 (0,0))).alloc tkO).alloc puO).cell? ⟨w.heap.size + 1 + 1 + 1,8,none⟩ = some (.int .i64 1):=by rw [show _ = W3 from hW3]; exact ob_cell ho3 8
 have HB:=Lib.hid hb
 have HW3:=Lib.hid hW3
 have HR:=Lib.hid hr
 have HM:=Lib.hid hm
 clear hW3 hb ho ho1 ho2 ho3 hr hm
 go_enter Tryz.func8,Tryz.ntmps8
 go_wp2_with (first
  | with_reducible refine wpList_build_at rfl 56 _ rfl (some 9) rfl tkC (by kernel_rfl) ?_
  | with_reducible refine wpList_build_at rfl 56 _ rfl (some 10) rfl puC (by kernel_rfl) ?_
  | with_reducible refine wpList_store_new rfl 56 (.tmp 6) (.tmp 9) rfl tkC _ _ (w.heap.size + 1 + 1) (by simp) (by kernel_rfl) (by kernel_rfl) (by kernel_rfl) (by kernel_rfl) (by kernel_rfl) ?_
  | with_reducible refine wpList_store_new rfl 56 (.tmp 7) (.tmp 10) rfl puC _ _ (w.heap.size + 1 + 1 + 1) (by simp) (by kernel_rfl) (by kernel_rfl) (by kernel_rfl) (by kernel_rfl) (by kernel_rfl) ?_)
 go_region
 go_wp2_with (fail)
 refine bodyPost_ret (v:=.tuple #[.int .i64 r,.int .i64 m]) ?_ rfl ⟨rfl,by first | exact HB.out | (have h:=HB.out; rw [← HW3.out] at h; exact h.drew)⟩
 rw [← HR.out,← HM.out]
 simp [results,Tryz.results8,go_sem,effK,effM]
 try omega
theorem reffect_9 (n : Nat) (hn : n ≤ 16777215) (b : Int) (c : Cod) (w : World) :
  Calls Tryz.prog 8 #[.agg #[.int .i64 9,.int .i64 (n : Int),.int .i64 b],codA c] w fun e w'=>e = .returned (.tuple #[.int .i64 (effK 9 n (frV c.ps n)),.int .i64 (effM 9)])∧Below w.heap.size w w':=by
 obtain ⟨W3,hW3,hb,ho,ho1,ho2,ho3⟩:=reff_world 9 n b c w
 obtain ⟨r,hr⟩ : ∃ r,effK 9 n (frV c.ps n) = r:=⟨_,rfl⟩
 obtain ⟨m,hm⟩ : ∃ m,effM 9 = m:=⟨_,rfl⟩
 rw [hr,hm]
 have y0 : ((((w.alloc (.cells #[.int .i64 9,.int .i64 (n : Int),.int .i64 b] 23 (0,0))).alloc (.cells #[.slice c.PB c.ps.length c.pc,.slice c.CB c.kids.len c.cc,.slice c.GB c.gs.length c.gc] 28 (0,0))).alloc tkO).alloc puO).cell? ⟨w.heap.size + 1 + 1,9,none⟩ = some (.int .i64 2):=by rw [show _ = W3 from hW3]; exact ob_cell ho2 9
 have y1 : ((((w.alloc (.cells #[.int .i64 9,.int .i64 (n : Int),.int .i64 b] 23 (0,0))).alloc (.cells #[.slice c.PB c.ps.length c.pc,.slice c.CB c.kids.len c.cc,.slice c.GB c.gs.length c.gc] 28 (0,0))).alloc tkO).alloc puO).cell? ⟨w.heap.size + 1 + 1 + 1,9,none⟩ = some (.int .i64 0):=by rw [show _ = W3 from hW3]; exact ob_cell ho3 9
 have HB:=Lib.hid hb
 have HW3:=Lib.hid hW3
 have HR:=Lib.hid hr
 have HM:=Lib.hid hm
 clear hW3 hb ho ho1 ho2 ho3 hr hm
 go_enter Tryz.func8,Tryz.ntmps8
 go_wp2_with (first
  | with_reducible refine wpList_build_at rfl 56 _ rfl (some 9) rfl tkC (by kernel_rfl) ?_
  | with_reducible refine wpList_build_at rfl 56 _ rfl (some 10) rfl puC (by kernel_rfl) ?_
  | with_reducible refine wpList_store_new rfl 56 (.tmp 6) (.tmp 9) rfl tkC _ _ (w.heap.size + 1 + 1) (by simp) (by kernel_rfl) (by kernel_rfl) (by kernel_rfl) (by kernel_rfl) (by kernel_rfl) ?_
  | with_reducible refine wpList_store_new rfl 56 (.tmp 7) (.tmp 10) rfl puC _ _ (w.heap.size + 1 + 1 + 1) (by simp) (by kernel_rfl) (by kernel_rfl) (by kernel_rfl) (by kernel_rfl) (by kernel_rfl) ?_)
 go_region
 go_wp2_with (fail)
 refine bodyPost_ret (v:=.tuple #[.int .i64 r,.int .i64 m]) ?_ rfl ⟨rfl,by first | exact HB.out | (have h:=HB.out; rw [← HW3.out] at h; exact h.drew)⟩
 rw [← HR.out,← HM.out]
 simp [results,Tryz.results8,go_sem,effK,effM]
 try omega
theorem reffect_11 (n : Nat) (hn : n ≤ 16777215) (b : Int) (c : Cod) (w : World) :
  Calls Tryz.prog 8 #[.agg #[.int .i64 11,.int .i64 (n : Int),.int .i64 b],codA c] w fun e w'=>e = .returned (.tuple #[.int .i64 (effK 11 n (frV c.ps n)),.int .i64 (effM 11)])∧Below w.heap.size w w':=by
 obtain ⟨W3,hW3,hb,ho,ho1,ho2,ho3⟩:=reff_world 11 n b c w
 obtain ⟨r,hr⟩ : ∃ r,effK 11 n (frV c.ps n) = r:=⟨_,rfl⟩
 obtain ⟨m,hm⟩ : ∃ m,effM 11 = m:=⟨_,rfl⟩
 rw [hr,hm]
 have y0 : ((((w.alloc (.cells #[.int .i64 11,.int .i64 (n : Int),.int .i64 b] 23 (0,0))).alloc (.cells #[.slice c.PB c.ps.length c.pc,.slice c.CB c.kids.len c.cc,.slice c.GB c.gs.length c.gc] 28 (0,0))).alloc tkO).alloc puO).cell? ⟨w.heap.size + 1 + 1,11,none⟩ = some (.int .i64 0):=by rw [show _ = W3 from hW3]; exact ob_cell ho2 11
 have y1 : ((((w.alloc (.cells #[.int .i64 11,.int .i64 (n : Int),.int .i64 b] 23 (0,0))).alloc (.cells #[.slice c.PB c.ps.length c.pc,.slice c.CB c.kids.len c.cc,.slice c.GB c.gs.length c.gc] 28 (0,0))).alloc tkO).alloc puO).cell? ⟨w.heap.size + 1 + 1 + 1,11,none⟩ = some (.int .i64 0):=by rw [show _ = W3 from hW3]; exact ob_cell ho3 11
 have HB:=Lib.hid hb
 have HW3:=Lib.hid hW3
 have HR:=Lib.hid hr
 have HM:=Lib.hid hm
 clear hW3 hb ho ho1 ho2 ho3 hr hm
 go_enter Tryz.func8,Tryz.ntmps8
 go_wp2_with (first
  | with_reducible refine wpList_build_at rfl 56 _ rfl (some 9) rfl tkC (by kernel_rfl) ?_
  | with_reducible refine wpList_build_at rfl 56 _ rfl (some 10) rfl puC (by kernel_rfl) ?_
  | with_reducible refine wpList_store_new rfl 56 (.tmp 6) (.tmp 9) rfl tkC _ _ (w.heap.size + 1 + 1) (by simp) (by kernel_rfl) (by kernel_rfl) (by kernel_rfl) (by kernel_rfl) (by kernel_rfl) ?_
  | with_reducible refine wpList_store_new rfl 56 (.tmp 7) (.tmp 10) rfl puC _ _ (w.heap.size + 1 + 1 + 1) (by simp) (by kernel_rfl) (by kernel_rfl) (by kernel_rfl) (by kernel_rfl) (by kernel_rfl) ?_)
 go_region
 go_wp2_with (fail)
 refine bodyPost_ret (v:=.tuple #[.int .i64 r,.int .i64 m]) ?_ rfl ⟨rfl,by first | exact HB.out | (have h:=HB.out; rw [← HW3.out] at h; exact h.drew)⟩
 rw [← HR.out,← HM.out]
 simp [results,Tryz.results8,go_sem,effK,effM]
 try omega
theorem reffect_12 (n : Nat) (hn : n ≤ 16777215) (b : Int) (c : Cod) (w : World) :
  Calls Tryz.prog 8 #[.agg #[.int .i64 12,.int .i64 (n : Int),.int .i64 b],codA c] w fun e w'=>e = .returned (.tuple #[.int .i64 (effK 12 n (frV c.ps n)),.int .i64 (effM 12)])∧Below w.heap.size w w':=by
 obtain ⟨W3,hW3,hb,ho,ho1,ho2,ho3⟩:=reff_world 12 n b c w
 obtain ⟨r,hr⟩ : ∃ r,effK 12 n (frV c.ps n) = r:=⟨_,rfl⟩
 obtain ⟨m,hm⟩ : ∃ m,effM 12 = m:=⟨_,rfl⟩
 rw [hr,hm]
 have y0 : ((((w.alloc (.cells #[.int .i64 12,.int .i64 (n : Int),.int .i64 b] 23 (0,0))).alloc (.cells #[.slice c.PB c.ps.length c.pc,.slice c.CB c.kids.len c.cc,.slice c.GB c.gs.length c.gc] 28 (0,0))).alloc tkO).alloc puO).cell? ⟨w.heap.size + 1 + 1,12,none⟩ = some (.int .i64 1):=by rw [show _ = W3 from hW3]; exact ob_cell ho2 12
 have y1 : ((((w.alloc (.cells #[.int .i64 12,.int .i64 (n : Int),.int .i64 b] 23 (0,0))).alloc (.cells #[.slice c.PB c.ps.length c.pc,.slice c.CB c.kids.len c.cc,.slice c.GB c.gs.length c.gc] 28 (0,0))).alloc tkO).alloc puO).cell? ⟨w.heap.size + 1 + 1 + 1,12,none⟩ = some (.int .i64 0):=by rw [show _ = W3 from hW3]; exact ob_cell ho3 12
 have HB:=Lib.hid hb
 have HW3:=Lib.hid hW3
 have HR:=Lib.hid hr
 have HM:=Lib.hid hm
 clear hW3 hb ho ho1 ho2 ho3 hr hm
 go_enter Tryz.func8,Tryz.ntmps8
 go_wp2_with (first
  | with_reducible refine wpList_build_at rfl 56 _ rfl (some 9) rfl tkC (by kernel_rfl) ?_
  | with_reducible refine wpList_build_at rfl 56 _ rfl (some 10) rfl puC (by kernel_rfl) ?_
  | with_reducible refine wpList_store_new rfl 56 (.tmp 6) (.tmp 9) rfl tkC _ _ (w.heap.size + 1 + 1) (by simp) (by kernel_rfl) (by kernel_rfl) (by kernel_rfl) (by kernel_rfl) (by kernel_rfl) ?_
  | with_reducible refine wpList_store_new rfl 56 (.tmp 7) (.tmp 10) rfl puC _ _ (w.heap.size + 1 + 1 + 1) (by simp) (by kernel_rfl) (by kernel_rfl) (by kernel_rfl) (by kernel_rfl) (by kernel_rfl) ?_)
 go_region
 go_wp2_with (fail)
 refine bodyPost_ret (v:=.tuple #[.int .i64 r,.int .i64 m]) ?_ rfl ⟨rfl,by first | exact HB.out | (have h:=HB.out; rw [← HW3.out] at h; exact h.drew)⟩
 rw [← HR.out,← HM.out]
 simp [results,Tryz.results8,go_sem,effK,effM]
 try omega
theorem reffect_13 (n : Nat) (hn : n ≤ 16777215) (b : Int) (c : Cod) (w : World) :
  Calls Tryz.prog 8 #[.agg #[.int .i64 13,.int .i64 (n : Int),.int .i64 b],codA c] w fun e w'=>e = .returned (.tuple #[.int .i64 (effK 13 n (frV c.ps n)),.int .i64 (effM 13)])∧Below w.heap.size w w':=by
 obtain ⟨W3,hW3,hb,ho,ho1,ho2,ho3⟩:=reff_world 13 n b c w
 obtain ⟨r,hr⟩ : ∃ r,effK 13 n (frV c.ps n) = r:=⟨_,rfl⟩
 obtain ⟨m,hm⟩ : ∃ m,effM 13 = m:=⟨_,rfl⟩
 rw [hr,hm]
 have y0 : ((((w.alloc (.cells #[.int .i64 13,.int .i64 (n : Int),.int .i64 b] 23 (0,0))).alloc (.cells #[.slice c.PB c.ps.length c.pc,.slice c.CB c.kids.len c.cc,.slice c.GB c.gs.length c.gc] 28 (0,0))).alloc tkO).alloc puO).cell? ⟨w.heap.size + 1 + 1,13,none⟩ = some (.int .i64 0):=by rw [show _ = W3 from hW3]; exact ob_cell ho2 13
 have y1 : ((((w.alloc (.cells #[.int .i64 13,.int .i64 (n : Int),.int .i64 b] 23 (0,0))).alloc (.cells #[.slice c.PB c.ps.length c.pc,.slice c.CB c.kids.len c.cc,.slice c.GB c.gs.length c.gc] 28 (0,0))).alloc tkO).alloc puO).cell? ⟨w.heap.size + 1 + 1 + 1,13,none⟩ = some (.int .i64 1):=by rw [show _ = W3 from hW3]; exact ob_cell ho3 13
 have HB:=Lib.hid hb
 have HW3:=Lib.hid hW3
 have HR:=Lib.hid hr
 have HM:=Lib.hid hm
 clear hW3 hb ho ho1 ho2 ho3 hr hm
 go_enter Tryz.func8,Tryz.ntmps8
 go_wp2_with (first
  | with_reducible refine wpList_build_at rfl 56 _ rfl (some 9) rfl tkC (by kernel_rfl) ?_
  | with_reducible refine wpList_build_at rfl 56 _ rfl (some 10) rfl puC (by kernel_rfl) ?_
  | with_reducible refine wpList_store_new rfl 56 (.tmp 6) (.tmp 9) rfl tkC _ _ (w.heap.size + 1 + 1) (by simp) (by kernel_rfl) (by kernel_rfl) (by kernel_rfl) (by kernel_rfl) (by kernel_rfl) ?_
  | with_reducible refine wpList_store_new rfl 56 (.tmp 7) (.tmp 10) rfl puC _ _ (w.heap.size + 1 + 1 + 1) (by simp) (by kernel_rfl) (by kernel_rfl) (by kernel_rfl) (by kernel_rfl) (by kernel_rfl) ?_)
 go_region
 go_wp2_with (fail)
 refine bodyPost_ret (v:=.tuple #[.int .i64 r,.int .i64 m]) ?_ rfl ⟨rfl,by first | exact HB.out | (have h:=HB.out; rw [← HW3.out] at h; exact h.drew)⟩
 rw [← HR.out,← HM.out]
 simp [results,Tryz.results8,go_sem,effK,effM]
 try omega
theorem reffect_14 (n : Nat) (hn : n ≤ 16777215) (b : Int) (c : Cod) (w : World) :
  Calls Tryz.prog 8 #[.agg #[.int .i64 14,.int .i64 (n : Int),.int .i64 b],codA c] w fun e w'=>e = .returned (.tuple #[.int .i64 (effK 14 n (frV c.ps n)),.int .i64 (effM 14)])∧Below w.heap.size w w':=by
 obtain ⟨W3,hW3,hb,ho,ho1,ho2,ho3⟩:=reff_world 14 n b c w
 obtain ⟨r,hr⟩ : ∃ r,effK 14 n (frV c.ps n) = r:=⟨_,rfl⟩
 obtain ⟨m,hm⟩ : ∃ m,effM 14 = m:=⟨_,rfl⟩
 rw [hr,hm]
 have y0 : ((((w.alloc (.cells #[.int .i64 14,.int .i64 (n : Int),.int .i64 b] 23 (0,0))).alloc (.cells #[.slice c.PB c.ps.length c.pc,.slice c.CB c.kids.len c.cc,.slice c.GB c.gs.length c.gc] 28 (0,0))).alloc tkO).alloc puO).cell? ⟨w.heap.size + 1 + 1,14,none⟩ = some (.int .i64 0):=by rw [show _ = W3 from hW3]; exact ob_cell ho2 14
 have y1 : ((((w.alloc (.cells #[.int .i64 14,.int .i64 (n : Int),.int .i64 b] 23 (0,0))).alloc (.cells #[.slice c.PB c.ps.length c.pc,.slice c.CB c.kids.len c.cc,.slice c.GB c.gs.length c.gc] 28 (0,0))).alloc tkO).alloc puO).cell? ⟨w.heap.size + 1 + 1 + 1,14,none⟩ = some (.int .i64 0):=by rw [show _ = W3 from hW3]; exact ob_cell ho3 14
 have HB:=Lib.hid hb
 have HW3:=Lib.hid hW3
 have HR:=Lib.hid hr
 have HM:=Lib.hid hm
 clear hW3 hb ho ho1 ho2 ho3 hr hm
 go_enter Tryz.func8,Tryz.ntmps8
 go_wp2_with (first
  | with_reducible refine wpList_build_at rfl 56 _ rfl (some 9) rfl tkC (by kernel_rfl) ?_
  | with_reducible refine wpList_build_at rfl 56 _ rfl (some 10) rfl puC (by kernel_rfl) ?_
  | with_reducible refine wpList_store_new rfl 56 (.tmp 6) (.tmp 9) rfl tkC _ _ (w.heap.size + 1 + 1) (by simp) (by kernel_rfl) (by kernel_rfl) (by kernel_rfl) (by kernel_rfl) (by kernel_rfl) ?_
  | with_reducible refine wpList_store_new rfl 56 (.tmp 7) (.tmp 10) rfl puC _ _ (w.heap.size + 1 + 1 + 1) (by simp) (by kernel_rfl) (by kernel_rfl) (by kernel_rfl) (by kernel_rfl) (by kernel_rfl) ?_)
 go_region
 go_wp2_with (fail)
 refine bodyPost_ret (v:=.tuple #[.int .i64 r,.int .i64 m]) ?_ rfl ⟨rfl,by first | exact HB.out | (have h:=HB.out; rw [← HW3.out] at h; exact h.drew)⟩
 rw [← HR.out,← HM.out]
 simp [results,Tryz.results8,go_sem,effK,effM]
 try omega
theorem reffect_15 (n : Nat) (hn : n ≤ 16777215) (b : Int) (c : Cod) (w : World) :
  Calls Tryz.prog 8 #[.agg #[.int .i64 15,.int .i64 (n : Int),.int .i64 b],codA c] w fun e w'=>e = .returned (.tuple #[.int .i64 (effK 15 n (frV c.ps n)),.int .i64 (effM 15)])∧Below w.heap.size w w':=by
 obtain ⟨W3,hW3,hb,ho,ho1,ho2,ho3⟩:=reff_world 15 n b c w
 obtain ⟨r,hr⟩ : ∃ r,effK 15 n (frV c.ps n) = r:=⟨_,rfl⟩
 obtain ⟨m,hm⟩ : ∃ m,effM 15 = m:=⟨_,rfl⟩
 rw [hr,hm]
 have y0 : ((((w.alloc (.cells #[.int .i64 15,.int .i64 (n : Int),.int .i64 b] 23 (0,0))).alloc (.cells #[.slice c.PB c.ps.length c.pc,.slice c.CB c.kids.len c.cc,.slice c.GB c.gs.length c.gc] 28 (0,0))).alloc tkO).alloc puO).cell? ⟨w.heap.size + 1 + 1,15,none⟩ = some (.int .i64 1):=by rw [show _ = W3 from hW3]; exact ob_cell ho2 15
 have y1 : ((((w.alloc (.cells #[.int .i64 15,.int .i64 (n : Int),.int .i64 b] 23 (0,0))).alloc (.cells #[.slice c.PB c.ps.length c.pc,.slice c.CB c.kids.len c.cc,.slice c.GB c.gs.length c.gc] 28 (0,0))).alloc tkO).alloc puO).cell? ⟨w.heap.size + 1 + 1 + 1,15,none⟩ = some (.int .i64 0):=by rw [show _ = W3 from hW3]; exact ob_cell ho3 15
 have HB:=Lib.hid hb
 have HW3:=Lib.hid hW3
 have HR:=Lib.hid hr
 have HM:=Lib.hid hm
 clear hW3 hb ho ho1 ho2 ho3 hr hm
 go_enter Tryz.func8,Tryz.ntmps8
 go_wp2_with (first
  | with_reducible refine wpList_build_at rfl 56 _ rfl (some 9) rfl tkC (by kernel_rfl) ?_
  | with_reducible refine wpList_build_at rfl 56 _ rfl (some 10) rfl puC (by kernel_rfl) ?_
  | with_reducible refine wpList_store_new rfl 56 (.tmp 6) (.tmp 9) rfl tkC _ _ (w.heap.size + 1 + 1) (by simp) (by kernel_rfl) (by kernel_rfl) (by kernel_rfl) (by kernel_rfl) (by kernel_rfl) ?_
  | with_reducible refine wpList_store_new rfl 56 (.tmp 7) (.tmp 10) rfl puC _ _ (w.heap.size + 1 + 1 + 1) (by simp) (by kernel_rfl) (by kernel_rfl) (by kernel_rfl) (by kernel_rfl) (by kernel_rfl) ?_)
 go_region
 go_wp2_with (fail)
 refine bodyPost_ret (v:=.tuple #[.int .i64 r,.int .i64 m]) ?_ rfl ⟨rfl,by first | exact HB.out | (have h:=HB.out; rw [← HW3.out] at h; exact h.drew)⟩
 rw [← HR.out,← HM.out]
 simp [results,Tryz.results8,go_sem,effK,effM]
 try omega
theorem reffect_16 (n : Nat) (hn : n ≤ 16777215) (b : Int) (c : Cod) (w : World) :
  Calls Tryz.prog 8 #[.agg #[.int .i64 16,.int .i64 (n : Int),.int .i64 b],codA c] w fun e w'=>e = .returned (.tuple #[.int .i64 (effK 16 n (frV c.ps n)),.int .i64 (effM 16)])∧Below w.heap.size w w':=by
 obtain ⟨W3,hW3,hb,ho,ho1,ho2,ho3⟩:=reff_world 16 n b c w
 obtain ⟨r,hr⟩ : ∃ r,effK 16 n (frV c.ps n) = r:=⟨_,rfl⟩
 obtain ⟨m,hm⟩ : ∃ m,effM 16 = m:=⟨_,rfl⟩
 rw [hr,hm]
 have y0 : ((((w.alloc (.cells #[.int .i64 16,.int .i64 (n : Int),.int .i64 b] 23 (0,0))).alloc (.cells #[.slice c.PB c.ps.length c.pc,.slice c.CB c.kids.len c.cc,.slice c.GB c.gs.length c.gc] 28 (0,0))).alloc tkO).alloc puO).cell? ⟨w.heap.size + 1 + 1,16,none⟩ = some (.int .i64 1):=by rw [show _ = W3 from hW3]; exact ob_cell ho2 16
 have y1 : ((((w.alloc (.cells #[.int .i64 16,.int .i64 (n : Int),.int .i64 b] 23 (0,0))).alloc (.cells #[.slice c.PB c.ps.length c.pc,.slice c.CB c.kids.len c.cc,.slice c.GB c.gs.length c.gc] 28 (0,0))).alloc tkO).alloc puO).cell? ⟨w.heap.size + 1 + 1 + 1,16,none⟩ = some (.int .i64 0):=by rw [show _ = W3 from hW3]; exact ob_cell ho3 16
 have HB:=Lib.hid hb
 have HW3:=Lib.hid hW3
 have HR:=Lib.hid hr
 have HM:=Lib.hid hm
 clear hW3 hb ho ho1 ho2 ho3 hr hm
 go_enter Tryz.func8,Tryz.ntmps8
 go_wp2_with (first
  | with_reducible refine wpList_build_at rfl 56 _ rfl (some 9) rfl tkC (by kernel_rfl) ?_
  | with_reducible refine wpList_build_at rfl 56 _ rfl (some 10) rfl puC (by kernel_rfl) ?_
  | with_reducible refine wpList_store_new rfl 56 (.tmp 6) (.tmp 9) rfl tkC _ _ (w.heap.size + 1 + 1) (by simp) (by kernel_rfl) (by kernel_rfl) (by kernel_rfl) (by kernel_rfl) (by kernel_rfl) ?_
  | with_reducible refine wpList_store_new rfl 56 (.tmp 7) (.tmp 10) rfl puC _ _ (w.heap.size + 1 + 1 + 1) (by simp) (by kernel_rfl) (by kernel_rfl) (by kernel_rfl) (by kernel_rfl) (by kernel_rfl) ?_)
 go_region
 go_wp2_with (fail)
 refine bodyPost_ret (v:=.tuple #[.int .i64 r,.int .i64 m]) ?_ rfl ⟨rfl,by first | exact HB.out | (have h:=HB.out; rw [← HW3.out] at h; exact h.drew)⟩
 rw [← HR.out,← HM.out]
 simp [results,Tryz.results8,go_sem,effK,effM]
 try omega
theorem reffect_17 (n : Nat) (hn : n ≤ 16777215) (b : Int) (c : Cod) (w : World) :
  Calls Tryz.prog 8 #[.agg #[.int .i64 17,.int .i64 (n : Int),.int .i64 b],codA c] w fun e w'=>e = .returned (.tuple #[.int .i64 (effK 17 n (frV c.ps n)),.int .i64 (effM 17)])∧Below w.heap.size w w':=by
 obtain ⟨W3,hW3,hb,ho,ho1,ho2,ho3⟩:=reff_world 17 n b c w
 obtain ⟨r,hr⟩ : ∃ r,effK 17 n (frV c.ps n) = r:=⟨_,rfl⟩
 obtain ⟨m,hm⟩ : ∃ m,effM 17 = m:=⟨_,rfl⟩
 rw [hr,hm]
 have y0 : ((((w.alloc (.cells #[.int .i64 17,.int .i64 (n : Int),.int .i64 b] 23 (0,0))).alloc (.cells #[.slice c.PB c.ps.length c.pc,.slice c.CB c.kids.len c.cc,.slice c.GB c.gs.length c.gc] 28 (0,0))).alloc tkO).alloc puO).cell? ⟨w.heap.size + 1 + 1,17,none⟩ = some (.int .i64 0):=by rw [show _ = W3 from hW3]; exact ob_cell ho2 17
 have y1 : ((((w.alloc (.cells #[.int .i64 17,.int .i64 (n : Int),.int .i64 b] 23 (0,0))).alloc (.cells #[.slice c.PB c.ps.length c.pc,.slice c.CB c.kids.len c.cc,.slice c.GB c.gs.length c.gc] 28 (0,0))).alloc tkO).alloc puO).cell? ⟨w.heap.size + 1 + 1 + 1,17,none⟩ = some (.int .i64 1):=by rw [show _ = W3 from hW3]; exact ob_cell ho3 17
 have HB:=Lib.hid hb
 have HW3:=Lib.hid hW3
 have HR:=Lib.hid hr
 have HM:=Lib.hid hm
 clear hW3 hb ho ho1 ho2 ho3 hr hm
 go_enter Tryz.func8,Tryz.ntmps8
 go_wp2_with (first
  | with_reducible refine wpList_build_at rfl 56 _ rfl (some 9) rfl tkC (by kernel_rfl) ?_
  | with_reducible refine wpList_build_at rfl 56 _ rfl (some 10) rfl puC (by kernel_rfl) ?_
  | with_reducible refine wpList_store_new rfl 56 (.tmp 6) (.tmp 9) rfl tkC _ _ (w.heap.size + 1 + 1) (by simp) (by kernel_rfl) (by kernel_rfl) (by kernel_rfl) (by kernel_rfl) (by kernel_rfl) ?_
  | with_reducible refine wpList_store_new rfl 56 (.tmp 7) (.tmp 10) rfl puC _ _ (w.heap.size + 1 + 1 + 1) (by simp) (by kernel_rfl) (by kernel_rfl) (by kernel_rfl) (by kernel_rfl) (by kernel_rfl) ?_)
 go_region
 go_wp2_with (fail)
 refine bodyPost_ret (v:=.tuple #[.int .i64 r,.int .i64 m]) ?_ rfl ⟨rfl,by first | exact HB.out | (have h:=HB.out; rw [← HW3.out] at h; exact h.drew)⟩
 rw [← HR.out,← HM.out]
 simp [results,Tryz.results8,go_sem,effK,effM]
 try omega
theorem reffect_18 (n : Nat) (hn : n ≤ 16777215) (b : Int) (c : Cod) (w : World) :
  Calls Tryz.prog 8 #[.agg #[.int .i64 18,.int .i64 (n : Int),.int .i64 b],codA c] w fun e w'=>e = .returned (.tuple #[.int .i64 (effK 18 n (frV c.ps n)),.int .i64 (effM 18)])∧Below w.heap.size w w':=by
 obtain ⟨W3,hW3,hb,ho,ho1,ho2,ho3⟩:=reff_world 18 n b c w
 obtain ⟨r,hr⟩ : ∃ r,effK 18 n (frV c.ps n) = r:=⟨_,rfl⟩
 obtain ⟨m,hm⟩ : ∃ m,effM 18 = m:=⟨_,rfl⟩
 rw [hr,hm]
 have y0 : ((((w.alloc (.cells #[.int .i64 18,.int .i64 (n : Int),.int .i64 b] 23 (0,0))).alloc (.cells #[.slice c.PB c.ps.length c.pc,.slice c.CB c.kids.len c.cc,.slice c.GB c.gs.length c.gc] 28 (0,0))).alloc tkO).alloc puO).cell? ⟨w.heap.size + 1 + 1,18,none⟩ = some (.int .i64 1):=by rw [show _ = W3 from hW3]; exact ob_cell ho2 18
 have y1 : ((((w.alloc (.cells #[.int .i64 18,.int .i64 (n : Int),.int .i64 b] 23 (0,0))).alloc (.cells #[.slice c.PB c.ps.length c.pc,.slice c.CB c.kids.len c.cc,.slice c.GB c.gs.length c.gc] 28 (0,0))).alloc tkO).alloc puO).cell? ⟨w.heap.size + 1 + 1 + 1,18,none⟩ = some (.int .i64 1):=by rw [show _ = W3 from hW3]; exact ob_cell ho3 18
 have HB:=Lib.hid hb
 have HW3:=Lib.hid hW3
 have HR:=Lib.hid hr
 have HM:=Lib.hid hm
 clear hW3 hb ho ho1 ho2 ho3 hr hm
 go_enter Tryz.func8,Tryz.ntmps8
 go_wp2_with (first
  | with_reducible refine wpList_build_at rfl 56 _ rfl (some 9) rfl tkC (by kernel_rfl) ?_
  | with_reducible refine wpList_build_at rfl 56 _ rfl (some 10) rfl puC (by kernel_rfl) ?_
  | with_reducible refine wpList_store_new rfl 56 (.tmp 6) (.tmp 9) rfl tkC _ _ (w.heap.size + 1 + 1) (by simp) (by kernel_rfl) (by kernel_rfl) (by kernel_rfl) (by kernel_rfl) (by kernel_rfl) ?_
  | with_reducible refine wpList_store_new rfl 56 (.tmp 7) (.tmp 10) rfl puC _ _ (w.heap.size + 1 + 1 + 1) (by simp) (by kernel_rfl) (by kernel_rfl) (by kernel_rfl) (by kernel_rfl) (by kernel_rfl) ?_)
 go_region
 go_wp2_with (fail)
 refine bodyPost_ret (v:=.tuple #[.int .i64 r,.int .i64 m]) ?_ rfl ⟨rfl,by first | exact HB.out | (have h:=HB.out; rw [← HW3.out] at h; exact h.drew)⟩
 rw [← HR.out,← HM.out]
 simp [results,Tryz.results8,go_sem,effK,effM]
 try omega
theorem reffect_19 (n : Nat) (hn : n ≤ 16777215) (b : Int) (c : Cod) (w : World) :
  Calls Tryz.prog 8 #[.agg #[.int .i64 19,.int .i64 (n : Int),.int .i64 b],codA c] w fun e w'=>e = .returned (.tuple #[.int .i64 (effK 19 n (frV c.ps n)),.int .i64 (effM 19)])∧Below w.heap.size w w':=by
 obtain ⟨W3,hW3,hb,ho,ho1,ho2,ho3⟩:=reff_world 19 n b c w
 obtain ⟨r,hr⟩ : ∃ r,effK 19 n (frV c.ps n) = r:=⟨_,rfl⟩
 obtain ⟨m,hm⟩ : ∃ m,effM 19 = m:=⟨_,rfl⟩
 rw [hr,hm]
 have y0 : ((((w.alloc (.cells #[.int .i64 19,.int .i64 (n : Int),.int .i64 b] 23 (0,0))).alloc (.cells #[.slice c.PB c.ps.length c.pc,.slice c.CB c.kids.len c.cc,.slice c.GB c.gs.length c.gc] 28 (0,0))).alloc tkO).alloc puO).cell? ⟨w.heap.size + 1 + 1,19,none⟩ = some (.int .i64 0):=by rw [show _ = W3 from hW3]; exact ob_cell ho2 19
 have y1 : ((((w.alloc (.cells #[.int .i64 19,.int .i64 (n : Int),.int .i64 b] 23 (0,0))).alloc (.cells #[.slice c.PB c.ps.length c.pc,.slice c.CB c.kids.len c.cc,.slice c.GB c.gs.length c.gc] 28 (0,0))).alloc tkO).alloc puO).cell? ⟨w.heap.size + 1 + 1 + 1,19,none⟩ = some (.int .i64 1):=by rw [show _ = W3 from hW3]; exact ob_cell ho3 19
 have HB:=Lib.hid hb
 have HW3:=Lib.hid hW3
 have HR:=Lib.hid hr
 have HM:=Lib.hid hm
 clear hW3 hb ho ho1 ho2 ho3 hr hm
 go_enter Tryz.func8,Tryz.ntmps8
 go_wp2_with (first
  | with_reducible refine wpList_build_at rfl 56 _ rfl (some 9) rfl tkC (by kernel_rfl) ?_
  | with_reducible refine wpList_build_at rfl 56 _ rfl (some 10) rfl puC (by kernel_rfl) ?_
  | with_reducible refine wpList_store_new rfl 56 (.tmp 6) (.tmp 9) rfl tkC _ _ (w.heap.size + 1 + 1) (by simp) (by kernel_rfl) (by kernel_rfl) (by kernel_rfl) (by kernel_rfl) (by kernel_rfl) ?_
  | with_reducible refine wpList_store_new rfl 56 (.tmp 7) (.tmp 10) rfl puC _ _ (w.heap.size + 1 + 1 + 1) (by simp) (by kernel_rfl) (by kernel_rfl) (by kernel_rfl) (by kernel_rfl) (by kernel_rfl) ?_)
 go_region
 go_wp2_with (fail)
 refine bodyPost_ret (v:=.tuple #[.int .i64 r,.int .i64 m]) ?_ rfl ⟨rfl,by first | exact HB.out | (have h:=HB.out; rw [← HW3.out] at h; exact h.drew)⟩
 rw [← HR.out,← HM.out]
 simp [results,Tryz.results8,go_sem,effK,effM]
 try omega
theorem reffect_20 (n : Nat) (hn : n ≤ 16777215) (b : Int) (c : Cod) (w : World) :
  Calls Tryz.prog 8 #[.agg #[.int .i64 20,.int .i64 (n : Int),.int .i64 b],codA c] w fun e w'=>e = .returned (.tuple #[.int .i64 (effK 20 n (frV c.ps n)),.int .i64 (effM 20)])∧Below w.heap.size w w':=by
 obtain ⟨W3,hW3,hb,ho,ho1,ho2,ho3⟩:=reff_world 20 n b c w
 obtain ⟨r,hr⟩ : ∃ r,effK 20 n (frV c.ps n) = r:=⟨_,rfl⟩
 obtain ⟨m,hm⟩ : ∃ m,effM 20 = m:=⟨_,rfl⟩
 rw [hr,hm]
 have y0 : ((((w.alloc (.cells #[.int .i64 20,.int .i64 (n : Int),.int .i64 b] 23 (0,0))).alloc (.cells #[.slice c.PB c.ps.length c.pc,.slice c.CB c.kids.len c.cc,.slice c.GB c.gs.length c.gc] 28 (0,0))).alloc tkO).alloc puO).cell? ⟨w.heap.size + 1 + 1,20,none⟩ = some (.int .i64 0):=by rw [show _ = W3 from hW3]; exact ob_cell ho2 20
 have y1 : ((((w.alloc (.cells #[.int .i64 20,.int .i64 (n : Int),.int .i64 b] 23 (0,0))).alloc (.cells #[.slice c.PB c.ps.length c.pc,.slice c.CB c.kids.len c.cc,.slice c.GB c.gs.length c.gc] 28 (0,0))).alloc tkO).alloc puO).cell? ⟨w.heap.size + 1 + 1 + 1,20,none⟩ = some (.int .i64 1):=by rw [show _ = W3 from hW3]; exact ob_cell ho3 20
 have HB:=Lib.hid hb
 have HW3:=Lib.hid hW3
 have HR:=Lib.hid hr
 have HM:=Lib.hid hm
 clear hW3 hb ho ho1 ho2 ho3 hr hm
 go_enter Tryz.func8,Tryz.ntmps8
 go_wp2_with (first
  | with_reducible refine wpList_build_at rfl 56 _ rfl (some 9) rfl tkC (by kernel_rfl) ?_
  | with_reducible refine wpList_build_at rfl 56 _ rfl (some 10) rfl puC (by kernel_rfl) ?_
  | with_reducible refine wpList_store_new rfl 56 (.tmp 6) (.tmp 9) rfl tkC _ _ (w.heap.size + 1 + 1) (by simp) (by kernel_rfl) (by kernel_rfl) (by kernel_rfl) (by kernel_rfl) (by kernel_rfl) ?_
  | with_reducible refine wpList_store_new rfl 56 (.tmp 7) (.tmp 10) rfl puC _ _ (w.heap.size + 1 + 1 + 1) (by simp) (by kernel_rfl) (by kernel_rfl) (by kernel_rfl) (by kernel_rfl) (by kernel_rfl) ?_)
 go_region
 go_wp2_with (fail)
 refine bodyPost_ret (v:=.tuple #[.int .i64 r,.int .i64 m]) ?_ rfl ⟨rfl,by first | exact HB.out | (have h:=HB.out; rw [← HW3.out] at h; exact h.drew)⟩
 rw [← HR.out,← HM.out]
 simp [results,Tryz.results8,go_sem,effK,effM]
 try omega
theorem reffect_21 (n : Nat) (hn : n ≤ 16777215) (b : Int) (c : Cod) (w : World) :
  Calls Tryz.prog 8 #[.agg #[.int .i64 21,.int .i64 (n : Int),.int .i64 b],codA c] w fun e w'=>e = .returned (.tuple #[.int .i64 (effK 21 n (frV c.ps n)),.int .i64 (effM 21)])∧Below w.heap.size w w':=by
 obtain ⟨W3,hW3,hb,ho,ho1,ho2,ho3⟩:=reff_world 21 n b c w
 obtain ⟨r,hr⟩ : ∃ r,effK 21 n (frV c.ps n) = r:=⟨_,rfl⟩
 obtain ⟨m,hm⟩ : ∃ m,effM 21 = m:=⟨_,rfl⟩
 rw [hr,hm]
 have y0 : ((((w.alloc (.cells #[.int .i64 21,.int .i64 (n : Int),.int .i64 b] 23 (0,0))).alloc (.cells #[.slice c.PB c.ps.length c.pc,.slice c.CB c.kids.len c.cc,.slice c.GB c.gs.length c.gc] 28 (0,0))).alloc tkO).alloc puO).cell? ⟨w.heap.size + 1 + 1,21,none⟩ = some (.int .i64 0):=by rw [show _ = W3 from hW3]; exact ob_cell ho2 21
 have y1 : ((((w.alloc (.cells #[.int .i64 21,.int .i64 (n : Int),.int .i64 b] 23 (0,0))).alloc (.cells #[.slice c.PB c.ps.length c.pc,.slice c.CB c.kids.len c.cc,.slice c.GB c.gs.length c.gc] 28 (0,0))).alloc tkO).alloc puO).cell? ⟨w.heap.size + 1 + 1 + 1,21,none⟩ = some (.int .i64 1):=by rw [show _ = W3 from hW3]; exact ob_cell ho3 21
 have HB:=Lib.hid hb
 have HW3:=Lib.hid hW3
 have HR:=Lib.hid hr
 have HM:=Lib.hid hm
 clear hW3 hb ho ho1 ho2 ho3 hr hm
 go_enter Tryz.func8,Tryz.ntmps8
 go_wp2_with (first
  | with_reducible refine wpList_build_at rfl 56 _ rfl (some 9) rfl tkC (by kernel_rfl) ?_
  | with_reducible refine wpList_build_at rfl 56 _ rfl (some 10) rfl puC (by kernel_rfl) ?_
  | with_reducible refine wpList_store_new rfl 56 (.tmp 6) (.tmp 9) rfl tkC _ _ (w.heap.size + 1 + 1) (by simp) (by kernel_rfl) (by kernel_rfl) (by kernel_rfl) (by kernel_rfl) (by kernel_rfl) ?_
  | with_reducible refine wpList_store_new rfl 56 (.tmp 7) (.tmp 10) rfl puC _ _ (w.heap.size + 1 + 1 + 1) (by simp) (by kernel_rfl) (by kernel_rfl) (by kernel_rfl) (by kernel_rfl) (by kernel_rfl) ?_)
 go_region
 go_wp2_with (fail)
 refine bodyPost_ret (v:=.tuple #[.int .i64 r,.int .i64 m]) ?_ rfl ⟨rfl,by first | exact HB.out | (have h:=HB.out; rw [← HW3.out] at h; exact h.drew)⟩
 rw [← HR.out,← HM.out]
 simp [results,Tryz.results8,go_sem,effK,effM]
 try omega
end LM
end Go.Proofs.YtaonablbgicmpaaGreatDoor
