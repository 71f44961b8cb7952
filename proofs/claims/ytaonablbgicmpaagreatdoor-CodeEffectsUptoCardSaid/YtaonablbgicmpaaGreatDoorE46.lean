import Derived.Test.YtaonablbgicmpaaGreatDoorE38
import Derived.Lib.SliceRun
import Derived.Maps.AppendAt
import Derived.Test.YtaonablbgicmpaaGreatDoorE37
import Derived.Test.YtaonablbgicmpaaGreatDoorE35
import Derived.Deep.RegionHeld3
import Derived.BigQuiet
import Derived.Test.YtaonablbgicmpaaGreatDoorE32
import Derived.Test.YtaonablbgicmpaaGreatDoorE47
import Derived.Test.YtaonablbgicmpaaGreatDoorE31
import Derived.Test.YtaonablbgicmpaaGreatDoorE42
import Derived.Test.YtaonablbgicmpaaGreatDoorE09
import Derived.Lib.OthersKept
import Derived.Test.YtaonablbgicmpaaGreatDoorE34
import Derived.Laws.RangeAny
import Derived.Laws.Cover1
import Derived.Laws.Runes
import Derived.Test.YtaonablbgicmpaaGreatDoorE19
import Derived.Deep.Strs
import Derived.Laws.AppendOwn
import Derived.Lib.AppendStr
import Derived.Lib.ItoaMem
import Derived.Lib.Strings
set_option linter.unusedVariables false
set_option linter.unusedSimpArgs false
set_option maxRecDepth 100000
set_option maxHeartbeats 16000000
namespace Go.Proofs.YtaonablbgicmpaaGreatDoor
open Go Go.RowKit
namespace LM
end LM
namespace LM
attribute [local go_sem] run_store_flt
end LM
namespace LM
theorem rightK_sub {nm : ByteArray → Bool} {d : Int} {h : Hd} {kids : Fr} {sub : Bool} (hr : rightK nm d h kids sub = true) : kids = .nil ∨ sub = true:=by
 cases kids with
 | nil=>exact .inl rfl
 | cons x y z =>
  refine .inr ?_
  unfold rightK elseB at hr
  rw [Bool.and_eq_true] at hr
  obtain ⟨h1,h2⟩:=hr
  have hl : (((Fr.cons x y z).len : Nat) : Int) ≠ 0:=by show ((z.len + 1 : Nat) : Int) ≠ 0; omega
  have hb : ((((Fr.cons x y z).len : Nat) : Int) == 0) = false:=by simpa using hl
  rw [hb] at h1
  rw [Bool.and_eq_true] at h1
  have hk : 5 ≤ h.k∧h.k ≤ 7:=by simpa using h1.2
  rw [if_neg (by omega),if_neg (by omega),if_neg (by omega),if_neg (by omega),if_neg (by omega)] at h2
  rw [Bool.and_eq_true] at h2
  exact h2.2
end LM
namespace LM
attribute [local go_sem] run_store_flt
end LM
namespace LM
end LM
namespace LM
attribute [local go_sem] run_store_flt
end LM
namespace LM
attribute [local go_sem] run_store_flt
end LM
end Go.Proofs.YtaonablbgicmpaaGreatDoor
namespace Go.Proofs.YtaonablbgicmpaaGreatDoor
open Go Go.Shelf Go.RowKit Go.Sort Go.Lib
namespace LM
end LM
end Go.Proofs.YtaonablbgicmpaaGreatDoor
namespace Go.Proofs.YtaonablbgicmpaaGreatDoor
open Go Go.RowKit
namespace LM
attribute [local go_sem] run_store_flt
theorem rttext_f (f : Nat) (t : ByteArray) (s : Bool) (A : Option Addr) (n c : Nat) (w : World)
  (hT : ∀ W,Below w.heap.size w W → Calls Tryz.prog 55 #[.float .f64 f] W fun e w'=>e = .returned (.string t)∧Below W.heap.size W w') :
  Calls Tryz.prog 31 #[numA true f s A n c] w fun e w'=>e = .returned (.string t)∧Below w.heap.size w w':=by
 have Y0:=Nx.new w true f s A n c
 have hb0 : Below w.heap.size w (w.alloc (numO true f s A n c)):=(Below.refl _ w).alloc (Nat.le_refl _) _
 obtain ⟨y0,y1,y2,y3,-,-,-,-,yl⟩:=Y0.facts
 have HB0:=Lib.hid hb0
 have HT:=Lib.hid (hT _ hb0)
 clear hb0 Y0 hT
 go_enter Tryz.func31,Tryz.ntmps31
 go_wp2_with (fail)
 refine HT.out.mono ?_
 rintro e w1 ⟨rfl,hb1⟩
 go_wp2_with (fail)
 go_ret
 exact ⟨rfl,bel_trans (B:=w.heap.size) HB0.out hb1⟩
theorem rttext_i (f : Nat) (t : ByteArray) (s : Bool) (A : Option Addr) (n c : Nat) (w : World)
  (hT : ∀ W,Below w.heap.size w W → Calls Tryz.prog 56 #[.agg #[.bool s,.slice A n c]] W fun e w'=>e = .returned (.string t)∧Below W.heap.size W w') :
  Calls Tryz.prog 31 #[numA false f s A n c] w fun e w'=>e = .returned (.string t)∧Below w.heap.size w w':=by
 have Y0:=Nx.new w false f s A n c
 have hb0 : Below w.heap.size w (w.alloc (numO false f s A n c)):=(Below.refl _ w).alloc (Nat.le_refl _) _
 obtain ⟨y0,y1,y2,y3,-,-,-,-,yl⟩:=Y0.facts
 have HB0:=Lib.hid hb0
 have HT:=Lib.hid (hT _ hb0)
 clear hb0 Y0 hT
 go_enter Tryz.func31,Tryz.ntmps31
 go_wp2_with (fail)
 refine HT.out.mono ?_
 rintro e w1 ⟨rfl,hb1⟩
 go_wp2_with (fail)
 go_ret
 exact ⟨rfl,bel_trans (B:=w.heap.size) HB0.out hb1⟩
end LM
namespace LM
theorem deci_len2 {x : Int} (hx : ¬ BigI x) : (decI x).length ≤ 618:=by
 have h:=(dec_fits (u:=x.natAbs) hx).2
 unfold decI
 split
 ·rw [List.length_cons]; omega
 ·omega
end LM
namespace LM
attribute [local go_sem] run_store_flt
def effK (op : Int) (n : Nat) (f : Int) : Int:=if op = 10 then f else if op = 13 ∨ op = 14 then (n : Int) + 1 else if op = 17 then 2 + 2 * (n : Int) else if op = 9 then 2 else if op = 2 ∨ op = 5 ∨ op = 6 ∨ op = 7 ∨ op = 8 ∨ op = 12 ∨ op = 15 ∨ op = 16 ∨ op = 18 then 1 else 0
def effM (op : Int) : Int:=if op = 0 ∨ op = 1 ∨ op = 3 ∨ op = 4 ∨ op = 7 ∨ op = 8 ∨ op = 10 ∨ op = 13 ∨ op = 17 ∨ op = 18 ∨ op = 19 ∨ op = 20 ∨ op = 21 then 1 else 0
theorem eff_world (op a b : Int) (c : Cod) (w : World) : ∃ W0 W1,w.alloc (.cells #[.int .i64 op,.int .i64 a,.int .i64 b] 23 (0,0)) = W0∧W0.alloc (codO c) = W1∧Below w.heap.size w W1∧W0.heap.size = w.heap.size + 1∧W1.heap[w.heap.size]? = some (.cells #[.int .i64 op,.int .i64 a,.int .i64 b] 23 (0,0))∧W1.heap[w.heap.size + 1]? = some (codO c):=by
 have h1:=(Obs.nil.new (w:=w) (.cells #[.int .i64 op,.int .i64 a,.int .i64 b] 23 (0,0))).new (codO c)
 simp only [World.size_alloc] at h1
 exact ⟨_,_,rfl,rfl,((Below.refl _ w).alloc (Nat.le_refl _) _).alloc (by simp) _,by simp,h1.tl.hd,h1.hd⟩
theorem ceffect_lit (op : Int) (hop : op = 0 ∨ op = 1 ∨ op = 2 ∨ op = 3 ∨ op = 4 ∨ op = 5 ∨ op = 6 ∨ op = 7 ∨ op = 8 ∨ op = 9 ∨ op = 11 ∨ op = 12 ∨ op = 13 ∨ op = 14 ∨ op = 15 ∨ op = 16 ∨ op = 17 ∨ op = 18 ∨ op = 19 ∨ op = 20 ∨ op = 21) (n : Nat) (hn : n ≤ 16777215) (b : Int) (c : Cod) (w : World) :
  Calls Tryz.prog 7 #[.agg #[.int .i64 op,.int .i64 (n : Int),.int .i64 b],codA c] w fun e w'=>e = .returned (.tuple #[.int .i64 (effK op n (frV c.ps n)),.int .i64 (effM op)])∧Below w.heap.size w w':=by
 obtain ⟨W0,W1,hW0,hW1,hb,hs,ho,-⟩:=eff_world op n b c w
 obtain ⟨r,hr⟩ : ∃ r,effK op n (frV c.ps n) = r:=⟨_,rfl⟩
 obtain ⟨m,hm⟩ : ∃ m,effM op = m:=⟨_,rfl⟩
 rw [hr,hm]
 have y0 : W1.cell? ⟨w.heap.size,0,none⟩ = some (.int .i64 op):=ob_cell ho 0
 have y1 : W1.cell? ⟨w.heap.size,1,none⟩ = some (.int .i64 (n : Int)):=ob_cell ho 1
 have HB:=Lib.hid hb
 have HW0:=Lib.hid hW0
 have HW1:=Lib.hid hW1
 have HR:=Lib.hid hr
 have HM:=Lib.hid hm
 clear hW0 hW1 hb hs ho hr hm
 rcases hop with rfl | rfl | rfl | rfl | rfl | rfl | rfl | rfl | rfl | rfl | rfl | rfl | rfl | rfl | rfl | rfl | rfl | rfl | rfl | rfl | rfl
 all_goals
  go_enter Tryz.func7,Tryz.ntmps7
  go_wp2_with (fail)
  rw [HW0.out,HW1.out]
  go_wp2_with (fail)
  refine bodyPost_ret (v:=.tuple #[.int .i64 r,.int .i64 m]) ?_ rfl ⟨rfl,HB.out⟩
  rw [← HR.out,← HM.out]
  simp [results,Tryz.results7,go_sem,effK,effM]
end LM
namespace LM
attribute [local go_sem] run_store_flt
theorem ceffect_clo (n : Nat) (hn : n ≤ 16777215) (b : Int) (c : Cod) (w : World) (hv : CodV w c) (hok : c.Ok) :
  Calls Tryz.prog 7 #[.agg #[.int .i64 10,.int .i64 (n : Int),.int .i64 b],codA c] w fun e w'=>e = .returned (.tuple #[.int .i64 (frV c.ps n),.int .i64 1])∧Below w.heap.size w w':=by
 obtain ⟨W0,W1,hW0,hW1,hb,hs,ho,ho1⟩:=eff_world 10 n b c w
 have C:=Lib.hid (cfree_any c n hn W1 (hv.below hb) hok)
 have y0 : W1.cell? ⟨w.heap.size,0,none⟩ = some (.int .i64 10):=ob_cell ho 0
 have y1 : W1.cell? ⟨w.heap.size,1,none⟩ = some (.int .i64 (n : Int)):=ob_cell ho 1
 have z0 : W1.cell? ⟨w.heap.size + 1,0,none⟩ = some (.slice c.PB c.ps.length c.pc):=ob_cell ho1 0
 have z1 : W1.cell? ⟨w.heap.size + 1,1,none⟩ = some (.slice c.CB c.kids.len c.cc):=ob_cell ho1 1
 have z2 : W1.cell? ⟨w.heap.size + 1,2,none⟩ = some (.slice c.GB c.gs.length c.gc):=ob_cell ho1 2
 have HB:=Lib.hid hb
 have HW0:=Lib.hid hW0
 have HW1:=Lib.hid hW1
 have HS:=Lib.hid hs
 clear hW0 hW1 hb ho ho1 hv hok hs
 go_enter Tryz.func7,Tryz.ntmps7
 go_wp2_with (fail)
 rw [HW0.out,HW1.out]
 refine C.out.mono ?_
 rintro e w1 ⟨rfl,hb1⟩
 have HB1:=Lib.hid hb1
 clear hb1
 go_wp2_with (fail)
 refine bodyPost_ret (v:=.tuple #[.int .i64 (frV c.ps n),.int .i64 1]) (by simp [results,Tryz.results7,go_sem]) rfl ⟨rfl,bel_trans (B:=w.heap.size) HB.out HB1.out⟩
theorem ceffect_other (op : Int) (hop : op < 0 ∨ 21 < op) (a b : Int) (P C G : Value) (w : World) :
  Calls Tryz.prog 7 #[.agg #[.int .i64 op,.int .i64 a,.int .i64 b],.agg #[P,C,G]] w fun e w'=>e = .returned (.tuple #[.int .i64 0,.int .i64 0])∧Below w.heap.size w w':=by
 obtain ⟨W0,hW0⟩ : ∃ W0,w.alloc (.cells #[.int .i64 op,.int .i64 a,.int .i64 b] 23 (0,0)) = W0:=⟨_,rfl⟩
 obtain ⟨W1,hW1⟩ : ∃ W1,W0.alloc (.cells #[P,C,G] 28 (0,0)) = W1:=⟨_,rfl⟩
 have s0 : W0.heap.size = w.heap.size + 1:=by rw [← hW0]; simp
 have b0 : Below w.heap.size w W0:=by rw [← hW0]; exact (Below.refl _ w).alloc (Nat.le_refl _) _
 have b1 : Below W0.heap.size W0 W1:=by rw [← hW1]; exact (Below.refl _ W0).alloc (Nat.le_refl _) _
 have o0 : W0.heap[w.heap.size]? = some (.cells #[.int .i64 op,.int .i64 a,.int .i64 b] 23 (0,0)):=by rw [← hW0]; unfold World.alloc; simp
 have o1:=(b1.block _ (by omega)).trans o0
 have y0 : W1.cell? ⟨w.heap.size,0,none⟩ = some (.int .i64 op):=ob_cell o1 0
 have HB:=Lib.hid (bel_trans (B:=w.heap.size) b0 b1)
 have HW0:=Lib.hid hW0
 have HW1:=Lib.hid hW1
 have f0 : (op == 0) = false:=by simp; omega
 have f1 : (op == 1) = false:=by simp; omega
 have f2 : (op == 2) = false:=by simp; omega
 have f3 : (op == 3) = false:=by simp; omega
 have f4 : (op == 4) = false:=by simp; omega
 have f5 : (op == 5) = false:=by simp; omega
 have f6 : (op == 6) = false:=by simp; omega
 have f7 : (op == 7) = false:=by simp; omega
 have f8 : (op == 8) = false:=by simp; omega
 have f9 : (op == 9) = false:=by simp; omega
 have f10 : (op == 10) = false:=by simp; omega
 have f11 : (op == 11) = false:=by simp; omega
 have f12 : (op == 12) = false:=by simp; omega
 have f13 : (op == 13) = false:=by simp; omega
 have f14 : (op == 14) = false:=by simp; omega
 have f15 : (op == 15) = false:=by simp; omega
 have f16 : (op == 16) = false:=by simp; omega
 have f17 : (op == 17) = false:=by simp; omega
 have f18 : (op == 18) = false:=by simp; omega
 have f19 : (op == 19) = false:=by simp; omega
 have f20 : (op == 20) = false:=by simp; omega
 have f21 : (op == 21) = false:=by simp; omega
 clear hW0 hW1 s0 b0 b1 o0 o1 hop
 go_enter Tryz.func7,Tryz.ntmps7
 go_wp2_with (fail)
 rw [HW0.out,HW1.out]
 go_wp2_with (fail)
 refine bodyPost_ret (v:=.tuple #[.int .i64 0,.int .i64 0]) (by simp [results,Tryz.results7,go_sem]) rfl ⟨rfl,HB.out⟩
theorem ceffect_any (op : Int) (n : Nat) (hn : n ≤ 16777215) (b : Int) (c : Cod) (w : World) (hv : CodV w c) (hok : c.Ok) :
  Calls Tryz.prog 7 #[.agg #[.int .i64 op,.int .i64 (n : Int),.int .i64 b],codA c] w fun e w'=>e = .returned (.tuple #[.int .i64 (effK op n (frV c.ps n)),.int .i64 (effM op)])∧Below w.heap.size w w':=by
 by_cases h10 : op = 10
 ·subst h10
  exact ceffect_clo n hn b c w hv hok
 ·by_cases ho : op < 0 ∨ 21 < op
  ·have e1 : effK op n (frV c.ps n) = 0:=by unfold effK; rw [if_neg (by omega),if_neg (by omega),if_neg (by omega),if_neg (by omega),if_neg (by omega)]
   have e2 : effM op = 0:=by unfold effM; rw [if_neg (by omega)]
   rw [e1,e2]
   exact ceffect_other op ho _ _ _ _ _ w
  ·exact ceffect_lit op (by omega) n hn b c w
end LM
namespace LM
attribute [local go_sem] run_store_flt
def greatB (c : Cod) : Bool:=decide (200 < c.ps.length) || (decide (200 < c.kids.len) || decide (200 < c.gs.length))
theorem cgreat_any (c : Cod) (w : World) : Calls Tryz.prog 5 #[codA c] w fun e w'=>e = .returned (.bool (greatB c))∧Below w.heap.size w w':=by
 obtain ⟨W0,hW0,hb0,ho,hs0,hz0⟩:=cod_block w c
 have y0 : W0.cell? ⟨w.heap.size,0,none⟩ = some (.slice c.PB c.ps.length c.pc):=ob_cell ho 0
 have y1 : W0.cell? ⟨w.heap.size,1,none⟩ = some (.slice c.CB c.kids.len c.cc):=ob_cell ho 1
 have y2 : W0.cell? ⟨w.heap.size,2,none⟩ = some (.slice c.GB c.gs.length c.gc):=ob_cell ho 2
 have HW0:=Lib.hid hW0
 have HB0:=Lib.hid hb0
 clear hW0 hb0 ho hs0 hz0
 obtain ⟨r,hr⟩ : ∃ r,greatB c = r:=⟨_,rfl⟩
 unfold greatB at hr
 rw [show greatB c = r from hr]
 have HR:=Lib.hid hr
 clear hr
 by_cases h1 : 200 < c.ps.length
 ·have d1 : decide ((200 : Int) < (c.ps.length : Int)) = true:=decide_eq_true (by omega)
  have d1' : decide (200 < c.ps.length) = true:=decide_eq_true h1
  have e1 : r = true:=by rw [← HR.out,d1']; rfl
  subst e1
  clear HR
  go_enter Tryz.func5,Tryz.ntmps5
  go_wp2_with (fail)
  rw [HW0.out]
  go_wp2_with (fail)
  go_ret
  exact ⟨rfl,HB0.out⟩
 ·have d1 : decide ((200 : Int) < (c.ps.length : Int)) = false:=decide_eq_false (by omega)
  have d1' : decide (200 < c.ps.length) = false:=decide_eq_false h1
  by_cases h2 : 200 < c.kids.len
  ·have d2 : decide ((200 : Int) < (c.kids.len : Int)) = true:=decide_eq_true (by omega)
   have d2' : decide (200 < c.kids.len) = true:=decide_eq_true h2
   have e1 : r = true:=by rw [← HR.out,d1',d2']; rfl
   subst e1
   clear HR
   go_enter Tryz.func5,Tryz.ntmps5
   go_wp2_with (fail)
   rw [HW0.out]
   go_wp2_with (fail)
   go_ret
   exact ⟨rfl,HB0.out⟩
  ·have d2 : decide ((200 : Int) < (c.kids.len : Int)) = false:=decide_eq_false (by omega)
   have d2' : decide (200 < c.kids.len) = false:=decide_eq_false h2
   have d3 : decide ((200 : Int) < (c.gs.length : Int)) = r:=by
    rw [← HR.out,d1',d2']
    exact decide_eq_decide.2 (by omega)
   have d3' : decide (200 < c.gs.length) = r:=by rw [← HR.out,d1',d2']; rfl
   clear HR
   go_enter Tryz.func5,Tryz.ntmps5
   go_wp2_with (fail)
   rw [HW0.out]
   go_wp2_with (fail)
   go_ret
   exact ⟨by first | rfl | (simp [d3,d3']),HB0.out⟩
end LM
end Go.Proofs.YtaonablbgicmpaaGreatDoor
namespace Go.Proofs.YtaonablbgicmpaaGreatDoor
open Go Go.RowKit Go.ChangeShapes Go.WideShapes
namespace LM
section
variable {H : Type} {enc : TypeId × Value → H} {w : World} {base : Nat} {held : Bool}
end
end LM
namespace LM
section
variable {H : Type} {enc : TypeId × Value → H} {w : World} {base : Nat} {held : Bool}
abbrev insL3 (x : Ins) : List Value:=[.int .i64 x.op,.int .i64 x.a,.int .i64 x.b]
def InsR (x : Ins) : Prop:=(-9223372036854775808 ≤ x.op∧x.op ≤ 9223372036854775807)∧(-9223372036854775808 ≤ x.a∧x.a ≤ 9223372036854775807)∧(-9223372036854775808 ≤ x.b∧x.b ≤ 9223372036854775807)
theorem open_ins (n : Nat) (cl : List Value) (y : DataW H × List MemPlace) (h : DataW.trod enc Tryz.prog w 0 (fun _=>true) held n 23 cl = some y) : ∃ x,cl = insL3 x∧InsR x:=by
 obtain ⟨y0,y1,y2,m,rfl,hl,h0,h1,h2⟩:=Go.Deep.trod_struct3 Tryz.underlying23 h
 have hci : Tryz.prog.cellsOf 3 = 1:=by kernel_rfl
 have hcx : Tryz.prog.cellsOf 23 = 3:=by kernel_rfl
 rw [hcx] at hl
 obtain ⟨c0,c1,c2,rfl⟩ : ∃ c0 c1 c2,cl = [c0,c1,c2]:=by
  match cl,hl with
  | [c0,c1,c2],_=>exact ⟨c0,c1,c2,rfl⟩
 obtain ⟨z0,e0,-,w0⟩:=DataW.trod_int Tryz.underlying3 h0
 obtain ⟨z1,e1,-,w1⟩:=DataW.trod_int Tryz.underlying3 h1
 obtain ⟨z2,e2,-,w2⟩:=DataW.trod_int Tryz.underlying3 h2
 simp [hci] at e0 e1 e2
 exact ⟨⟨z0,z1,z2⟩,by rw [e0,e1,e2],int_range w0,int_range w1,int_range w2⟩
end
end LM
namespace LM
section
variable {H : Type} {enc : TypeId × Value → H} {w : World} {base : Nat} {held : Bool}
abbrev prL7 (p : Prh) : List Value:=[.string p.nm,.int .i64 p.pa,.bool p.rs,.int .i64 p.sl,.int .i64 p.de,.int .i64 p.fr,.slice p.B p.code.length p.cap]
def PrR (w : World) (p : Prh) : Prop:=PrV w p∧(p.code.length ≤ p.cap∧p.cap ≤ 9223372036854775807)∧(∀ x ∈ p.code,InsR x)∧p.nm.size ≤ 9223372036854775807 ∧
 (-9223372036854775808 ≤ p.pa∧p.pa ≤ 9223372036854775807)∧(-9223372036854775808 ≤ p.sl∧p.sl ≤ 9223372036854775807)∧(-9223372036854775808 ≤ p.de∧p.de ≤ 9223372036854775807)∧(-9223372036854775808 ≤ p.fr∧p.fr ≤ 9223372036854775807)
structure Cod.Raw (w : World) (c : Cod) : Prop where
 ps : c.ps.length ≤ c.pc∧c.pc ≤ 9223372036854775807
 kids : c.kids.len ≤ c.cc∧c.cc ≤ 9223372036854775807
 gs : c.gs.length ≤ c.gc∧c.gc ≤ 9223372036854775807
 pr : ∀ p ∈ c.ps,PrR w p
 raw : c.kids.Raw
end
end LM
namespace LM
structure Closed {H : Type} (Q : TypeId → DataW H → Prop) (B : Nat) : Prop where
 sl : ∀ {t e : TypeId} {es sp : List (DataW H)},Tryz.prog.underlying t = some (.slice e) → Q t (.slice es sp) → es.length ≤ B∧∀ d ∈ es,Q e d
 st : ∀ {t : TypeId} {fs : Array Field} {ds : List (DataW H)},Tryz.prog.underlying t = some (.struct fs) → Q t (.agg ds) → ∀ (i : Nat) f d,fs[i]? = some f → ds[i]? = some d → Q f.type d
 tx : ∀ {t : TypeId} {b : List UInt8},Q t (.lit (.string b)) → b.length ≤ B
def BdF (B : Nat) : Fr → Prop
 | .nil=>True
 | .cons h k r=>(h.t.size ≤ B∧h.xs.length ≤ B)∧BdF B k∧BdF B r
section
variable {H : Type} {enc : TypeId × Value → H} {w : World} {held : Bool} {Q : TypeId → DataW H → Prop} {B : Nat}
theorem len_of {t e : TypeId} (C : Closed Q B) (ht : Tryz.prog.underlying t = some (.slice e)) {n : Nat} {c : Value} {y : DataW H × List MemPlace} (h : DataW.trod enc Tryz.prog w 0 (fun _=>true) held n t [c] = some y) (hq : Q t y.1)
  {A : Option Addr} {l cap : Nat} (hc : c = .slice A l cap) : l ≤ B:=by
 subst hc
 rcases DataW.trod_slice ht h with ⟨hcs,_⟩ | ⟨a,len,cap,elems,rest,n2,hn2,hcs,rfl,_,hlc,hcapm,hel,hall,hsp,_⟩
 ·have : l = 0:=by simp at hcs; exact hcs.2.1
  omega
 ·have h1 : l = len:=by simp at hcs; exact hcs.2.1
  have h2:=(C.sl ht hq).1
  rw [List.length_map] at h2
  omega
theorem text_of {t : TypeId} (C : Closed Q B) (ht : Tryz.prog.underlying t = some .string) {n : Nat} {s : ByteArray} {y : DataW H × List MemPlace} (h : DataW.trod enc Tryz.prog w 0 (fun _=>true) held n t [.string s] = some y) (hq : Q t y.1) : s.size ≤ B:=by
 obtain ⟨s',e,rfl,-⟩:=DataW.trod_string ht h
 obtain rfl : s = s':=by simpa using e
 rw [Lib.size_eq]
 exact C.tx hq
theorem trod_struct2q {P : Program} {spare : Nat → Bool} {base : Nat} {t : TypeId} {f0 f1 : Field} {fuel : Nat} {cs : List Value} {x : DataW H × List MemPlace} (ht : P.underlying t = some (.struct #[f0,f1])) (h : DataW.trod enc P w base spare held fuel t cs = some x) :
  ∃ y0 y1 n,fuel = n + 1∧x.1 = .agg [y0.1,y1.1]∧DataW.trod enc P w base spare held n f0.type ((cs.drop f0.offset).take (P.cellsOf f0.type)) = some y0∧DataW.trod enc P w base spare held n f1.type ((cs.drop f1.offset).take (P.cellsOf f1.type)) = some y1:=by
 obtain ⟨xs,n,hn,rfl,hl,hlen,hf⟩:=DataW.trod_struct ht h
 match xs,hlen with
 | [y0,y1],_=>exact ⟨y0,y1,n,hn,rfl,by simpa using hf 0 f0 rfl,by simpa using hf 1 f1 rfl⟩
theorem trod_struct5q {P : Program} {spare : Nat → Bool} {t : TypeId} {f0 f1 f2 f3 f4 : Field} {fuel : Nat} {cs : List Value} {x : DataW H × List MemPlace} (ht : P.underlying t = some (.struct #[f0,f1,f2,f3,f4])) (h : DataW.trod enc P w 0 spare held fuel t cs = some x) :
  ∃ y0 y1 y2 y3 y4 n,fuel = n + 1∧x.1 = .agg [y0.1,y1.1,y2.1,y3.1,y4.1]∧cs.length = P.cellsOf t∧DataW.trod enc P w 0 spare held n f0.type ((cs.drop f0.offset).take (P.cellsOf f0.type)) = some y0 ∧
   DataW.trod enc P w 0 spare held n f1.type ((cs.drop f1.offset).take (P.cellsOf f1.type)) = some y1∧DataW.trod enc P w 0 spare held n f2.type ((cs.drop f2.offset).take (P.cellsOf f2.type)) = some y2 ∧
   DataW.trod enc P w 0 spare held n f3.type ((cs.drop f3.offset).take (P.cellsOf f3.type)) = some y3∧DataW.trod enc P w 0 spare held n f4.type ((cs.drop f4.offset).take (P.cellsOf f4.type)) = some y4:=by
 obtain ⟨xs,n,hn,rfl,hl,hlen,hf⟩:=DataW.trod_struct ht h
 match xs,hlen with
 | [y0,y1,y2,y3,y4],_=>exact ⟨y0,y1,y2,y3,y4,n,hn,rfl,hl,by simpa using hf 0 f0 rfl,by simpa using hf 1 f1 rfl,by simpa using hf 2 f2 rfl,by simpa using hf 3 f3 rfl,by simpa using hf 4 f4 rfl⟩
theorem trod_struct7q {P : Program} {spare : Nat → Bool} {t : TypeId} {f0 f1 f2 f3 f4 f5 f6 : Field} {fuel : Nat} {cs : List Value} {x : DataW H × List MemPlace} (ht : P.underlying t = some (.struct #[f0,f1,f2,f3,f4,f5,f6])) (h : DataW.trod enc P w 0 spare held fuel t cs = some x) :
  ∃ y0 y1 y2 y3 y4 y5 y6 n,fuel = n + 1∧x.1 = .agg [y0.1,y1.1,y2.1,y3.1,y4.1,y5.1,y6.1]∧cs.length = P.cellsOf t∧DataW.trod enc P w 0 spare held n f0.type ((cs.drop f0.offset).take (P.cellsOf f0.type)) = some y0 ∧
   DataW.trod enc P w 0 spare held n f1.type ((cs.drop f1.offset).take (P.cellsOf f1.type)) = some y1∧DataW.trod enc P w 0 spare held n f2.type ((cs.drop f2.offset).take (P.cellsOf f2.type)) = some y2 ∧
   DataW.trod enc P w 0 spare held n f3.type ((cs.drop f3.offset).take (P.cellsOf f3.type)) = some y3∧DataW.trod enc P w 0 spare held n f4.type ((cs.drop f4.offset).take (P.cellsOf f4.type)) = some y4 ∧
   DataW.trod enc P w 0 spare held n f5.type ((cs.drop f5.offset).take (P.cellsOf f5.type)) = some y5∧DataW.trod enc P w 0 spare held n f6.type ((cs.drop f6.offset).take (P.cellsOf f6.type)) = some y6:=by
 obtain ⟨xs,n,hn,rfl,hl,hlen,hf⟩:=DataW.trod_struct ht h
 match xs,hlen with
 | [y0,y1,y2,y3,y4,y5,y6],_=>exact ⟨y0,y1,y2,y3,y4,y5,y6,n,hn,rfl,hl,by simpa using hf 0 f0 rfl,by simpa using hf 1 f1 rfl,by simpa using hf 2 f2 rfl,by simpa using hf 3 f3 rfl,by simpa using hf 4 f4 rfl,by simpa using hf 5 f5 rfl,by simpa using hf 6 f6 rfl⟩
theorem limbs_of (C : Closed Q B) {fuel : Nat} {c0 c1 c2 : Value} {A : Option Addr} {l c : Nat} {y : DataW H × List MemPlace} (hf : DataW.trod enc Tryz.prog w 0 (fun _=>true) held fuel 42 [c0,c1,c2,.slice A l c] = some y) (hq : Q 42 y.1) : l ≤ B:=by
 obtain ⟨y0,y1,y2,n,hx,_,h0,h1,h2⟩:=Go.Deep.trod_struct3 Tryz.underlying42 hf
 have g2 : DataW.trod enc Tryz.prog w 0 (fun _=>true) held n 40 [c2,.slice A l c] = some y2:=h2
 have q2 : Q 40 y2.1:=C.st Tryz.underlying42 (by rw [hx] at hq; exact hq) 2 _ _ rfl rfl
 obtain ⟨z0,z1,n',-,hz,k0,k1⟩:=trod_struct2q Tryz.underlying40 g2
 have e1 : DataW.trod enc Tryz.prog w 0 (fun _=>true) held n' 38 [.slice A l c] = some z1:=k1
 exact len_of C Tryz.underlying38 e1 (C.st Tryz.underlying40 (by rw [hz] at q2; exact q2) 1 _ _ rfl rfl) rfl
theorem open_datq (C : Closed Q B) : ∀ (fuel : Nat) (cs : List Value) (x : DataW H × List MemPlace),DataW.trod enc Tryz.prog w 0 (fun _=>true) held fuel 44 cs = some x → Q 44 x.1 →
  ∃ h kids,cs = head8 h kids.len∧DatV w h kids∧h.Raw kids.len∧kids.Raw∧(h.t.size ≤ B∧h.xs.length ≤ B)∧BdF B kids:=by
 intro fuel
 induction fuel using Nat.strongRecOn with
 | ind fuel ih =>
  intro cs x hf hq
  obtain ⟨y0,y1,y2,y3,y4,n,rfl,hx5,hl,h0,h1,h2,h3,h4⟩:=trod_struct5q Tryz.underlying44 hf
  have hl8 : cs.length = 8:=hl.trans (by kernel_rfl)
  match cs,hl8 with
  | [c0,c1,c2,c3,c4,c5,c6,c7],_ =>
   have g0 : DataW.trod enc Tryz.prog w 0 (fun _=>true) held n 3 [c0] = some y0:=h0
   have g1 : DataW.trod enc Tryz.prog w 0 (fun _=>true) held n 3 [c1] = some y1:=h1
   have g2 : DataW.trod enc Tryz.prog w 0 (fun _=>true) held n 42 [c2,c3,c4,c5] = some y2:=h2
   have g3 : DataW.trod enc Tryz.prog w 0 (fun _=>true) held n 9 [c6] = some y3:=h3
   have g4 : DataW.trod enc Tryz.prog w 0 (fun _=>true) held n 25 [c7] = some y4:=h4
   obtain ⟨k,hk,-,hkw⟩:=DataW.trod_int Tryz.underlying3 g0
   obtain ⟨nn,hn,-,hnw⟩:=DataW.trod_int Tryz.underlying3 g1
   obtain ⟨fl,f,s,A,c,xs,rfl,rfl,rfl,rfl,hff,hlm,hrd,hxc,hcm,hnA,hsA⟩:=open_num4 g2
   rw [hx5] at hq
   have q2:=C.st Tryz.underlying44 hq 2 _ _ rfl rfl
   have q3:=C.st Tryz.underlying44 hq 3 _ _ rfl rfl
   have q4:=C.st Tryz.underlying44 hq 4 _ _ rfl rfl
   have bl:=limbs_of C g2 q2
   obtain ⟨t,ht,-,htm⟩:=DataW.trod_string Tryz.underlying9 g3
   obtain rfl : c0 = .int .i64 k:=by simpa using hk
   obtain rfl : c1 = .int .i64 nn:=by simpa using hn
   obtain rfl : c6 = .string t:=by simpa using ht
   have bt:=text_of C Tryz.underlying9 g3 q3
   rcases DataW.trod_slice Tryz.underlying25 g4 with ⟨hcs,_⟩ | ⟨a,len,cap,elems,rest,n2,hn2,hcs,hy4,_,hlc,hcapm,hel,hall,hsp,_⟩
   ·obtain rfl : c7 = .slice none 0 0:=by simpa using hcs
    exact ⟨⟨k,nn,fl,f,s,A,xs,c,t,none,0⟩,.nil,rfl,⟨hrd,0,0,fun h=>absurd h (Nat.lt_irrefl 0),trivial⟩,
     ⟨int_range hkw,int_range hnw,hff,hlm,⟨hxc,hcm⟩,hnA,htm,⟨Nat.le_refl _,by show (0 : Nat) ≤ 9223372036854775807; decide⟩,fun _=>⟨rfl,rfl⟩,hsA,fun ad e=>(by cases e)⟩,trivial,⟨bt,bl⟩,trivial⟩
   ·obtain rfl : c7 = .slice (some a) len cap:=by simpa using hcs
    have hce : Tryz.prog.cellsOf 44 = 8:=by kernel_rfl
    rw [hce] at hall hsp
    have q5:=(C.sl Tryz.underlying25 (by rw [hy4] at q4; exact q4)).2
    have hel1 : ∀ i,i < len → ∃ cl e,w.cells? 0 (a.add (i * 8)) 8 = some cl∧DataW.trod enc Tryz.prog w 0 (fun _=>true) held n2 44 cl = some e∧Q 44 e.1:=fun i hi=>by
     have h5:=hall i hi
     have h6 : i < elems.length:=by omega
     rw [List.getElem?_eq_getElem h6] at h5
     obtain ⟨cl,h7,h8⟩:=Option.bind_eq_some_iff.1 h5
     exact ⟨cl,_,h7,h8,q5 _ (List.mem_map.2 ⟨_,List.getElem_mem h6,rfl⟩)⟩
    have hx0 : a.add 0 = a:=by simp [Addr.add]
    have hspot : 0 < cap → a.spot = none:=fun h=>by
     have hc : ∃ cl,w.cells? 0 a 8 = some cl∧cl.length = 8:=by
      rcases Nat.eq_zero_or_pos len with h9 | h9
      ·obtain ⟨hr,hr2⟩:=hsp rfl
       have h5:=hr2 0 (by omega)
       have h6 : 0 < rest.length:=by omega
       rw [List.getElem?_eq_getElem h6,h9,Nat.add_zero,Nat.zero_mul,hx0] at h5
       obtain ⟨cl,h7,h8⟩:=Option.bind_eq_some_iff.1 h5
       exact ⟨cl,h7,(World.cells?_some h7).2.1⟩
      ·obtain ⟨cl,e,h7,h8,-⟩:=hel1 0 h9
       rw [Nat.zero_mul,hx0] at h7
       exact ⟨cl,h7,(World.cells?_some h7).2.1⟩
     obtain ⟨cl,h7,h8⟩:=hc
     have h9:=(World.cells?_some h7).2.2 0 (by decide)
     rw [hx0,List.getElem?_eq_getElem (by omega)] at h9
     have:=(spot_none h9).1
     rw [this]
    have F : ∀ j,j ≤ len → ∃ fr : Fr,fr.len = j∧(fr.Raw∧BdF B fr)∧(0 < len → FAt w a.block (a.off + (len - j) * 8) fr):=by
     intro j
     induction j with
     | zero=>intro _; exact ⟨.nil,rfl,⟨trivial,trivial⟩,fun _=>trivial⟩
     | succ j ihj =>
      intro hj
      obtain ⟨fr,hf1,⟨hf2,hf4⟩,hf3⟩:=ihj (by omega)
      obtain ⟨cl,e,hcl,he,hqe⟩:=hel1 (len - (j + 1)) (by omega)
      obtain ⟨h',kids',rfl,hv,hr1,hr2,hb1,hb2⟩:=ih n2 (by omega) cl e he hqe
      have hsp0:=hspot (by omega)
      have hadd : ∀ i,(a.add ((len - (j + 1)) * 8)).add i = ⟨a.block,a.off + (len - (j + 1)) * 8 + i,none⟩:=fun i=>by
       obtain ⟨ab,ao,asp⟩:=a
       dsimp only at hsp0
       subst hsp0
       rw [Lib.add_plain,Lib.add_plain]
      have hcell : ∀ i u,(head8 h' kids'.len)[i]? = some u → w.cell? ⟨a.block,a.off + (len - (j + 1)) * 8 + i,none⟩ = some u:=fun i u hu=>by
       have hi : i < 8:=(List.getElem?_eq_some_iff.1 hu).1
       have h9:=(World.cells?_some hcl).2.2 i hi
       rw [hadd,hu] at h9
       exact h9
      refine ⟨.cons h' kids' fr,by show fr.len + 1 = j + 1; rw [hf1],⟨⟨hr1,hr2,hf2⟩,⟨hb1,hb2,hf4⟩⟩,fun h10=>?_⟩
      have hc0:=hcell 0 _ rfl
      refine ⟨(spot_none hc0).2,⟨hcell 0 _ rfl,hcell 1 _ rfl,hcell 2 _ rfl,hcell 3 _ rfl,hcell 4 _ rfl,hcell 5 _ rfl,hcell 6 _ rfl,hcell 7 _ rfl⟩,hv.xs,hv.items,?_⟩
      have h11:=hf3 h10
      rw [show a.off + (len - (j + 1)) * 8 + 8 = a.off + (len - j) * 8 from by omega]
      exact h11
    obtain ⟨fr,hf1,⟨hf2,hf4⟩,hf3⟩:=F len (Nat.le_refl _)
    rw [Nat.sub_self,Nat.zero_mul,Nat.add_zero] at hf3
    refine ⟨⟨k,nn,fl,f,s,A,xs,c,t,some a,cap⟩,fr,by rw [hf1]; rfl,⟨hrd,a.block,a.off,fun h=>?_,?_⟩,
     ⟨int_range hkw,int_range hnw,hff,hlm,⟨hxc,hcm⟩,hnA,htm,⟨by rw [hf1]; exact hlc,by unfold maxLen at hcapm; exact Nat.le_trans hcapm (by decide)⟩,fun e=>(by cases e),hsA,fun ad e h=>?_⟩,hf2,⟨bt,bl⟩,hf4⟩
    ·have:=hspot (by omega)
     obtain ⟨ab,ao,asp⟩:=a
     dsimp only at this
     subst this
     rfl
    ·rcases Nat.eq_zero_or_pos len with h9 | h9
     ·cases fr with
      | nil=>exact trivial
      | cons x y z=>exact absurd hf1 (by show ¬ z.len + 1 = len; omega)
     ·exact hf3 h9
    ·injection e with e
     subst e
     exact hspot h
theorem open_itemsq (C : Closed Q B) {n : Nat} {c : Value} {y : DataW H × List MemPlace} (h4 : DataW.trod enc Tryz.prog w 0 (fun _=>true) held n 25 [c] = some y) (q4 : Q 25 y.1) :
  ∃ A fr cap,c = .slice A (Fr.len fr) cap∧(fr.Raw∧BdF B fr)∧(∃ b off,(0 < fr.len → A = some ⟨b,off,none⟩)∧FAt w b off fr)∧(fr.len ≤ cap∧cap ≤ 9223372036854775807)∧(A = none → fr.len = 0∧cap = 0)∧∀ ad,A = some ad → 0 < cap → ad.spot = none:=by
 rcases DataW.trod_slice Tryz.underlying25 h4 with ⟨hcs,_⟩ | ⟨a,len,cap,elems,rest,n2,hn2,hcs,hy4,_,hlc,hcapm,hel,hall,hsp,_⟩
 ·obtain rfl : c = .slice none 0 0:=by simpa using hcs
  exact ⟨none,.nil,0,rfl,⟨trivial,trivial⟩,⟨0,0,fun h=>absurd h (Nat.lt_irrefl 0),trivial⟩,⟨Nat.le_refl _,by decide⟩,fun _=>⟨rfl,rfl⟩,fun ad e=>(by cases e)⟩
 ·obtain rfl : c = .slice (some a) len cap:=by simpa using hcs
  have hce : Tryz.prog.cellsOf 44 = 8:=by kernel_rfl
  rw [hce] at hall hsp
  have q5:=(C.sl Tryz.underlying25 (by rw [hy4] at q4; exact q4)).2
  have hel1 : ∀ i,i < len → ∃ cl e,w.cells? 0 (a.add (i * 8)) 8 = some cl∧DataW.trod enc Tryz.prog w 0 (fun _=>true) held n2 44 cl = some e∧Q 44 e.1:=fun i hi=>by
   have h5:=hall i hi
   have h6 : i < elems.length:=by omega
   rw [List.getElem?_eq_getElem h6] at h5
   obtain ⟨cl,h7,h8⟩:=Option.bind_eq_some_iff.1 h5
   exact ⟨cl,_,h7,h8,q5 _ (List.mem_map.2 ⟨_,List.getElem_mem h6,rfl⟩)⟩
  have hx0 : a.add 0 = a:=by simp [Addr.add]
  have hspot : 0 < cap → a.spot = none:=fun h=>by
   have hc : ∃ cl,w.cells? 0 a 8 = some cl∧cl.length = 8:=by
    rcases Nat.eq_zero_or_pos len with h9 | h9
    ·obtain ⟨hr,hr2⟩:=hsp rfl
     have h5:=hr2 0 (by omega)
     have h6 : 0 < rest.length:=by omega
     rw [List.getElem?_eq_getElem h6,h9,Nat.add_zero,Nat.zero_mul,hx0] at h5
     obtain ⟨cl,h7,h8⟩:=Option.bind_eq_some_iff.1 h5
     exact ⟨cl,h7,(World.cells?_some h7).2.1⟩
    ·obtain ⟨cl,e,h7,h8,-⟩:=hel1 0 h9
     rw [Nat.zero_mul,hx0] at h7
     exact ⟨cl,h7,(World.cells?_some h7).2.1⟩
   obtain ⟨cl,h7,h8⟩:=hc
   have h9:=(World.cells?_some h7).2.2 0 (by decide)
   rw [hx0,List.getElem?_eq_getElem (by omega)] at h9
   have:=(spot_none h9).1
   rw [this]
  have F : ∀ j,j ≤ len → ∃ fr : Fr,fr.len = j∧(fr.Raw∧BdF B fr)∧(0 < len → FAt w a.block (a.off + (len - j) * 8) fr):=by
   intro j
   induction j with
   | zero=>intro _; exact ⟨.nil,rfl,⟨trivial,trivial⟩,fun _=>trivial⟩
   | succ j ihj =>
    intro hj
    obtain ⟨fr,hf1,⟨hf2,hf4⟩,hf3⟩:=ihj (by omega)
    obtain ⟨cl,e,hcl,he,hqe⟩:=hel1 (len - (j + 1)) (by omega)
    obtain ⟨h',kids',rfl,hv,hr1,hr2,hb1,hb2⟩:=open_datq C n2 cl e he hqe
    have hsp0:=hspot (by omega)
    have hadd : ∀ i,(a.add ((len - (j + 1)) * 8)).add i = ⟨a.block,a.off + (len - (j + 1)) * 8 + i,none⟩:=fun i=>by
     obtain ⟨ab,ao,asp⟩:=a
     dsimp only at hsp0
     subst hsp0
     rw [Lib.add_plain,Lib.add_plain]
    have hcell : ∀ i u,(head8 h' kids'.len)[i]? = some u → w.cell? ⟨a.block,a.off + (len - (j + 1)) * 8 + i,none⟩ = some u:=fun i u hu=>by
     have hi : i < 8:=(List.getElem?_eq_some_iff.1 hu).1
     have h9:=(World.cells?_some hcl).2.2 i hi
     rw [hadd,hu] at h9
     exact h9
    refine ⟨.cons h' kids' fr,by show fr.len + 1 = j + 1; rw [hf1],⟨⟨hr1,hr2,hf2⟩,⟨hb1,hb2,hf4⟩⟩,fun h10=>?_⟩
    have hc0:=hcell 0 _ rfl
    refine ⟨(spot_none hc0).2,⟨hcell 0 _ rfl,hcell 1 _ rfl,hcell 2 _ rfl,hcell 3 _ rfl,hcell 4 _ rfl,hcell 5 _ rfl,hcell 6 _ rfl,hcell 7 _ rfl⟩,hv.xs,hv.items,?_⟩
    have h11:=hf3 h10
    rw [show a.off + (len - (j + 1)) * 8 + 8 = a.off + (len - j) * 8 from by omega]
    exact h11
  obtain ⟨fr,hf1,⟨hf2,hf4⟩,hf3⟩:=F len (Nat.le_refl _)
  rw [Nat.sub_self,Nat.zero_mul,Nat.add_zero] at hf3
  refine ⟨some a,fr,cap,by rw [hf1],⟨hf2,hf4⟩,⟨a.block,a.off,fun h=>?_,?_⟩,⟨by rw [hf1]; exact hlc,by unfold maxLen at hcapm; exact Nat.le_trans hcapm (by decide)⟩,fun e=>(by cases e),fun ad e h=>?_⟩
  ·have:=hspot (by omega)
   obtain ⟨ab,ao,asp⟩:=a
   dsimp only at this
   subst this
   rfl
  ·rcases Nat.eq_zero_or_pos len with h9 | h9
   ·cases fr with
    | nil=>exact trivial
    | cons x y z=>exact absurd hf1 (by show ¬ z.len + 1 = len; omega)
   ·exact hf3 h9
  ·injection e with e
   subst e
   exact hspot h
theorem open_row_q {α : Type} (C : Closed Q B) (f : α → List Value) (k : Nat) (hk : 0 < k) {t e : TypeId} (ht : Tryz.prog.underlying t = some (.slice e)) (hce : Tryz.prog.cellsOf e = k) (P : α → Prop) (hfl : ∀ x,(f x).length = k)
  (op : ∀ (n : Nat) (cl : List Value) (y : DataW H × List MemPlace),DataW.trod enc Tryz.prog w 0 (fun _=>true) held n e cl = some y → Q e y.1 → ∃ x,cl = f x∧P x)
  {n : Nat} {c : Value} {y : DataW H × List MemPlace} (h4 : DataW.trod enc Tryz.prog w 0 (fun _=>true) held n t [c] = some y) (q4 : Q t y.1) :
  ∃ A xs cap,c = .slice A (List.length xs) cap∧(∀ x ∈ xs,P x)∧(∃ b off,(0 < xs.length → A = some ⟨b,off,none⟩)∧∀ (j : Nat) x,xs[j]? = some x → ∀ (i : Nat) v,(f x)[i]? = some v → b < w.heap.size∧w.cell? ⟨b,off + j * k + i,none⟩ = some v)∧(xs.length ≤ cap∧cap ≤ 9223372036854775807)∧xs.length ≤ B:=by
 rcases DataW.trod_slice ht h4 with ⟨hcs,_⟩ | ⟨a,len,cap,elems,rest,n2,hn2,hcs,hy4,_,hlc,hcapm,hel,hall,hsp,_⟩
 ·obtain rfl : c = .slice none 0 0:=by simpa using hcs
  exact ⟨none,[],0,rfl,fun x hx=>absurd hx (by simp),⟨0,0,fun h=>absurd h (Nat.lt_irrefl 0),fun j x hj=>by simp at hj⟩,⟨Nat.le_refl _,by decide⟩,Nat.zero_le _⟩
 ·obtain rfl : c = .slice (some a) len cap:=by simpa using hcs
  rw [hce] at hall
  have q5:=C.sl ht (by rw [hy4] at q4; exact q4)
  have hex : ∀ i,i < len → ∃ x,w.cells? 0 (a.add (i * k)) k = some (f x)∧P x:=fun i hi=>by
   have h5:=hall i hi
   have h6 : i < elems.length:=by omega
   rw [List.getElem?_eq_getElem h6] at h5
   obtain ⟨cl,h7,h8⟩:=Option.bind_eq_some_iff.1 h5
   obtain ⟨x,rfl,hp⟩:=op _ _ _ h8 (q5.2 _ (List.mem_map.2 ⟨_,List.getElem_mem h6,rfl⟩))
   exact ⟨x,h7,hp⟩
  have hx0 : a.add 0 = a:=by simp [Addr.add]
  have hspot : 0 < len → a.spot = none:=fun h=>by
   obtain ⟨x,h7,-⟩:=hex 0 h
   rw [Nat.zero_mul,hx0] at h7
   have h9:=(World.cells?_some h7).2.2 0 hk
   rw [hx0,List.getElem?_eq_getElem (by rw [hfl]; exact hk)] at h9
   have:=(spot_none h9).1
   rw [this]
  have hg : ∀ i : Fin len,w.cells? 0 (a.add (i.1 * k)) k = some (f (hex i.1 i.2).choose)∧P (hex i.1 i.2).choose:=fun i=>(hex i.1 i.2).choose_spec
  refine ⟨some a,List.ofFn fun i : Fin len=>(hex i.1 i.2).choose,cap,by rw [List.length_ofFn],fun x hx=>?_,⟨a.block,a.off,fun h=>?_,fun j x hj i v hi=>?_⟩,⟨by rw [List.length_ofFn]; exact hlc,by unfold maxLen at hcapm; exact Nat.le_trans hcapm (by decide)⟩,by rw [List.length_ofFn]; have:=q5.1; rw [List.length_map] at this; omega⟩
  ·obtain ⟨i,rfl⟩:=List.mem_ofFn.1 hx
   exact (hg i).2
  ·rw [List.length_ofFn] at h
   have:=hspot h
   obtain ⟨ab,ao,asp⟩:=a
   dsimp only at this
   subst this
   rfl
  ·have hjl : j < len:=by have:=(List.getElem?_eq_some_iff.1 hj).1; rwa [List.length_ofFn] at this
   rw [List.getElem?_ofFn,dif_pos hjl] at hj
   have hx:=Option.some.inj hj
   have h1:=(hg ⟨j,hjl⟩).1
   rw [hx] at h1
   have hik : i < k:=by rw [← hfl x]; exact (List.getElem?_eq_some_iff.1 hi).1
   have h9:=(World.cells?_some h1).2.2 i hik
   have hs:=hspot (by omega)
   obtain ⟨ab,ao,asp⟩:=a
   dsimp only at hs
   subst hs
   rw [Lib.add_plain,Lib.add_plain,hi] at h9
   exact ⟨(spot_none h9).2,h9⟩
theorem open_prcq (C : Closed Q B) (n : Nat) (cl : List Value) (y : DataW H × List MemPlace) (h : DataW.trod enc Tryz.prog w 0 (fun _=>true) held n 36 cl = some y) (hq : Q 36 y.1) : ∃ x,cl = prL7 x∧PrR w x∧x.nm.size ≤ B∧x.code.length ≤ B:=by
 obtain ⟨y0,y1,y2,y3,y4,y5,y6,m,rfl,hx7,hl,h0,h1,h2,h3,h4,h5,h6⟩:=trod_struct7q Tryz.underlying36 h
 rw [hx7] at hq
 have q0:=C.st Tryz.underlying36 hq 0 _ _ rfl rfl
 have q6:=C.st Tryz.underlying36 hq 6 _ _ rfl rfl
 have hci : Tryz.prog.cellsOf 3 = 1:=by kernel_rfl
 have hcb : Tryz.prog.cellsOf 4 = 1:=by kernel_rfl
 have hcs : Tryz.prog.cellsOf 9 = 1:=by kernel_rfl
 have hcl : Tryz.prog.cellsOf 34 = 1:=by kernel_rfl
 have hcx : Tryz.prog.cellsOf 36 = 7:=by kernel_rfl
 rw [hcx] at hl
 obtain ⟨c0,c1,c2,c3,c4,c5,c6,rfl⟩ : ∃ c0 c1 c2 c3 c4 c5 c6,cl = [c0,c1,c2,c3,c4,c5,c6]:=by
  match cl,hl with
  | [c0,c1,c2,c3,c4,c5,c6],_=>exact ⟨c0,c1,c2,c3,c4,c5,c6,rfl⟩
 simp only [hci,hcb,hcs,hcl,List.drop_succ_cons,List.drop_zero,List.take_succ_cons,List.take_zero] at h0 h1 h2 h3 h4 h5 h6
 obtain ⟨s,e0,-,w0⟩:=DataW.trod_string Tryz.underlying9 h0
 obtain ⟨z1,e1,-,w1⟩:=DataW.trod_int Tryz.underlying3 h1
 obtain ⟨b2,e2,-⟩:=DataW.trod_bool Tryz.underlying4 h2
 obtain ⟨z3,e3,-,w3⟩:=DataW.trod_int Tryz.underlying3 h3
 obtain ⟨z4,e4,-,w4⟩:=DataW.trod_int Tryz.underlying3 h4
 obtain ⟨z5,e5,-,w5⟩:=DataW.trod_int Tryz.underlying3 h5
 obtain ⟨A,xs,cap,e6,hx,⟨b,off,hB,hat⟩,hcap,hbx⟩:=open_row_q C insL3 3 (by decide) Tryz.underlying34 (by kernel_rfl) InsR (fun _=>rfl) (fun n cl y h _=>open_ins n cl y h) h6 q6
 injection e0 with e0
 have bt:=text_of C Tryz.underlying9 (by rw [e0] at h0; exact h0) q0
 injection e1 with e1; injection e2 with e2; injection e3 with e3; injection e4 with e4; injection e5 with e5
 subst e0; subst e1; subst e2; subst e3; subst e4; subst e5; subst e6
 refine ⟨⟨s,z1,b2,z3,z4,z5,A,cap,xs⟩,rfl,⟨⟨b,off,hB,fun j x hj=>?_⟩,hcap,hx,by unfold maxLen at w0; exact Nat.le_trans w0 (by decide),int_range w1,int_range w3,int_range w4,int_range w5⟩,bt,hbx⟩
 have ha:=hat j x hj
 exact ⟨(ha 0 _ rfl).1,(ha 0 _ rfl).2,(ha 1 _ rfl).2,(ha 2 _ rfl).2⟩
theorem open_codeq (C : Closed Q B) {b0 : Nat} {r : Reach} {v : Value} {d : DataW H} {p : List MemPlace}
  (hv : Value.okWide Tryz.prog w r b0 28 v) (h : DataW.Trod enc Tryz.prog w 0 (fun _=>true) held 28 v d p) (hq : Q 28 d) :
  ∃ c : Cod,v = codA c∧CodV w c∧c.Raw w∧(∀ p ∈ c.ps,p.nm.size ≤ B∧p.code.length ≤ B)∧BdF B c.kids∧(∀ s ∈ c.gs,s.size ≤ B)∧c.ps.length ≤ B∧c.gs.length ≤ B:=by
 obtain ⟨cs,rfl,hsz⟩:=okWide_struct Tryz.underlying28 hv
 obtain ⟨fuel,hf⟩:=h
 have hf2 : DataW.trod enc Tryz.prog w 0 (fun _=>true) held fuel 28 cs.toList = some (d,p):=hf
 obtain ⟨y0,y1,y2,m,hx,hl,h0,h1,h2⟩:=Go.Deep.trod_struct3 Tryz.underlying28 hf2
 have hx1 : d = .agg [y0.1,y1.1,y2.1]:=congrArg Prod.fst hx
 rw [hx1] at hq
 have q0:=C.st Tryz.underlying28 hq 0 _ _ rfl rfl
 have q1:=C.st Tryz.underlying28 hq 1 _ _ rfl rfl
 have q2:=C.st Tryz.underlying28 hq 2 _ _ rfl rfl
 have hc0 : Tryz.prog.cellsOf 24 = 1:=by kernel_rfl
 have hc1 : Tryz.prog.cellsOf 25 = 1:=by kernel_rfl
 have hc2 : Tryz.prog.cellsOf 26 = 1:=by kernel_rfl
 have hcx : Tryz.prog.cellsOf 28 = 3:=by kernel_rfl
 rw [hcx] at hl
 obtain ⟨c0,c1,c2,hcl⟩ : ∃ c0 c1 c2,cs.toList = [c0,c1,c2]:=by
  generalize cs.toList = l at hl
  match l,hl with
  | [c0,c1,c2],_=>exact ⟨c0,c1,c2,rfl⟩
 rw [hcl] at h0 h1 h2
 simp only [hc0,hc1,hc2,List.drop_succ_cons,List.drop_zero,List.take_succ_cons,List.take_zero] at h0 h1 h2
 obtain ⟨PB,ps,pc,e0,hp,⟨b,off,hB,hat⟩,hcap,hbp⟩:=open_row_q C prL7 7 (by decide) Tryz.underlying24 (by kernel_rfl) (fun x=>PrR w x∧x.nm.size ≤ B∧x.code.length ≤ B) (fun _=>rfl) (open_prcq C) h0 q0
 obtain ⟨CB,fr,cc,e1,⟨hraw,hbf⟩,hfa,hcapc,-,-⟩:=open_itemsq C h1 q1
 obtain ⟨GB,gs,gc,e2,hgs,⟨b2,off2,hB2,hat2⟩,hcapg,hbg⟩:=open_row_q C (fun s : ByteArray=>[Value.string s]) 1 (by decide) Tryz.underlying26 (by kernel_rfl) (fun s=>s.size ≤ B) (fun _=>rfl) (fun n cl y h q=>by
  obtain ⟨s,e0,-,-⟩:=DataW.trod_string Tryz.underlying9 h
  exact ⟨s,e0,text_of C Tryz.underlying9 (by rw [e0] at h; exact h) q⟩) h2 q2
 refine ⟨⟨PB,pc,ps,CB,cc,fr,GB,gc,gs⟩,?_,⟨⟨b,off,hB,fun j x hj=>?_⟩,fun x hx=>(hp x hx).1.1,hfa,⟨b2,off2,hB2,fun j x hj=>?_⟩⟩,⟨hcap,hcapc,hcapg,fun p h=>(hp p h).1,hraw⟩,fun p h=>(hp p h).2,hbf,hgs,hbp,hbg⟩
 ·have e : cs = #[c0,c1,c2]:=by apply Array.toList_inj.1; rw [hcl]
  rw [e,e0,e1,e2]
 ·have ha:=hat j x hj
  exact ⟨(ha 0 _ rfl).1,(ha 0 _ rfl).2,(ha 1 _ rfl).2,(ha 2 _ rfl).2,(ha 3 _ rfl).2,(ha 4 _ rfl).2,(ha 5 _ rfl).2,(ha 6 _ rfl).2⟩
 ·have ha:=hat2 j x hj 0 _ rfl
  rw [Nat.mul_one,Nat.add_zero] at ha
  exact ha
end
end LM
end Go.Proofs.YtaonablbgicmpaaGreatDoor
namespace Go.Proofs.YtaonablbgicmpaaGreatDoor
open Go Go.RowKit
namespace LM
attribute [local go_sem] run_store_flt
abbrev encB : UInt8 → Value:=fun b=>Value.int .u8 (b.toNat : Int)
theorem encB_of (n : Nat) : encB (UInt8.ofNat n) = .int .u8 ((n % 256 : Nat) : Int):=by
 show Value.int .u8 ((UInt8.ofNat n).toNat : Int) = _
 rw [show (UInt8.ofNat n).toNat = n % 256 from by simp]
theorem u8_infoB : (Tryz.prog.info? 5).map (fun i=>(i.zero,i.size,i.bytes)) = some (some (.int .u8 0),1,1):=by kernel_rfl
theorem info_partsB {P : Program} {t : TypeId} {z : Value} {s b : Nat} (h : (P.info? t).map (fun i=>(i.zero,i.size,i.bytes)) = some (some z,s,b)) : ∃ i,P.info? t = some i∧i.zero = some z∧i.size = s∧i.bytes = b:=by
 obtain ⟨i,hi,he⟩:=Option.map_eq_some_iff.1 h
 simp only [Prod.mk.injEq] at he
 exact ⟨i,hi,he.1,he.2.1,he.2.2⟩
def BB (B : Nat) (W0 : World) (v : Value) (bs : List UInt8) (w : World) : Prop:=w.ownsRow B 5 1 v bs.length (bs.map encB)∧Below B W0 w∧B ≤ w.heap.size
theorem BB.next {B : Nat} {W0 w w' : World} {v v' : Value} {bs nb : List UInt8} (h : BB B W0 v bs w) (ho : w'.ownsRow B 5 1 v' (bs.length + nb.length) (bs.map encB ++ nb.map encB)) (hg : w.grownBy w' v.ownBlock) : BB B W0 v' (bs ++ nb) w' :=
 ⟨by rw [List.map_append,List.length_append]; exact ho,h.2.1.grown hg h.2.2 (fun k hk=>(h.1.lt k hk).1),Nat.le_trans h.2.2 hg.size⟩
theorem BB.alloc {B : Nat} {W0 w : World} {v : Value} {bs : List UInt8} (h : BB B W0 v bs w) (o : Obj) : BB B W0 v bs (w.alloc o) :=
 ⟨h.1.alloc o,h.2.1.alloc h.2.2 o,Nat.le_trans h.2.2 (by simp)⟩
theorem BB.nil (w : World) : BB w.heap.size w (.slice none 0 0) [] w:=⟨by exact ⟨rfl,.inl ⟨rfl,rfl⟩⟩,Below.refl _ _,Nat.le_refl _⟩
def num3 (n : Nat) : List UInt8:=[UInt8.ofNat (n / 65536),UInt8.ofNat (n / 256),UInt8.ofNat n]
structure Step (w w' : World) (v v' : Value) : Prop where
 size : w.heap.size ≤ w'.heap.size
 keep : ∀ k,k < w.heap.size → some k ≠ v.ownBlock → w'.heap[k]? = w.heap[k]?
 own : v'.ownBlock = v.ownBlock ∨ ∃ k,v'.ownBlock = some k∧w.heap.size ≤ k
theorem Step.refl (w : World) (v : Value) : Step w w v v:=⟨Nat.le_refl _,fun _ _ _=>rfl,.inl rfl⟩
theorem Step.trans {w w1 w2 : World} {v v1 v2 : Value} (h : Step w w1 v v1) (h' : Step w1 w2 v1 v2) : Step w w2 v v2:=by
 refine ⟨Nat.le_trans h.size h'.size,fun k hk hn=>?_,?_⟩
 ·refine (h'.keep k (Nat.lt_of_lt_of_le hk h.size) ?_).trans (h.keep k hk hn)
  rcases h.own with e | ⟨g,e,hg⟩
  ·rw [e]; exact hn
  ·rw [e]; intro e2; injection e2 with e2; omega
 ·rcases h'.own with e | ⟨g,e,hg⟩
  ·rw [e]
   exact h.own
  ·exact .inr ⟨g,e,Nat.le_trans h.size hg⟩
theorem Step.alloc {w w' : World} {v v' : Value} (o : Obj) (h : Step (w.alloc o) w' v v') : Step w w' v v' :=
 ⟨Nat.le_trans (by simp) h.size,fun k hk hn=>(h.keep k (by simp; omega) hn).trans (Below.heap_alloc w o k hk),h.own.imp id fun ⟨k,e,hk⟩=>⟨k,e,Nat.le_trans (by simp) hk⟩⟩
theorem Step.grown {w w' : World} {v v' : Value} (hg : w.grownBy w' v.ownBlock) (hv : v'.ownBlock = v.ownBlock ∨ v'.ownBlock = some w.heap.size) : Step w w' v v' :=
 ⟨hg.size,hg.block,hv.imp id fun e=>⟨_,e,Nat.le_refl _⟩⟩
section
variable {P : Program}
theorem run_append_bb (t ty e : TypeId) (i : TypeInfo) (ht : P.underlying t = some (.slice e)) (hi : P.info? e = some i) (hz : i.zero = some (.int .u8 0)) (hsize : i.size = 1) (hby : i.bytes = 1)
  (base : Nat) (w : World) (v : Value) (n : Nat) (xs : List Value) (hown : w.ownsRow base e 1 v n xs) (ad : Addr) (m c : Nat) (news : List Value) (hl : news.length = m) (hnews : ∀ j u,news[j]? = some u → w.cell? (ad.add j) = some u) (h1 : ∀ u ∈ news,u.oneCell' = true)
  (hlen : n + m ≤ 1000000000) (hbase : base ≤ w.heap.size) :
  ∃ v' w',(Builtin.append_ #[t,t] ty #[v,.slice (some ad) m c]).run P w = .ok v' w'∧w'.ownsRow base e 1 v' (n + m) (xs ++ news)∧w.grownBy w' v.ownBlock∧(v'.ownBlock = v.ownBlock ∨ v'.ownBlock = some w.heap.size):=by
 have hml : n + m ≤ maxLen:=by unfold maxLen; omega
 obtain ⟨v',w',hr,ho,hg,hnil⟩:=run_append_own (P:=P) w base t ty e i (.int .u8 0) 1 1 ht hi hz hsize hby rfl (by decide) v n xs hown ad m c news (by omega) hnews h1 hml (by omega) hbase
 refine ⟨v',w',hr,ho,hg,?_⟩
 rcases hown with ⟨hx,⟨rfl,rfl⟩ | ⟨g,cap,cur,rfl,hbg,hgc,hnc,hcm,hcs,htake⟩⟩
 ·by_cases hm : m = 0
  ·rw [hnil.2 ⟨rfl,hm⟩]
   exact .inl rfl
  ·have h2:=run_append_nil (P:=P) w t ty e i (.int .u8 0) ht hi hz ad m c news (by rw [hsize]; omega) hnews (by omega) (by omega) (by rw [hby]; omega)
   rw [h2] at hr
   injection hr with e1 e2
   rw [← e1]
   exact .inr rfl
 ·by_cases hroom : n + m ≤ cap
  ·have h2:=run_append_room (P:=P) w t ty e i ht hi g n cap cur hgc ad m c news (by rw [hsize]; omega) hnews h1 hroom (by rw [hsize]; omega)
   rw [h2] at hr
   injection hr with e1 e2
   rw [← e1]
   exact .inl rfl
  ·have holds : ∀ j u,xs[j]? = some u → w.cell? ((⟨g,0,none⟩ : Addr).add j) = some u :=
    World.ownsRow.cells (base:=base) (e:=e) (size:=1) (v:=.slice (some ⟨g,0,none⟩) n cap) (n:=n) ⟨hx,.inr ⟨g,cap,cur,rfl,hbg,hgc,hnc,hcm,hcs,htake⟩⟩ rfl
   have h2:=run_append_grow (P:=P) w t ty e i (.int .u8 0) ht hi hz ⟨g,0,none⟩ n cap xs (by rw [hsize]; omega) holds ad m c news (by rw [hsize]; omega) hnews (by omega) (by omega) (growslice_fits (by omega) (by rw [hby]; omega))
   rw [h2] at hr
   injection hr with e1 e2
   rw [← e1]
   exact .inr rfl
theorem run_append_bbs (t u ty e : TypeId) (i : TypeInfo) (ht : P.underlying t = some (.slice e)) (hu : P.underlying u = some .string) (hi : P.info? e = some i) (hz : i.zero = some (.int .u8 0)) (hsize : i.size = 1) (hby : i.bytes = 1)
  (base : Nat) (w : World) (v : Value) (n : Nat) (xs : List Value) (hown : w.ownsRow base e 1 v n xs) (s : ByteArray) (hlen : n + s.size ≤ 1000000000) (hbase : base ≤ w.heap.size) :
  ∃ v' w',(Builtin.append_ #[t,u] ty #[v,.string s]).run P w = .ok v' w'∧w'.ownsRow base e 1 v' (n + s.size) (xs ++ Lib.strCells s)∧w.grownBy w' v.ownBlock∧(v'.ownBlock = v.ownBlock ∨ v'.ownBlock = some w.heap.size):=by
 have hml : n + s.size ≤ maxLen:=by unfold maxLen; omega
 obtain ⟨v',w',hr,ho,hg,hnil⟩:=Lib.run_append_own_string (P:=P) w base t u ty e i ht hu hi hz hsize hby v n xs hown s hml (by omega) hbase
 refine ⟨v',w',hr,ho,hg,?_⟩
 rcases hown with ⟨hx,⟨rfl,rfl⟩ | ⟨g,cap,cur,rfl,hbg,hgc,hnc,hcm,hcs,htake⟩⟩
 ·by_cases hm : s.size = 0
  ·rw [hnil.2 ⟨rfl,hm⟩]
   exact .inl rfl
  ·have h2:=run_append_nil_string (P:=P) w t u ty e i (.int .u8 0) ht hu hi hz s (by omega) (by omega) (by rw [hby]; omega)
   rw [h2] at hr
   injection hr with e1 e2
   rw [← e1]
   exact .inr rfl
 ·by_cases hroom : n + s.size ≤ cap
  ·have h2:=Lib.run_append_room_string (P:=P) w t u ty e i ht hu hi hsize g n cap cur hgc s hroom (by omega)
   rw [h2] at hr
   injection hr with e1 e2
   rw [← e1]
   exact .inl rfl
  ·have holds : ∀ j u,xs[j]? = some u → w.cell? ((⟨g,0,none⟩ : Addr).add j) = some u :=
    World.ownsRow.cells (base:=base) (e:=e) (size:=1) (v:=.slice (some ⟨g,0,none⟩) n cap) (n:=n) ⟨hx,.inr ⟨g,cap,cur,rfl,hbg,hgc,hnc,hcm,hcs,htake⟩⟩ rfl
   have h2:=Lib.run_append_grow_string (P:=P) w t u ty e i (.int .u8 0) ht hu hi hz ⟨g,0,none⟩ n cap xs (by rw [hsize]; omega) holds s (by omega) (by omega) (by rw [hby]; exact growslice_fits (by omega) (by omega))
   rw [h2] at hr
   injection hr with e1 e2
   rw [← e1]
   exact .inr rfl
theorem wpList_bb {ops : Array Oper} {rest : List Oper} {o : Oper} {a : Act} {Q : Exit → Act → World → Prop} (hgd : o.guard = none) (s x : Operand) (t : TypeId)
  (ho : o.op = .call { callee:=.builtin .append,args:=#[s,x],argTypes:=#[t,t] })
  (i : TypeInfo) (ht : P.underlying t = some (.slice 5)) (hi : P.info? 5 = some i) (hz : i.zero = some (.int .u8 0)) (hsize : i.size = 1) (hby : i.bytes = 1)
  {B : Nat} {W0 : World} {v : Value} {bs : List UInt8} {w0 : World} (nb : List UInt8) (cells : Array Value) (m : Nat) (hc : cells = (nb.map encB).toArray) (hm : nb.length = m) (hs : a.eval s = v) (hb : BB B W0 v bs w0)
  (hx : a.eval x = .slice (some ⟨w0.heap.size,0,none⟩) m m) (hlen : bs.length + m ≤ 1000000000)
  (h : ∀ v' w',BB B W0 v' (bs ++ nb) w' → Step w0 w' v v' → wpList P ops Q rest (a.put o.dst v') w') : wpList P ops Q (o :: rest) a (w0.alloc (.cells cells 5)):=by
 subst hc
 subst hm
 have hb':=hb.alloc (.cells (nb.map encB).toArray 5)
 refine wpList_plain hgd fun K hK=>?_
 obtain ⟨v',w',hr,h2,h3,h4⟩:=run_append_bb (P:=P) t o.type 5 i ht hi hz hsize hby B _ v bs.length (bs.map encB) hb'.1 ⟨w0.heap.size,0,none⟩ nb.length nb.length (nb.map encB) (by simp) (fun j u hj=>by
  rw [Lib.add_plain,World.cell?_alloc_new]
  simpa using hj) (fun u hu=>by
  obtain ⟨b,_,rfl⟩:=List.mem_map.1 hu
  rfl) hlen hb'.2.2
 unfold Oper.wp execOp
 simp only [ho,resolve,invoke,builtin,Sem.run_bind,Sem.run_pure,Result.andThen_ok,List.map_toArray,List.map_cons,List.map_nil,hs,hx,hr]
 exact hK _ _ (h v' w' (hb'.next h2 h3) (Step.alloc _ (Step.grown h3 h4)))
theorem wpList_bbs {ops : Array Oper} {rest : List Oper} {o : Oper} {a : Act} {Q : Exit → Act → World → Prop} (hgd : o.guard = none) (sl x : Operand) (t u : TypeId)
  (ho : o.op = .call { callee:=.builtin .append,args:=#[sl,x],argTypes:=#[t,u] })
  (i : TypeInfo) (ht : P.underlying t = some (.slice 5)) (hu : P.underlying u = some .string) (hi : P.info? 5 = some i) (hz : i.zero = some (.int .u8 0)) (hsize : i.size = 1) (hby : i.bytes = 1)
  {B : Nat} {W0 : World} {v : Value} {bs : List UInt8} {w0 : World} (s : ByteArray) (hs : a.eval sl = v) (hb : BB B W0 v bs w0)
  (hx : a.eval x = .string s) (hlen : bs.length + s.size ≤ 1000000000)
  (h : ∀ v' w',BB B W0 v' (bs ++ s.data.toList) w' → Step w0 w' v v' → wpList P ops Q rest (a.put o.dst v') w') : wpList P ops Q (o :: rest) a w0:=by
 refine wpList_plain hgd fun K hK=>?_
 obtain ⟨v',w',hr,h2,h3,h4⟩:=run_append_bbs (P:=P) t u o.type 5 i ht hu hi hz hsize hby B _ v bs.length (bs.map encB) hb.1 s hlen hb.2.2
 unfold Oper.wp execOp
 simp only [ho,resolve,invoke,builtin,Sem.run_bind,Sem.run_pure,Result.andThen_ok,List.map_toArray,List.map_cons,List.map_nil,hs,hx,hr]
 exact hK _ _ (h v' w' (hb.next (by rw [← Lib.size_eq]; exact h2) h3) (Step.grown h3 h4))
end
theorem cnum3_any (B : Nat) (W0 : World) (v : Value) (bs : List UInt8) (n : Nat) (hn : n < 16777216) (w : World) (hb : BB B W0 v bs w) (hl : bs.length + 3 ≤ 1000000000) :
  Calls Tryz.prog 17 #[v,.int .i64 (n : Int)] w fun e w'=>∃ v',e = .returned v'∧BB B W0 v' (bs ++ num3 n) w'∧Step w w' v v':=by
 obtain ⟨i0,hi0,hz0,hz1,hz2⟩:=info_partsB u8_infoB
 have HB:=Lib.hid hb
 have hc : #[Value.int IntKind.u8 ((n : Int) / 65536),Value.int IntKind.u8 ((n : Int) / 256 % 256),Value.int IntKind.u8 ((n : Int) % 256)] = ((num3 n).map encB).toArray:=by
  unfold num3
  simp only [List.map,encB_of]
  rw [show ((n / 65536 % 256 : Nat) : Int) = (n : Int) / 65536 by omega,show ((n / 256 % 256 : Nat) : Int) = (n : Int) / 256 % 256 by omega,show ((n % 256 : Nat) : Int) = (n : Int) % 256 by omega]
 have HC:=Lib.hid hc
 clear hb hc
 go_enter Tryz.func17,Tryz.ntmps17
 go_wp2_with (at_builtin; refine wpList_bb rfl _ _ 45 rfl i0 Tryz.underlying45 hi0 hz0 hz1 hz2 (num3 n) _ 3 HC.out rfl rfl HB.out rfl hl ?_; intro v1 w1 hb1 hs1)
 have HB1:=Lib.hid hb1
 have HS1:=Lib.hid hs1
 clear hb1 hs1
 go_wp2_with (fail)
 go_ret
 exact ⟨v1,rfl,HB1.out,HS1.out⟩
def text3 (s : ByteArray) : List UInt8:=num3 s.size ++ s.data.toList
theorem text3_len (s : ByteArray) : (text3 s).length = 3 + s.size:=by rw [text3,List.length_append,Lib.size_eq]; rfl
theorem ctext3_any (B : Nat) (W0 : World) (v : Value) (bs : List UInt8) (s : ByteArray) (hn : s.size < 16777216) (w : World) (hb : BB B W0 v bs w) (hl : bs.length + (3 + s.size) ≤ 1000000000) :
  Calls Tryz.prog 19 #[v,.string s] w fun e w'=>∃ v',e = .returned v'∧BB B W0 v' (bs ++ text3 s) w'∧Step w w' v v':=by
 obtain ⟨i0,hi0,hz0,hz1,hz2⟩:=info_partsB u8_infoB
 have H:=Lib.hid (cnum3_any B W0 v bs s.size hn w hb (by omega))
 clear hb
 go_enter Tryz.func19,Tryz.ntmps19
 go_wp2_with (fail)
 refine H.out.mono ?_
 rintro e w1 ⟨v1,rfl,hb1,hs1⟩
 have HB1:=Lib.hid hb1
 have HS1:=Lib.hid hs1
 have hl1 : (bs ++ num3 s.size).length + s.size ≤ 1000000000:=by rw [List.length_append]; show bs.length + 3 + s.size ≤ _; omega
 clear hb1 hs1
 go_wp2_with (at_builtin; refine wpList_bbs rfl _ _ 45 9 rfl i0 Tryz.underlying45 Tryz.underlying9 hi0 hz0 hz1 hz2 s rfl HB1.out rfl hl1 ?_; intro v2 w2 hb2 hs2)
 have HB2:=Lib.hid (show BB B W0 v2 (bs ++ text3 s) w2 by rw [text3,← List.append_assoc]; exact hb2)
 have HS2:=Lib.hid (HS1.out.trans hs2)
 clear hb2 hs2
 go_wp2_with (fail)
 go_ret
 exact ⟨v2,rfl,HB2.out,HS2.out⟩
theorem ctruth_any (b : Bool) (w : World) : Calls Tryz.prog 44 #[.bool b] w fun e w'=>e = .returned (.int .i64 ((b.toNat : Nat) : Int))∧w = w':=by
 cases b
 ·go_enter Tryz.func44,Tryz.ntmps44
  go_wp2_with (fail)
  go_ret
  exact ⟨rfl,rfl⟩
 ·go_enter Tryz.func44,Tryz.ntmps44
  go_wp2_with (fail)
  go_ret
  exact ⟨rfl,rfl⟩
end LM
namespace LM
attribute [local go_sem] run_store_flt
def insL (x : Ins) : List UInt8:=num3 x.op.toNat ++ (num3 x.a.toNat ++ num3 x.b.toNat)
def insLs (l : List Ins) : List UInt8:=(l.map insL).flatten
def procL (p : Prh) : List UInt8:=text3 p.nm ++ (num3 p.pa.toNat ++ (num3 p.rs.toNat ++ (num3 p.sl.toNat ++ (num3 p.de.toNat ++ (num3 p.fr.toNat ++ (num3 p.code.length ++ insLs p.code))))))
theorem num3_len (n : Nat) : (num3 n).length = 3:=rfl
theorem insLs_cons (x : Ins) (l : List Ins) : insLs (x :: l) = insL x ++ insLs l:=rfl
theorem numB_nat {n : Int} (h : numB n = true) : ∃ k : Nat,n = (k : Int)∧k < 16777216∧n.toNat = k:=by
 unfold numB at h
 rw [Bool.and_eq_true,decide_eq_true_eq,decide_eq_true_eq] at h
 exact ⟨n.toNat,by omega,by omega,rfl⟩
theorem cnum3_int (B : Nat) (W0 : World) (v : Value) (bs : List UInt8) (n : Int) (hn : numB n = true) (w : World) (hb : BB B W0 v bs w) (hl : bs.length + 3 ≤ 1000000000) :
  Calls Tryz.prog 17 #[v,.int .i64 n] w fun e w'=>∃ v',e = .returned v'∧BB B W0 v' (bs ++ num3 n.toNat) w'∧Step w w' v v':=by
 obtain ⟨k,rfl,hk,e⟩:=numB_nat hn
 rw [e]
 exact cnum3_any B W0 v bs k hk w hb hl
theorem Step.cell {w w' : World} {v v' : Value} (h : Step w w' v v') {b off : Nat} (hb : b < w.heap.size) (hn : some b ≠ v.ownBlock) : w'.cell? ⟨b,off,none⟩ = w.cell? ⟨b,off,none⟩ :=
 World.cell?_of_block (a:=⟨b,off,none⟩) (h.keep b hb hn)
def Apart (w : World) (v : Value) (b : Nat) : Prop:=b < w.heap.size∧some b ≠ v.ownBlock
theorem Apart.step {w w' : World} {v v' : Value} {b : Nat} (h : Apart w v b) (hs : Step w w' v v') : Apart w' v' b:=by
 refine ⟨Nat.lt_of_lt_of_le h.1 hs.size,?_⟩
 rcases hs.own with e | ⟨k,e,hk⟩
 ·rw [e]; exact h.2
 ·rw [e]; intro e2; injection e2 with e2; have:=h.1; omega
theorem Apart.cell {w w' : World} {v v' : Value} {b off : Nat} (h : Apart w v b) (hs : Step w w' v v') : w'.cell? ⟨b,off,none⟩ = w.cell? ⟨b,off,none⟩:=hs.cell h.1 h.2
theorem Apart.p7 {w w' : World} {v v' : Value} {b off : Nat} {p : Prh} (h : Apart w v b) (hs : Step w w' v v') (hp : P7 w b off p) : P7 w' b off p :=
 ⟨(h.cell hs).trans hp.c0,(h.cell hs).trans hp.c1,(h.cell hs).trans hp.c2,(h.cell hs).trans hp.c3,(h.cell hs).trans hp.c4,(h.cell hs).trans hp.c5,(h.cell hs).trans hp.c6⟩
theorem Apart.i3 {w w' : World} {v v' : Value} {b off : Nat} {p : Ins} (h : Apart w v b) (hs : Step w w' v v') (hp : I3 w b off p) : I3 w' b off p :=
 ⟨(h.cell hs).trans hp.c0,(h.cell hs).trans hp.c1,(h.cell hs).trans hp.c2⟩
theorem apart_new {B : Nat} {W0 w : World} {v : Value} {bs : List UInt8} (h : BB B W0 v bs w) (o : Obj) : Apart (w.alloc o) v w.heap.size :=
 ⟨by simp,fun e=>by have:=(h.1.lt _ e.symm).2; omega⟩
theorem cproc3_any (B : Nat) (W0 : World) (hW0 : B ≤ W0.heap.size) (v : Value) (bs : List UInt8) (p : Prh) (w : World) (hb : BB B W0 v bs w) (hp : prB p = true) (hok : p.Ok) (hc : p.code.length < 16777216)
  (hv : ∃ b off,(0 < p.code.length → p.B = some ⟨b,off,none⟩∧b < B)∧InsAt W0 b off p.code) (hl : bs.length + (procL p).length ≤ 1000000000) :
  Calls Tryz.prog 20 #[v,prA p] w fun e w'=>∃ v',e = .returned v'∧BB B W0 v' (bs ++ procL p) w'∧Step w w' v v':=by
 obtain ⟨nm,pa,rs,sl,de,fr,PB,cap,code⟩:=p
 unfold prB at hp
 dsimp only at hp hok hc hv
 rw [Bool.and_eq_true,Bool.and_eq_true,decide_eq_true_eq] at hp
 obtain ⟨hnm,hnums,hcode⟩:=hp
 simp only [List.all_cons,List.all_nil,Bool.and_true,Bool.and_eq_true] at hnums
 obtain ⟨n1,n2,n3,n4⟩:=hnums
 obtain ⟨b,off,hB,hF⟩:=hv
 obtain ⟨Wp,hWp⟩ : ∃ Wp,w.alloc (prO ⟨nm,pa,rs,sl,de,fr,PB,cap,code⟩) = Wp:=⟨_,rfl⟩
 have hbp : BB B W0 v bs Wp:=by rw [← hWp]; exact hb.alloc _
 have hap : Apart Wp v w.heap.size:=by rw [← hWp]; exact apart_new hb _
 have hp7 : P7 Wp w.heap.size 0 ⟨nm,pa,rs,sl,de,fr,PB,cap,code⟩:=P7.of_block (by rw [← hWp]; unfold World.alloc; simp)
 have hsp : Step w Wp v v:=by rw [← hWp]; exact Step.alloc _ (Step.refl _ _)
 have hll : (procL ⟨nm,pa,rs,sl,de,fr,PB,cap,code⟩).length = 3 + nm.size + 18 + (insLs code).length:=by
  simp only [procL,List.length_append,num3_len,text3_len]; omega
 rw [hll] at hl
 have C0:=Lib.hid (ctext3_any B W0 v bs nm (by omega) Wp hbp (by omega))
 have HWp:=Lib.hid hWp
 have HAP:=Lib.hid hap
 have HP7:=Lib.hid hp7
 have HSP:=Lib.hid hsp
 have HF:=Lib.hid hF
 have HB:=Lib.hid hB
 have HN:=Lib.hid (And.intro n1 (And.intro n2 (And.intro n3 n4)))
 have HC:=Lib.hid hcode
 obtain ⟨y0,y1,y2,y3,y4,y5,y6⟩:=hp7
 simp only [Nat.zero_add] at y0 y1 y2 y3 y4 y5 y6
 clear hWp hbp hap hsp hF hB n1 n2 n3 n4 hcode hb hll
 go_enter Tryz.func20,Tryz.ntmps20
 go_wp2_with (fail)
 rw [HWp.out]
 refine C0.out.mono ?_
 rintro e w1 ⟨v1,rfl,hb1,hs1⟩
 have A1:=Lib.hid (HAP.out.step hs1)
 have Q1:=Lib.hid (HAP.out.p7 hs1 HP7.out)
 have S1:=Lib.hid (HSP.out.trans hs1)
 have C1:=Lib.hid (cnum3_int B W0 v1 _ pa HN.out.1 w1 hb1 (by rw [List.length_append,text3_len]; omega))
 clear hb1 hs1 y0 y1 y2 y3 y4 y5 y6
 obtain ⟨y0,y1,y2,y3,y4,y5,y6⟩:=Q1.out
 simp only [Nat.zero_add] at y0 y1 y2 y3 y4 y5 y6
 go_wp2_with (fail)
 refine C1.out.mono ?_
 rintro e w2 ⟨v2,rfl,hb2,hs2⟩
 have A2:=Lib.hid (A1.out.step hs2)
 have Q2:=Lib.hid (A1.out.p7 hs2 Q1.out)
 have S2:=Lib.hid (S1.out.trans hs2)
 have HB2:=Lib.hid hb2
 have T2:=Lib.hid (ctruth_any rs w2)
 clear hb2 hs2 y0 y1 y2 y3 y4 y5 y6
 obtain ⟨y0,y1,y2,y3,y4,y5,y6⟩:=Q2.out
 simp only [Nat.zero_add] at y0 y1 y2 y3 y4 y5 y6
 go_wp2_with (fail)
 refine T2.out.mono ?_
 rintro e w2' ⟨rfl,rfl⟩
 have C2:=Lib.hid (cnum3_any B W0 v2 _ rs.toNat (by cases rs <;> decide) w2 HB2.out (by rw [List.length_append,List.length_append,text3_len,num3_len]; omega))
 go_wp2_with (fail)
 refine C2.out.mono ?_
 rintro e w3 ⟨v3,rfl,hb3,hs3⟩
 have A3:=Lib.hid (A2.out.step hs3)
 have Q3:=Lib.hid (A2.out.p7 hs3 Q2.out)
 have S3:=Lib.hid (S2.out.trans hs3)
 have C3:=Lib.hid (cnum3_int B W0 v3 _ sl HN.out.2.1 w3 hb3 (by simp only [List.length_append,text3_len,num3_len]; omega))
 clear hb3 hs3 y0 y1 y2 y3 y4 y5 y6
 obtain ⟨y0,y1,y2,y3,y4,y5,y6⟩:=Q3.out
 simp only [Nat.zero_add] at y0 y1 y2 y3 y4 y5 y6
 go_wp2_with (fail)
 refine C3.out.mono ?_
 rintro e w4 ⟨v4,rfl,hb4,hs4⟩
 have A4:=Lib.hid (A3.out.step hs4)
 have Q4:=Lib.hid (A3.out.p7 hs4 Q3.out)
 have S4:=Lib.hid (S3.out.trans hs4)
 have C4:=Lib.hid (cnum3_int B W0 v4 _ de HN.out.2.2.1 w4 hb4 (by simp only [List.length_append,text3_len,num3_len]; omega))
 clear hb4 hs4 y0 y1 y2 y3 y4 y5 y6
 obtain ⟨y0,y1,y2,y3,y4,y5,y6⟩:=Q4.out
 simp only [Nat.zero_add] at y0 y1 y2 y3 y4 y5 y6
 go_wp2_with (fail)
 refine C4.out.mono ?_
 rintro e w5 ⟨v5,rfl,hb5,hs5⟩
 have A5:=Lib.hid (A4.out.step hs5)
 have Q5:=Lib.hid (A4.out.p7 hs5 Q4.out)
 have S5:=Lib.hid (S4.out.trans hs5)
 have C5:=Lib.hid (cnum3_int B W0 v5 _ fr HN.out.2.2.2 w5 hb5 (by simp only [List.length_append,text3_len,num3_len]; omega))
 clear hb5 hs5 y0 y1 y2 y3 y4 y5 y6
 obtain ⟨y0,y1,y2,y3,y4,y5,y6⟩:=Q5.out
 simp only [Nat.zero_add] at y0 y1 y2 y3 y4 y5 y6
 go_wp2_with (fail)
 refine C5.out.mono ?_
 rintro e w6 ⟨v6,rfl,hb6,hs6⟩
 have A6:=Lib.hid (A5.out.step hs6)
 have Q6:=Lib.hid (A5.out.p7 hs6 Q5.out)
 have S6:=Lib.hid (S5.out.trans hs6)
 have C6:=Lib.hid (cnum3_any B W0 v6 _ code.length hc w6 hb6 (by simp only [List.length_append,text3_len,num3_len]; omega))
 clear hb6 hs6 y0 y1 y2 y3 y4 y5 y6
 obtain ⟨y0,y1,y2,y3,y4,y5,y6⟩:=Q6.out
 simp only [Nat.zero_add] at y0 y1 y2 y3 y4 y5 y6
 go_wp2_with (fail)
 refine C6.out.mono ?_
 rintro e w7 ⟨v7,rfl,hb7,hs7⟩
 have A7:=Lib.hid (A6.out.step hs7)
 have Q7:=Lib.hid (A6.out.p7 hs7 Q6.out)
 have S7:=Lib.hid (S6.out.trans hs7)
 obtain ⟨bs7,hbs7⟩ : ∃ bs7,bs7 = bs ++ text3 nm ++ num3 pa.toNat ++ num3 rs.toNat ++ num3 sl.toNat ++ num3 de.toNat ++ num3 fr.toNat ++ num3 code.length:=⟨_,rfl⟩
 rw [← hbs7] at hb7
 have hl7 : bs7.length + (insLs code).length ≤ 1000000000:=by rw [hbs7]; simp only [List.length_append,text3_len,num3_len]; omega
 have HE : Hid (bs7 ++ insLs code = bs ++ procL ⟨nm,pa,rs,sl,de,fr,PB,cap,code⟩):=Lib.hid (by rw [hbs7]; simp only [procL,List.append_assoc])
 have HL7:=Lib.hid hl7
 have HB7:=Lib.hid hb7
 clear hb7 hs7 y0 y1 y2 y3 y4 y5 y6 hbs7 hl7 hl
 obtain ⟨y0,y1,y2,y3,y4,y5,y6⟩:=Q7.out
 simp only [Nat.zero_add] at y0 y1 y2 y3 y4 y5 y6
 clear y0 y1 y2 y3 y4 y5
 rcases Nat.eq_zero_or_pos code.length with h0 | hpos
 ·have hz : decide (0 < code.length) = false:=decide_eq_false (by omega)
  have he : insLs code = []:=by rw [List.length_eq_zero_iff.1 h0]; rfl
  have HE2:=Lib.hid he
  clear he h0
  go_wp2_with (fail)
  go_loopg [0,40] 0 (fun kk u i wr=>wr = w7∧i = .int .i64 0∧u = v7)
  case atStart=>exact ⟨rfl,rfl,rfl⟩
  case round =>
   obtain ⟨rfl,rfl,rfl⟩:=hrel
   go_wp2_with (fail)
   go_ret
   exact ⟨_,rfl,by rw [← HE.out,HE2.out,List.append_nil]; exact HB7.out,S7.out⟩
 obtain ⟨rfl,hbB⟩:=HB.out hpos
 go_wp2_with (fail)
 go_loopg [0,40] code.length (fun kk u i wr=>Step w wr v u∧∃ j : Nat,j ≤ code.length∧kk = code.length - j∧i = .int .i64 (j : Int)∧∃ done,BB B W0 u done wr∧done ++ insLs (code.drop j) = bs7 ++ insLs code)
 case atStart=>exact ⟨S7.out,0,Nat.zero_le _,rfl,rfl,bs7,HB7.out,rfl⟩
 case round =>
  obtain ⟨hst,j,hj,rfl,rfl,done,hbr,hd⟩:=hrel
  have HST:=Lib.hid hst
  have HBR:=Lib.hid hbr
  have HD:=Lib.hid hd
  clear hst hbr hd
  by_cases hjl : j < code.length
  ·obtain ⟨x,hx,hdr⟩:=drop_at hjl
   have hxb:=List.all_eq_true.1 HC.out x (List.mem_of_getElem? hx)
   unfold insB at hxb
   simp only [List.all_cons,List.all_nil,Bool.and_true,Bool.and_eq_true] at hxb
   obtain ⟨x1,x2,x3⟩:=hxb
   have hi3:=(HF.out j x hx).2.keep HBR.out.2.1 hbB
   have hd2:=HD.out
   rw [hdr,insLs_cons] at hd2
   have hlen : done.length + (9 + (insLs (code.drop (j + 1))).length) ≤ 1000000000:=by
    have h1:=congrArg List.length hd2
    have h2:=HL7.out
    simp only [List.length_append,insL,num3_len] at h1
    omega
   obtain ⟨Wi,hWi⟩ : ∃ Wi,wr.alloc (insO x) = Wi:=⟨_,rfl⟩
   have hbi : BB B W0 u0 done Wi:=by rw [← hWi]; exact HBR.out.alloc _
   have hai : Apart Wi u0 wr.heap.size:=by rw [← hWi]; exact apart_new HBR.out _
   have hii : I3 Wi wr.heap.size 0 x:=I3.of_block (by rw [← hWi]; unfold World.alloc; simp)
   have hsi : Step w Wi v u0:=by rw [← hWi]; exact HST.out.trans (Step.alloc _ (Step.refl _ _))
   have HWi:=Lib.hid hWi
   have AI:=Lib.hid hai
   have QI:=Lib.hid hii
   have SI:=Lib.hid hsi
   have D1:=Lib.hid (cnum3_int B W0 u0 done x.op x1 Wi hbi (by omega))
   have X23:=Lib.hid (And.intro x2 x3)
   have HD2:=Lib.hid hd2
   have HLN:=Lib.hid hlen
   obtain ⟨z0,z1,z2⟩:=hi3
   obtain ⟨t0,t1,t2⟩:=hii
   simp only [Nat.zero_add] at t0 t1 t2
   clear hWi hbi hai hsi hx hdr x1 x2 x3 hd2 hlen
   go_wp2_with (fail)
   rw [HWi.out]
   go_wp2_with (fail)
   refine D1.out.mono ?_
   rintro e q1 ⟨u1,rfl,hc1,hd1⟩
   have AI1:=Lib.hid (AI.out.step hd1)
   have QI1:=Lib.hid (AI.out.i3 hd1 QI.out)
   have SI1:=Lib.hid (SI.out.trans hd1)
   have D2:=Lib.hid (cnum3_int B W0 u1 _ x.a X23.out.1 q1 hc1 (by have:=HLN.out; simp only [List.length_append,num3_len]; omega))
   clear hc1 hd1 t0 t1 t2
   obtain ⟨t0,t1,t2⟩:=QI1.out
   simp only [Nat.zero_add] at t0 t1 t2
   go_wp2_with (fail)
   refine D2.out.mono ?_
   rintro e q2 ⟨u2,rfl,hc2,hd2⟩
   have QI2:=Lib.hid (AI1.out.i3 hd2 QI1.out)
   have SI2:=Lib.hid (SI1.out.trans hd2)
   have D3:=Lib.hid (cnum3_int B W0 u2 _ x.b X23.out.2 q2 hc2 (by have:=HLN.out; simp only [List.length_append,num3_len]; omega))
   clear hc2 hd2 t0 t1 t2
   obtain ⟨t0,t1,t2⟩:=QI2.out
   simp only [Nat.zero_add] at t0 t1 t2
   go_wp2_with (fail)
   refine D3.out.mono ?_
   rintro e q3 ⟨u3,rfl,hc3,hd3⟩
   have SI3:=Lib.hid (SI2.out.trans hd3)
   have HC3:=Lib.hid hc3
   clear hc3 hd3 t0 t1 t2
   have hj63 : (j : Int) < 1000000000000:=by omega
   go_wp2_with (fail)
   go_roundg (code.length - (j + 1))
   case measure=>omega
   case rel=>exact ⟨SI3.out,j + 1,by omega,rfl,by go_num,_,HC3.out,by rw [← HD2.out]; simp only [insL,List.append_assoc]⟩
  ·have hje : j = code.length:=by omega
   subst hje
   have hd2:=HD.out
   rw [List.drop_length] at hd2
   have hd3 : done = bs7 ++ insLs code:=by rw [← hd2]; exact (List.append_nil _).symm
   have HD3:=Lib.hid hd3
   clear hd2 hd3
   go_wp2_with (fail)
   go_ret
   exact ⟨_,rfl,by rw [← HE.out,← HD3.out]; exact HBR.out,HST.out⟩
def constsL (tx : Hd → Fr → ByteArray) : Fr → List UInt8
 | .nil=>[]
 | .cons h k r=>text3 (tx h k) ++ constsL tx r
def globsL : List ByteArray → List UInt8
 | []=>[]
 | s :: l=>text3 s ++ globsL l
def procsL : List Prh → List UInt8
 | []=>[]
 | p :: l=>procL p ++ procsL l
def bytesL (tx : Hd → Fr → ByteArray) (c : Cod) : List UInt8:=num3 c.kids.len ++ (constsL tx c.kids ++ (num3 c.gs.length ++ (globsL c.gs ++ (num3 c.ps.length ++ procsL c.ps))))
end LM
end Go.Proofs.YtaonablbgicmpaaGreatDoor
