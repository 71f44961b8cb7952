import Derived.Test.YtaonablbgicmpaaGreatDoorE19
import Derived.Test.YtaonablbgicmpaaGreatDoorE38
import Derived.Test.YtaonablbgicmpaaGreatDoorE09
import Derived.Test.YtaonablbgicmpaaGreatDoorE34
import Derived.Deep.LoopGhost
import Derived.BigQuiet
import Derived.Deep.RegionLawGrows
import Derived.Deep.MidRow
import Derived.BigRegion
import Derived.Test.YtaonablbgicmpaaGreatDoorE46
set_option linter.unusedVariables false
set_option linter.unusedSimpArgs false
set_option maxRecDepth 100000
set_option maxHeartbeats 16000000
namespace Go.Proofs.YtaonablbgicmpaaGreatDoor
open Go Go.RowKit
namespace LM
attribute [local go_sem] run_store_flt
abbrev qxq : ByteArray:=⟨#[34,120,34]⟩
theorem trim_qxq : (⟨(Lib.trimLeftS (qxq).data.toList (⟨#[32,9,10,13]⟩ : ByteArray).data.toList).toArray⟩ : ByteArray) = qxq:=by decide
theorem trim_none : (⟨(Lib.trimLeftS (⟨#[]⟩ : ByteArray).data.toList (⟨#[32,9,10,13]⟩ : ByteArray).data.toList).toArray⟩ : ByteArray) = ⟨#[]⟩:=by decide
theorem pre_semi : Lib.hasPrefix (qxq).data.toList (⟨#[59]⟩ : ByteArray).data.toList = false:=by decide
theorem pre_semi0 : Lib.hasPrefix (⟨#[]⟩ : ByteArray).data.toList (⟨#[59]⟩ : ByteArray).data.toList = false:=by decide
theorem rblanks0 (w : World) : Calls Tryz.prog 112 #[.string ⟨#[34,120,34]⟩,.int .i64 0] w fun e w'=>e = .returned (.int .i64 0)∧Below w.heap.size w w':=by
 have T1:=Lib.hid fun W=>Tryz.strings_TrimLeft_laid ⟨#[34,120,34]⟩ ⟨#[32,9,10,13]⟩ W (by decide) (ascii_of_all (by decide))
 have P1:=Lib.hid fun W=>Tryz.strings_HasPrefix ⟨#[34,120,34]⟩ ⟨#[59]⟩ W
 rw [trim_qxq] at T1
 rw [pre_semi] at P1
 go_enter Tryz.func112,Tryz.ntmps112
 go_wp2_with (fail)
 rw [show (⟨#[34,120,34]⟩ : ByteArray).extract 0 3 = ⟨#[34,120,34]⟩ from rfl]
 refine (T1.out _).mono ?_
 rintro e w1 ⟨rfl,hb1⟩
 have HB1:=Lib.hid hb1
 clear hb1
 go_wp2_with (fail)
 go_loopg [5] 0 (fun kk s wr=>wr = w1∧s = .string ⟨#[34,120,34]⟩)
 case atStart=>exact ⟨rfl,rfl⟩
 case round =>
  obtain ⟨rfl,rfl⟩:=hrel
  go_wp2_with (fail)
  refine (P1.out _).mono ?_
  rintro e w2 ⟨rfl,rfl⟩
  go_wp2_with (fail)
  go_ret
  exact ⟨rfl,HB1.out⟩
theorem rblanks3 (w : World) : Calls Tryz.prog 112 #[.string ⟨#[34,120,34]⟩,.int .i64 3] w fun e w'=>e = .returned (.int .i64 3)∧Below w.heap.size w w':=by
 have T1:=Lib.hid fun W=>Tryz.strings_TrimLeft_laid ⟨#[]⟩ ⟨#[32,9,10,13]⟩ W (by decide) (ascii_of_all (by decide))
 have P1:=Lib.hid fun W=>Tryz.strings_HasPrefix ⟨#[]⟩ ⟨#[59]⟩ W
 rw [trim_none] at T1
 rw [pre_semi0] at P1
 go_enter Tryz.func112,Tryz.ntmps112
 go_wp2_with (fail)
 refine (T1.out _).mono ?_
 rintro e w1 ⟨rfl,hb1⟩
 have HB1:=Lib.hid hb1
 clear hb1
 go_wp2_with (fail)
 go_loopg [5] 0 (fun kk s wr=>wr = w1∧s = .string ⟨#[]⟩)
 case atStart=>exact ⟨rfl,rfl⟩
 case round =>
  obtain ⟨rfl,rfl⟩:=hrel
  go_wp2_with (fail)
  refine (P1.out _).mono ?_
  rintro e w2 ⟨rfl,rfl⟩
  go_wp2_with (fail)
  go_ret
  exact ⟨rfl,HB1.out⟩
theorem rlen_qxq (w : World) : Calls Tryz.prog 188 #[.string ⟨#[34,120,34]⟩] w fun e w'=>e = .returned (.int .i64 3)∧w = w':=by
 have b1 : ∀ h,((⟨#[34,120,34]⟩ : ByteArray)[1]'h).toNat = 120:=fun _=>rfl
 have b2 : ∀ h,((⟨#[34,120,34]⟩ : ByteArray)[2]'h).toNat = 34:=fun _=>rfl
 go_enter Tryz.func188,Tryz.ntmps188
 go_wp2_with (fail)
 go_loopg [3] 1 (fun kk i wr=>wr = w∧((kk = 1∧i = .int .i64 1) ∨ (kk = 0∧i = .int .i64 2)))
 case atStart=>exact ⟨rfl,.inl ⟨rfl,rfl⟩⟩
 case round =>
  obtain ⟨rfl,⟨rfl,rfl⟩ | ⟨rfl,rfl⟩⟩:=hrel
  ·go_wp2_with (fail)
   go_roundg 0
   case measure=>omega
   case rel=>exact ⟨rfl,.inr ⟨rfl,rfl⟩⟩
  ·go_wp2_with (fail)
   go_ret
   exact ⟨rfl,rfl⟩
theorem rfirst_x (w : World) (hu : Lib.Utf8Tabs 1 2 w) : Calls Tryz.prog 190 #[.string ⟨#[120]⟩] w fun e w'=>e = .returned (.tuple #[.int .i32 120,.int .i64 1])∧Below w.heap.size w w':=by
 have D1:=Tryz.utf8_DecodeRuneInString ⟨#[120]⟩ w hu
 rw [show Lib.decodeGo ⟨#[120]⟩ = (120,1) by decide] at D1
 have H1:=Lib.hid D1
 clear D1 hu
 go_enter Tryz.func190,Tryz.ntmps190
 go_wp2_with (fail)
 refine H1.out.mono ?_
 rintro e w1 ⟨rfl,hb1⟩
 have HB1:=Lib.hid hb1
 clear hb1
 go_wp2_with (fail)
 go_ret2
 exact ⟨rfl,HB1.out⟩
theorem rsign_x (w : World) (hu : Lib.Utf8Tabs 1 2 w) : Calls Tryz.prog 248 #[.string ⟨#[120]⟩] w fun e w'=>e = .returned (.tuple #[.int .i32 120,.int .i64 1])∧Below w.heap.size w w':=by
 have F1:=Lib.hid (rfirst_x w hu)
 have P1:=Lib.hid (Tryz.strings_CutPrefix ⟨#[120]⟩ ⟨#[92]⟩ w)
 rw [show Lib.hasPrefix (⟨#[120]⟩ : ByteArray).data.toList (⟨#[92]⟩ : ByteArray).data.toList = false by decide] at P1
 clear hu
 go_enter Tryz.func248,Tryz.ntmps248
 go_wp2_with (fail)
 refine P1.out.mono ?_
 rintro e w1 ⟨rfl,rfl⟩
 go_wp2_with (fail)
 refine F1.out.mono ?_
 rintro e w2 ⟨rfl,hb2⟩
 have HB2:=Lib.hid hb2
 clear hb2
 go_wp2_with (fail)
 go_ret2
 exact ⟨rfl,HB2.out⟩
theorem runesc_x (w : World) (hu : UT w) : Calls Tryz.prog 189 #[.string ⟨#[120]⟩] w fun e w'=>e = .returned (.tuple #[.string ⟨#[120]⟩,.int .i64 0])∧Below w.heap.size w w':=by
 obtain ⟨W0,hW0,hb0,hwr⟩:=new_builder w
 have F1:=Lib.hid (rsign_x W0 (hu W0 hb0))
 have HW0:=Lib.hid hW0
 have HB0:=Lib.hid hb0
 have HWR:=Lib.hid hwr
 have xe : (⟨#[120]⟩ : ByteArray).extract 1 1 = ⟨#[]⟩:=rfl
 clear hu hW0 hb0 hwr
 go_enter Tryz.func189,Tryz.ntmps189
 go_wp2_with (fail)
 rw [HW0.out]
 go_wp2_with (fail)
 go_loopg [0,5] 1 (fun kk s n wr=>Below w.heap.size w wr∧((kk = 1∧s = .string ⟨#[120]⟩∧n = .int .i64 0∧wr = W0) ∨ (kk = 0∧s = .string ⟨#[]⟩∧n = .int .i64 1∧Lib.IsBuilderF 86 5 w.heap.size w.heap.size (Lib.byteCells [120]) wr∧w.heap.size ≤ wr.heap.size)))
 case atStart=>exact ⟨HB0.out,.inl ⟨rfl,rfl,rfl,rfl⟩⟩
 case round =>
  obtain ⟨hbr,⟨rfl,rfl,rfl,rfl⟩ | ⟨rfl,rfl,rfl,hbu,hle⟩⟩:=hrel
  ·clear hbr
   go_wp2_with (fail)
   refine F1.out.mono ?_
   rintro e w2 ⟨rfl,hb2⟩
   have HB2:=Lib.hid (bel_trans (B:=w.heap.size) HB0.out hb2)
   have HW2:=Lib.hid (HWR.out.below hb2)
   clear hb2
   have R1:=Lib.hid (Tryz.Builder_WriteRune_k w.heap.size w.heap.size (Lib.byteCells []) 120 (by decide) (by decide) w2 HW2.out.1 (by decide) HB2.out.size)
   go_wp2_with (fail)
   refine R1.out.mono ?_
   rintro e w3 ⟨rfl,hr1,hr2,hr3⟩
   have HR1:=Lib.hid hr1
   have HB3:=Lib.hid (HB2.out.trans hr2)
   clear hr1 hr2 hr3
   go_wp2_with (fail)
   go_roundg 0
   case measure=>omega
   case rel=>exact ⟨HB3.out,.inr ⟨rfl,rfl,rfl,.inr HR1.out,HB3.out.size⟩⟩
  ·have HBR:=Lib.hid hbr
   have S1:=Lib.hid (Tryz.Builder_String_any_k w.heap.size w.heap.size [120] wr hbu hle)
   clear hbr hbu hle
   go_wp2_with (fail)
   refine S1.out.mono ?_
   rintro e w3 ⟨rfl,_,hb3,_⟩
   have HB3:=Lib.hid (HBR.out.trans hb3)
   clear hb3
   go_wp2_with (fail)
   go_ret2
   exact ⟨rfl,HB3.out⟩
end LM
namespace LM
attribute [local go_sem] run_store_flt
abbrev strX : Hd:=⟨3,0,false,0,false,none,[],0,⟨#[120]⟩,none,0⟩
theorem rquoted_x (w : World) (hu : UT w) : Calls Tryz.prog 150 #[.string ⟨#[34,120,34]⟩] w fun e w'=>e = .returned (.tuple #[datA strX 0,.int .i64 3,.int .i64 0])∧Below w.heap.size w w':=by
 obtain ⟨W0,hW0,hb0,hO,hs0⟩:=zero_block w
 have L1:=Lib.hid (rlen_qxq W0)
 have U1:=Lib.hid (runesc_x W0 (hu.keep hb0))
 have HW0:=Lib.hid hW0
 have O0:=Lib.hid hO
 have HB0:=Lib.hid hb0
 have HS0:=Lib.hid hs0
 have xe : (⟨#[34,120,34]⟩ : ByteArray).extract 1 2 = ⟨#[120]⟩:=rfl
 clear hW0 hb0 hO hs0 hu
 go_enter Tryz.func150,Tryz.ntmps150
 go_wp2_with (fail)
 rw [HW0.out]
 refine L1.out.mono ?_
 rintro e w1 ⟨rfl,rfl⟩
 go_wp2_with (fail)
 refine U1.out.mono ?_
 rintro e w2 ⟨rfl,bc⟩
 have iz:=(bc.block _ HS0.out).trans O0.out
 have ib:=bel_trans (B:=w.heap.size) HB0.out bc
 obtain ⟨WF,hWF,CF,OF,hbF,-⟩:=result_dat (h:=strX) (n:=0) iz ib (Nat.le_refl _)
 dsimp only [set8z,List.length_nil] at hWF
 have HWF:=Lib.hid hWF
 have HBF:=Lib.hid hbF
 obtain ⟨q0,q1,q2,q3,q4,q5,q6,q7⟩:=CF
 try dsimp only [Nat.zero_add,List.length_nil] at q0 q1 q2 q3 q4 q5 q6 q7
 obtain ⟨z0,z1,z2,z3,z4,z5,z6,z7,e0,e1,e2,e3,e4,e5,e6,e7,el⟩:=zero_facts iz
 clear hWF OF hbF bc iz ib
 go_wp2_with (fail)
 rw [HWF.out]
 refine bodyPost_ret (v:=.tuple #[datA strX 0,.int .i64 3,.int .i64 0]) (by simp [results,Tryz.results150,go_sem,q0,q1,q2,q3,q4,q5,q6,q7]) rfl ?_
 exact ⟨rfl,HBF.out⟩
abbrev tokA (k a z : Int) (nm : ByteArray) (h : Hd) (n : Nat) : Value:=.agg #[.int .i64 k,.int .i64 a,.int .i64 z,.string nm,.int .i64 h.k,.int .i64 h.n,.bool h.fl,.float .f64 h.f,.bool h.s,.slice h.A h.xs.length h.c,.string h.t,.slice h.B n h.cap]
abbrev tokO (k a z : Int) (nm : ByteArray) (h : Hd) (n : Nat) : Obj:=.cells #[.int .i64 k,.int .i64 a,.int .i64 z,.string nm,.int .i64 h.k,.int .i64 h.n,.bool h.fl,.float .f64 h.f,.bool h.s,.slice h.A h.xs.length h.c,.string h.t,.slice h.B n h.cap] 142 (0,0)
theorem rnodes1 (a z : Int) (h : Hd) (n : Nat) (w : World) : Calls Tryz.prog 200 #[tokA 5 a z ⟨#[]⟩ h n] w fun e w'=>e = .returned (.int .i64 1)∧Below w.heap.size w w':=by
 have hb0:=(Below.refl w.heap.size w).alloc (Nat.le_refl _) (tokO 5 a z ⟨#[]⟩ h n)
 have c0 : (w.alloc (tokO 5 a z ⟨#[]⟩ h n)).cell? ⟨w.heap.size,0,none⟩ = some (.int .i64 5):=by rw [World.cell?_alloc_new]; rfl
 have HB0:=Lib.hid hb0
 clear hb0
 go_enter Tryz.func200,Tryz.ntmps200
 go_wp2_with (fail)
 go_ret
 exact ⟨rfl,HB0.out⟩
theorem rinner0 (g : Nat) (w : World) (hc : w.cell? ⟨g,1,none⟩ = some (.slice none 0 0)) : Calls Tryz.prog 115 #[.pointer (some ⟨g,0,none⟩)] w fun e w'=>e = .returned (.pointer none)∧w = w':=by
 go_enter Tryz.func115,Tryz.ntmps115
 go_wp2_with (fail)
 go_ret
 exact ⟨rfl,rfl⟩
end LM
namespace LM
attribute [local go_sem] run_store_flt
def setsA : Array Value → Nat → List Value → Array Value
 | cs,_,[]=>cs
 | cs,o,v :: vs=>setsA (cs.setIfInBounds o v) (o + 1) vs
def marksL : List Value:=[.string ⟨#[40]⟩,.int .i64 0,.string ⟨#[]⟩,.string ⟨#[35,40]⟩,.int .i64 1,.string ⟨#[]⟩,.string ⟨#[41]⟩,.int .i64 2,.string ⟨#[]⟩,.string ⟨#[39]⟩,.int .i64 3,.string ⟨#[113,117,111,116,101]⟩,.string ⟨#[96]⟩,.int .i64 3,.string ⟨#[113,117,97,115,105,113,117,111,116,101]⟩,.string ⟨#[44,64]⟩,.int .i64 3,.string ⟨#[117,110,113,117,111,116,101,45,115,112,108,105,99,105,110,103]⟩,.string ⟨#[44]⟩,.int .i64 3,.string ⟨#[117,110,113,117,111,116,101]⟩]
def MK (w : World) : Prop:=∀ W,Below w.heap.size w W → ∀ j v,marksL[j]? = some v → W.cell? ⟨3,j,none⟩ = some v
theorem MK.keep {w w' : World} (h : MK w) (hb : Below w.heap.size w w') : MK w':=fun W hW=>h W (bel_trans (B:=w.heap.size) hb hW)
abbrev tokZ : Obj:=.cells #[.int .i64 0,.int .i64 0,.int .i64 0,.string ⟨#[]⟩,.int .i64 0,.int .i64 0,.bool false,.float .f64 0,.bool false,.slice none 0 0,.string ⟨#[]⟩,.slice none 0 0] 142 (0,0)
abbrev tok5 : Obj:=.cells #[.int .i64 5,.int .i64 0,.int .i64 0,.string ⟨#[]⟩,.int .i64 0,.int .i64 0,.bool false,.float .f64 0,.bool false,.slice none 0 0,.string ⟨#[]⟩,.slice none 0 0] 142 (0,0)
theorem sets_block : ∀ (vs : List Value) {w : World} {g : Nat} {cs : Array Value} {T : TypeId} (h : w.heap[g]? = some (.cells cs T (0,0))) (o : Nat),(w.setCells g o vs).heap[g]? = some (.cells (setsA cs o vs) T (0,0))
 | [],_,_,_,_,h,_=>h
 | v :: vs,w,g,cs,T,h,o=>by
  rw [World.setCells]
  exact sets_block vs (Go.Lib.heap_setCell_same (i:=o) h v) (o + 1)
theorem rtoken_x (w : World) (hu : UT w) (hm : MK w) : Calls Tryz.prog 113 #[.string ⟨#[34,120,34]⟩,.int .i64 0] w fun e w'=>e = .returned (.tuple #[tokA 5 0 3 ⟨#[]⟩ strX 0,.int .i64 0])∧Below w.heap.size w w':=by
 obtain ⟨W0,hW0⟩ : ∃ W0,w.alloc tokZ = W0:=⟨_,rfl⟩
 have hb0 : Below w.heap.size w W0:=by rw [← hW0]; exact (Below.refl _ w).alloc (Nat.le_refl _) _
 have ho : W0.heap[w.heap.size]? = some tokZ:=by rw [← hW0]; unfold World.alloc; simp
 have m : ∀ j v,marksL[j]? = some v → (w.alloc tokZ).cell? ⟨3,j,none⟩ = some v:=by rw [hW0]; exact hm W0 hb0
 have hr : World.rangeAt (w.alloc tokZ) 3 0 marksL:=fun j v hj=>by rw [Nat.zero_add]; exact m j v hj
 have HR:=Lib.hid hr
 have hix : ∀ (j : Nat) (x y z : Value),j < 7 → marksL[3 * j]? = some x → marksL[3 * j + 1]? = some y → marksL[3 * j + 2]? = some z → True:=fun _ _ _ _ _ _ _ _=>trivial
 have HW0:=Lib.hid hW0
 have HB0:=Lib.hid hb0
 have HO:=Lib.hid ho
 have HU:=Lib.hid hu
 clear m hW0 hb0 ho hu hm hr hix
 go_enter Tryz.func113,Tryz.ntmps113
 go_wp2_with (with_reducible refine wpList_load_mid rfl 180 _ rfl 3 0 rfl marksL _ HR.out Tryz.underlying180 rfl (by kernel_rfl) ?_)
 rw [HW0.out]
 rw [show (⟨#[34,120,34]⟩ : ByteArray).extract 0 3 = ⟨#[34,120,34]⟩ from rfl]
 go_loopg [16] 7 (fun kk i wr=>Below W0.heap.size W0 wr∧∃ j : Nat,j ≤ 7∧kk = 7 - j∧i = .int .i64 (j : Int))
 case atStart=>exact ⟨Below.refl _ _,0,Nat.zero_le _,rfl,rfl⟩
 case round =>
  obtain ⟨hbr,j,hj,rfl,rfl⟩:=hrel
  have HBR:=Lib.hid hbr
  clear hbr
  rcases (by omega : j = 0 ∨ j = 1 ∨ j = 2 ∨ j = 3 ∨ j = 4 ∨ j = 5 ∨ j = 6 ∨ j = 7) with rfl | rfl | rfl | rfl | rfl | rfl | rfl | rfl
  ·have P1:=Lib.hid fun W=>Tryz.strings_HasPrefix ⟨#[34,120,34]⟩ ⟨#[40]⟩ W
   rw [show Lib.hasPrefix (qxq).data.toList (⟨#[40]⟩ : ByteArray).data.toList = false by decide] at P1
   have HBA:=Lib.hid (bel_trans (B:=W0.heap.size) HBR.out ((Below.refl _ wr).alloc (Nat.le_refl _) (.cells #[.string ⟨#[40]⟩,.int .i64 0,.string ⟨#[]⟩] 179 (0,0))))
   go_wp2_with (fail)
   change Oper.upon _ _ _ _ _ ((Result.ok (Value.agg #[.string ⟨#[40]⟩,.int .i64 0,.string ⟨#[]⟩]) wr).andThen _)
   go_wp2_with (fail)
   refine (P1.out _).mono ?_
   rintro e w2 ⟨rfl,rfl⟩
   go_wp2_with (fail)
   go_roundg (7 - (0 + 1))
   case measure=>omega
   case rel=>exact ⟨HBA.out,0 + 1,by omega,rfl,by go_num⟩
  ·have P1:=Lib.hid fun W=>Tryz.strings_HasPrefix ⟨#[34,120,34]⟩ ⟨#[35,40]⟩ W
   rw [show Lib.hasPrefix (qxq).data.toList (⟨#[35,40]⟩ : ByteArray).data.toList = false by decide] at P1
   have HBA:=Lib.hid (bel_trans (B:=W0.heap.size) HBR.out ((Below.refl _ wr).alloc (Nat.le_refl _) (.cells #[.string ⟨#[35,40]⟩,.int .i64 1,.string ⟨#[]⟩] 179 (0,0))))
   go_wp2_with (fail)
   change Oper.upon _ _ _ _ _ ((Result.ok (Value.agg #[.string ⟨#[35,40]⟩,.int .i64 1,.string ⟨#[]⟩]) wr).andThen _)
   go_wp2_with (fail)
   refine (P1.out _).mono ?_
   rintro e w2 ⟨rfl,rfl⟩
   go_wp2_with (fail)
   go_roundg (7 - (1 + 1))
   case measure=>omega
   case rel=>exact ⟨HBA.out,1 + 1,by omega,rfl,by go_num⟩
  ·have P1:=Lib.hid fun W=>Tryz.strings_HasPrefix ⟨#[34,120,34]⟩ ⟨#[41]⟩ W
   rw [show Lib.hasPrefix (qxq).data.toList (⟨#[41]⟩ : ByteArray).data.toList = false by decide] at P1
   have HBA:=Lib.hid (bel_trans (B:=W0.heap.size) HBR.out ((Below.refl _ wr).alloc (Nat.le_refl _) (.cells #[.string ⟨#[41]⟩,.int .i64 2,.string ⟨#[]⟩] 179 (0,0))))
   go_wp2_with (fail)
   change Oper.upon _ _ _ _ _ ((Result.ok (Value.agg #[.string ⟨#[41]⟩,.int .i64 2,.string ⟨#[]⟩]) wr).andThen _)
   go_wp2_with (fail)
   refine (P1.out _).mono ?_
   rintro e w2 ⟨rfl,rfl⟩
   go_wp2_with (fail)
   go_roundg (7 - (2 + 1))
   case measure=>omega
   case rel=>exact ⟨HBA.out,2 + 1,by omega,rfl,by go_num⟩
  ·have P1:=Lib.hid fun W=>Tryz.strings_HasPrefix ⟨#[34,120,34]⟩ ⟨#[39]⟩ W
   rw [show Lib.hasPrefix (qxq).data.toList (⟨#[39]⟩ : ByteArray).data.toList = false by decide] at P1
   have HBA:=Lib.hid (bel_trans (B:=W0.heap.size) HBR.out ((Below.refl _ wr).alloc (Nat.le_refl _) (.cells #[.string ⟨#[39]⟩,.int .i64 3,.string ⟨#[113,117,111,116,101]⟩] 179 (0,0))))
   go_wp2_with (fail)
   change Oper.upon _ _ _ _ _ ((Result.ok (Value.agg #[.string ⟨#[39]⟩,.int .i64 3,.string ⟨#[113,117,111,116,101]⟩]) wr).andThen _)
   go_wp2_with (fail)
   refine (P1.out _).mono ?_
   rintro e w2 ⟨rfl,rfl⟩
   go_wp2_with (fail)
   go_roundg (7 - (3 + 1))
   case measure=>omega
   case rel=>exact ⟨HBA.out,3 + 1,by omega,rfl,by go_num⟩
  ·have P1:=Lib.hid fun W=>Tryz.strings_HasPrefix ⟨#[34,120,34]⟩ ⟨#[96]⟩ W
   rw [show Lib.hasPrefix (qxq).data.toList (⟨#[96]⟩ : ByteArray).data.toList = false by decide] at P1
   have HBA:=Lib.hid (bel_trans (B:=W0.heap.size) HBR.out ((Below.refl _ wr).alloc (Nat.le_refl _) (.cells #[.string ⟨#[96]⟩,.int .i64 3,.string ⟨#[113,117,97,115,105,113,117,111,116,101]⟩] 179 (0,0))))
   go_wp2_with (fail)
   change Oper.upon _ _ _ _ _ ((Result.ok (Value.agg #[.string ⟨#[96]⟩,.int .i64 3,.string ⟨#[113,117,97,115,105,113,117,111,116,101]⟩]) wr).andThen _)
   go_wp2_with (fail)
   refine (P1.out _).mono ?_
   rintro e w2 ⟨rfl,rfl⟩
   go_wp2_with (fail)
   go_roundg (7 - (4 + 1))
   case measure=>omega
   case rel=>exact ⟨HBA.out,4 + 1,by omega,rfl,by go_num⟩
  ·have P1:=Lib.hid fun W=>Tryz.strings_HasPrefix ⟨#[34,120,34]⟩ ⟨#[44,64]⟩ W
   rw [show Lib.hasPrefix (qxq).data.toList (⟨#[44,64]⟩ : ByteArray).data.toList = false by decide] at P1
   have HBA:=Lib.hid (bel_trans (B:=W0.heap.size) HBR.out ((Below.refl _ wr).alloc (Nat.le_refl _) (.cells #[.string ⟨#[44,64]⟩,.int .i64 3,.string ⟨#[117,110,113,117,111,116,101,45,115,112,108,105,99,105,110,103]⟩] 179 (0,0))))
   go_wp2_with (fail)
   change Oper.upon _ _ _ _ _ ((Result.ok (Value.agg #[.string ⟨#[44,64]⟩,.int .i64 3,.string ⟨#[117,110,113,117,111,116,101,45,115,112,108,105,99,105,110,103]⟩]) wr).andThen _)
   go_wp2_with (fail)
   refine (P1.out _).mono ?_
   rintro e w2 ⟨rfl,rfl⟩
   go_wp2_with (fail)
   go_roundg (7 - (5 + 1))
   case measure=>omega
   case rel=>exact ⟨HBA.out,5 + 1,by omega,rfl,by go_num⟩
  ·have P1:=Lib.hid fun W=>Tryz.strings_HasPrefix ⟨#[34,120,34]⟩ ⟨#[44]⟩ W
   rw [show Lib.hasPrefix (qxq).data.toList (⟨#[44]⟩ : ByteArray).data.toList = false by decide] at P1
   have HBA:=Lib.hid (bel_trans (B:=W0.heap.size) HBR.out ((Below.refl _ wr).alloc (Nat.le_refl _) (.cells #[.string ⟨#[44]⟩,.int .i64 3,.string ⟨#[117,110,113,117,111,116,101]⟩] 179 (0,0))))
   go_wp2_with (fail)
   change Oper.upon _ _ _ _ _ ((Result.ok (Value.agg #[.string ⟨#[44]⟩,.int .i64 3,.string ⟨#[117,110,113,117,111,116,101]⟩]) wr).andThen _)
   go_wp2_with (fail)
   refine (P1.out _).mono ?_
   rintro e w2 ⟨rfl,rfl⟩
   go_wp2_with (fail)
   go_roundg (7 - (6 + 1))
   case measure=>omega
   case rel=>exact ⟨HBA.out,6 + 1,by omega,rfl,by go_num⟩
  ·obtain ⟨Wt,hWt⟩ : ∃ Wt,wr.alloc tok5 = Wt:=⟨_,rfl⟩
   have hbt : Below wr.heap.size wr Wt:=by rw [← hWt]; exact (Below.refl _ wr).alloc (Nat.le_refl _) _
   have hot : Wt.heap[wr.heap.size]? = some tok5:=by rw [← hWt]; unfold World.alloc; simp
   have Q1:=Lib.hid (rquoted_x Wt (HU.out.keep (bel_trans (B:=w.heap.size) HB0.out (bel_trans (B:=W0.heap.size) HBR.out hbt))))
   have HWt:=Lib.hid hWt
   have HBT:=Lib.hid hbt
   have HOT:=Lib.hid hot
   clear hWt hbt hot
   go_wp2_with (fail)
   rw [HWt.out]
   refine Q1.out.mono ?_
   rintro e w2 ⟨rfl,hb2⟩
   have hg:=(Obs.nil.cons HOT.out).below hb2
   have hb3:=bel_trans (B:=wr.heap.size) HBT.out hb2
   have hne : w.heap.size < wr.heap.size:=Nat.lt_of_lt_of_le (heap_lt HO.out) HBR.out.size
   have hg3:=hg.hd
   have ho3 : w2.heap[w.heap.size]? = some tokZ:=(hb3.block _ hne).trans ((HBR.out.block _ (heap_lt HO.out)).trans HO.out)
   have HB3:=Lib.hid (bel_trans (B:=w.heap.size) HB0.out (bel_trans (B:=W0.heap.size) HBR.out hb3))
   have HG:=Lib.hid hg3
   have HO3:=Lib.hid ho3
   have HNE:=Lib.hid hne
   clear hb2 hg hb3 hne hg3 ho3
   obtain ⟨W3,hW3⟩ : ∃ W3,(((((((w2.setCell ⟨wr.heap.size,4,none⟩ (.int .i64 3)).setCell ⟨wr.heap.size,5,none⟩ (.int .i64 0)).setCell ⟨wr.heap.size,6,none⟩ (.bool false)).setCell ⟨wr.heap.size,7,none⟩ (.float .f64 0)).setCell ⟨wr.heap.size,8,none⟩ (.bool false)).setCell ⟨wr.heap.size,9,none⟩ (.slice none 0 0)).setCell ⟨wr.heap.size,10,none⟩ (.string ⟨#[120]⟩)).setCell ⟨wr.heap.size,11,none⟩ (.slice none 0 0) = W3:=⟨_,rfl⟩
   have HW3:=Lib.hid hW3
   have z4 : w2.cell? ⟨wr.heap.size,4,none⟩ = some (.int .i64 0):=ob_cell HG.out 4
   have z5 : w2.cell? ⟨wr.heap.size,5,none⟩ = some (.int .i64 0):=ob_cell HG.out 5
   have z6 : w2.cell? ⟨wr.heap.size,6,none⟩ = some (.bool false):=ob_cell HG.out 6
   have z7 : w2.cell? ⟨wr.heap.size,7,none⟩ = some (.float .f64 0):=ob_cell HG.out 7
   have z8 : w2.cell? ⟨wr.heap.size,8,none⟩ = some (.bool false):=ob_cell HG.out 8
   have z9 : w2.cell? ⟨wr.heap.size,9,none⟩ = some (.slice none 0 0):=ob_cell HG.out 9
   have z10 : w2.cell? ⟨wr.heap.size,10,none⟩ = some (.string ⟨#[]⟩):=ob_cell HG.out 10
   have z11 : w2.cell? ⟨wr.heap.size,11,none⟩ = some (.slice none 0 0):=ob_cell HG.out 11
   have e4:=ob_free HG.out 4 (by decide); have e5:=ob_free HG.out 5 (by decide); have e6:=ob_free HG.out 6 (by decide); have e7:=ob_free HG.out 7 (by decide)
   have e8:=ob_free HG.out 8 (by decide); have e9:=ob_free HG.out 9 (by decide); have e10:=ob_free HG.out 10 (by decide); have e11:=ob_free HG.out 11 (by decide)
   have hg3 : W3.heap[wr.heap.size]? = some (.cells #[.int .i64 5,.int .i64 0,.int .i64 0,.string ⟨#[]⟩,.int .i64 3,.int .i64 0,.bool false,.float .f64 0,.bool false,.slice none 0 0,.string ⟨#[120]⟩,.slice none 0 0] 142 (0,0)):=by
    rw [← hW3]
    exact sets_block [.int .i64 3,.int .i64 0,.bool false,.float .f64 0,.bool false,.slice none 0 0,.string ⟨#[120]⟩,.slice none 0 0] HG.out 4
   have HG3:=Lib.hid hg3
   clear hW3 hg3
   go_upto_region 19 with (fail)
   rw [HW3.out]
   clear z4 z5 z6 z7 z8 z9 z10 z11 e4 e5 e6 e7 e8 e9 e10 e11
   have hle : w.heap.size ≤ wr.heap.size:=Nat.le_of_lt HNE.out
   have hb4 : Below w.heap.size w W3:=by
    rw [← HW3.out]
    exact (((((((HB3.out.setCell hle _).setCell hle _).setCell hle _).setCell hle _).setCell hle _).setCell hle _).setCell hle _).setCell hle _
   have ho4 : W3.heap[w.heap.size]? = some tokZ:=by
    rw [← HW3.out]
    have hn : w.heap.size ≠ wr.heap.size:=Nat.ne_of_lt HNE.out
    simp only [heap_setCell_other _ _ _ _ (show w.heap.size ≠ (⟨wr.heap.size,4,none⟩ : Addr).block from hn),heap_setCell_other _ (⟨wr.heap.size,5,none⟩ : Addr) _ _ hn,heap_setCell_other _ (⟨wr.heap.size,6,none⟩ : Addr) _ _ hn,heap_setCell_other _ (⟨wr.heap.size,7,none⟩ : Addr) _ _ hn,heap_setCell_other _ (⟨wr.heap.size,8,none⟩ : Addr) _ _ hn,heap_setCell_other _ (⟨wr.heap.size,9,none⟩ : Addr) _ _ hn,heap_setCell_other _ (⟨wr.heap.size,10,none⟩ : Addr) _ _ hn,heap_setCell_other _ (⟨wr.heap.size,11,none⟩ : Addr) _ _ hn]
    exact HO3.out
   obtain ⟨W4,hW4⟩ : ∃ W4,W3.setCell ⟨wr.heap.size,2,none⟩ (.int .i64 3) = W4:=⟨_,rfl⟩
   have hb5 : Below w.heap.size w W4:=by rw [← hW4]; exact hb4.setCell hle _
   have ho5 : W4.heap[w.heap.size]? = some tokZ:=by rw [← hW4,heap_setCell_other _ (⟨wr.heap.size,2,none⟩ : Addr) _ _ (Nat.ne_of_lt HNE.out)]; exact ho4
   have hg5 : W4.heap[wr.heap.size]? = some (.cells #[.int .i64 5,.int .i64 0,.int .i64 3,.string ⟨#[]⟩,.int .i64 3,.int .i64 0,.bool false,.float .f64 0,.bool false,.slice none 0 0,.string ⟨#[120]⟩,.slice none 0 0] 142 (0,0)):=by
    rw [← hW4]
    exact sets_block [.int .i64 3] HG3.out 2
   have z2 : W3.cell? ⟨wr.heap.size,2,none⟩ = some (.int .i64 0):=ob_cell HG3.out 2
   have e2:=ob_free HG3.out 2 (by decide)
   have HW4:=Lib.hid hW4
   have HB5:=Lib.hid hb5
   have HO5:=Lib.hid ho5
   have HG5:=Lib.hid hg5
   clear hW4 hb5 ho5 hg5 hb4 ho4
   go_upto_region 20 with (fail)
   rw [HW4.out]
   clear z2 e2
   obtain ⟨W5,hW5⟩ : ∃ W5,((((((((((((W4.setCell ⟨w.heap.size,0,none⟩ (.int .i64 5)).setCell ⟨w.heap.size,1,none⟩ (.int .i64 0)).setCell ⟨w.heap.size,2,none⟩ (.int .i64 3)).setCell ⟨w.heap.size,3,none⟩ (.string ⟨#[]⟩)).setCell ⟨w.heap.size,4,none⟩ (.int .i64 3)).setCell ⟨w.heap.size,5,none⟩ (.int .i64 0)).setCell ⟨w.heap.size,6,none⟩ (.bool false)).setCell ⟨w.heap.size,7,none⟩ (.float .f64 0)).setCell ⟨w.heap.size,8,none⟩ (.bool false)).setCell ⟨w.heap.size,9,none⟩ (.slice none 0 0)).setCell ⟨w.heap.size,10,none⟩ (.string ⟨#[120]⟩)).setCell ⟨w.heap.size,11,none⟩ (.slice none 0 0)) = W5:=⟨_,rfl⟩
   have hb6 : Below w.heap.size w W5:=by
    rw [← hW5]
    exact ((((((((((((HB5.out.setCell (Nat.le_refl _) _).setCell (Nat.le_refl _) _).setCell (Nat.le_refl _) _).setCell (Nat.le_refl _) _).setCell (Nat.le_refl _) _).setCell (Nat.le_refl _) _).setCell (Nat.le_refl _) _).setCell (Nat.le_refl _) _).setCell (Nat.le_refl _) _).setCell (Nat.le_refl _) _).setCell (Nat.le_refl _) _).setCell (Nat.le_refl _) _)
   have hg6 : W5.heap[w.heap.size]? = some (.cells #[.int .i64 5,.int .i64 0,.int .i64 3,.string ⟨#[]⟩,.int .i64 3,.int .i64 0,.bool false,.float .f64 0,.bool false,.slice none 0 0,.string ⟨#[120]⟩,.slice none 0 0] 142 (0,0)):=by
    rw [← hW5]
    exact sets_block [.int .i64 5,.int .i64 0,.int .i64 3,.string ⟨#[]⟩,.int .i64 3,.int .i64 0,.bool false,.float .f64 0,.bool false,.slice none 0 0,.string ⟨#[120]⟩,.slice none 0 0] HO5.out 0
   have x0 : W4.cell? ⟨wr.heap.size,0,none⟩ = some (.int .i64 5):=ob_cell HG5.out 0
   have x1 : W4.cell? ⟨wr.heap.size,1,none⟩ = some (.int .i64 0):=ob_cell HG5.out 1
   have x2 : W4.cell? ⟨wr.heap.size,2,none⟩ = some (.int .i64 3):=ob_cell HG5.out 2
   have x3 : W4.cell? ⟨wr.heap.size,3,none⟩ = some (.string ⟨#[]⟩):=ob_cell HG5.out 3
   have x4 : W4.cell? ⟨wr.heap.size,4,none⟩ = some (.int .i64 3):=ob_cell HG5.out 4
   have x5 : W4.cell? ⟨wr.heap.size,5,none⟩ = some (.int .i64 0):=ob_cell HG5.out 5
   have x6 : W4.cell? ⟨wr.heap.size,6,none⟩ = some (.bool false):=ob_cell HG5.out 6
   have x7 : W4.cell? ⟨wr.heap.size,7,none⟩ = some (.float .f64 0):=ob_cell HG5.out 7
   have x8 : W4.cell? ⟨wr.heap.size,8,none⟩ = some (.bool false):=ob_cell HG5.out 8
   have x9 : W4.cell? ⟨wr.heap.size,9,none⟩ = some (.slice none 0 0):=ob_cell HG5.out 9
   have x10 : W4.cell? ⟨wr.heap.size,10,none⟩ = some (.string ⟨#[120]⟩):=ob_cell HG5.out 10
   have x11 : W4.cell? ⟨wr.heap.size,11,none⟩ = some (.slice none 0 0):=ob_cell HG5.out 11
   have z0 : W4.cell? ⟨w.heap.size,0,none⟩ = some (.int .i64 0):=ob_cell HO5.out 0
   have z1 : W4.cell? ⟨w.heap.size,1,none⟩ = some (.int .i64 0):=ob_cell HO5.out 1
   have z2 : W4.cell? ⟨w.heap.size,2,none⟩ = some (.int .i64 0):=ob_cell HO5.out 2
   have z3 : W4.cell? ⟨w.heap.size,3,none⟩ = some (.string ⟨#[]⟩):=ob_cell HO5.out 3
   have z4 : W4.cell? ⟨w.heap.size,4,none⟩ = some (.int .i64 0):=ob_cell HO5.out 4
   have z5 : W4.cell? ⟨w.heap.size,5,none⟩ = some (.int .i64 0):=ob_cell HO5.out 5
   have z6 : W4.cell? ⟨w.heap.size,6,none⟩ = some (.bool false):=ob_cell HO5.out 6
   have z7 : W4.cell? ⟨w.heap.size,7,none⟩ = some (.float .f64 0):=ob_cell HO5.out 7
   have z8 : W4.cell? ⟨w.heap.size,8,none⟩ = some (.bool false):=ob_cell HO5.out 8
   have z9 : W4.cell? ⟨w.heap.size,9,none⟩ = some (.slice none 0 0):=ob_cell HO5.out 9
   have z10 : W4.cell? ⟨w.heap.size,10,none⟩ = some (.string ⟨#[]⟩):=ob_cell HO5.out 10
   have z11 : W4.cell? ⟨w.heap.size,11,none⟩ = some (.slice none 0 0):=ob_cell HO5.out 11
   have e0:=ob_free HO5.out 0 (by decide)
   have e1:=ob_free HO5.out 1 (by decide)
   have e2:=ob_free HO5.out 2 (by decide)
   have e3:=ob_free HO5.out 3 (by decide)
   have e4:=ob_free HO5.out 4 (by decide)
   have e5:=ob_free HO5.out 5 (by decide)
   have e6:=ob_free HO5.out 6 (by decide)
   have e7:=ob_free HO5.out 7 (by decide)
   have e8:=ob_free HO5.out 8 (by decide)
   have e9:=ob_free HO5.out 9 (by decide)
   have e10:=ob_free HO5.out 10 (by decide)
   have e11:=ob_free HO5.out 11 (by decide)
   have HW5:=Lib.hid hW5
   have HB6:=Lib.hid hb6
   have HG6:=Lib.hid hg6
   clear hW5 hb6 hg6
   go_wp2_with (fail)
   rw [HW5.out]
   clear x0 x1 x2 x3 x4 x5 x6 x7 x8 x9 x10 x11 z0 z1 z2 z3 z4 z5 z6 z7 z8 z9 z10 z11 e0 e1 e2 e3 e4 e5 e6 e7 e8 e9 e10 e11
   have q0 : W5.cell? ⟨w.heap.size,0,none⟩ = some (.int .i64 5):=ob_cell HG6.out 0
   have q1 : W5.cell? ⟨w.heap.size,1,none⟩ = some (.int .i64 0):=ob_cell HG6.out 1
   have q2 : W5.cell? ⟨w.heap.size,2,none⟩ = some (.int .i64 3):=ob_cell HG6.out 2
   have q3 : W5.cell? ⟨w.heap.size,3,none⟩ = some (.string ⟨#[]⟩):=ob_cell HG6.out 3
   have q4 : W5.cell? ⟨w.heap.size,4,none⟩ = some (.int .i64 3):=ob_cell HG6.out 4
   have q5 : W5.cell? ⟨w.heap.size,5,none⟩ = some (.int .i64 0):=ob_cell HG6.out 5
   have q6 : W5.cell? ⟨w.heap.size,6,none⟩ = some (.bool false):=ob_cell HG6.out 6
   have q7 : W5.cell? ⟨w.heap.size,7,none⟩ = some (.float .f64 0):=ob_cell HG6.out 7
   have q8 : W5.cell? ⟨w.heap.size,8,none⟩ = some (.bool false):=ob_cell HG6.out 8
   have q9 : W5.cell? ⟨w.heap.size,9,none⟩ = some (.slice none 0 0):=ob_cell HG6.out 9
   have q10 : W5.cell? ⟨w.heap.size,10,none⟩ = some (.string ⟨#[120]⟩):=ob_cell HG6.out 10
   have q11 : W5.cell? ⟨w.heap.size,11,none⟩ = some (.slice none 0 0):=ob_cell HG6.out 11
   refine bodyPost_ret (v:=.tuple #[tokA 5 0 3 ⟨#[]⟩ strX 0,.int .i64 0]) (by simp [results,Tryz.results113,go_sem,q0,q1,q2,q3,q4,q5,q6,q7,q8,q9,q10,q11]) rfl ?_
   exact ⟨rfl,HB6.out⟩
end LM
namespace LM
attribute [local go_sem] run_store_flt
abbrev rdO (ib o n c : Nat) (P C G : Value) (k : Int) : Obj:=.cells #[.slice (some ⟨ib,o,none⟩) n c,P,C,G,.int .i64 k] 63 (0,0)
def nx (o c k : Nat) : Nat:=if c - k = 0 then o else o + k
def SameW (w' X : World) : Prop:=w'.heap = X.heap∧w'.os = X.os∧w'.tape = X.tape∧w'.output = X.output
theorem or_nn : bits BinOp.or IntKind.i64 0 0 = 0:=by decide
theorem or_nb (b : Nat) (hb : b < 256) : bits BinOp.or IntKind.i64 0 (b : Int) = (b : Int):=(by decide +kernel : ∀ b : Fin 256,bits BinOp.or IntKind.i64 0 ((b.1 : Nat) : Int) = ((b.1 : Nat) : Int)) ⟨b,hb⟩
theorem cnumr (rg ib o n c : Nat) (P C G : Value) (k : Int) (pb po : Nat) (b : Nat) (hb : b < 256) (m : Int) (z : Int) (w : World) (hr : w.heap[rg]? = some (rdO ib o n c P C G k)) (h0 : w.cell? ⟨ib,o,none⟩ = some (.int .u8 0)) (h1 : w.cell? ⟨ib,o + 1,none⟩ = some (.int .u8 0)) (h2 : w.cell? ⟨ib,o + 2,none⟩ = some (.int .u8 (b : Int)))
  (hn : 3 ≤ n) (hnc : n ≤ c) (hc : c ≤ 9223372036854775807) (hp : w.cell? ⟨pb,po,none⟩ = some (.int .i64 z)) (hpf : w.frozen? ⟨pb,po,none⟩ = false) (hne : pb ≠ rg) :
  Calls Tryz.prog 75 #[.pointer (some ⟨rg,0,none⟩),.pointer (some ⟨pb,po,none⟩),.int .i64 m] w fun e w'=>e = .returned (.bool (decide ((b : Int) ≤ m)))∧SameW w' ((w.setCell ⟨pb,po,none⟩ (.int .i64 (b : Int))).setCell ⟨rg,0,none⟩ (.slice (some ⟨ib,nx o c 3,none⟩) (n - 3) (c - 3))):=by
 have c0 : w.cell? ⟨rg,0,none⟩ = some (.slice (some ⟨ib,o,none⟩) n c):=ob_cell hr 0
 have f0:=ob_free hr 0 (by simp)
 have d0 : decide ((n : Int) < 3) = false:=decide_eq_false (by omega)
 have d1 : (0 : Int) < (n : Int):=by omega
 have d2 : (1 : Int) < (n : Int):=by omega
 have d3 : (2 : Int) < (n : Int):=by omega
 have d4 : (3 : Int) ≤ (n : Int):=by omega
 have d5 : (n : Int) ≤ (c : Int):=by omega
 have hne' : ¬ (rg = pb):=fun e=>hne e.symm
 have HR:=Lib.hid hr
 clear hr
 go_enter Tryz.func75,Tryz.ntmps75
 go_wp2_with (fail)
 go_region
 obtain ⟨X,hX⟩ : ∃ X,w.setCell ⟨pb,po,none⟩ (.int .i64 (b : Int)) = X:=⟨_,rfl⟩
 have xr : X.cell? ⟨rg,0,none⟩ = some (.slice (some ⟨ib,o,none⟩) n c):=by rw [← hX,World.cell?_setCell_other _ _ _ _ (by intro e; injection e with e; exact hne e)]; exact c0
 have xf : X.frozen? ⟨rg,0,none⟩ = false:=by rw [← hX,World.frozen?_setCell]; exact f0
 have xp : X.cell? ⟨pb,po,none⟩ = some (.int .i64 (b : Int)):=by rw [← hX]; exact World.cell?_setCell_same _ _ _ hp
 rw [or_nn,or_nb b hb,hX]
 have HX:=Lib.hid hX
 clear c0 f0 h0 h1 h2 hp hpf hX
 by_cases hz : c - 3 = 0
 ·have HE : Hid (nx o c 3 = o):=Lib.hid (if_pos hz)
  have HZ:=Lib.hid hz
  go_wp2_with (fail)
  all_goals first
   | (go_ret; exact ⟨rfl,by rw [HX.out,HE.out,HZ.out]; exact ⟨rfl,rfl,rfl,rfl⟩⟩)
   | (exfalso; omega)
 ·have HE : Hid (nx o c 3 = o + 3):=Lib.hid (if_neg hz)
  go_wp2_with (fail)
  all_goals first
   | (go_ret; exact ⟨rfl,by rw [HX.out,HE.out]; exact ⟨rfl,rfl,rfl,rfl⟩⟩)
   | (exfalso; omega)
structure Upd (w w' : World) (L : List Nat) : Prop where
 os : w'.os = w.os
 tape : w'.tape = w.tape
 output : w'.output = w.output
 size : w.heap.size ≤ w'.heap.size
 keep : ∀ k,k < w.heap.size → k ∉ L → w'.heap[k]? = w.heap[k]?
theorem Upd.refl (w : World) (L : List Nat) : Upd w w L:=⟨rfl,rfl,rfl,Nat.le_refl _,fun _ _ _=>rfl⟩
theorem Upd.trans {w w1 w2 : World} {L : List Nat} (h : Upd w w1 L) (h' : Upd w1 w2 L) : Upd w w2 L :=
 ⟨h'.os.trans h.os,h'.tape.trans h.tape,h'.output.trans h.output,Nat.le_trans h.size h'.size,fun k hk hn=>(h'.keep k (Nat.lt_of_lt_of_le hk h.size) hn).trans (h.keep k hk hn)⟩
theorem Upd.mono {w w' : World} {L L' : List Nat} (h : Upd w w' L) (hs : ∀ k,k < w.heap.size → k ∈ L → k ∈ L') : Upd w w' L':=⟨h.os,h.tape,h.output,h.size,fun k hk hn=>h.keep k hk fun e=>hn (hs k hk e)⟩
theorem Upd.of_below {w w' : World} (h : Below w.heap.size w w') (L : List Nat) : Upd w w' L:=⟨h.os,h.tape,h.output,h.size,fun k hk _=>h.block k hk⟩
theorem Upd.below {w w' : World} {L : List Nat} {B : Nat} (h : Upd w w' L) (hB : B ≤ w.heap.size) (hL : ∀ k ∈ L,B ≤ k) : Below B w w':=⟨h.os,h.tape,h.output,h.size,fun k hk=>h.keep k (Nat.lt_of_lt_of_le hk hB) fun e=>absurd (hL k e) (by omega)⟩
theorem Upd.cell {w w' : World} {L : List Nat} (h : Upd w w' L) {b o : Nat} (hb : b < w.heap.size) (hn : b ∉ L) : w'.cell? ⟨b,o,none⟩ = w.cell? ⟨b,o,none⟩:=World.cell?_of_block (a:=⟨b,o,none⟩) (h.keep b hb hn)
def RS (B : Nat) (w : World) (rg : Nat) (rest : List Nat) (P C G : Value) (k : Int) : Prop :=
 ∃ ib o c,w.heap[rg]? = some (rdO ib o rest.length c P C G k)∧rest.length ≤ c∧c ≤ 9223372036854775807∧ib < B∧∀ j v,rest[j]? = some v → w.cell? ⟨ib,o + j,none⟩ = some (.int .u8 ((v : Nat) : Int))
theorem RS.upd {B : Nat} {w w' : World} {rg : Nat} {rest : List Nat} {P C G : Value} {k : Int} {L : List Nat} (h : RS B w rg rest P C G k) (hu : Upd w w' L) (hB : B ≤ rg) (hL : ∀ k ∈ L,B ≤ k∧k ≠ rg) : RS B w' rg rest P C G k:=by
 obtain ⟨ib,o,c,h1,h2,h3,h4,h5⟩:=h
 have hrg:=heap_lt h1
 refine ⟨ib,o,c,(hu.keep rg hrg fun e=>(hL rg e).2 rfl).trans h1,h2,h3,h4,fun j v hj=>?_⟩
 exact (hu.cell (by omega) fun e=>by have:=(hL ib e).1; omega).trans (h5 j v hj)
theorem cnum_rs (B rg pb po b : Nat) (rest : List Nat) (P C G : Value) (k m z : Int) (w : World) (hr : RS B w rg (0 :: 0 :: b :: rest) P C G k) (hb : b < 256) (hB : B ≤ rg) (hpB : B ≤ pb) (hne : pb ≠ rg) (hp : w.cell? ⟨pb,po,none⟩ = some (.int .i64 z)) (hpf : w.frozen? ⟨pb,po,none⟩ = false) :
  Calls Tryz.prog 75 #[.pointer (some ⟨rg,0,none⟩),.pointer (some ⟨pb,po,none⟩),.int .i64 m] w fun e w'=>e = .returned (.bool (decide ((b : Int) ≤ m)))∧RS B w' rg rest P C G k∧Upd w w' [rg,pb]∧w'.heap[pb]? = (w.setCell ⟨pb,po,none⟩ (.int .i64 (b : Int))).heap[pb]?:=by
 obtain ⟨ib,o,c,h1,h2,h3,h4,h5⟩:=hr
 have hlen : (0 :: 0 :: b :: rest).length = rest.length + 3:=rfl
 rw [hlen] at h1 h2
 have c0:=h5 0 0 rfl
 have c1:=h5 1 0 rfl
 have c2:=h5 2 b rfl
 refine (cnumr rg ib o (rest.length + 3) c P C G k pb po b hb m z w h1 c0 c1 c2 (by omega) h2 h3 hp hpf hne).mono ?_
 rintro e w' ⟨he,hw1,hw2,hw3,hw4⟩
 have hlt:=heap_lt h1
 have hother : ∀ q,q ≠ rg → q ≠ pb → w'.heap[q]? = w.heap[q]?:=fun q q1 q2=>by
  rw [hw1,heap_setCell_other _ (⟨rg,0,none⟩ : Addr) _ _ q1,heap_setCell_other _ (⟨pb,po,none⟩ : Addr) _ _ q2]
 refine ⟨he,⟨ib,nx o c 3,c - 3,?_,by omega,by omega,h4,fun j v hj=>?_⟩,⟨?_,?_,?_,?_,fun q hq hn=>hother q (fun e=>hn (by simp [e])) (fun e=>hn (by simp [e]))⟩,?_⟩
 ·rw [hw1]
  exact sets_block [.slice (some ⟨ib,nx o c 3,none⟩) (rest.length + 3 - 3) (c - 3)] ((heap_setCell_other _ (⟨pb,po,none⟩ : Addr) _ _ (fun e=>hne e.symm)).trans h1) 0
 ·have hj2 : j < rest.length:=(List.getElem?_eq_some_iff.1 hj).1
  have hnx : nx o c 3 = o + 3:=if_neg (by omega)
  rw [hnx,World.cell?_of_block (a:=⟨ib,_,none⟩) (hother ib (by omega) (by omega))]
  have:=h5 (j + 3) v hj
  rw [show o + 3 + j = o + (j + 3) by omega]
  exact this
 ·exact hw2.trans (((Below.refl 0 w).setCell (Nat.zero_le _) _).setCell (Nat.zero_le _) _).os
 ·exact hw3.trans (((Below.refl 0 w).setCell (Nat.zero_le _) _).setCell (Nat.zero_le _) _).tape
 ·exact hw4.trans (((Below.refl 0 w).setCell (Nat.zero_le _) _).setCell (Nat.zero_le _) _).output
 ·rw [hw1,World.size_setCell,World.size_setCell]; exact Nat.le_refl _
 ·rw [hw1,heap_setCell_other _ (⟨rg,0,none⟩ : Addr) _ _ hne]
end LM
namespace LM
attribute [local go_sem] run_store_flt
def bytesOf (s : List Nat) : ByteArray:=⟨(s.map UInt8.ofNat).toArray⟩
theorem int_block (w : World) (z : Int) : ∃ W0,w.alloc (.cells #[.int .i64 z] 3 (0,0)) = W0∧Below w.heap.size w W0∧W0.heap[w.heap.size]? = some (.cells #[.int .i64 z] 3 (0,0))∧W0.heap.size = w.heap.size + 1 :=
 ⟨_,rfl,(Below.refl _ w).alloc (Nat.le_refl _) _,by unfold World.alloc; simp,by simp⟩
theorem setCell_heap_of {w w' : World} {p : Addr} {v : Value} (h : w'.heap[p.block]? = w.heap[p.block]?) : (w'.setCell p v).heap[p.block]? = (w.setCell p v).heap[p.block]?:=by
 unfold World.setCell
 simp only []
 rw [Array.getElem?_modify,Array.getElem?_modify,h]
theorem ctext_rs (B rg pb po : Nat) (s rest : List Nat) (P C G : Value) (k m : Int) (t : ByteArray) (w : World) (hr : RS B w rg (0 :: 0 :: s.length :: (s ++ rest)) P C G k) (hs : s.length < 256) (hsb : ∀ x ∈ s,x < 256) (hm : (s.length : Int) ≤ m) (hrest : 0 < rest.length) (hB : B ≤ rg) (hpB : B ≤ pb) (hpl : pb < w.heap.size) (hne : pb ≠ rg) (hp : w.cell? ⟨pb,po,none⟩ = some (.string t)) (hpf : w.frozen? ⟨pb,po,none⟩ = false) :
  Calls Tryz.prog 76 #[.pointer (some ⟨rg,0,none⟩),.pointer (some ⟨pb,po,none⟩),.int .i64 m] w fun e w'=>e = .returned (.bool true)∧RS B w' rg rest P C G k∧Upd w w' [rg,pb]∧w'.heap[pb]? = (w.setCell ⟨pb,po,none⟩ (.string (bytesOf s))).heap[pb]?:=by
 obtain ⟨W0,hW0,hb0,ho,hz⟩:=int_block w 0
 have hrg : rg < w.heap.size:=by obtain ⟨_,_,_,h,_⟩:=hr; exact heap_lt h
 have hr0 : RS B W0 rg (0 :: 0 :: s.length :: (s ++ rest)) P C G k:=hr.upd (Upd.of_below hb0 []) hB (by simp)
 have N1:=Lib.hid (cnum_rs B rg w.heap.size 0 s.length (s ++ rest) P C G k m 0 W0 hr0 hs hB (by omega) (by omega) (by rw [ob_cell ho]; rfl) (ob_free ho 0 (by simp)))
 have N2:=Lib.hid (cnum_rs B rg w.heap.size 0 s.length (s ++ rest) P C G k m 0 W0.drew (show RS B W0.drew rg (0 :: 0 :: s.length :: (s ++ rest)) P C G k from hr0) hs hB (by omega) (by omega) (by show W0.cell? _ = _; rw [ob_cell ho]; rfl) (by show W0.frozen? _ = _; exact ob_free ho 0 (by simp)))
 have hw0 : (w.alloc (.cells #[.int .i64 0] 3 (0,0))) = W0:=hW0
 have HW0:=Lib.hid hW0
 have HB0:=Lib.hid hb0
 have HO:=Lib.hid ho
 have HP:=Lib.hid (And.intro hp hpf)
 have HZ:=Lib.hid hz
 have HSB:=Lib.hid hsb
 have HRL:=Lib.hid (And.intro hrg hpl)
 have HRE:=Lib.hid hrest
 have HPB:=Lib.hid hpB
 have HNE:=Lib.hid hne
 have HS:=Lib.hid hs
 have HBR:=Lib.hid hB
 have HM : Hid (decide ((s.length : Int) ≤ m) = true):=Lib.hid (decide_eq_true hm)
 clear hW0 hb0 ho hr hr0 hm hw0 hp hpf hz hsb hrg hpl hrest hpB hne hs hB
 go_enter Tryz.func76,Tryz.ntmps76
 go_wp2_with (fail)
 rw [HW0.out]
 go_region_law (go_simp; go_at_call 75; first | refine N1.out.mono ?_ | refine N2.out.mono ?_; rintro e w1 ⟨rfl,hrs,hup,hpb⟩; have RS1:=Lib.hid hrs; have UP1 : Hid (Upd W0 w1 [rg,w.heap.size]):=Lib.hid ⟨hup.os,hup.tape,hup.output,hup.size,hup.keep⟩; have PB1:=Lib.hid hpb; obtain ⟨ib,o,c,hi1,hi2,hi3,hi4,hi5⟩:=hrs; have T7 : w1.cell? ⟨w.heap.size,0,none⟩ = some (.int .i64 ((s.length : Nat) : Int)):=ob_cell (hpb.trans (sets_block [.int .i64 ((s.length : Nat) : Int)] HO.out 0)) 0; rw [List.length_append] at hi1; have L0 : w1.cell? ⟨rg,0,none⟩ = some (.slice (some ⟨ib,o,none⟩) (s.length + rest.length) c):=ob_cell hi1 0; have F0:=ob_free hi1 0 (by simp); have HI1:=Lib.hid hi1; have HI:=Lib.hid (And.intro hi2 (And.intro hi3 (And.intro hi4 hi5))); rw [HM.out]; clear hup hpb hi1 hi2 hi3 hi4 hi5)
 all_goals
  obtain ⟨hi2,hi3,hi4,hi5⟩:=HI.out
  rw [List.length_append] at hi2
  have hr1:=HRL.out.1
  have hp1:=HRL.out.2
  have hz:=HZ.out
  have hre:=HRE.out
  have hnpb : pb ∉ [rg,w.heap.size]:=by simp; exact ⟨HNE.out,by omega⟩
  have p1 : w1.cell? ⟨pb,po,none⟩ = some (.string t):=(UP1.out.cell (by omega) hnpb).trans ((HB0.out.cell (p:=⟨pb,po,none⟩) hp1).trans HP.out.1)
  have pf1 : w1.frozen? ⟨pb,po,none⟩ = false:=(World.frozen?_of_block (a:=⟨pb,po,none⟩) (UP1.out.keep pb (by omega) hnpb)).trans ((World.frozen?_of_block (a:=⟨pb,po,none⟩) (HB0.out.block pb hp1)).trans HP.out.2)
  have hcv0 : ∀ W : World,W.heap = w1.heap → (convert 45 9 (.slice (some ⟨ib,o,none⟩) s.length c)).run Tryz.prog W = .ok (.string (bytesOf s)) W:=fun W hW=>by
   have h:=run_convert_bytes_back (P:=Tryz.prog) W 45 9 5 ⟨ib,o,none⟩ c (s.map UInt8.ofNat) Tryz.underlying45 Tryz.underlying5 Tryz.underlying9 (fun j hj=>by
    rw [List.length_map] at hj
    rw [Lib.add_plain,World.cell?_of_block (a:=⟨ib,o + j,none⟩) (w:=w1) (by rw [hW])]
    have h1:=hi5 j s[j] (by rw [List.getElem?_append_left hj]; exact List.getElem?_eq_getElem hj)
    rw [h1,List.getElem_map]
    have h2:=HSB.out s[j] (List.getElem_mem hj)
    have h3 : (UInt8.ofNat s[j]).toNat = s[j]:=by simp; omega
    rw [h3])
   rw [List.length_map] at h
   exact h
  have hcv:=hcv0 w1 rfl
  have hcvd:=hcv0 w1.drew rfl
  obtain ⟨ss,hss⟩ : ∃ ss,s.length = ss:=⟨_,rfl⟩
  obtain ⟨rr,hrr⟩ : ∃ rr,rest.length = rr:=⟨_,rfl⟩
  obtain ⟨S,hS⟩ : ∃ S,bytesOf s = S:=⟨_,rfl⟩
  have HSS:=Lib.hid (And.intro hss (And.intro hrr hS))
  rw [hss,hrr] at hi2 L0
  rw [hss] at T7 hcv hcvd
  rw [hS] at hcv hcvd
  rw [hss,hrr]
  have dN : decide ((ss : Int) + (rr : Int) < (ss : Int)) = false:=decide_eq_false (by omega)
  have dN2 : decide ((ss + rr : Nat) < ss) = false:=decide_eq_false (by omega)
  have dz : (ss : Int) ≤ (ss : Int) + (rr : Int):=by omega
  have dc : (ss : Int) ≤ (c : Int):=by omega
  have dcz : ¬ (c - ss = 0):=by omega
  have dcp : 0 < c - ss:=by omega
  obtain ⟨X,hX⟩ : ∃ X,w1.setCell ⟨pb,po,none⟩ (.string S) = X:=⟨_,rfl⟩
  have hneX : (⟨pb,po,none⟩ : Addr) ≠ ⟨rg,0,none⟩:=by intro e; injection e with e; exact HNE.out e
  have hneT : (⟨pb,po,none⟩ : Addr) ≠ ⟨w.heap.size,0,none⟩:=by intro e; injection e with e; omega
  have xl : X.cell? ⟨rg,0,none⟩ = some (.slice (some ⟨ib,o,none⟩) (ss + rr) c):=by rw [← hX,World.cell?_setCell_other _ _ _ _ hneX]; exact L0
  have xf : X.frozen? ⟨rg,0,none⟩ = false:=by rw [← hX,World.frozen?_setCell]; exact F0
  have xt : X.cell? ⟨w.heap.size,0,none⟩ = some (.int .i64 ((ss : Nat) : Int)):=by rw [← hX,World.cell?_setCell_other _ _ _ _ hneT]; exact T7
  have HX:=Lib.hid hX
  clear hss hrr hS hcv0 hi5
  go_wp2_with (fail)
  go_region
  try rw [hX]
  clear hX L0 F0 T7 p1 pf1 hcv hcvd hneX hneT dN dN2
  go_wp2_with (fail)
  go_region
  go_wp2_with (fail)
  go_ret
  obtain ⟨ea,eb,ec⟩:=HSS.out
  obtain ⟨hi2,hi3,hi4,hi5⟩:=HI.out
  have hX:=HX.out
  obtain ⟨Y,hY⟩ : ∃ Y,X.setCell ⟨rg,0,none⟩ (.slice (some ⟨ib,o + ss,none⟩) rr (c - ss)) = Y:=⟨_,rfl⟩
  try rw [hY]
  have hXk : ∀ q,q ≠ pb → X.heap[q]? = w1.heap[q]?:=fun q hq=>by rw [← hX]; exact heap_setCell_other _ (⟨pb,po,none⟩ : Addr) _ _ hq
  have hYk : ∀ q,q ≠ rg → Y.heap[q]? = X.heap[q]?:=fun q hq=>by rw [← hY]; exact heap_setCell_other _ (⟨rg,0,none⟩ : Addr) _ _ hq
  have hBX : Below 0 w1 X:=by rw [← hX]; exact (Below.refl 0 w1).setCell (Nat.zero_le _) _
  have hBY : Below 0 X Y:=by rw [← hY]; exact (Below.refl 0 X).setCell (Nat.zero_le _) _
  have hib : ib ≠ rg:=by have:=HBR.out; omega
  have hib2 : ib ≠ pb:=by have:=HPB.out; omega
  have hXs : X.heap.size = w1.heap.size:=by rw [← hX,World.size_setCell]
  have hYs : Y.heap.size = X.heap.size:=by rw [← hY,World.size_setCell]
  have hus:=UP1.out.size
  refine ⟨rfl,⟨ib,o + ss,c - ss,?_,by omega,by omega,hi4,fun j v hj=>?_⟩,⟨?_,?_,?_,?_,fun q hq hn=>?_⟩,?_⟩
  ·show Y.heap[rg]? = _
   rw [eb,← hY]
   exact sets_block [.slice (some ⟨ib,o + ss,none⟩) rr (c - ss)] ((hXk rg (fun e=>HNE.out e.symm)).trans HI1.out) 0
  ·show Y.cell? _ = _
   rw [World.cell?_of_block (a:=⟨ib,o + ss + j,none⟩) ((hYk ib hib).trans (hXk ib hib2))]
   have h1:=hi5 (ss + j) v (by rw [← ea,List.getElem?_append_right (by omega)]; rw [show s.length + j - s.length = j by omega]; exact hj)
   rw [← Nat.add_assoc] at h1
   exact h1
  ·exact hBY.os.trans (hBX.os.trans (UP1.out.os.trans HB0.out.os))
  ·exact hBY.tape.trans (hBX.tape.trans (UP1.out.tape.trans HB0.out.tape))
  ·exact hBY.output.trans (hBX.output.trans (UP1.out.output.trans HB0.out.output))
  ·show w.heap.size ≤ Y.heap.size
   omega
  ·simp only [List.mem_cons,List.not_mem_nil,or_false,not_or] at hn
   show Y.heap[q]? = _
   rw [hYk q hn.1,hXk q hn.2]
   exact (UP1.out.keep q (by omega) (by simp; exact ⟨hn.1,by omega⟩)).trans (HB0.out.block q hq)
  ·show Y.heap[pb]? = _
   rw [hYk pb HNE.out,← hX,← ec]
   exact setCell_heap_of ((UP1.out.keep pb (by omega) (by simp; exact ⟨HNE.out,by omega⟩)).trans (HB0.out.block pb HRL.out.2))
end LM
namespace LM
attribute [local go_sem] run_store_flt
abbrev readO (A : Option Addr) (n c : Nat) (k : Int) : Obj:=.cells #[.slice A n c,.slice none 0 0,.int .i64 k] 139 (0,0)
theorem own_form {w : World} {base size n : Nat} {e : TypeId} {v : Value} {xs : List Value} (h : w.ownsRow base e size v n xs) (hn : 0 < n) : ∃ g cap cur,v = .slice (some ⟨g,0,none⟩) n cap∧base ≤ g∧w.heap[g]? = some (.cells cur e (0,0))∧n ≤ cap∧cap ≤ maxLen∧cur.size = cap * size∧cur.toList.take xs.length = xs:=by
 obtain ⟨h1,⟨rfl,rfl⟩ | ⟨g,cap,cur,rfl,h2,h3,h4,h5,h6,h7⟩⟩:=h
 ·omega
 ·exact ⟨g,cap,cur,rfl,h2,h3,h4,h5,h6,by rw [h1]; exact h7⟩
theorem cur_at {cur : Array Value} {xs : List Value} (h : cur.toList.take xs.length = xs) {i : Nat} (hi : i < xs.length) : cur[i]? = xs[i]?:=by
 conv=>rhs; rw [← h]
 rw [List.getElem?_take,if_pos hi]
 simp
theorem dat_infoB : (Tryz.prog.info? 44).map (fun i=>(i.zero,i.size,i.bytes)) = some (some (.agg #[.int .i64 0,.int .i64 0,.bool false,.float .f64 0,.bool false,.slice none 0 0,.string ⟨#[]⟩,.slice none 0 0]),8,104):=by kernel_rfl
theorem C8.of_same {w w' : World} {b : Nat} {h : Hd} {n : Nat} (hc : C8 w b 0 h n) (hb : w'.heap[b]? = w.heap[b]?) : C8 w' b 0 h n :=
 ⟨(World.cell?_of_block (a:=⟨b,_,none⟩) hb).trans hc.c0,(World.cell?_of_block (a:=⟨b,_,none⟩) hb).trans hc.c1,(World.cell?_of_block (a:=⟨b,_,none⟩) hb).trans hc.c2,(World.cell?_of_block (a:=⟨b,_,none⟩) hb).trans hc.c3,
   (World.cell?_of_block (a:=⟨b,_,none⟩) hb).trans hc.c4,(World.cell?_of_block (a:=⟨b,_,none⟩) hb).trans hc.c5,(World.cell?_of_block (a:=⟨b,_,none⟩) hb).trans hc.c6,(World.cell?_of_block (a:=⟨b,_,none⟩) hb).trans hc.c7⟩
theorem add_fin (h : Hd) (n : Nat) {w wr w' : World} {rg g i : Nat} {v : Value} (hb : Below w.heap.size w wr) (hrg : rg < w.heap.size) (hg : wr.heap.size + 1 ≤ g) (hgw : g < w'.heap.size) (hz : C8 w' g 0 zeroHd 0)
  (hbk : ∀ k,k < wr.heap.size → w'.heap[k]? = wr.heap[k]?) (hos : w'.os = wr.os) (htp : w'.tape = wr.tape) (hou : w'.output = wr.output) :
  C8 ((set8z w' g h n).setCell ⟨rg,i,none⟩ v) g 0 h n∧w.heap.size ≤ g∧g < ((set8z w' g h n).setCell ⟨rg,i,none⟩ v).heap.size∧w.grownBy ((set8z w' g h n).setCell ⟨rg,i,none⟩ v) (some rg)∧((set8z w' g h n).heap[rg]? = w'.heap[rg]?):=by
 have hsz:=hb.size
 have hsets : ∀ k,k ≠ g → (set8z w' g h n).heap[k]? = w'.heap[k]?:=fun k hk=>by
  simp only [set8z]
  rw [heap_setCell_other _ (⟨g,7,none⟩ : Addr) _ _ hk,heap_setCell_other _ (⟨g,6,none⟩ : Addr) _ _ hk,heap_setCell_other _ (⟨g,5,none⟩ : Addr) _ _ hk,heap_setCell_other _ (⟨g,4,none⟩ : Addr) _ _ hk,heap_setCell_other _ (⟨g,3,none⟩ : Addr) _ _ hk,heap_setCell_other _ (⟨g,2,none⟩ : Addr) _ _ hk,heap_setCell_other _ (⟨g,1,none⟩ : Addr) _ _ hk,heap_setCell_other _ (⟨g,0,none⟩ : Addr) _ _ hk]
 have hlen : w'.heap.size ≤ ((set8z w' g h n).setCell ⟨rg,i,none⟩ v).heap.size:=by
  have e : (set8z w' g h n).heap.size = w'.heap.size:=(set8_out w' g 0 h n).size
  rw [World.size_setCell,e]
  exact Nat.le_refl _
 have hc : C8 (set8z w' g h n) g 0 h n:=set8_c8 hz h n
 have hB : Below 0 w' ((set8z w' g h n).setCell ⟨rg,i,none⟩ v):=((((((((((Below.refl 0 w').setCell (Nat.zero_le _) _).setCell (Nat.zero_le _) _).setCell (Nat.zero_le _) _).setCell (Nat.zero_le _) _).setCell (Nat.zero_le _) _).setCell (Nat.zero_le _) _).setCell (Nat.zero_le _) _).setCell (Nat.zero_le _) _).setCell (Nat.zero_le _) _)
 refine ⟨hc.of_same (heap_setCell_other _ (⟨rg,i,none⟩ : Addr) _ _ (by show g ≠ rg; omega)),by omega,by omega,⟨?_,?_,?_,by omega,fun k hk hn=>?_⟩,hsets rg (by omega)⟩
 ·exact hB.os.trans (hos.trans hb.os)
 ·exact hB.tape.trans (htp.trans hb.tape)
 ·exact hB.output.trans (hou.trans hb.output)
 ·have hkr : k ≠ rg:=fun e=>hn (by rw [e])
  rw [heap_setCell_other _ (⟨rg,i,none⟩ : Addr) _ _ hkr,hsets k (by omega),hbk k (by omega)]
  exact hb.block k hk
theorem add_fin2 (h : Hd) (n : Nat) {w wr w' : World} {rg g i : Nat} {v : Value} (hb : Below w.heap.size w wr) (hrg : rg < w.heap.size) (hg : wr.heap.size + 1 ≤ g) (hgw : g < w'.heap.size) (hz : C8 w' g 0 zeroHd 0)
  (hbk : ∀ k,k < wr.heap.size → w'.heap[k]? = wr.heap[k]?) (hos : w'.os = wr.os) (htp : w'.tape = wr.tape) (hou : w'.output = wr.output) :
  C8 (set8z (w'.setCell ⟨rg,i,none⟩ v) g h n) g 0 h n∧w.heap.size ≤ g∧g < (set8z (w'.setCell ⟨rg,i,none⟩ v) g h n).heap.size∧w.grownBy (set8z (w'.setCell ⟨rg,i,none⟩ v) g h n) (some rg)∧((set8z (w'.setCell ⟨rg,i,none⟩ v) g h n).heap[rg]? = (w'.setCell ⟨rg,i,none⟩ v).heap[rg]?):=by
 have hsz:=hb.size
 obtain ⟨X,hX⟩ : ∃ X,w'.setCell ⟨rg,i,none⟩ v = X:=⟨_,rfl⟩
 have hXs : X.heap.size = w'.heap.size:=by rw [← hX,World.size_setCell]
 have hzX : C8 X g 0 zeroHd 0:=hz.of_same (by rw [← hX]; exact heap_setCell_other _ (⟨rg,i,none⟩ : Addr) _ _ (by show g ≠ rg; omega))
 have hXk : ∀ k,k ≠ rg → X.heap[k]? = w'.heap[k]?:=fun k hk=>by rw [← hX]; exact heap_setCell_other _ (⟨rg,i,none⟩ : Addr) _ _ hk
 have hBX : Below 0 w' X:=by rw [← hX]; exact (Below.refl 0 w').setCell (Nat.zero_le _) _
 rw [hX]
 have hsets : ∀ k,k ≠ g → (set8z X g h n).heap[k]? = X.heap[k]?:=fun k hk=>by
  simp only [set8z]
  rw [heap_setCell_other _ (⟨g,7,none⟩ : Addr) _ _ hk,heap_setCell_other _ (⟨g,6,none⟩ : Addr) _ _ hk,heap_setCell_other _ (⟨g,5,none⟩ : Addr) _ _ hk,heap_setCell_other _ (⟨g,4,none⟩ : Addr) _ _ hk,heap_setCell_other _ (⟨g,3,none⟩ : Addr) _ _ hk,heap_setCell_other _ (⟨g,2,none⟩ : Addr) _ _ hk,heap_setCell_other _ (⟨g,1,none⟩ : Addr) _ _ hk,heap_setCell_other _ (⟨g,0,none⟩ : Addr) _ _ hk]
 have e : (set8z X g h n).heap.size = X.heap.size:=(set8_out X g 0 h n).size
 have hc : C8 (set8z X g h n) g 0 h n:=set8_c8 hzX h n
 have hB : Below 0 X (set8z X g h n):=(((((((((Below.refl 0 X).setCell (Nat.zero_le _) _).setCell (Nat.zero_le _) _).setCell (Nat.zero_le _) _).setCell (Nat.zero_le _) _).setCell (Nat.zero_le _) _).setCell (Nat.zero_le _) _).setCell (Nat.zero_le _) _).setCell (Nat.zero_le _) _)
 refine ⟨hc,by omega,by omega,⟨?_,?_,?_,by omega,fun k hk hn=>?_⟩,hsets rg (by omega)⟩
 ·exact hB.os.trans (hBX.os.trans (hos.trans hb.os))
 ·exact hB.tape.trans (hBX.tape.trans (htp.trans hb.tape))
 ·exact hB.output.trans (hBX.output.trans (hou.trans hb.output))
 ·have hkr : k ≠ rg:=fun e=>hn (by rw [e])
  rw [hsets k (by omega),hXk k hkr,hbk k (by omega)]
  exact hb.block k hk
theorem radd_x (h : Hd) (n : Nat) (rg : Nat) (k : Int) (w : World) (hr : w.heap[rg]? = some (readO none 0 0 k)) : Calls Tryz.prog 198 #[.pointer (some ⟨rg,0,none⟩),datA h n] w fun e w'=>(∃ v,e = .returned v)∧∃ b cap,w'.heap[rg]? = some (readO (some ⟨b,0,none⟩) 1 cap k)∧C8 w' b 0 h n∧w.heap.size ≤ b∧b < w'.heap.size∧1 ≤ cap∧cap ≤ maxLen∧w.grownBy w' (some rg):=by
 obtain ⟨W0,hW0,hb0,ho,hs0⟩:=dat_block w h n
 have hrl:=heap_lt hr
 have hr0 : W0.heap[rg]? = some (readO none 0 0 k):=(hb0.block rg hrl).trans hr
 have N1:=Lib.hid (rinner0 rg W0 (by rw [ob_cell hr0]; rfl))
 have HW0:=Lib.hid hW0
 have HB0:=Lib.hid hb0
 have HO:=Lib.hid ho
 have HR:=Lib.hid hr0
 have HRL:=Lib.hid hrl
 clear hW0 hb0 ho hs0 hr hr0 hrl
 go_enter Tryz.func198,Tryz.ntmps198
 go_wp2_with (fail)
 rw [HW0.out]
 refine N1.out.mono ?_
 rintro e w1 ⟨rfl,rfl⟩
 go_wp2_with (fail)
 go_loopg [4] 0 (fun kk o wr=>wr = W0∧o = .pointer none)
 case atStart=>exact ⟨rfl,rfl⟩
 case round =>
  obtain ⟨hwr,rfl⟩:=hrel
  subst hwr
  have r0 : wr.cell? ⟨rg,0,none⟩ = some (.slice none 0 0):=ob_cell HR.out 0
  have r1:=ob_free HR.out 0 (by simp)
  have YK:=Lib.hid HO.out
  obtain ⟨y0,y1,y2,y3,y4,y5,y6,y7⟩:=C8.of_block HO.out
  simp only [Nat.zero_add] at y1 y2 y3 y4 y5 y6 y7
  obtain ⟨i0,hinf,hz0,hz1,hz2⟩:=info_partsB dat_infoB
  have hlr : rg < wr.heap.size:=Nat.lt_of_lt_of_le HRL.out HB0.out.size
  have HLR:=Lib.hid hlr
  have hoa : (wr.alloc (.cells #[.int .i64 0,.int .i64 0,.bool false,.float .f64 0,.bool false,.slice none 0 0,.string ⟨#[]⟩,.slice none 0 0] 44)).heap[w.heap.size]? = some (datO h n):=(Below.heap_alloc wr _ _ (heap_lt HO.out)).trans HO.out
  obtain ⟨ya0,ya1,ya2,ya3,ya4,ya5,ya6,ya7⟩:=C8.of_block hoa
  simp only [Nat.zero_add] at ya1 ya2 ya3 ya4 ya5 ya6 ya7
  have ra0 : (wr.alloc (.cells #[.int .i64 0,.int .i64 0,.bool false,.float .f64 0,.bool false,.slice none 0 0,.string ⟨#[]⟩,.slice none 0 0] 44)).cell? ⟨rg,0,none⟩ = some (.slice none 0 0):=ob_cell ((Below.heap_alloc wr _ _ HLR.out).trans HR.out) 0
  clear hoa
  clear hlr
  go_wp2_with (fail)
  go_region_law (refine step_append_grows rfl (.tmp 35) (.tmp 38) 25 rfl 44 i0 _ 8 104 Tryz.underlying25 hinf hz0 hz1 hz2 rfl (by decide) none 0 0 [] (by first | rfl | simp [Act.eval,Act.put]) (fun _=>⟨rfl,rfl⟩) rfl (fun b hb=>by cases hb) ⟨wr.heap.size,0,none⟩ 1 1 [.int .i64 0,.int .i64 0,.bool false,.float .f64 0,.bool false,.slice none 0 0,.string ⟨#[]⟩,.slice none 0 0] (by first | rfl | simp [Act.eval,Act.put]) rfl (fun j u hj=>by rw [Lib.add_plain,Nat.zero_add]; show (World.cell? (World.alloc wr _) ⟨wr.heap.size,j,none⟩) = some u; rw [World.cell?_alloc_new]; simpa using hj) (by decide) (by decide) (by decide) (by decide) ?_; intro v' w' hown hgrow; obtain ⟨g,cap,cur,rfl,q1,q2,q3,q4,q5,q6⟩:=own_form hown (by decide); have hbk : ∀ k,k < wr.heap.size → w'.heap[k]? = wr.heap[k]?:=fun k hk=>(hgrow.block k (by simp; omega) (by simp)).trans (Below.heap_alloc wr _ k hk); obtain ⟨u0,u1,u2,u3,u4,u5,u6,u7⟩:=C8.of_block ((hbk _ (heap_lt YK.out)).trans YK.out); simp only [Nat.zero_add] at u1 u2 u3 u4 u5 u6 u7; have t0 : w'.cell? ⟨rg,0,none⟩ = some (.slice none 0 0):=ob_cell ((hbk _ HLR.out).trans HR.out) 0; have t1:=ob_free ((hbk _ HLR.out).trans HR.out) 0 (by simp); have z0 : w'.cell? ⟨g,0,none⟩ = some (.int .i64 0):=(ob_cell q2 0).trans (cur_at q6 (by decide)); have e0:=ob_free q2 0 (by rw [q5]; omega); have z1 : w'.cell? ⟨g,1,none⟩ = some (.int .i64 0):=(ob_cell q2 1).trans (cur_at q6 (by decide)); have e1:=ob_free q2 1 (by rw [q5]; omega); have z2 : w'.cell? ⟨g,2,none⟩ = some (.bool false):=(ob_cell q2 2).trans (cur_at q6 (by decide)); have e2:=ob_free q2 2 (by rw [q5]; omega); have z3 : w'.cell? ⟨g,3,none⟩ = some (.float .f64 0):=(ob_cell q2 3).trans (cur_at q6 (by decide)); have e3:=ob_free q2 3 (by rw [q5]; omega); have z4 : w'.cell? ⟨g,4,none⟩ = some (.bool false):=(ob_cell q2 4).trans (cur_at q6 (by decide)); have e4:=ob_free q2 4 (by rw [q5]; omega); have z5 : w'.cell? ⟨g,5,none⟩ = some (.slice none 0 0):=(ob_cell q2 5).trans (cur_at q6 (by decide)); have e5:=ob_free q2 5 (by rw [q5]; omega); have z6 : w'.cell? ⟨g,6,none⟩ = some (.string ⟨#[]⟩):=(ob_cell q2 6).trans (cur_at q6 (by decide)); have e6:=ob_free q2 6 (by rw [q5]; omega); have z7 : w'.cell? ⟨g,7,none⟩ = some (.slice none 0 0):=(ob_cell q2 7).trans (cur_at q6 (by decide)); have e7:=ob_free q2 7 (by rw [q5]; omega); have q1' : wr.heap.size + 1 ≤ g:=(by simpa using q1); have hn : ¬ (g = rg):=(by intro e; have:=HLR.out; omega); have hn' : ¬ (rg = g):=fun e=>hn e.symm; have KB:=Lib.hid (And.intro q1 (And.intro q2 (And.intro q3 (And.intro q4 (And.intro q5 (And.intro hbk hgrow)))))); clear q1 q1' q2 q3 q4 q5 q6 hbk hgrow hown)
  all_goals
   clear y0 y1 y2 y3 y4 y5 y6 y7 ya0 ya1 ya2 ya3 ya4 ya5 ya6 ya7 ra0 r0 r1 u0 u1 u2 u3 u4 u5 u6 u7 t0 t1 e0 e1 e2 e3 e4 e5 e6 e7 hn hn'
   have hz : C8 w' g 0 zeroHd 0:=⟨z0,z1,z2,z3,z4,z5,z6,z7⟩
   clear z0 z1 z2 z3 z4 z5 z6 z7
   obtain ⟨q1,q2,q3,q4,q5,hbk,hgrow⟩:=KB.out
   have q1' : wr.heap.size + 1 ≤ g:=by simpa using q1
   obtain ⟨WA,hWA⟩ : ∃ WA,(set8z w' g h n).setCell ⟨rg,0,none⟩ (.slice (some ⟨g,0,none⟩) 1 cap) = WA:=⟨_,rfl⟩
   obtain ⟨WB,hWB⟩ : ∃ WB,set8z (w'.setCell ⟨rg,0,none⟩ (.slice (some ⟨g,0,none⟩) 1 cap)) g h n = WB:=⟨_,rfl⟩
   obtain ⟨f1,f2,f3,f4,f5⟩:=add_fin (i:=0) (v:=.slice (some ⟨g,0,none⟩) 1 cap) h n HB0.out HRL.out q1' (heap_lt q2) hz hbk hgrow.os hgrow.tape hgrow.output
   have f6:=sets_block [.slice (some ⟨g,0,none⟩) 1 cap] (f5.trans ((hbk _ HLR.out).trans HR.out)) 0
   rw [show (set8z w' g h n).setCells rg 0 [.slice (some ⟨g,0,none⟩) 1 cap] = WA from hWA] at f6
   rw [hWA] at f1 f3 f4
   obtain ⟨g1,g2,g3,g4,g5⟩:=add_fin2 (i:=0) (v:=.slice (some ⟨g,0,none⟩) 1 cap) h n HB0.out HRL.out q1' (heap_lt q2) hz hbk hgrow.os hgrow.tape hgrow.output
   have g6:=g5.trans (sets_block [.slice (some ⟨g,0,none⟩) 1 cap] ((hbk _ HLR.out).trans HR.out) 0)
   rw [hWB] at g1 g3 g4 g6
   have RA:=Lib.hid (And.intro f6 (And.intro f1 (And.intro f2 (And.intro f3 (And.intro q3 (And.intro q4 f4))))))
   have RB:=Lib.hid (And.intro g6 (And.intro g1 (And.intro g2 (And.intro g3 (And.intro q3 (And.intro q4 g4))))))
   dsimp only [set8z] at hWA hWB
   clear f1 f2 f3 f4 f5 f6 g1 g2 g3 g4 g5 g6 q1 q2 q3 q4 q5 hbk hgrow q1' hz
   first
    | (rw [hWA]; clear hWA hWB; go_end0; exact ⟨⟨_,rfl⟩,g,cap,RA.out⟩)
    | (rw [hWB]; clear hWA hWB; go_end0; exact ⟨⟨_,rfl⟩,g,cap,RB.out⟩)
end LM
namespace LM
attribute [local go_sem] run_store_flt
theorem step_append_own {P : Program} {ops : Array Oper} {o : Oper} {a : Act} {w : World} {K : Act → World → Prop} {Q : Exit → Act → World → Prop} {E : Prop}
  (hg : o.guard = none) (s x : Operand) (t : TypeId) (hop : o.op = Op.call { callee:=Callee.builtin Builtin.append,args:=#[s,x],argTypes:=#[t,t] })
  (base : Nat) (e : TypeId) (i : TypeInfo) (z : Value) (size bytes : Nat) (h1 : P.underlying t = some (.slice e)) (h2 : P.info? e = some i) (h3 : i.zero = some z) (h4 : i.size = size) (h5 : i.bytes = bytes) (h6 : z.cells.size = size) (h7 : 0 < size)
  (v : Value) (n : Nat) (xs : List Value) (hs : a.eval s = v) (hown : w.ownsRow base e size v n xs)
  (ad : Addr) (m c : Nat) (news : List Value) (hx : a.eval x = .slice (some ad) m c) (hn : news.length = m * size) (hc : ∀ j u,news[j]? = some u → w.cell? (ad.add j) = some u) (h1c : ∀ u ∈ news,u.oneCell' = true)
  (b1 : n + m ≤ maxLen) (b2 : (n + m) * bytes ≤ 140737488355328) (hbase : base ≤ w.heap.size)
  (hK : ∀ v' w',w'.ownsRow base e size v' (n + m) (xs ++ news) → w.grownBy w' v.ownBlock → K (a.put o.dst v') w') :
  if Region.wanted o (yielded ops a.tmps) = true then Oper.wp P o a w K Q else E:=by
 have hw : Region.wanted o (yielded ops a.tmps) = true:=by simp [Region.wanted,hg]
 rw [if_pos hw]
 obtain ⟨v',w',hrun,r1,r2,_⟩:=run_append_own (P:=P) w base t o.type e i z size bytes h1 h2 h3 h4 h5 h6 h7 v n xs hown ad m c news hn hc h1c b1 b2 hbase
 unfold Oper.wp
 simp [execOp,hop,resolve,invoke,builtin,hs,hx,hrun,Result.andThen]
 exact hK v' w' r1 r2
theorem str_info : (Tryz.prog.info? 9).map (fun i=>(i.zero,i.size,i.bytes)) = some (some (.string ⟨#[]⟩),1,16):=by kernel_rfl
theorem RS.blk {B : Nat} {w : World} {rg : Nat} {rest : List Nat} {P C G : Value} {k : Int} (h : RS B w rg rest P C G k) : ∃ ib o c,w.heap[rg]? = some (rdO ib o rest.length c P C G k):=by
 obtain ⟨ib,o,c,h1,_⟩:=h
 exact ⟨ib,o,c,h1⟩
theorem RS.fld {B : Nat} {w w' : World} {rg : Nat} {rest : List Nat} {P C G P' C' G' : Value} {k k' : Int} (h : RS B w rg rest P C G k) (hu : Upd w w' [rg]) (hB : B ≤ rg) (hf : ∀ ib o c,w.heap[rg]? = some (rdO ib o rest.length c P C G k) → w'.heap[rg]? = some (rdO ib o rest.length c P' C' G' k')) : RS B w' rg rest P' C' G' k':=by
 obtain ⟨ib,o,c,h1,h2,h3,h4,h5⟩:=h
 have hrg:=heap_lt h1
 exact ⟨ib,o,c,hf ib o c h1,h2,h3,h4,fun j v hj=>(hu.cell (by omega) (by simp; omega)).trans (h5 j v hj)⟩
theorem app_fin {w w1 w' WF : World} {rg g i : Nat} {v : Value} {L : List Nat} (hWF : w'.setCell ⟨rg,i,none⟩ v = WF) (hu : Upd w w1 L) (hrg : rg < w1.heap.size) (hg : w1.heap.size ≤ g) (hgl : g < w'.heap.size)
  (hbk : ∀ k,k < w1.heap.size → w'.heap[k]? = w1.heap[k]?) (hos : w'.os = w1.os) (htp : w'.tape = w1.tape) (hou : w'.output = w1.output) :
  Upd w WF (rg :: L)∧Upd w1 WF [rg]∧WF.heap[g]? = w'.heap[g]?∧g < WF.heap.size∧w.heap.size ≤ g:=by
 have hB : Below 0 w' WF:=by rw [← hWF]; exact (Below.refl 0 w').setCell (Nat.zero_le _) _
 have hs : WF.heap.size = w'.heap.size:=by rw [← hWF,World.size_setCell]
 have hk : ∀ q,q ≠ rg → WF.heap[q]? = w'.heap[q]?:=fun q hq=>by rw [← hWF]; exact heap_setCell_other _ (⟨rg,i,none⟩ : Addr) _ _ hq
 have h1 : Upd w1 WF [rg]:=⟨hB.os.trans hos,hB.tape.trans htp,hB.output.trans hou,by omega,fun q hq hn=>(hk q (by simpa using hn)).trans (hbk q hq)⟩
 have hz:=hu.size
 exact ⟨(hu.mono fun q _ hn=>List.mem_cons_of_mem _ hn).trans (h1.mono fun q _ hn=>by simp at hn; simp [hn]),h1,hk g (by omega),by omega,by omega⟩
theorem cglobal_any (B rg : Nat) (s rest : List Nat) (P C : Value) (k : Int) (w : World) (hr : RS B w rg (0 :: 0 :: s.length :: (s ++ rest)) P C (.slice none 0 0) k) (hs : s.length ≤ 100) (hsb : ∀ x ∈ s,x < 256) (hrest : 0 < rest.length) (hB : B ≤ rg) (hBw : B ≤ w.heap.size) :
  Calls Tryz.prog 47 #[.pointer (some ⟨rg,0,none⟩)] w fun e w'=>e = .returned (.bool true)∧∃ gb cap,RS B w' rg rest P C (.slice (some ⟨gb,0,none⟩) 1 cap) k∧w'.cell? ⟨gb,0,none⟩ = some (.string (bytesOf s))∧w.heap.size ≤ gb∧gb < w'.heap.size∧1 ≤ cap∧cap ≤ maxLen∧Upd w w' [rg]:=by
 obtain ⟨W0,hW0⟩ : ∃ W0,w.alloc (.cells #[.string ⟨#[]⟩] 9 (0,0)) = W0:=⟨_,rfl⟩
 have hb0 : Below w.heap.size w W0:=by rw [← hW0]; exact (Below.refl _ w).alloc (Nat.le_refl _) _
 have ho : W0.heap[w.heap.size]? = some (.cells #[.string ⟨#[]⟩] 9 (0,0)):=by rw [← hW0]; unfold World.alloc; simp
 have hz : W0.heap.size = w.heap.size + 1:=by rw [← hW0]; simp
 have hrg : rg < w.heap.size:=by obtain ⟨_,_,_,h,_⟩:=hr; exact heap_lt h
 have T1:=Lib.hid (ctext_rs B rg w.heap.size 0 s rest P C (.slice none 0 0) k 100 ⟨#[]⟩ W0 (hr.upd (Upd.of_below hb0 []) hB (by simp)) (by omega) hsb (by omega) hrest hB hBw (by omega) (by omega) (by rw [ob_cell ho]; rfl) (ob_free ho 0 (by simp)))
 have HW0:=Lib.hid hW0
 have HB0:=Lib.hid hb0
 have HO:=Lib.hid ho
 have HZ:=Lib.hid hz
 have HR:=Lib.hid hrg
 have HB:=Lib.hid hB
 obtain ⟨i0,hinf,hz0,hz1,hz2⟩:=info_partsB str_info
 obtain ⟨S,hS⟩ : ∃ S,bytesOf s = S:=⟨_,rfl⟩
 rw [hS] at T1 ⊢
 clear hW0 hb0 ho hz hr hs hsb hrest hrg hB hS
 go_enter Tryz.func47,Tryz.ntmps47
 go_wp2_with (fail)
 rw [HW0.out]
 refine T1.out.mono ?_
 rintro e w1 ⟨rfl,hrs,hu,hpb⟩
 have hob:=hpb.trans (sets_block [.string S] HO.out 0)
 obtain ⟨ib,o,c,h1⟩:=hrs.blk
 have RS1:=Lib.hid hrs
 have UP1 : Hid (Upd w w1 [rg]):=Lib.hid (((Upd.of_below HB0.out [rg,w.heap.size]).trans hu).mono fun q hq hn=>by simp at hn ⊢; omega)
 have hsz1 : w.heap.size + 1 ≤ w1.heap.size:=by have:=hu.size; have:=HZ.out; omega
 have HSZ:=Lib.hid hsz1
 have t3 : w1.cell? ⟨w.heap.size,0,none⟩ = some (.string S):=ob_cell hob 0
 have l3 : w1.cell? ⟨rg,3,none⟩ = some (.slice none 0 0):=ob_cell h1 3
 have f3:=ob_free h1 3 (by simp)
 have H1:=Lib.hid h1
 have HOB:=Lib.hid hob
 clear hrs hu hpb hob h1 hsz1
 go_wp2_with (fail)
 have l3a : (w1.alloc (.cells #[.string S] 9)).cell? ⟨rg,3,none⟩ = some (.slice none 0 0):=ob_cell ((Below.heap_alloc w1 _ _ (heap_lt H1.out)).trans H1.out) 3
 go_region_law (refine step_append_own rfl (.tmp 12) (.tmp 14) 26 rfl w1.heap.size 9 i0 _ 1 16 Tryz.underlying26 hinf hz0 hz1 hz2 rfl (by decide) (.slice none 0 0) 0 [] (by first | rfl | simp [Act.eval,Act.put]) (World.ownsRow_nil _ _ _ _) ⟨w1.heap.size,0,none⟩ 1 1 [.string S] (by first | rfl | simp [Act.eval,Act.put]) rfl (fun j u hj=>by rw [Lib.add_plain,Nat.zero_add]; show (World.cell? (World.alloc w1 _) ⟨w1.heap.size,j,none⟩) = some u; rw [World.cell?_alloc_new]; simpa using hj) (by simp [Value.oneCell']) (by decide) (by decide) (by simp) ?_; intro v' w' hown hgrow; obtain ⟨g,cap,cur,rfl,q1,q2,q3,q4,q5,q6⟩:=own_form hown (by decide); have hbk : ∀ k,k < w1.heap.size → w'.heap[k]? = w1.heap[k]?:=fun k hk=>(hgrow.block k (by simp; omega) (by simp [Value.ownBlock])).trans (Below.heap_alloc w1 _ k hk); have u3 : w'.cell? ⟨rg,3,none⟩ = some (.slice none 0 0):=ob_cell ((hbk _ (heap_lt H1.out)).trans H1.out) 3; have uf3:=ob_free ((hbk _ (heap_lt H1.out)).trans H1.out) 3 (by simp); have KB:=Lib.hid (And.intro q1 (And.intro q2 (And.intro q3 (And.intro q4 (And.intro q5 (And.intro q6 (And.intro hbk hgrow))))))); clear q1 q2 q3 q4 q5 q6 hbk hgrow hown)
 all_goals
  obtain ⟨q1,q2,q3,q4,q5,q6,hbk,hgrow⟩:=KB.out
  have q1' : w1.heap.size ≤ g:=q1
  obtain ⟨WF,hWF⟩ : ∃ WF,w'.setCell ⟨rg,3,none⟩ (.slice (some ⟨g,0,none⟩) 1 cap) = WF:=⟨_,rfl⟩
  obtain ⟨a1,a2,a3,a4,a5⟩:=app_fin hWF UP1.out (heap_lt H1.out) q1' (heap_lt q2) hbk hgrow.os hgrow.tape hgrow.output
  have rs : RS B WF rg rest P C (.slice (some ⟨g,0,none⟩) 1 cap) k:=RS1.out.fld a2 HB.out fun ib o c h=>by
   rw [← hWF]
   exact sets_block [.slice (some ⟨g,0,none⟩) 1 cap] ((hbk _ (heap_lt h)).trans h) 3
  have cl : WF.cell? ⟨g,0,none⟩ = some (.string S):=(ob_cell (a3.trans q2) 0).trans (cur_at q6 (by simp))
  have FF:=Lib.hid (And.intro rs (And.intro cl (And.intro a5 (And.intro a4 (And.intro q3 (And.intro q4 (a1.mono (L':=[rg]) fun q _ hn=>by simpa using hn)))))))
  try rw [hWF]
  clear q1 q2 q3 q4 q5 q6 hbk hgrow q1' hWF a1 a2 a3 a4 a5 rs cl u3 uf3 l3 f3 l3a t3
  go_wp2_with (fail)
  go_ret
  exact ⟨rfl,g,cap,FF.out⟩
end LM
namespace LM
attribute [local go_sem] run_store_flt
theorem clast_any (B rg pb cap : Nat) (rest : List Nat) (C G : Value) (k : Int) (w : World) (hr : RS B w rg rest (.slice (some ⟨pb,0,none⟩) 1 cap) C G k) : Calls Tryz.prog 78 #[.pointer (some ⟨rg,0,none⟩)] w fun e w'=>e = .returned (.pointer (some ⟨pb,0,none⟩))∧Below w.heap.size w w':=by
 obtain ⟨ib,o,c,h1⟩:=hr.blk
 have l1 : w.cell? ⟨rg,1,none⟩ = some (.slice (some ⟨pb,0,none⟩) 1 cap):=ob_cell h1 1
 clear h1 hr
 go_enter Tryz.func78,Tryz.ntmps78
 go_wp2_with (fail)
 go_quiet (fail)
 go_wp2_with (fail)
 go_ret
 exact ⟨rfl,below_drewN (Below.refl _ _) _⟩
theorem own_upd {w w' : World} {base size n : Nat} {e : TypeId} {v : Value} {xs : List Value} {L : List Nat} (h : w.ownsRow base e size v n xs) (hu : Upd w w' L) (hL : ∀ q ∈ L,q < base) : w'.ownsRow base e size v n xs:=by
 obtain ⟨h1,h2⟩:=h
 refine ⟨h1,?_⟩
 rcases h2 with h2 | ⟨g,cap,cur,e,e1,e2,e3⟩
 ·exact .inl h2
 ·exact .inr ⟨g,cap,cur,e,e1,(hu.keep g (heap_lt e2) fun hq=>by have:=hL g hq; omega).trans e2,e3⟩
theorem ins_info : (Tryz.prog.info? 23).map (fun i=>(i.zero,i.size,i.bytes)) = some (some (.agg #[.int .i64 0,.int .i64 0,.int .i64 0]),3,24):=by kernel_rfl
theorem cinstr_rs (B rg pb cap a b c : Nat) (ha : a < 256) (hb : b < 256) (hc : c < 256) (rest : List Nat) (C G : Value) (k : Int) (hk : 0 ≤ k∧k ≤ 1000000) (cur : Array Value) (v : Value) (n : Nat) (xs : List Value) (w : World) (hr : RS B w rg (0 :: 0 :: a :: 0 :: 0 :: b :: 0 :: 0 :: c :: rest) (.slice (some ⟨pb,0,none⟩) 1 cap) C G k)
  (hp : w.heap[pb]? = some (.cells cur 36 (0,0))) (hcur : 7 ≤ cur.size) (hv6 : cur[6]? = some v) (hown : w.ownsRow (pb + 1) 23 3 v n xs) (hn : n ≤ 1000) (hB : B ≤ rg) (hBw : B ≤ w.heap.size) (hne : rg < pb) :
  Calls Tryz.prog 80 #[.pointer (some ⟨rg,0,none⟩)] w fun e w'=>e = .returned (.bool true)∧∃ v',RS B w' rg rest (.slice (some ⟨pb,0,none⟩) 1 cap) C G (k + 1)∧w'.heap[pb]? = some (.cells (cur.setIfInBounds 6 v') 36 (0,0))∧w'.ownsRow (pb + 1) 23 3 v' (n + 1) (xs ++ [.int .i64 (a : Int),.int .i64 (b : Int),.int .i64 (c : Int)])∧Upd w w' (rg :: pb :: v.ownBlock.toList):=by
 obtain ⟨W0,hW0⟩ : ∃ W0,w.alloc (.cells #[.int .i64 0,.int .i64 0,.int .i64 0] 23 (0,0)) = W0:=⟨_,rfl⟩
 have hb0 : Below w.heap.size w W0:=by rw [← hW0]; exact (Below.refl _ w).alloc (Nat.le_refl _) _
 have ho : W0.heap[w.heap.size]? = some (.cells #[.int .i64 0,.int .i64 0,.int .i64 0] 23 (0,0)):=by rw [← hW0]; unfold World.alloc; simp
 have hz : W0.heap.size = w.heap.size + 1:=by rw [← hW0]; simp
 have hpl:=heap_lt hp
 have N1:=Lib.hid (cnum_rs B rg w.heap.size 0 a _ _ C G k 16777215 0 W0 (hr.upd (Upd.of_below hb0 []) hB (by simp)) ha hB hBw (by omega) (by rw [ob_cell ho]; rfl) (ob_free ho 0 (by simp)))
 have N2:=Lib.hid fun (W : World) (hr : RS B W rg (0 :: 0 :: b :: 0 :: 0 :: c :: rest) (.slice (some ⟨pb,0,none⟩) 1 cap) C G k) (ho : W.heap[w.heap.size]? = some (.cells #[.int .i64 a,.int .i64 0,.int .i64 0] 23 (0,0)))=>cnum_rs B rg w.heap.size 1 b _ _ C G k 16777215 0 W hr hb hB hBw (by omega) (by rw [ob_cell ho]; rfl) (ob_free ho 1 (by simp))
 have N3:=Lib.hid fun (W : World) (hr : RS B W rg (0 :: 0 :: c :: rest) (.slice (some ⟨pb,0,none⟩) 1 cap) C G k) (ho : W.heap[w.heap.size]? = some (.cells #[.int .i64 a,.int .i64 b,.int .i64 0] 23 (0,0)))=>cnum_rs B rg w.heap.size 2 c _ _ C G k 16777215 0 W hr hc hB hBw (by omega) (by rw [ob_cell ho]; rfl) (ob_free ho 2 (by simp))
 have d1 : decide ((a : Int) ≤ 16777215) = true:=decide_eq_true (by omega)
 have d2 : decide ((b : Int) ≤ 16777215) = true:=decide_eq_true (by omega)
 have d3 : decide ((c : Int) ≤ 16777215) = true:=decide_eq_true (by omega)
 have HW0:=Lib.hid hW0
 have HB0:=Lib.hid hb0
 have HO:=Lib.hid ho
 have HZ:=Lib.hid hz
 have HA:=Lib.hid (And.intro hp (And.intro hcur (And.intro hv6 (And.intro hown (And.intro hn (And.intro hB (And.intro hBw (And.intro hne (And.intro hpl hk)))))))))
 obtain ⟨i0,hinf,hz0,hz1,hz2⟩:=info_partsB ins_info
 clear hW0 hb0 ho hz hp hcur hv6 hown hn hB hBw hne hpl hr ha hb hc hk
 go_enter Tryz.func80,Tryz.ntmps80
 go_wp2_with (fail)
 rw [HW0.out]
 refine N1.out.mono ?_
 rintro e w1 ⟨rfl,hr1,hu1,hp1⟩
 rw [d1]
 have ho1:=hp1.trans (sets_block [.int .i64 (a : Int)] HO.out 0)
 have M2:=Lib.hid (N2.out w1 hr1 ho1)
 have HO1:=Lib.hid ho1
 have U1:=Lib.hid hu1
 clear hr1 hu1 hp1 ho1
 go_wp2_with (fail)
 refine M2.out.mono ?_
 rintro e w2 ⟨rfl,hr2,hu2,hp2⟩
 rw [d2]
 have ho2:=hp2.trans (sets_block [.int .i64 (b : Int)] HO1.out 1)
 have M3:=Lib.hid (N3.out w2 hr2 ho2)
 have HO2:=Lib.hid ho2
 have U2:=Lib.hid (U1.out.trans hu2)
 clear hr2 hu2 hp2 ho2
 go_wp2_with (fail)
 refine M3.out.mono ?_
 rintro e w3 ⟨rfl,hr3,hu3,hp3⟩
 rw [d3]
 have ho3:=hp3.trans (sets_block [.int .i64 (c : Int)] HO2.out 2)
 have LT:=Lib.hid (clast_any B rg pb cap rest C G k w3 hr3)
 have RS3:=Lib.hid hr3
 have HO3 : Hid (w3.heap[w.heap.size]? = some (.cells #[.int .i64 a,.int .i64 b,.int .i64 c] 23 (0,0))):=Lib.hid ho3
 have U3 : Hid (Upd w w3 [rg]):=Lib.hid (((Upd.of_below HB0.out [rg,w.heap.size]).trans (U2.out.trans hu3)).mono fun q hq hn=>by simp at hn ⊢; omega)
 clear hr3 hu3 hp3 ho3
 go_wp2_with (fail)
 refine LT.out.mono ?_
 rintro e w4 ⟨rfl,hb4⟩
 obtain ⟨hp,hcur,hv6,hown,hn,hB,hBw,hne,hpl,hk⟩:=HA.out
 have U4 : Hid (Upd w w4 [rg]):=Lib.hid (U3.out.trans (Upd.of_below hb4 [rg]))
 have RS4:=Lib.hid (RS3.out.upd (Upd.of_below hb4 []) hB (by simp))
 have ho4:=(hb4.block _ (heap_lt HO3.out)).trans HO3.out
 have hp4:=(U4.out.keep pb hpl (by simp; omega)).trans hp
 have HP4:=Lib.hid hp4
 have s0 : w4.cell? ⟨w.heap.size,0,none⟩ = some (.int .i64 (a : Int)):=ob_cell ho4 0
 have s1 : w4.cell? ⟨w.heap.size,1,none⟩ = some (.int .i64 (b : Int)):=ob_cell ho4 1
 have s2 : w4.cell? ⟨w.heap.size,2,none⟩ = some (.int .i64 (c : Int)):=ob_cell ho4 2
 have l6 : w4.cell? ⟨pb,6,none⟩ = some v:=(ob_cell hp4 6).trans hv6
 have f6:=ob_free hp4 6 (by omega)
 have OWN:=Lib.hid (own_upd hown U4.out (by simp; omega))
 have hsz4 : pb < w4.heap.size:=heap_lt hp4
 clear hp hown hp4 ho4 hb4
 go_wp2_with (fail)
 go_region_law (refine step_append_own rfl (.tmp 25) (.tmp 27) 34 rfl (pb + 1) 23 i0 _ 3 24 Tryz.underlying34 hinf hz0 hz1 hz2 rfl (by decide) v n xs (by first | rfl | simp [Act.eval,Act.put]) (by first | exact OWN.out.alloc _ | exact (show (World.ownsRow (World.alloc w4 _) _ _ _ _ _ _) from OWN.out.alloc _)) ⟨w4.heap.size,0,none⟩ 1 1 [.int .i64 (a : Int),.int .i64 (b : Int),.int .i64 (c : Int)] (by first | rfl | simp [Act.eval,Act.put]) rfl (fun j u hj=>by rw [Lib.add_plain,Nat.zero_add]; show (World.cell? (World.alloc w4 _) ⟨w4.heap.size,j,none⟩) = some u; rw [World.cell?_alloc_new]; simpa using hj) (by simp [Value.oneCell']) (by unfold maxLen; omega) (by omega) (by simp; omega) ?_; intro v' w' hown' hgrow; obtain ⟨g,cp,cr,rfl,q1,q2,q3,q4,q5,q6⟩:=own_form hown' (by omega); have hbk : ∀ q,q < w4.heap.size → some q ≠ v.ownBlock → w'.heap[q]? = w4.heap[q]?:=fun q hq hn=>(hgrow.block q (by simp; omega) hn).trans (Below.heap_alloc w4 _ q hq); have hpb':=(hbk pb (heap_lt HP4.out) (fun e=>by have:=(OWN.out.lt pb e.symm).1; omega)).trans HP4.out; have u6 : w'.cell? ⟨pb,6,none⟩ = some v:=(ob_cell hpb' 6).trans hv6; have uf6:=ob_free hpb' 6 (by omega); have KB:=Lib.hid (And.intro hown' (And.intro hbk (And.intro hpb' hgrow))); clear q1 q2 q3 q4 q5 q6 hbk hgrow hown' hpb')
 all_goals
  obtain ⟨hown',hbk,hpb',hgrow⟩:=KB.out
  obtain ⟨ib,o,c0,r1,r2,r3,r4,r5⟩:=RS4.out
  have hown:=OWN.out
  have hvo : ∀ q,v.ownBlock = some q → pb + 1 ≤ q:=fun q hq=>(hown.lt q hq).1
  obtain ⟨WF,hWF⟩ : ∃ WF,w'.setCell ⟨pb,6,none⟩ (.slice (some ⟨g,0,none⟩) (n + 1) cp) = WF:=⟨_,rfl⟩
  have hrk : w'.heap[rg]? = w4.heap[rg]?:=hbk rg (heap_lt r1) fun e=>by have:=hvo rg e.symm; omega
  have hFr : WF.heap[rg]? = some (rdO ib o rest.length c0 (.slice (some ⟨pb,0,none⟩) 1 cap) C G k):=by rw [← hWF,heap_setCell_other _ (⟨pb,6,none⟩ : Addr) _ _ (by show rg ≠ pb; omega)]; exact hrk.trans r1
  have hFp : WF.heap[pb]? = some (.cells (cur.setIfInBounds 6 (.slice (some ⟨g,0,none⟩) (n + 1) cp)) 36 (0,0)):=by rw [← hWF]; exact sets_block [.slice (some ⟨g,0,none⟩) (n + 1) cp] hpb' 6
  have z4 : WF.cell? ⟨rg,4,none⟩ = some (.int .i64 k):=ob_cell hFr 4
  have e4:=ob_free hFr 4 (by simp)
  have hw1 : IntKind.i64.wrap (k + 1) = k + 1:=by rw [IntKind.wrap_i64]; omega
  obtain ⟨WG,hWG⟩ : ∃ WG,WF.setCell ⟨rg,4,none⟩ (.int .i64 (k + 1)) = WG:=⟨_,rfl⟩
  have hGr : WG.heap[rg]? = some (rdO ib o rest.length c0 (.slice (some ⟨pb,0,none⟩) 1 cap) C G (k + 1)):=by rw [← hWG]; exact sets_block [.int .i64 (k + 1)] hFr 4
  have hGp : WG.heap[pb]? = some (.cells (cur.setIfInBounds 6 (.slice (some ⟨g,0,none⟩) (n + 1) cp)) 36 (0,0)):=by rw [← hWG,heap_setCell_other _ (⟨rg,4,none⟩ : Addr) _ _ (by show pb ≠ rg; omega)]; exact hFp
  have hBG : Below 0 w' WG:=by rw [← hWG,← hWF]; exact ((Below.refl 0 w').setCell (Nat.zero_le _) _).setCell (Nat.zero_le _) _
  have hGs : WG.heap.size = w'.heap.size:=by rw [← hWG,← hWF,World.size_setCell,World.size_setCell]
  have hGk : ∀ q,q ≠ rg → q ≠ pb → WG.heap[q]? = w'.heap[q]?:=fun q q1 q2=>by rw [← hWG,← hWF,heap_setCell_other _ (⟨rg,4,none⟩ : Addr) _ _ q1,heap_setCell_other _ (⟨pb,6,none⟩ : Addr) _ _ q2]
  have hws : w4.heap.size ≤ w'.heap.size:=by have:=hgrow.size; simp at this; omega
  have UG' : Upd w' WG [rg,pb]:=⟨hBG.os,hBG.tape,hBG.output,by omega,fun q hq hn=>hGk q (by simp at hn; exact hn.1) (by simp at hn; exact hn.2)⟩
  have UG4 : Upd w4 WG (rg :: pb :: v.ownBlock.toList):=⟨hBG.os.trans hgrow.os,hBG.tape.trans hgrow.tape,hBG.output.trans hgrow.output,by omega,fun q hq hn=>by
   simp only [List.mem_cons,Option.mem_toList,not_or] at hn
   exact (hGk q hn.1 hn.2.1).trans (hbk q hq fun e=>hn.2.2 e.symm)⟩
  have hib : ∀ j,WG.cell? ⟨ib,o + j,none⟩ = w4.cell? ⟨ib,o + j,none⟩:=fun j=>UG4.cell (by have:=heap_lt r1; omega) (by
   simp only [List.mem_cons,Option.mem_toList,not_or]
   exact ⟨by omega,by omega,fun e=>by have:=hvo ib e; omega⟩)
  have rsG : RS B WG rg rest (.slice (some ⟨pb,0,none⟩) 1 cap) C G (k + 1):=⟨ib,o,c0,hGr,r2,r3,r4,fun j u hj=>(hib j).trans (r5 j u hj)⟩
  have FF:=Lib.hid (And.intro rsG (And.intro hGp (And.intro (own_upd hown' UG' (by simp; omega)) ((U4.out.mono (L':=rg :: pb :: v.ownBlock.toList) fun q _ hn=>by simp at hn; simp [hn]).trans UG4))))
  try rw [hWF]
  clear hown' hbk hpb' hgrow r1 r2 r3 r4 r5 hown hvo hrk hFr hFp hGr hGp hBG hGs hGk hws UG' UG4 hib rsG hWF u6 uf6 l6 f6 s0 s1 s2
  go_wp2_with (fail)
  try rw [hWG]
  go_ret
  exact ⟨rfl,_,FF.out⟩
end LM
namespace LM
attribute [local go_sem] run_store_flt
theorem clist_const (B rg b : Nat) (rest : List Nat) (P C G : Value) (k m : Int) (I : Nat → World → Prop) (w : World) (hr : RS B w rg (0 :: 0 :: b :: rest) P C G k) (hb : b < 256) (hm : (b : Int) ≤ m) (hB : B ≤ rg) (hBw : B ≤ w.heap.size)
  (h0 : ∀ w',RS B w' rg rest P C G k → Upd w w' [rg] → I 0 w')
  (hst : ∀ i W,i < b → I i W → Calls Tryz.prog 46 #[.pointer (some ⟨rg,0,none⟩)] W fun e w'=>e = .returned (.bool true)∧I (i + 1) w') :
  Calls Tryz.prog 45 #[.pointer (some ⟨rg,0,none⟩),.int .i64 m,.func (.func 46) #[] #[]] w fun e w'=>e = .returned (.bool true)∧I b w':=by
 obtain ⟨W0,hW0,hb0,ho,hz⟩:=int_block w 0
 have hrg : rg < w.heap.size:=by obtain ⟨_,_,_,h,_⟩:=hr; exact heap_lt h
 have N1:=Lib.hid (cnum_rs B rg w.heap.size 0 b rest P C G k m 0 W0 (hr.upd (Upd.of_below hb0 []) hB (by simp)) hb hB hBw (by omega) (by rw [ob_cell ho]; rfl) (ob_free ho 0 (by simp)))
 have hup : ∀ w',Upd W0 w' [rg,w.heap.size] → Upd w w' [rg]:=fun w' h=>((Upd.of_below hb0 [rg,w.heap.size]).trans h).mono fun q hq hn=>by simp at hn ⊢; omega
 have H0 : Hid (∀ w',RS B w' rg rest P C G k → Upd W0 w' [rg,w.heap.size] → I 0 w'):=Lib.hid fun w' h1 h2=>h0 w' h1 (hup w' h2)
 have HST:=Lib.hid hst
 have HW0:=Lib.hid hW0
 have HO:=Lib.hid ho
 have HM : Hid (decide ((b : Int) ≤ m) = true):=Lib.hid (decide_eq_true hm)
 clear hW0 hb0 ho hz hr hm h0 hst hup
 go_enter Tryz.func45,Tryz.ntmps45
 go_wp2_with (fail)
 rw [HW0.out]
 go_wp2_with (fail)
 refine N1.out.mono ?_
 rintro e w1 ⟨rfl,hrs,hu,hpb⟩
 have t7 : w1.cell? ⟨w.heap.size,0,none⟩ = some (.int .i64 (b : Int)):=ob_cell (hpb.trans (sets_block [.int .i64 (b : Int)] HO.out 0)) 0
 have I0:=Lib.hid (H0.out w1 hrs hu)
 rw [HM.out]
 clear hrs hu hpb
 go_wp2_with (fail)
 go_loopg [13] b (fun kk i wr=>∃ j : Nat,j ≤ b∧kk = b - j∧i = .int .i64 (j : Int)∧I j wr)
 case atStart=>exact ⟨0,Nat.zero_le _,rfl,rfl,I0.out⟩
 case round =>
  obtain ⟨j,hj,rfl,rfl,hi⟩:=hrel
  by_cases hjl : j < b
  ·have S1:=Lib.hid (HST.out j wr hjl hi)
   clear hi
   go_wp2_with (fail)
   refine S1.out.mono ?_
   rintro e w2 ⟨rfl,hi2⟩
   have HI2:=Lib.hid hi2
   clear hi2
   go_wp2_with (fail)
   go_roundg (b - (j + 1))
   case measure=>omega
   case rel=>exact ⟨j + 1,by omega,rfl,by go_num,HI2.out⟩
  ·have hje : j = b:=by omega
   subst hje
   have HI:=Lib.hid hi
   clear hi
   go_wp2_with (fail)
   go_ret
   exact ⟨rfl,HI.out⟩
theorem clist_glob (B rg b : Nat) (rest : List Nat) (P C G : Value) (k m : Int) (I : Nat → World → Prop) (w : World) (hr : RS B w rg (0 :: 0 :: b :: rest) P C G k) (hb : b < 256) (hm : (b : Int) ≤ m) (hB : B ≤ rg) (hBw : B ≤ w.heap.size)
  (h0 : ∀ w',RS B w' rg rest P C G k → Upd w w' [rg] → I 0 w')
  (hst : ∀ i W,i < b → I i W → Calls Tryz.prog 47 #[.pointer (some ⟨rg,0,none⟩)] W fun e w'=>e = .returned (.bool true)∧I (i + 1) w') :
  Calls Tryz.prog 45 #[.pointer (some ⟨rg,0,none⟩),.int .i64 m,.func (.func 47) #[] #[]] w fun e w'=>e = .returned (.bool true)∧I b w':=by
 obtain ⟨W0,hW0,hb0,ho,hz⟩:=int_block w 0
 have hrg : rg < w.heap.size:=by obtain ⟨_,_,_,h,_⟩:=hr; exact heap_lt h
 have N1:=Lib.hid (cnum_rs B rg w.heap.size 0 b rest P C G k m 0 W0 (hr.upd (Upd.of_below hb0 []) hB (by simp)) hb hB hBw (by omega) (by rw [ob_cell ho]; rfl) (ob_free ho 0 (by simp)))
 have hup : ∀ w',Upd W0 w' [rg,w.heap.size] → Upd w w' [rg]:=fun w' h=>((Upd.of_below hb0 [rg,w.heap.size]).trans h).mono fun q hq hn=>by simp at hn ⊢; omega
 have H0 : Hid (∀ w',RS B w' rg rest P C G k → Upd W0 w' [rg,w.heap.size] → I 0 w'):=Lib.hid fun w' h1 h2=>h0 w' h1 (hup w' h2)
 have HST:=Lib.hid hst
 have HW0:=Lib.hid hW0
 have HO:=Lib.hid ho
 have HM : Hid (decide ((b : Int) ≤ m) = true):=Lib.hid (decide_eq_true hm)
 clear hW0 hb0 ho hz hr hm h0 hst hup
 go_enter Tryz.func45,Tryz.ntmps45
 go_wp2_with (fail)
 rw [HW0.out]
 go_wp2_with (fail)
 refine N1.out.mono ?_
 rintro e w1 ⟨rfl,hrs,hu,hpb⟩
 have t7 : w1.cell? ⟨w.heap.size,0,none⟩ = some (.int .i64 (b : Int)):=ob_cell (hpb.trans (sets_block [.int .i64 (b : Int)] HO.out 0)) 0
 have I0:=Lib.hid (H0.out w1 hrs hu)
 rw [HM.out]
 clear hrs hu hpb
 go_wp2_with (fail)
 go_loopg [13] b (fun kk i wr=>∃ j : Nat,j ≤ b∧kk = b - j∧i = .int .i64 (j : Int)∧I j wr)
 case atStart=>exact ⟨0,Nat.zero_le _,rfl,rfl,I0.out⟩
 case round =>
  obtain ⟨j,hj,rfl,rfl,hi⟩:=hrel
  by_cases hjl : j < b
  ·have S1:=Lib.hid (HST.out j wr hjl hi)
   clear hi
   go_wp2_with (fail)
   refine S1.out.mono ?_
   rintro e w2 ⟨rfl,hi2⟩
   have HI2:=Lib.hid hi2
   clear hi2
   go_wp2_with (fail)
   go_roundg (b - (j + 1))
   case measure=>omega
   case rel=>exact ⟨j + 1,by omega,rfl,by go_num,HI2.out⟩
  ·have hje : j = b:=by omega
   subst hje
   have HI:=Lib.hid hi
   clear hi
   go_wp2_with (fail)
   go_ret
   exact ⟨rfl,HI.out⟩
theorem clist_proc (B rg b : Nat) (rest : List Nat) (P C G : Value) (k m : Int) (I : Nat → World → Prop) (w : World) (hr : RS B w rg (0 :: 0 :: b :: rest) P C G k) (hb : b < 256) (hm : (b : Int) ≤ m) (hB : B ≤ rg) (hBw : B ≤ w.heap.size)
  (h0 : ∀ w',RS B w' rg rest P C G k → Upd w w' [rg] → I 0 w')
  (hst : ∀ i W,i < b → I i W → Calls Tryz.prog 48 #[.pointer (some ⟨rg,0,none⟩)] W fun e w'=>e = .returned (.bool true)∧I (i + 1) w') :
  Calls Tryz.prog 45 #[.pointer (some ⟨rg,0,none⟩),.int .i64 m,.func (.func 48) #[] #[]] w fun e w'=>e = .returned (.bool true)∧I b w':=by
 obtain ⟨W0,hW0,hb0,ho,hz⟩:=int_block w 0
 have hrg : rg < w.heap.size:=by obtain ⟨_,_,_,h,_⟩:=hr; exact heap_lt h
 have N1:=Lib.hid (cnum_rs B rg w.heap.size 0 b rest P C G k m 0 W0 (hr.upd (Upd.of_below hb0 []) hB (by simp)) hb hB hBw (by omega) (by rw [ob_cell ho]; rfl) (ob_free ho 0 (by simp)))
 have hup : ∀ w',Upd W0 w' [rg,w.heap.size] → Upd w w' [rg]:=fun w' h=>((Upd.of_below hb0 [rg,w.heap.size]).trans h).mono fun q hq hn=>by simp at hn ⊢; omega
 have H0 : Hid (∀ w',RS B w' rg rest P C G k → Upd W0 w' [rg,w.heap.size] → I 0 w'):=Lib.hid fun w' h1 h2=>h0 w' h1 (hup w' h2)
 have HST:=Lib.hid hst
 have HW0:=Lib.hid hW0
 have HO:=Lib.hid ho
 have HM : Hid (decide ((b : Int) ≤ m) = true):=Lib.hid (decide_eq_true hm)
 clear hW0 hb0 ho hz hr hm h0 hst hup
 go_enter Tryz.func45,Tryz.ntmps45
 go_wp2_with (fail)
 rw [HW0.out]
 go_wp2_with (fail)
 refine N1.out.mono ?_
 rintro e w1 ⟨rfl,hrs,hu,hpb⟩
 have t7 : w1.cell? ⟨w.heap.size,0,none⟩ = some (.int .i64 (b : Int)):=ob_cell (hpb.trans (sets_block [.int .i64 (b : Int)] HO.out 0)) 0
 have I0:=Lib.hid (H0.out w1 hrs hu)
 rw [HM.out]
 clear hrs hu hpb
 go_wp2_with (fail)
 go_loopg [13] b (fun kk i wr=>∃ j : Nat,j ≤ b∧kk = b - j∧i = .int .i64 (j : Int)∧I j wr)
 case atStart=>exact ⟨0,Nat.zero_le _,rfl,rfl,I0.out⟩
 case round =>
  obtain ⟨j,hj,rfl,rfl,hi⟩:=hrel
  by_cases hjl : j < b
  ·have S1:=Lib.hid (HST.out j wr hjl hi)
   clear hi
   go_wp2_with (fail)
   refine S1.out.mono ?_
   rintro e w2 ⟨rfl,hi2⟩
   have HI2:=Lib.hid hi2
   clear hi2
   go_wp2_with (fail)
   go_roundg (b - (j + 1))
   case measure=>omega
   case rel=>exact ⟨j + 1,by omega,rfl,by go_num,HI2.out⟩
  ·have hje : j = b:=by omega
   subst hje
   have HI:=Lib.hid hi
   clear hi
   go_wp2_with (fail)
   go_ret
   exact ⟨rfl,HI.out⟩
theorem clist_ins (B rg b : Nat) (rest : List Nat) (P C G : Value) (k m : Int) (I : Nat → World → Prop) (w : World) (hr : RS B w rg (0 :: 0 :: b :: rest) P C G k) (hb : b < 256) (hm : (b : Int) ≤ m) (hB : B ≤ rg) (hBw : B ≤ w.heap.size)
  (h0 : ∀ w',RS B w' rg rest P C G k → Upd w w' [rg] → I 0 w')
  (hst : ∀ i W,i < b → I i W → Calls Tryz.prog 80 #[.pointer (some ⟨rg,0,none⟩)] W fun e w'=>e = .returned (.bool true)∧I (i + 1) w') :
  Calls Tryz.prog 45 #[.pointer (some ⟨rg,0,none⟩),.int .i64 m,.func (.func 80) #[] #[]] w fun e w'=>e = .returned (.bool true)∧I b w':=by
 obtain ⟨W0,hW0,hb0,ho,hz⟩:=int_block w 0
 have hrg : rg < w.heap.size:=by obtain ⟨_,_,_,h,_⟩:=hr; exact heap_lt h
 have N1:=Lib.hid (cnum_rs B rg w.heap.size 0 b rest P C G k m 0 W0 (hr.upd (Upd.of_below hb0 []) hB (by simp)) hb hB hBw (by omega) (by rw [ob_cell ho]; rfl) (ob_free ho 0 (by simp)))
 have hup : ∀ w',Upd W0 w' [rg,w.heap.size] → Upd w w' [rg]:=fun w' h=>((Upd.of_below hb0 [rg,w.heap.size]).trans h).mono fun q hq hn=>by simp at hn ⊢; omega
 have H0 : Hid (∀ w',RS B w' rg rest P C G k → Upd W0 w' [rg,w.heap.size] → I 0 w'):=Lib.hid fun w' h1 h2=>h0 w' h1 (hup w' h2)
 have HST:=Lib.hid hst
 have HW0:=Lib.hid hW0
 have HO:=Lib.hid ho
 have HM : Hid (decide ((b : Int) ≤ m) = true):=Lib.hid (decide_eq_true hm)
 clear hW0 hb0 ho hz hr hm h0 hst hup
 go_enter Tryz.func45,Tryz.ntmps45
 go_wp2_with (fail)
 rw [HW0.out]
 go_wp2_with (fail)
 refine N1.out.mono ?_
 rintro e w1 ⟨rfl,hrs,hu,hpb⟩
 have t7 : w1.cell? ⟨w.heap.size,0,none⟩ = some (.int .i64 (b : Int)):=ob_cell (hpb.trans (sets_block [.int .i64 (b : Int)] HO.out 0)) 0
 have I0:=Lib.hid (H0.out w1 hrs hu)
 rw [HM.out]
 clear hrs hu hpb
 go_wp2_with (fail)
 go_loopg [13] b (fun kk i wr=>∃ j : Nat,j ≤ b∧kk = b - j∧i = .int .i64 (j : Int)∧I j wr)
 case atStart=>exact ⟨0,Nat.zero_le _,rfl,rfl,I0.out⟩
 case round =>
  obtain ⟨j,hj,rfl,rfl,hi⟩:=hrel
  by_cases hjl : j < b
  ·have S1:=Lib.hid (HST.out j wr hjl hi)
   clear hi
   go_wp2_with (fail)
   refine S1.out.mono ?_
   rintro e w2 ⟨rfl,hi2⟩
   have HI2:=Lib.hid hi2
   clear hi2
   go_wp2_with (fail)
   go_roundg (b - (j + 1))
   case measure=>omega
   case rel=>exact ⟨j + 1,by omega,rfl,by go_num,HI2.out⟩
  ·have hje : j = b:=by omega
   subst hje
   have HI:=Lib.hid hi
   clear hi
   go_wp2_with (fail)
   go_ret
   exact ⟨rfl,HI.out⟩
theorem cconsts_by (rg : Nat) (Q : World → Prop) (w : World) (hl : Calls Tryz.prog 45 #[.pointer (some ⟨rg,0,none⟩),.int .i64 4000,.func (.func 46) #[] #[]] w fun e w'=>e = .returned (.bool true)∧Q w') :
  Calls Tryz.prog 21 #[.pointer (some ⟨rg,0,none⟩)] w fun e w'=>e = .returned (.bool true)∧Q w':=by
 have H:=Lib.hid hl
 clear hl
 go_enter Tryz.func21,Tryz.ntmps21
 go_wp2_with (fail)
 refine H.out.mono ?_
 rintro e w1 ⟨rfl,hq⟩
 have HQ:=Lib.hid hq
 clear hq
 go_wp2_with (fail)
 go_ret
 exact ⟨rfl,HQ.out⟩
theorem cglobals_by (rg : Nat) (Q : World → Prop) (w : World) (hl : Calls Tryz.prog 45 #[.pointer (some ⟨rg,0,none⟩),.int .i64 4000,.func (.func 47) #[] #[]] w fun e w'=>e = .returned (.bool true)∧Q w') :
  Calls Tryz.prog 22 #[.pointer (some ⟨rg,0,none⟩)] w fun e w'=>e = .returned (.bool true)∧Q w':=by
 have H:=Lib.hid hl
 clear hl
 go_enter Tryz.func22,Tryz.ntmps22
 go_wp2_with (fail)
 refine H.out.mono ?_
 rintro e w1 ⟨rfl,hq⟩
 have HQ:=Lib.hid hq
 clear hq
 go_wp2_with (fail)
 go_ret
 exact ⟨rfl,HQ.out⟩
theorem cprocs_by (rg : Nat) (Q : World → Prop) (w : World) (hl : Calls Tryz.prog 45 #[.pointer (some ⟨rg,0,none⟩),.int .i64 4000,.func (.func 48) #[] #[]] w fun e w'=>e = .returned (.bool true)∧Q w') :
  Calls Tryz.prog 23 #[.pointer (some ⟨rg,0,none⟩)] w fun e w'=>e = .returned (.bool true)∧Q w':=by
 have H:=Lib.hid hl
 clear hl
 go_enter Tryz.func23,Tryz.ntmps23
 go_wp2_with (fail)
 refine H.out.mono ?_
 rintro e w1 ⟨rfl,hq⟩
 have HQ:=Lib.hid hq
 clear hq
 go_wp2_with (fail)
 go_ret
 exact ⟨rfl,HQ.out⟩
theorem cend_any (B rg : Nat) (P C G : Value) (k : Int) (w : World) (hr : RS B w rg [] P C G k) : Calls Tryz.prog 24 #[.pointer (some ⟨rg,0,none⟩)] w fun e w'=>e = .returned (.bool true)∧w = w':=by
 obtain ⟨ib,o,c,h1,-⟩:=hr
 have l0 : w.cell? ⟨rg,0,none⟩ = some (.slice (some ⟨ib,o,none⟩) 0 c):=ob_cell h1 0
 clear h1
 go_enter Tryz.func24,Tryz.ntmps24
 go_wp2_with (fail)
 go_ret
 exact ⟨rfl,rfl⟩
theorem ctruth0 (B rg pb po : Nat) (rest : List Nat) (P C G : Value) (k : Int) (w : World) (hr : RS B w rg (0 :: 0 :: 0 :: rest) P C G k) (hB : B ≤ rg) (hpB : B ≤ pb) (hBw : B ≤ w.heap.size) (hpl : pb < w.heap.size) (hne : pb ≠ rg) (hp : w.cell? ⟨pb,po,none⟩ = some (.bool false)) (hpf : w.frozen? ⟨pb,po,none⟩ = false) :
  Calls Tryz.prog 79 #[.pointer (some ⟨rg,0,none⟩),.pointer (some ⟨pb,po,none⟩)] w fun e w'=>e = .returned (.bool true)∧RS B w' rg rest P C G k∧Upd w w' [rg,pb]∧w'.heap[pb]? = (w.setCell ⟨pb,po,none⟩ (.bool false)).heap[pb]?:=by
 obtain ⟨W0,hW0,hb0,ho,hz⟩:=int_block w 0
 have hrg : rg < w.heap.size:=by obtain ⟨_,_,_,h,_⟩:=hr; exact heap_lt h
 have N1:=Lib.hid (cnum_rs B rg w.heap.size 0 0 rest P C G k 1 0 W0 (hr.upd (Upd.of_below hb0 []) hB (by simp)) (by decide) hB hBw (by omega) (by rw [ob_cell ho]; rfl) (ob_free ho 0 (by simp)))
 have HW0:=Lib.hid hW0
 have HB0:=Lib.hid hb0
 have HO:=Lib.hid ho
 have HP:=Lib.hid (And.intro hp (And.intro hpf (And.intro hpl (And.intro hne (And.intro hz (And.intro hrg (And.intro hpB hB)))))))
 clear hW0 hb0 ho hz hr hp hpf hpl hne hpB hB
 go_enter Tryz.func79,Tryz.ntmps79
 go_wp2_with (fail)
 rw [HW0.out]
 go_wp2_with (fail)
 refine N1.out.mono ?_
 rintro e w1 ⟨rfl,hrs,hu,hpb⟩
 obtain ⟨hp,hpf,hpl,hne,hz,hrg,hpB,hB⟩:=HP.out
 have t7 : w1.cell? ⟨w.heap.size,0,none⟩ = some (.int .i64 0):=ob_cell (hpb.trans (sets_block [.int .i64 0] HO.out 0)) 0
 have hn : pb ∉ [rg,w.heap.size]:=by simp; exact ⟨hne,by omega⟩
 have hsame:=(hu.keep pb (by omega) hn).trans (HB0.out.block pb hpl)
 have p1 : w1.cell? ⟨pb,po,none⟩ = some (.bool false):=(World.cell?_of_block (a:=⟨pb,po,none⟩) hsame).trans hp
 have p2 : w1.frozen? ⟨pb,po,none⟩ = false:=(World.frozen?_of_block (a:=⟨pb,po,none⟩) hsame).trans hpf
 obtain ⟨X,hX⟩ : ∃ X,w1.setCell ⟨pb,po,none⟩ (.bool false) = X:=⟨_,rfl⟩
 have hXk : ∀ q,q ≠ pb → X.heap[q]? = w1.heap[q]?:=fun q hq=>by rw [← hX]; exact heap_setCell_other _ (⟨pb,po,none⟩ : Addr) _ _ hq
 have hBX : Below 0 w1 X:=by rw [← hX]; exact (Below.refl 0 w1).setCell (Nat.zero_le _) _
 have hXs : X.heap.size = w1.heap.size:=by rw [← hX,World.size_setCell]
 have hUX : Upd w1 X [pb]:=⟨hBX.os,hBX.tape,hBX.output,by omega,fun q _ hq=>hXk q (by simpa using hq)⟩
 have F:=Lib.hid (show RS B X rg rest P C G k∧Upd w X [rg,pb]∧X.heap[pb]? = (w.setCell ⟨pb,po,none⟩ (.bool false)).heap[pb]? by
  refine ⟨hrs.upd hUX hB (by simp; exact ⟨hpB,hne⟩),(((Upd.of_below HB0.out [rg,w.heap.size]).trans hu).mono (L':=[rg,pb]) fun q hq hn=>by simp at hn ⊢; omega).trans (hUX.mono fun q _ hn=>by simp at hn ⊢; omega),?_⟩
  rw [← hX]
  exact setCell_heap_of hsame)
 clear hrs hu hpb hp hpf hn hsame hXk hBX hXs hUX
 have HX:=Lib.hid hX
 clear hX
 go_wp2_with (fail)
 rw [HX.out]
 go_ret
 exact ⟨rfl,F.out⟩
end LM
namespace LM
attribute [local go_sem] run_store_flt
def insY : List (Nat × Nat × Nat) → List Nat
 | []=>[]
 | (a,b,c) :: l=>0 :: 0 :: a :: 0 :: 0 :: b :: 0 :: 0 :: c :: insY l
def insC : List (Nat × Nat × Nat) → List Value
 | []=>[]
 | (a,b,c) :: l=>.int .i64 (a : Int) :: .int .i64 (b : Int) :: .int .i64 (c : Int) :: insC l
theorem insC_append (l l' : List (Nat × Nat × Nat)) : insC (l ++ l') = insC l ++ insC l':=by
 induction l with
 | nil=>rfl
 | cons x l ih=>obtain ⟨a,b,c⟩:=x; simp [insC,ih]
theorem proc_info : (Tryz.prog.info? 36).map (fun i=>(i.zero,i.size,i.bytes)) = some (some (.agg #[.string ⟨#[]⟩,.int .i64 0,.bool false,.int .i64 0,.int .i64 0,.int .i64 0,.slice none 0 0]),7,80):=by kernel_rfl
theorem updin {w w1 w2 : World} {rg g : Nat} (h : Upd w w1 [rg]) (h' : Upd w1 w2 [rg,g]) (hg : w.heap.size ≤ g) : Upd w w2 [rg] :=
 ((h.mono (L':=[rg,g]) fun q _ hn=>by simp at hn; simp [hn]).trans h').mono fun q hq hn=>by simp at hn ⊢; omega
theorem updown {w w1 w2 : World} {rg : Nat} {L : List Nat} (h : Upd w w1 [rg]) (h' : Upd w1 w2 L) (hL : ∀ q ∈ L,q = rg ∨ w.heap.size ≤ q) : Upd w w2 [rg] :=
 ⟨h'.os.trans h.os,h'.tape.trans h.tape,h'.output.trans h.output,Nat.le_trans h.size h'.size,fun q hq hn=>(h'.keep q (Nat.lt_of_lt_of_le hq h.size) fun e=>by
  rcases hL q e with e | e
  ·exact hn (by simp [e])
  ·omega).trans (h.keep q hq hn)⟩
theorem seven {cur : Array Value} {xs : List Value} (h : cur.toList.take xs.length = xs) : ∃ tl,cur = (xs ++ tl).toArray :=
 ⟨cur.toList.drop xs.length,by
  conv=>rhs; rw [← h]
  rw [show (cur.toList.take xs.length).length = xs.length by rw [h]] at *
  rw [List.take_append_drop]⟩
theorem fld_list {w w' : World} {g o : Nat} {l : List Value} {T : TypeId} {v : Value} (h : w.heap[g]? = some (.cells l.toArray T (0,0))) (he : w'.heap[g]? = (w.setCell ⟨g,o,none⟩ v).heap[g]?) : w'.heap[g]? = some (.cells (l.set o v).toArray T (0,0)):=by
 have:=he.trans (Go.Lib.heap_setCell_same (i:=o) h v)
 rw [List.setIfInBounds_toArray] at this
 exact this
theorem cproc_rs (B rg pa sl de fr : Nat) (hpa : pa < 256) (hsl : sl < 256) (hde : de < 256) (hfr : fr < 256) (s : List Nat) (hs : s.length ≤ 100) (hsb : ∀ x ∈ s,x < 256) (is : List (Nat × Nat × Nat)) (hil : is.length < 256) (hib : ∀ x ∈ is,x.1 < 256∧x.2.1 < 256∧x.2.2 < 256) (rest : List Nat) (C G : Value) (w : World)
  (hr : RS B w rg (0 :: 0 :: s.length :: (s ++ (0 :: 0 :: pa :: 0 :: 0 :: 0 :: 0 :: 0 :: sl :: 0 :: 0 :: de :: 0 :: 0 :: fr :: 0 :: 0 :: is.length :: (insY is ++ rest)))) (.slice none 0 0) C G 0) (hB : B ≤ rg) (hBw : B ≤ w.heap.size) :
  Calls Tryz.prog 48 #[.pointer (some ⟨rg,0,none⟩)] w fun e w'=>e = .returned (.bool true)∧∃ g cap cur v,RS B w' rg rest (.slice (some ⟨g,0,none⟩) 1 cap) C G (is.length : Int)∧w'.heap[g]? = some (.cells cur 36 (0,0))∧(cur[0]? = some (.string (bytesOf s))∧cur[1]? = some (.int .i64 (pa : Int))∧cur[2]? = some (.bool false)∧cur[3]? = some (.int .i64 (sl : Int))∧cur[4]? = some (.int .i64 (de : Int))∧cur[5]? = some (.int .i64 (fr : Int))∧cur[6]? = some v)∧w'.ownsRow (g + 1) 23 3 v is.length (insC is)∧w.heap.size ≤ g∧1 ≤ cap∧cap ≤ maxLen∧Upd w w' [rg]:=by
 obtain ⟨ib,o,c,h1⟩:=hr.blk
 have hrg:=heap_lt h1
 have l1 : w.cell? ⟨rg,1,none⟩ = some (.slice none 0 0):=ob_cell h1 1
 have f1:=ob_free h1 1 (by simp)
 obtain ⟨i0,hinf,hz0,hz1,hz2⟩:=info_partsB proc_info
 have HR:=Lib.hid hr
 have H1:=Lib.hid h1
 have HA:=Lib.hid (And.intro hB (And.intro hBw hrg))
 have HN:=Lib.hid (And.intro hpa (And.intro hsl (And.intro hde (And.intro hfr (And.intro hs (And.intro hsb (And.intro hil hib)))))))
 clear hr h1 hB hBw hrg hpa hsl hde hfr hs hsb hil hib
 go_enter Tryz.func48,Tryz.ntmps48
 go_wp2_with (at_builtin; refine wpList_append_own _ rfl _ _ 24 rfl w.heap.size 36 i0 _ 7 80 Tryz.underlying24 hinf hz0 hz1 hz2 rfl (by decide) (.slice none 0 0) 0 [] rfl (World.ownsRow_nil _ _ _ _) ⟨w.heap.size,0,none⟩ 1 1 [.string ⟨#[]⟩,.int .i64 0,.bool false,.int .i64 0,.int .i64 0,.int .i64 0,.slice none 0 0] rfl rfl (fun j u hj=>by rw [Lib.add_plain,Nat.zero_add,World.cell?_alloc_new]; simpa using hj) (by decide) (by decide) (by decide) (by simp) ?_; intro v' w1 hown hgrow _; obtain ⟨g,cap,cur,rfl,q1,q2,q3,q4,q5,q6⟩:=own_form hown (by decide); have hbk : ∀ q,q < w.heap.size → w1.heap[q]? = w.heap[q]?:=fun q hq=>(hgrow.block q (by simp; omega) (by simp [Value.ownBlock])).trans (Below.heap_alloc w _ q hq); have u1 : w1.cell? ⟨rg,1,none⟩ = some (.slice none 0 0):=ob_cell ((hbk rg (heap_lt H1.out)).trans H1.out) 1; have uf1:=ob_free ((hbk rg (heap_lt H1.out)).trans H1.out) 1 (by simp); have KB:=Lib.hid (And.intro q1 (And.intro q2 (And.intro q3 (And.intro q4 (And.intro q5 (And.intro q6 (And.intro hbk hgrow))))))); clear q1 q2 q3 q4 q5 q6 hbk hgrow hown l1 f1)
 obtain ⟨q1,q2,q3,q4,q5,q6,hbk,hgrow⟩:=KB.out
 obtain ⟨hB,hBw,hrg⟩:=HA.out
 obtain ⟨WA,hWA⟩ : ∃ WA,w1.setCell ⟨rg,1,none⟩ (.slice (some ⟨g,0,none⟩) 1 cap) = WA:=⟨_,rfl⟩
 obtain ⟨a1,a2,a3,a4,a5⟩:=app_fin hWA (Upd.refl w [rg]) hrg q1 (heap_lt q2) hbk hgrow.os hgrow.tape hgrow.output
 have rsA:=HR.out.fld a2 hB (P':=.slice (some ⟨g,0,none⟩) 1 cap) (C':=C) (G':=G) (k':=0) fun ib o c h=>by
  rw [← hWA]
  exact sets_block [.slice (some ⟨g,0,none⟩) 1 cap] ((hbk _ (heap_lt h)).trans h) 1
 have gA : WA.heap[g]? = some (.cells cur 36 (0,0)):=a3.trans q2
 have hgr : rg < g:=Nat.lt_of_lt_of_le hrg q1
 have LT:=Lib.hid (clast_any B rg g cap _ C G 0 WA rsA)
 have RSA:=Lib.hid rsA
 have GA:=Lib.hid gA
 have UA:=Lib.hid (a1.mono (L':=[rg]) fun q _ hn=>by simpa using hn)
 have HG:=Lib.hid (And.intro hgr (And.intro q1 (And.intro q3 (And.intro q4 (And.intro q5 q6)))))
 clear q1 q2 q3 q4 q5 q6 hbk hgrow hB hBw hrg a1 a2 a3 a4 a5 rsA gA hgr u1 uf1
 try rw [hWA]
 clear hWA
 refine LT.out.mono ?_
 rintro e w2 ⟨rfl,hb2⟩
 obtain ⟨hgr,q1,q3,q4,q5,q6⟩:=HG.out
 obtain ⟨hB,hBw,hrg⟩:=HA.out
 obtain ⟨hpa,hsl,hde,hfr,hs,hsb,hil,hib⟩:=HN.out
 have hcs : 7 ≤ cur.size:=by omega
 obtain ⟨tl,rfl⟩:=seven q6
 have g2 : w2.heap[g]? = some (.cells (Value.string ⟨#[]⟩ :: .int .i64 0 :: .bool false :: .int .i64 0 :: .int .i64 0 :: .int .i64 0 :: .slice none 0 0 :: tl).toArray 36 (0,0)):=(hb2.block g (heap_lt GA.out)).trans GA.out
 have rs2:=RSA.out.upd (Upd.of_below hb2 []) hB (by simp)
 have T1:=Lib.hid (ctext_rs B rg g 0 s _ _ C G 0 100 ⟨#[]⟩ w2 rs2 (by omega) hsb (by omega) (by simp) hB (by omega) (heap_lt g2) (by omega) (by rw [ob_cell g2 0]; rfl) (ob_free g2 0 (by simp)))
 have G2:=Lib.hid g2
 have U2:=Lib.hid (UA.out.trans (Upd.of_below hb2 [rg]))
 clear hb2 g2 rs2 hgr q1 q3 q4 q5 q6 hB hBw hrg hpa hsl hde hfr hs hsb hil hib hcs
 go_wp2_with (fail)
 refine T1.out.mono ?_
 rintro e w3 ⟨rfl,rs3,u3,p3⟩
 have g3 : w3.heap[g]? = some (.cells (Value.string (bytesOf s) :: .int .i64 0 :: .bool false :: .int .i64 0 :: .int .i64 0 :: .int .i64 0 :: .slice none 0 0 :: tl).toArray 36 (0,0)):=fld_list G2.out p3
 have U3:=Lib.hid (updin U2.out u3 HG.out.2.1)
 obtain ⟨hgr,q1,q3,q4,q5,q6⟩:=HG.out
 obtain ⟨hB,hBw,hrg⟩:=HA.out
 obtain ⟨hpa,hsl,hde,hfr,hs,hsb,hil,hib⟩:=HN.out
 have N1:=Lib.hid (cnum_rs B rg g 1 pa _ _ C G 0 16777215 0 w3 rs3 hpa hB (by omega) (by omega) (by rw [ob_cell g3 1]; rfl) (ob_free g3 1 (by simp)))
 have D1 : decide ((pa : Int) ≤ 16777215) = true:=decide_eq_true (by omega)
 have G3:=Lib.hid g3
 clear g3 rs3 u3 p3 hgr q1 q3 q4 q5 q6 hB hBw hrg hpa hsl hde hfr hs hsb hil hib
 go_wp2_with (fail)
 refine N1.out.mono ?_
 rintro e w4 ⟨rfl,rs4,u4,p4⟩
 rw [D1]
 clear D1
 have g4 : w4.heap[g]? = some (.cells (Value.string (bytesOf s) :: .int .i64 (pa : Int) :: .bool false :: .int .i64 0 :: .int .i64 0 :: .int .i64 0 :: .slice none 0 0 :: tl).toArray 36 (0,0)):=fld_list G3.out p4
 have U4:=Lib.hid (updin U3.out u4 HG.out.2.1)
 obtain ⟨hgr,q1,q3,q4,q5,q6⟩:=HG.out
 obtain ⟨hB,hBw,hrg⟩:=HA.out
 obtain ⟨hpa,hsl,hde,hfr,hs,hsb,hil,hib⟩:=HN.out
 have N2:=Lib.hid (ctruth0 B rg g 2 _ _ C G 0 w4 rs4 hB (by omega) (by have:=U4.out.size; omega) (heap_lt g4) (by omega) (by rw [ob_cell g4 2]; rfl) (ob_free g4 2 (by simp)))
 have G4:=Lib.hid g4
 clear g4 rs4 u4 p4 hgr q1 q3 q4 q5 q6 hB hBw hrg hpa hsl hde hfr hs hsb hil hib
 go_wp2_with (fail)
 refine N2.out.mono ?_
 rintro e w5 ⟨rfl,rs5,u5,p5⟩
 have g5 : w5.heap[g]? = some (.cells (Value.string (bytesOf s) :: .int .i64 (pa : Int) :: .bool false :: .int .i64 0 :: .int .i64 0 :: .int .i64 0 :: .slice none 0 0 :: tl).toArray 36 (0,0)):=fld_list G4.out p5
 have U5:=Lib.hid (updin U4.out u5 HG.out.2.1)
 obtain ⟨hgr,q1,q3,q4,q5,q6⟩:=HG.out
 obtain ⟨hB,hBw,hrg⟩:=HA.out
 obtain ⟨hpa,hsl,hde,hfr,hs,hsb,hil,hib⟩:=HN.out
 have N3:=Lib.hid (cnum_rs B rg g 3 sl _ _ C G 0 16777215 0 w5 rs5 hsl hB (by omega) (by omega) (by rw [ob_cell g5 3]; rfl) (ob_free g5 3 (by simp)))
 have D3 : decide ((sl : Int) ≤ 16777215) = true:=decide_eq_true (by omega)
 have G5:=Lib.hid g5
 clear g5 rs5 u5 p5 hgr q1 q3 q4 q5 q6 hB hBw hrg hpa hsl hde hfr hs hsb hil hib
 go_wp2_with (fail)
 refine N3.out.mono ?_
 rintro e w6 ⟨rfl,rs6,u6,p6⟩
 rw [D3]
 clear D3
 have g6 : w6.heap[g]? = some (.cells (Value.string (bytesOf s) :: .int .i64 (pa : Int) :: .bool false :: .int .i64 (sl : Int) :: .int .i64 0 :: .int .i64 0 :: .slice none 0 0 :: tl).toArray 36 (0,0)):=fld_list G5.out p6
 have U6:=Lib.hid (updin U5.out u6 HG.out.2.1)
 obtain ⟨hgr,q1,q3,q4,q5,q6⟩:=HG.out
 obtain ⟨hB,hBw,hrg⟩:=HA.out
 obtain ⟨hpa,hsl,hde,hfr,hs,hsb,hil,hib⟩:=HN.out
 have N4:=Lib.hid (cnum_rs B rg g 4 de _ _ C G 0 16777215 0 w6 rs6 hde hB (by omega) (by omega) (by rw [ob_cell g6 4]; rfl) (ob_free g6 4 (by simp)))
 have D4 : decide ((de : Int) ≤ 16777215) = true:=decide_eq_true (by omega)
 have G6:=Lib.hid g6
 clear g6 rs6 u6 p6 hgr q1 q3 q4 q5 q6 hB hBw hrg hpa hsl hde hfr hs hsb hil hib
 go_wp2_with (fail)
 refine N4.out.mono ?_
 rintro e w7 ⟨rfl,rs7,u7,p7⟩
 rw [D4]
 clear D4
 have g7 : w7.heap[g]? = some (.cells (Value.string (bytesOf s) :: .int .i64 (pa : Int) :: .bool false :: .int .i64 (sl : Int) :: .int .i64 (de : Int) :: .int .i64 0 :: .slice none 0 0 :: tl).toArray 36 (0,0)):=fld_list G6.out p7
 have U7:=Lib.hid (updin U6.out u7 HG.out.2.1)
 obtain ⟨hgr,q1,q3,q4,q5,q6⟩:=HG.out
 obtain ⟨hB,hBw,hrg⟩:=HA.out
 obtain ⟨hpa,hsl,hde,hfr,hs,hsb,hil,hib⟩:=HN.out
 have N5:=Lib.hid (cnum_rs B rg g 5 fr _ _ C G 0 16777215 0 w7 rs7 hfr hB (by omega) (by omega) (by rw [ob_cell g7 5]; rfl) (ob_free g7 5 (by simp)))
 have D5 : decide ((fr : Int) ≤ 16777215) = true:=decide_eq_true (by omega)
 have G7:=Lib.hid g7
 clear g7 rs7 u7 p7 hgr q1 q3 q4 q5 q6 hB hBw hrg hpa hsl hde hfr hs hsb hil hib
 go_wp2_with (fail)
 refine N5.out.mono ?_
 rintro e w8 ⟨rfl,rs8,u8,p8⟩
 rw [D5]
 clear D5
 have g8 : w8.heap[g]? = some (.cells (Value.string (bytesOf s) :: .int .i64 (pa : Int) :: .bool false :: .int .i64 (sl : Int) :: .int .i64 (de : Int) :: .int .i64 (fr : Int) :: .slice none 0 0 :: tl).toArray 36 (0,0)):=fld_list G7.out p8
 have U8:=Lib.hid (updin U7.out u8 HG.out.2.1)
 obtain ⟨ib8,o8,c8,h8⟩:=rs8.blk
 have l4 : w8.cell? ⟨rg,4,none⟩ = some (.int .i64 0):=ob_cell h8 4
 have G8:=Lib.hid g8
 have RS8:=Lib.hid rs8
 have LL : Hid (Calls Tryz.prog 45 #[.pointer (some ⟨rg,0,none⟩),.int .i64 40000,.func (.func 80) #[] #[]] w8 fun e w'=>e = .returned (.bool true)∧∃ v,RS B w' rg (insY (is.drop is.length) ++ rest) (.slice (some ⟨g,0,none⟩) 1 cap) C G (is.length : Int)∧w'.heap[g]? = some (.cells (Value.string (bytesOf s) :: .int .i64 (pa : Int) :: .bool false :: .int .i64 (sl : Int) :: .int .i64 (de : Int) :: .int .i64 (fr : Int) :: v :: tl).toArray 36 (0,0))∧w'.ownsRow (g + 1) 23 3 v is.length (insC (is.take is.length))∧Upd w w' [rg]):=Lib.hid (by
  obtain ⟨hgr,q1,q3,q4,q5,q6⟩:=HG.out
  obtain ⟨hB,hBw,hrg⟩:=HA.out
  obtain ⟨hpa,hsl,hde,hfr,hs,hsb,hil,hib⟩:=HN.out
  refine clist_ins B rg is.length _ _ C G 0 40000 (fun i W=>∃ v,RS B W rg (insY (is.drop i) ++ rest) (.slice (some ⟨g,0,none⟩) 1 cap) C G (i : Int)∧W.heap[g]? = some (.cells (Value.string (bytesOf s) :: .int .i64 (pa : Int) :: .bool false :: .int .i64 (sl : Int) :: .int .i64 (de : Int) :: .int .i64 (fr : Int) :: v :: tl).toArray 36 (0,0))∧W.ownsRow (g + 1) 23 3 v i (insC (is.take i))∧Upd w W [rg]) w8 RS8.out hil (by omega) hB (by have:=U8.out.size; omega) (fun w' r u=>?_) (fun i W hi hI=>?_)
  ·exact ⟨.slice none 0 0,r,(u.keep g (heap_lt G8.out) (by simp; omega)).trans G8.out,World.ownsRow_nil _ _ _ _,U8.out.trans u⟩
  ·obtain ⟨v,r,hg,how,hu⟩:=hI
   obtain ⟨x,hx,hdr⟩:=drop_at hi
   obtain ⟨a,b,c⟩:=x
   obtain ⟨xa,xb,xc⟩:=hib _ (List.mem_of_getElem? hx)
   rw [hdr] at r
   have htk : is.take (i + 1) = is.take i ++ [(a,b,c)]:=by rw [List.take_add_one,hx]; rfl
   refine (cinstr_rs B rg g cap a b c xa xb xc _ C G (i : Int) ⟨by omega,by omega⟩ _ v i _ W r hg (by simp) rfl how (by omega) hB (by have:=hu.size; omega) hgr).mono ?_
   rintro e w' ⟨rfl,v',r',hg',how',hu'⟩
   rw [List.setIfInBounds_toArray] at hg'
   refine ⟨rfl,v',r',hg',by rw [htk,insC_append]; exact how',updown hu hu' fun q hn=>?_⟩
   simp only [List.mem_cons,Option.mem_toList] at hn
   rcases hn with rfl | rfl | hn
   ·exact .inl rfl
   ·exact .inr q1
   ·exact .inr (by have:=(how.lt q hn).1; omega))
 clear rs8 u8 p8 g8 h8
 go_wp2_with (fail)
 refine LL.out.mono ?_
 rintro e w9 ⟨rfl,v,r9,g9,o9,u9⟩
 rw [List.drop_length] at r9
 rw [List.take_length] at o9
 have FF:=Lib.hid (And.intro (show RS B w9 rg rest (.slice (some ⟨g,0,none⟩) 1 cap) C G (is.length : Int) from r9) (And.intro g9 (And.intro o9 u9)))
 clear r9 g9 o9 u9 l4
 go_wp2_with (fail)
 go_ret
 exact ⟨rfl,g,cap,_,v,FF.out.1,FF.out.2.1,⟨rfl,rfl,rfl,rfl,rfl,rfl,rfl⟩,FF.out.2.2.1,HG.out.2.1,HG.out.2.2.1,HG.out.2.2.2.1,FF.out.2.2.2⟩
end LM
end Go.Proofs.YtaonablbgicmpaaGreatDoor
