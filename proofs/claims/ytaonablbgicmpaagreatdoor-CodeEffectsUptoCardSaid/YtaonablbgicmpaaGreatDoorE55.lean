import Derived.Test.YtaonablbgicmpaaGreatDoorE54
import Derived.Lib.ConvBytes
import Derived.Lib.AtoiErrMem
import Derived.Test.YtaonablbgicmpaaGreatDoorE52
import Derived.Test.YtaonablbgicmpaaGreatDoorE56
import Derived.Test.YtaonablbgicmpaaGreatDoorE38
import Derived.Test.YtaonablbgicmpaaGreatDoorE37
import Derived.KernelRfl
set_option linter.unusedVariables false
set_option linter.unusedSimpArgs false
set_option maxRecDepth 100000
set_option maxHeartbeats 16000000
namespace Go.Proofs.YtaonablbgicmpaaGreatDoor
open Go Go.RowKit
namespace LM
attribute [local go_sem] run_store_flt
theorem grown_step {w v1 w3 : World} {rg i : Nat} {x : Value} (hb : Below w.heap.size w v1) (h : (v1.setCell ⟨rg,i,none⟩ x).grownBy w3 (some rg)) : w.grownBy w3 (some rg):=by
 have hs : v1.heap.size ≤ w3.heap.size:=by have:=h.size; rw [World.size_setCell] at this; exact this
 have hB : Below 0 v1 (v1.setCell ⟨rg,i,none⟩ x):=(Below.refl 0 v1).setCell (Nat.zero_le _) _
 refine ⟨h.os.trans (hB.os.trans hb.os),h.tape.trans (hB.tape.trans hb.tape),h.output.trans (hB.output.trans hb.output),Nat.le_trans hb.size hs,fun k hk hn=>?_⟩
 have hkr : k ≠ rg:=fun e=>hn (by rw [e])
 refine (h.block k (by rw [World.size_setCell]; exact Nat.lt_of_lt_of_le hk hb.size) hn).trans ?_
 rw [heap_setCell_other _ (⟨rg,i,none⟩ : Addr) _ _ hkr]
 exact hb.block k hk
theorem rbegin_x (h : Hd) (n : Nat) (a z : Int) (rg : Nat) (w : World) (hr : w.heap[rg]? = some (readO none 0 0 0)) : Calls Tryz.prog 156 #[.pointer (some ⟨rg,0,none⟩),tokA 5 a z ⟨#[]⟩ h n] w fun e w'=>e = .returned (.int .i64 0)∧∃ b cap,w'.heap[rg]? = some (readO (some ⟨b,0,none⟩) 1 cap 1)∧C8 w' b 0 h n∧w.heap.size ≤ b∧b < w'.heap.size∧1 ≤ cap∧cap ≤ maxLen∧w.grownBy w' (some rg):=by
 obtain ⟨W0,hW0⟩ : ∃ W0,w.alloc (tokO 5 a z ⟨#[]⟩ h n) = W0:=⟨_,rfl⟩
 have hb0 : Below w.heap.size w W0:=by rw [← hW0]; exact (Below.refl _ w).alloc (Nat.le_refl _) _
 have ho : W0.heap[w.heap.size]? = some (tokO 5 a z ⟨#[]⟩ h n):=by rw [← hW0]; unfold World.alloc; simp
 have hrl:=heap_lt hr
 have hr0 : W0.heap[rg]? = some (readO none 0 0 0):=(hb0.block rg hrl).trans hr
 have N1:=Lib.hid (rinner0 rg W0 (by rw [ob_cell hr0]; rfl))
 have HW0:=Lib.hid hW0
 have HB0:=Lib.hid hb0
 have HO:=Lib.hid ho
 have HR:=Lib.hid hr0
 have HRL:=Lib.hid hrl
 clear hW0 hb0 ho hr hr0 hrl
 go_enter Tryz.func156,Tryz.ntmps156
 go_wp2_with (fail)
 rw [HW0.out]
 refine N1.out.mono ?_
 rintro e w1 ⟨rfl,rfl⟩
 have x0 : W0.cell? ⟨w.heap.size,0,none⟩ = some (.int .i64 5):=ob_cell HO.out 0
 go_wp2_with (fail)
 have NC:=Lib.hid fun W=>rnodes1 a z h n W
 have KS : Hid (∀ W : World,Obs W [(rg,readO none 0 0 0),(w.heap.size,tokO 5 a z ⟨#[]⟩ h n)] → W.cell? ⟨rg,2,none⟩ = some (.int .i64 0)∧W.frozen? ⟨rg,2,none⟩ = false∧W.cell? ⟨w.heap.size,0,none⟩ = some (.int .i64 5)∧W.cell? ⟨w.heap.size,1,none⟩ = some (.int .i64 a)∧W.cell? ⟨w.heap.size,2,none⟩ = some (.int .i64 z)∧W.cell? ⟨w.heap.size,3,none⟩ = some (.string ⟨#[]⟩)∧W.cell? ⟨w.heap.size,4,none⟩ = some (.int .i64 h.k)∧W.cell? ⟨w.heap.size,5,none⟩ = some (.int .i64 h.n)∧W.cell? ⟨w.heap.size,6,none⟩ = some (.bool h.fl)∧W.cell? ⟨w.heap.size,7,none⟩ = some (.float .f64 h.f)∧W.cell? ⟨w.heap.size,8,none⟩ = some (.bool h.s)∧W.cell? ⟨w.heap.size,9,none⟩ = some (.slice h.A h.xs.length h.c)∧W.cell? ⟨w.heap.size,10,none⟩ = some (.string h.t)∧W.cell? ⟨w.heap.size,11,none⟩ = some (.slice h.B n h.cap)):=Lib.hid fun W hh=>by
  have h1:=hh.hd
  have h2:=hh.tl.hd
  exact ⟨ob_cell h1 2,ob_free h1 2 (by simp),ob_cell h2 0,ob_cell h2 1,ob_cell h2 2,ob_cell h2 3,ob_cell h2 4,ob_cell h2 5,ob_cell h2 6,ob_cell h2 7,ob_cell h2 8,ob_cell h2 9,ob_cell h2 10,ob_cell h2 11⟩
 have O0 : Hid (Obs W0.drew [(rg,readO none 0 0 0),(w.heap.size,tokO 5 a z ⟨#[]⟩ h n)]):=Lib.hid ((Obs.nil.cons HO.out).cons HR.out)
 have B0 : Hid (Below W0.heap.size W0 W0.drew):=Lib.hid (Below.refl _ _).drew
 clear x0
 have hw1 : IntKind.i64.wrap 1 = 1:=by decide
 obtain ⟨r2,f2,y0,y1,y2,y3,y4,y5,y6,y7,y8,y9,y10,y11⟩:=KS.out W0 O0.out
 go_region_law (go_simp; go_at_call 200; refine (NC.out _).mono ?_; rintro e v1 ⟨rfl,hbz⟩; have Z1:=Lib.hid (bel_trans (B:=W0.heap.size) B0.out hbz); have O1:=Lib.hid (O0.out.below hbz); obtain ⟨g2,g3,s0,s1,s2,s3,s4,s5,s6,s7,s8,s9,s10,s11⟩:=KS.out v1 O1.out; clear hbz)
 all_goals
  obtain ⟨W2,hW2⟩ : ∃ W2,v1.setCell ⟨rg,2,none⟩ (.int .i64 1) = W2:=⟨_,rfl⟩
  have hr2 : W2.heap[rg]? = some (readO none 0 0 1):=by rw [← hW2]; exact sets_block [.int .i64 1] O1.out.hd 2
  have ht2 : W2.heap[w.heap.size]? = some (tokO 5 a z ⟨#[]⟩ h n):=by rw [← hW2,heap_setCell_other _ (⟨rg,2,none⟩ : Addr) _ _ (by have:=HRL.out; show w.heap.size ≠ rg; omega)]; exact O1.out.tl.hd
  have A1:=Lib.hid (radd_x h n rg 1 W2 hr2)
  have HW2:=Lib.hid hW2
  have hsz : W2.heap.size = v1.heap.size:=by rw [← hW2,World.size_setCell]
  have HSZ:=Lib.hid hsz
  rw [HW2.out]
  clear r2 f2 y0 y1 y2 y3 y4 y5 y6 y7 y8 y9 y10 y11 g2 g3 s0 s1 s2 s3 s4 s5 s6 s7 s8 s9 s10 s11 hW2 hsz
  have c2 : W2.cell? ⟨rg,2,none⟩ = some (.int .i64 1):=ob_cell hr2 2
  have t0 : W2.cell? ⟨w.heap.size,0,none⟩ = some (.int .i64 5):=ob_cell ht2 0
  have t4 : W2.cell? ⟨w.heap.size,4,none⟩ = some (.int .i64 h.k):=ob_cell ht2 4
  have t5 : W2.cell? ⟨w.heap.size,5,none⟩ = some (.int .i64 h.n):=ob_cell ht2 5
  have t6 : W2.cell? ⟨w.heap.size,6,none⟩ = some (.bool h.fl):=ob_cell ht2 6
  have t7 : W2.cell? ⟨w.heap.size,7,none⟩ = some (.float .f64 h.f):=ob_cell ht2 7
  have t8 : W2.cell? ⟨w.heap.size,8,none⟩ = some (.bool h.s):=ob_cell ht2 8
  have t9 : W2.cell? ⟨w.heap.size,9,none⟩ = some (.slice h.A h.xs.length h.c):=ob_cell ht2 9
  have t10 : W2.cell? ⟨w.heap.size,10,none⟩ = some (.string h.t):=ob_cell ht2 10
  have t11 : W2.cell? ⟨w.heap.size,11,none⟩ = some (.slice h.B n h.cap):=ob_cell ht2 11
  clear hr2 ht2
  go_wp2_with (fail)
  refine A1.out.mono ?_
  rintro e w3 ⟨⟨v,rfl⟩,b,cap,f1,f2,f3,f4,f5,f6,f7⟩
  have F:=Lib.hid (And.intro f1 (And.intro f2 (And.intro f3 (And.intro f4 (And.intro f5 (And.intro f6 f7))))))
  clear f1 f2 f3 f4 f5 f6 f7 c2 t0 t4 t5 t6 t7 t8 t9 t10 t11
  go_wp2_with (fail)
  go_ret
  obtain ⟨f1,f2,f3,f4,f5,f6,f7⟩:=F.out
  have hbv:=bel_trans (B:=w.heap.size) HB0.out Z1.out
  refine ⟨rfl,b,cap,f1,f2,?_,f4,f5,f6,grown_step hbv (by rw [HW2.out]; exact f7)⟩
  have:=hbv.size
  have:=HSZ.out
  omega
theorem rmeet_x (h : Hd) (n : Nat) (a z : Int) (rg : Nat) (w : World) (hr : w.heap[rg]? = some (readO none 0 0 0)) : Calls Tryz.prog 114 #[.pointer (some ⟨rg,0,none⟩),tokA 5 a z ⟨#[]⟩ h n] w fun e w'=>e = .returned (.int .i64 0)∧∃ b cap,w'.heap[rg]? = some (readO (some ⟨b,0,none⟩) 1 cap 1)∧C8 w' b 0 h n∧w.heap.size ≤ b∧b < w'.heap.size∧1 ≤ cap∧cap ≤ maxLen∧w.grownBy w' (some rg):=by
 obtain ⟨W0,hW0⟩ : ∃ W0,w.alloc (tokO 5 a z ⟨#[]⟩ h n) = W0:=⟨_,rfl⟩
 have hb0 : Below w.heap.size w W0:=by rw [← hW0]; exact (Below.refl _ w).alloc (Nat.le_refl _) _
 have ho : W0.heap[w.heap.size]? = some (tokO 5 a z ⟨#[]⟩ h n):=by rw [← hW0]; unfold World.alloc; simp
 have hrl:=heap_lt hr
 have B1:=Lib.hid (rbegin_x h n a z rg W0 ((hb0.block rg hrl).trans hr))
 have HW0:=Lib.hid hW0
 have HB0:=Lib.hid hb0
 have x0 : (w.alloc (tokO 5 a z ⟨#[]⟩ h n)).cell? ⟨w.heap.size,0,none⟩ = some (.int .i64 5):=by rw [hW0]; exact ob_cell ho 0
 have x1 : (w.alloc (tokO 5 a z ⟨#[]⟩ h n)).cell? ⟨w.heap.size,1,none⟩ = some (.int .i64 a):=by rw [hW0]; exact ob_cell ho 1
 have x2 : (w.alloc (tokO 5 a z ⟨#[]⟩ h n)).cell? ⟨w.heap.size,2,none⟩ = some (.int .i64 z):=by rw [hW0]; exact ob_cell ho 2
 have x3 : (w.alloc (tokO 5 a z ⟨#[]⟩ h n)).cell? ⟨w.heap.size,3,none⟩ = some (.string ⟨#[]⟩):=by rw [hW0]; exact ob_cell ho 3
 have x4 : (w.alloc (tokO 5 a z ⟨#[]⟩ h n)).cell? ⟨w.heap.size,4,none⟩ = some (.int .i64 h.k):=by rw [hW0]; exact ob_cell ho 4
 have x5 : (w.alloc (tokO 5 a z ⟨#[]⟩ h n)).cell? ⟨w.heap.size,5,none⟩ = some (.int .i64 h.n):=by rw [hW0]; exact ob_cell ho 5
 have x6 : (w.alloc (tokO 5 a z ⟨#[]⟩ h n)).cell? ⟨w.heap.size,6,none⟩ = some (.bool h.fl):=by rw [hW0]; exact ob_cell ho 6
 have x7 : (w.alloc (tokO 5 a z ⟨#[]⟩ h n)).cell? ⟨w.heap.size,7,none⟩ = some (.float .f64 h.f):=by rw [hW0]; exact ob_cell ho 7
 have x8 : (w.alloc (tokO 5 a z ⟨#[]⟩ h n)).cell? ⟨w.heap.size,8,none⟩ = some (.bool h.s):=by rw [hW0]; exact ob_cell ho 8
 have x9 : (w.alloc (tokO 5 a z ⟨#[]⟩ h n)).cell? ⟨w.heap.size,9,none⟩ = some (.slice h.A h.xs.length h.c):=by rw [hW0]; exact ob_cell ho 9
 have x10 : (w.alloc (tokO 5 a z ⟨#[]⟩ h n)).cell? ⟨w.heap.size,10,none⟩ = some (.string h.t):=by rw [hW0]; exact ob_cell ho 10
 have x11 : (w.alloc (tokO 5 a z ⟨#[]⟩ h n)).cell? ⟨w.heap.size,11,none⟩ = some (.slice h.B n h.cap):=by rw [hW0]; exact ob_cell ho 11
 clear hW0 hb0 ho hr hrl
 go_enter Tryz.func114,Tryz.ntmps114
 go_wp2_with (fail)
 rw [HW0.out]
 refine B1.out.mono ?_
 rintro e w3 ⟨rfl,b,cap,f1,f2,f3,f4,f5,f6,f7⟩
 have F:=Lib.hid (And.intro f1 (And.intro f2 (And.intro f3 (And.intro f4 (And.intro f5 (And.intro f6 f7))))))
 clear f1 f2 f3 f4 f5 f6 f7 x0 x1 x2 x3 x4 x5 x6 x7 x8 x9 x10 x11
 go_wp2_with (fail)
 go_ret
 obtain ⟨f1,f2,f3,f4,f5,f6,f7⟩:=F.out
 have hb:=HB0.out
 refine ⟨rfl,b,cap,f1,f2,Nat.le_trans hb.size f3,f4,f5,f6,⟨f7.os.trans hb.os,f7.tape.trans hb.tape,f7.output.trans hb.output,Nat.le_trans hb.size f7.size,fun k hk hn=>(f7.block k (Nat.lt_of_lt_of_le hk hb.size) hn).trans (hb.block k hk)⟩⟩
end LM
namespace LM
attribute [local go_sem] run_store_flt
theorem rread_x (bb oo cap0 : Nat) (w : World) (hc : ∀ j (hj : j < [34,120,34].length),w.cell? ⟨bb,oo + j,none⟩ = some (.int .u8 ((([34,120,34] : List UInt8)[j]).toNat : Int))) (hu : UT w) (hm : MK w) :
  Calls Tryz.prog 77 #[.slice (some ⟨bb,oo,none⟩) 3 cap0] w fun e w'=>∃ b cap,e = .returned (.tuple #[.slice (some ⟨b,0,none⟩) 1 cap,.agg #[.int .i64 0,.int .i64 0]])∧C8 w' b 0 strX 0∧w.heap.size ≤ b∧b < w'.heap.size∧1 ≤ cap∧cap ≤ maxLen∧Below w.heap.size w w':=by
 obtain ⟨W0,hW0⟩ : ∃ W0,w.alloc (.cells #[.int .i64 0,.int .i64 0] 113 (0,0)) = W0:=⟨_,rfl⟩
 have hb0 : Below w.heap.size w W0:=by rw [← hW0]; exact (Below.refl _ w).alloc (Nat.le_refl _) _
 have ho : W0.heap[w.heap.size]? = some (.cells #[.int .i64 0,.int .i64 0] 113 (0,0)):=by rw [← hW0]; unfold World.alloc; simp
 have hs0 : W0.heap.size = w.heap.size + 1:=by rw [← hW0]; simp
 obtain ⟨W1,hW1⟩ : ∃ W1,W0.alloc (readO none 0 0 0) = W1:=⟨_,rfl⟩
 have hb1 : Below W0.heap.size W0 W1:=by rw [← hW1]; exact (Below.refl _ W0).alloc (Nat.le_refl _) _
 have hr1 : W1.heap[w.heap.size + 1]? = some (readO none 0 0 0):=by rw [← hW1,← hs0]; unfold World.alloc; simp
 have ho1 : W1.heap[w.heap.size]? = some (.cells #[.int .i64 0,.int .i64 0] 113 (0,0)):=(hb1.block _ (by omega)).trans ho
 have hcv : (convert 45 9 (.slice (some ⟨bb,oo,none⟩) 3 cap0)).run Tryz.prog (w.alloc (.cells #[.int .i64 0,.int .i64 0] 113 (0,0))) = .ok (.string ⟨#[34,120,34]⟩) (w.alloc (.cells #[.int .i64 0,.int .i64 0] 113 (0,0))):=by
  rw [hW0]
  refine run_convert_bytes_back (P:=Tryz.prog) W0 45 9 5 ⟨bb,oo,none⟩ cap0 [34,120,34] Tryz.underlying45 Tryz.underlying5 Tryz.underlying9 fun j hj=>?_
  rw [Lib.add_plain]
  have h1:=hc j hj
  exact (hb0.cell (p:=⟨bb,oo + j,none⟩) (World.block_lt_of_cell? w _ h1)).trans h1
 have B0:=Lib.hid (rblanks0 W1)
 have TK:=Lib.hid fun W (hW : Below w.heap.size w W)=>rtoken_x W (hu.keep hW) (hm.keep hW)
 have B3:=Lib.hid fun W=>rblanks3 W
 have HW0:=Lib.hid hW0
 have HW1:=Lib.hid hW1
 have HB1:=Lib.hid (bel_trans (B:=w.heap.size) hb0 hb1)
 have HR1:=Lib.hid hr1
 have HO1:=Lib.hid ho1
 clear hW0 hW1 hb0 hb1 ho ho1 hr1 hu hm hc
 go_enter Tryz.func77,Tryz.ntmps77
 go_wp2_with (fail)
 rw [HW0.out,HW1.out]
 refine B0.out.mono ?_
 rintro e w2 ⟨rfl,hb2⟩
 have HB2:=Lib.hid (bel_trans (B:=w.heap.size) HB1.out hb2)
 have hO2:=((Obs.nil.cons HO1.out).cons HR1.out).below hb2
 have HO2:=Lib.hid hO2.tl.hd
 have HR2:=Lib.hid hO2.hd
 clear hb2 hO2
 go_wp2_with (fail)
 go_loopg [6] 1 (fun kk at' wr=>wr.heap[w.heap.size]? = some (.cells #[.int .i64 0,.int .i64 0] 113 (0,0))∧Below w.heap.size w wr∧((kk = 1∧at' = .int .i64 0∧wr.heap[w.heap.size + 1]? = some (readO none 0 0 0)) ∨ (kk = 0∧at' = .int .i64 3∧∃ b cap,wr.heap[w.heap.size + 1]? = some (readO (some ⟨b,0,none⟩) 1 cap 1)∧C8 wr b 0 strX 0∧w.heap.size ≤ b∧b < wr.heap.size∧1 ≤ cap∧cap ≤ maxLen)))
 case atStart=>exact ⟨HO2.out,HB2.out,.inl ⟨rfl,rfl,HR2.out⟩⟩
 case round =>
  obtain ⟨ho,hb,⟨rfl,rfl,hr⟩ | ⟨rfl,rfl,b,cap,hr,hc8,hwb,hbs,hc1,hc2⟩⟩:=hrel
  ·have T1:=Lib.hid (TK.out wr hb)
   have HO:=Lib.hid ho
   have HB:=Lib.hid hb
   have HR:=Lib.hid hr
   clear ho hb hr
   go_wp2_with (fail)
   refine T1.out.mono ?_
   rintro e w3 ⟨rfl,hb3⟩
   have HB3:=Lib.hid (bel_trans (B:=w.heap.size) HB.out hb3)
   have hO3:=((Obs.nil.cons HO.out).cons HR.out).below hb3
   obtain ⟨Wt,hWt⟩ : ∃ Wt,w3.alloc (.cells #[.int .i64 5,.int .i64 0,.int .i64 3,.string ⟨#[]⟩,.int .i64 3,.int .i64 0,.bool false,.float .f64 0,.bool false,.slice none 0 0,.string ⟨#[120]⟩,.slice none 0 0] 142 (0,0)) = Wt:=⟨_,rfl⟩
   have hbt : Below w3.heap.size w3 Wt:=by rw [← hWt]; exact (Below.refl _ w3).alloc (Nat.le_refl _) _
   have hot : Wt.heap[w3.heap.size]? = some (.cells #[.int .i64 5,.int .i64 0,.int .i64 3,.string ⟨#[]⟩,.int .i64 3,.int .i64 0,.bool false,.float .f64 0,.bool false,.slice none 0 0,.string ⟨#[120]⟩,.slice none 0 0] 142 (0,0)):=by rw [← hWt]; unfold World.alloc; simp
   have hO4:=hO3.below hbt
   have hn2 : w.heap.size + 1 < w3.heap.size:=heap_lt hO3.hd
   have M1:=Lib.hid (rmeet_x strX 0 0 3 (w.heap.size + 1) Wt hO4.hd)
   have HWt:=Lib.hid hWt
   have HOT:=Lib.hid hot
   have HBT:=Lib.hid (bel_trans (B:=w.heap.size) HB3.out hbt)
   have HOF:=Lib.hid hO4.tl.hd
   have HN2:=Lib.hid hn2
   have HSZ:=Lib.hid hbt.size
   have x0 : (w3.alloc (.cells #[.int .i64 5,.int .i64 0,.int .i64 3,.string ⟨#[]⟩,.int .i64 3,.int .i64 0,.bool false,.float .f64 0,.bool false,.slice none 0 0,.string ⟨#[120]⟩,.slice none 0 0] 142 (0,0))).cell? ⟨w3.heap.size,0,none⟩ = some (.int .i64 5):=by rw [hWt]; exact ob_cell hot 0
   have x1 : (w3.alloc (.cells #[.int .i64 5,.int .i64 0,.int .i64 3,.string ⟨#[]⟩,.int .i64 3,.int .i64 0,.bool false,.float .f64 0,.bool false,.slice none 0 0,.string ⟨#[120]⟩,.slice none 0 0] 142 (0,0))).cell? ⟨w3.heap.size,1,none⟩ = some (.int .i64 0):=by rw [hWt]; exact ob_cell hot 1
   have x2 : (w3.alloc (.cells #[.int .i64 5,.int .i64 0,.int .i64 3,.string ⟨#[]⟩,.int .i64 3,.int .i64 0,.bool false,.float .f64 0,.bool false,.slice none 0 0,.string ⟨#[120]⟩,.slice none 0 0] 142 (0,0))).cell? ⟨w3.heap.size,2,none⟩ = some (.int .i64 3):=by rw [hWt]; exact ob_cell hot 2
   have x3 : (w3.alloc (.cells #[.int .i64 5,.int .i64 0,.int .i64 3,.string ⟨#[]⟩,.int .i64 3,.int .i64 0,.bool false,.float .f64 0,.bool false,.slice none 0 0,.string ⟨#[120]⟩,.slice none 0 0] 142 (0,0))).cell? ⟨w3.heap.size,3,none⟩ = some (.string ⟨#[]⟩):=by rw [hWt]; exact ob_cell hot 3
   have x4 : (w3.alloc (.cells #[.int .i64 5,.int .i64 0,.int .i64 3,.string ⟨#[]⟩,.int .i64 3,.int .i64 0,.bool false,.float .f64 0,.bool false,.slice none 0 0,.string ⟨#[120]⟩,.slice none 0 0] 142 (0,0))).cell? ⟨w3.heap.size,4,none⟩ = some (.int .i64 3):=by rw [hWt]; exact ob_cell hot 4
   have x5 : (w3.alloc (.cells #[.int .i64 5,.int .i64 0,.int .i64 3,.string ⟨#[]⟩,.int .i64 3,.int .i64 0,.bool false,.float .f64 0,.bool false,.slice none 0 0,.string ⟨#[120]⟩,.slice none 0 0] 142 (0,0))).cell? ⟨w3.heap.size,5,none⟩ = some (.int .i64 0):=by rw [hWt]; exact ob_cell hot 5
   have x6 : (w3.alloc (.cells #[.int .i64 5,.int .i64 0,.int .i64 3,.string ⟨#[]⟩,.int .i64 3,.int .i64 0,.bool false,.float .f64 0,.bool false,.slice none 0 0,.string ⟨#[120]⟩,.slice none 0 0] 142 (0,0))).cell? ⟨w3.heap.size,6,none⟩ = some (.bool false):=by rw [hWt]; exact ob_cell hot 6
   have x7 : (w3.alloc (.cells #[.int .i64 5,.int .i64 0,.int .i64 3,.string ⟨#[]⟩,.int .i64 3,.int .i64 0,.bool false,.float .f64 0,.bool false,.slice none 0 0,.string ⟨#[120]⟩,.slice none 0 0] 142 (0,0))).cell? ⟨w3.heap.size,7,none⟩ = some (.float .f64 0):=by rw [hWt]; exact ob_cell hot 7
   have x8 : (w3.alloc (.cells #[.int .i64 5,.int .i64 0,.int .i64 3,.string ⟨#[]⟩,.int .i64 3,.int .i64 0,.bool false,.float .f64 0,.bool false,.slice none 0 0,.string ⟨#[120]⟩,.slice none 0 0] 142 (0,0))).cell? ⟨w3.heap.size,8,none⟩ = some (.bool false):=by rw [hWt]; exact ob_cell hot 8
   have x9 : (w3.alloc (.cells #[.int .i64 5,.int .i64 0,.int .i64 3,.string ⟨#[]⟩,.int .i64 3,.int .i64 0,.bool false,.float .f64 0,.bool false,.slice none 0 0,.string ⟨#[120]⟩,.slice none 0 0] 142 (0,0))).cell? ⟨w3.heap.size,9,none⟩ = some (.slice none 0 0):=by rw [hWt]; exact ob_cell hot 9
   have x10 : (w3.alloc (.cells #[.int .i64 5,.int .i64 0,.int .i64 3,.string ⟨#[]⟩,.int .i64 3,.int .i64 0,.bool false,.float .f64 0,.bool false,.slice none 0 0,.string ⟨#[120]⟩,.slice none 0 0] 142 (0,0))).cell? ⟨w3.heap.size,10,none⟩ = some (.string ⟨#[120]⟩):=by rw [hWt]; exact ob_cell hot 10
   have x11 : (w3.alloc (.cells #[.int .i64 5,.int .i64 0,.int .i64 3,.string ⟨#[]⟩,.int .i64 3,.int .i64 0,.bool false,.float .f64 0,.bool false,.slice none 0 0,.string ⟨#[120]⟩,.slice none 0 0] 142 (0,0))).cell? ⟨w3.heap.size,11,none⟩ = some (.slice none 0 0):=by rw [hWt]; exact ob_cell hot 11
   clear hb3 hO3 hWt hbt hot hO4 hn2
   go_wp2_with (fail)
   rw [HWt.out]
   refine M1.out.mono ?_
   rintro e w4 ⟨rfl,b,cap,f1,f2,f3,f4,f5,f6,f7⟩
   have hk : ∀ k,k < Wt.heap.size → k ≠ w.heap.size + 1 → w4.heap[k]? = Wt.heap[k]?:=fun k h1 h2=>f7.block k h1 (by intro e; injection e with e; exact h2 e)
   have ht4 : w4.heap[w3.heap.size]? = some (.cells #[.int .i64 5,.int .i64 0,.int .i64 3,.string ⟨#[]⟩,.int .i64 3,.int .i64 0,.bool false,.float .f64 0,.bool false,.slice none 0 0,.string ⟨#[120]⟩,.slice none 0 0] 142 (0,0)):=(hk _ (heap_lt HOT.out) (by have:=HN2.out; omega)).trans HOT.out
   have ho4 : w4.heap[w.heap.size]? = some (.cells #[.int .i64 0,.int .i64 0] 113 (0,0)):=(hk _ (heap_lt HOF.out) (by omega)).trans HOF.out
   have hb4 : Below w.heap.size w w4:=by
    have h1:=HBT.out
    exact ⟨f7.os.trans h1.os,f7.tape.trans h1.tape,f7.output.trans h1.output,Nat.le_trans h1.size f7.size,fun k hk'=>(hk k (Nat.lt_of_lt_of_le hk' h1.size) (by omega)).trans (h1.block k hk')⟩
   have hwb : w.heap.size ≤ b:=Nat.le_trans HBT.out.size f3
   have F:=Lib.hid (And.intro f1 (And.intro f2 (And.intro hwb (And.intro f4 (And.intro f5 f6)))))
   have HO4:=Lib.hid ho4
   have HB4:=Lib.hid hb4
   have B3':=Lib.hid (B3.out w4)
   have y2 : w4.cell? ⟨w3.heap.size,2,none⟩ = some (.int .i64 3):=ob_cell ht4 2
   clear x0 x1 x2 x3 x4 x5 x6 x7 x8 x9 x10 x11 f1 f2 f3 f4 f5 f6 f7 hk ht4 ho4 hb4 hwb
   go_wp2_with (fail)
   refine B3'.out.mono ?_
   rintro e w5 ⟨rfl,hb5⟩
   have hO5:=((Obs.nil.cons HO4.out).cons F.out.1).below hb5
   have HO5:=Lib.hid hO5
   have HB5:=Lib.hid (bel_trans (B:=w.heap.size) HB4.out hb5)
   have hc5:=F.out.2.1.keep hb5 F.out.2.2.2.1
   have HC5:=Lib.hid hc5
   have HS5:=Lib.hid hb5.size
   clear hb5 hO5 y2 hc5
   go_wp2_with (fail)
   go_roundg 0
   case measure=>omega
   case rel=>exact ⟨HO5.out.tl.hd,HB5.out,.inr ⟨rfl,rfl,b,cap,HO5.out.hd,HC5.out,F.out.2.2.1,Nat.lt_of_lt_of_le F.out.2.2.2.1 HS5.out,F.out.2.2.2.2.1,F.out.2.2.2.2.2⟩⟩
  ·have I1:=Lib.hid (rinner0 (w.heap.size + 1) wr (by rw [ob_cell hr]; rfl))
   have z0 : wr.cell? ⟨w.heap.size + 1,0,none⟩ = some (.slice (some ⟨b,0,none⟩) 1 cap):=ob_cell hr 0
   have a0 : wr.cell? ⟨w.heap.size,0,none⟩ = some (.int .i64 0):=ob_cell ho 0
   have a1 : wr.cell? ⟨w.heap.size,1,none⟩ = some (.int .i64 0):=ob_cell ho 1
   have e0:=ob_free ho 0 (by simp)
   have e1:=ob_free ho 1 (by simp)
   obtain ⟨WF,hWF⟩ : ∃ WF,(wr.setCell ⟨w.heap.size,0,none⟩ (.int .i64 0)).setCell ⟨w.heap.size,1,none⟩ (.int .i64 0) = WF:=⟨_,rfl⟩
   have hbF : Below w.heap.size w WF:=by rw [← hWF]; exact (hb.setCell (Nat.le_refl _) _).setCell (Nat.le_refl _) _
   have hoF : WF.heap[w.heap.size]? = some (.cells #[.int .i64 0,.int .i64 0] 113 (0,0)):=by rw [← hWF]; exact sets_block [.int .i64 0,.int .i64 0] ho 0
   have hne : b ≠ w.heap.size:=fun e=>by
    subst e
    have h1:=hc8.c2
    rw [ob_cell ho] at h1
    exact absurd h1 (by simp)
   have hcF : C8 WF b 0 strX 0:=hc8.of_same (by rw [← hWF,heap_setCell_other _ (⟨w.heap.size,1,none⟩ : Addr) _ _ hne,heap_setCell_other _ (⟨w.heap.size,0,none⟩ : Addr) _ _ hne])
   have hsF : WF.heap.size = wr.heap.size:=by rw [← hWF,World.size_setCell,World.size_setCell]
   have HWF:=Lib.hid hWF
   have G:=Lib.hid (And.intro hcF (And.intro hwb (And.intro (show b < WF.heap.size by omega) (And.intro hc1 (And.intro hc2 hbF)))))
   have q0 : WF.cell? ⟨w.heap.size,0,none⟩ = some (.int .i64 0):=ob_cell hoF 0
   have q1 : WF.cell? ⟨w.heap.size,1,none⟩ = some (.int .i64 0):=ob_cell hoF 1
   clear hr ho hb hc8 hwb hbs hc1 hc2 hWF hbF hoF hne hcF hsF
   go_wp2_with (fail)
   refine I1.out.mono ?_
   rintro e w6 ⟨rfl,rfl⟩
   go_wp2_with (fail)
   rw [HWF.out]
   refine bodyPost_ret (v:=.tuple #[.slice (some ⟨b,0,none⟩) 1 cap,.agg #[.int .i64 0,.int .i64 0]]) (by simp [results,Tryz.results77,go_sem,q0,q1]) rfl ?_
   exact ⟨b,cap,rfl,G.out⟩
end LM
namespace LM
attribute [local go_sem] run_store_flt
structure CRes (B : Nat) (w W4 WF : World) (rg : Nat) (rest : List Nat) (P G : Value) (k : Int) (g cap : Nat) : Prop where
 rs : RS B WF rg rest P (.slice (some ⟨g,0,none⟩) 1 cap) G k
 c8 : C8 WF g 0 strX 0
 lo : w.heap.size ≤ g
 hi : g < WF.heap.size
 c1 : 1 ≤ cap
 c2 : cap ≤ maxLen
 up : Upd w WF [rg]
 up4 : Upd W4 WF [rg]
theorem cres_of {B : Nat} {w W4 WF : World} {rg : Nat} {rest : List Nat} {P G : Value} {k : Int} {g cap : Nat} (hB : B ≤ rg) (hu : Upd w W4 [rg]) (hr : RS B W4 rg rest P (.slice none 0 0) G k) (hg : W4.grownBy WF (some rg)) (h8 : C8 WF g 0 strX 0) (hlo : W4.heap.size ≤ g) (hhi : g < WF.heap.size) (c1 : 1 ≤ cap) (c2 : cap ≤ maxLen)
  (hf : ∀ ib o c,W4.heap[rg]? = some (rdO ib o rest.length c P (.slice none 0 0) G k) → WF.heap[rg]? = some (rdO ib o rest.length c P (.slice (some ⟨g,0,none⟩) 1 cap) G k)) : CRes B w W4 WF rg rest P G k g cap:=by
 have h4 : Upd W4 WF [rg]:=⟨hg.os,hg.tape,hg.output,hg.size,fun q hq hn=>hg.block q hq (by intro e; injection e with e; exact hn (by simp [e]))⟩
 exact ⟨hr.fld h4 hB hf,h8,Nat.le_trans hu.size hlo,hhi,c1,c2,hu.trans h4,h4⟩
def CFacts (B : Nat) (w WF : World) (db : Nat) : Prop:=(WF.cell? ⟨db,0,none⟩ = some (.int .i64 3)∧WF.cell? ⟨db,1,none⟩ = some (.int .i64 0)∧WF.cell? ⟨db,2,none⟩ = some (.bool false)∧WF.cell? ⟨db,3,none⟩ = some (.float .f64 0)∧WF.cell? ⟨db,4,none⟩ = some (.bool false)∧WF.cell? ⟨db,5,none⟩ = some (.slice none 0 0)∧WF.cell? ⟨db,6,none⟩ = some (.string ⟨#[120]⟩)∧WF.cell? ⟨db,7,none⟩ = some (.slice none 0 0))∧WF.cell? ⟨w.heap.size,0,none⟩ = some (.string ⟨#[34,120,34]⟩)∧Below B w WF
theorem cfacts_of {B : Nat} {w W4 WF : World} {rg : Nat} {rest : List Nat} {P G : Value} {k : Int} {g cap db : Nat} (h : CRes B w W4 WF rg rest P G k g cap) (h8 : C8 W4 db 0 strX 0) (hdb : db < W4.heap.size) (hs : W4.heap[w.heap.size]? = some (.cells #[.string ⟨#[34,120,34]⟩] 9 (0,0))) (hdr : rg < db) (hrg : rg < w.heap.size) (hBw : B ≤ w.heap.size) (hB : B ≤ rg) : CFacts B w WF db :=
 have h9 : C8 WF db 0 strX 0:=h8.of_same (h.up4.keep db hdb (by simp; omega))
 ⟨⟨h9.c0,h9.c1,h9.c2,h9.c3,h9.c4,h9.c5,h9.c6,h9.c7⟩,ob_cell ((h.up4.keep _ (heap_lt hs) (by simp; omega)).trans hs) 0,h.up.below hBw (by simp; exact hB)⟩
theorem cfin_of {B : Nat} {w W4 WF w6 : World} {rg : Nat} {rest : List Nat} {P G : Value} {k : Int} {g cap : Nat} (h : CRes B w W4 WF rg rest P G k g cap) (hb : Below WF.heap.size WF w6) (hB : B ≤ rg) :
  RS B w6 rg rest P (.slice (some ⟨g,0,none⟩) 1 cap) G k∧C8 w6 g 0 strX 0∧w.heap.size ≤ g∧g < w6.heap.size∧1 ≤ cap∧cap ≤ maxLen∧Upd w w6 [rg] :=
 ⟨h.rs.upd (Upd.of_below hb []) hB (by simp),h.c8.keep hb h.hi,h.lo,Nat.lt_of_lt_of_le h.hi hb.size,h.c1,h.c2,h.up.trans (Upd.of_below hb [rg])⟩
theorem cconst_x (B rg : Nat) (rest : List Nat) (P G : Value) (k : Int) (w : World) (hr : RS B w rg (0 :: 0 :: 3 :: 34 :: 120 :: 34 :: rest) P (.slice none 0 0) G k) (hrest : 0 < rest.length) (hB : B ≤ rg) (hBw : B ≤ w.heap.size) (hu : UT w) (hm : MK w)
  (hP : ∀ W,Below B w W → Calls Tryz.prog 18 #[datA strX 0] W fun e w'=>e = .returned (.tuple #[.string ⟨#[34,120,34]⟩,.int .i64 0])∧Below W.heap.size W w') (hub : ∀ W,Below B w W → UT W) (hmb : ∀ W,Below B w W → MK W) :
  Calls Tryz.prog 46 #[.pointer (some ⟨rg,0,none⟩)] w fun e w'=>e = .returned (.bool true)∧∃ gb cap,RS B w' rg rest P (.slice (some ⟨gb,0,none⟩) 1 cap) G k∧C8 w' gb 0 strX 0∧w.heap.size ≤ gb∧gb < w'.heap.size∧1 ≤ cap∧cap ≤ maxLen∧Upd w w' [rg]:=by
 obtain ⟨W0,hW0⟩ : ∃ W0,w.alloc (.cells #[.string ⟨#[]⟩] 9 (0,0)) = W0:=⟨_,rfl⟩
 have hb0 : Below w.heap.size w W0:=by rw [← hW0]; exact (Below.refl _ w).alloc (Nat.le_refl _) _
 have ho : W0.heap[w.heap.size]? = some (.cells #[.string ⟨#[]⟩] 9 (0,0)):=by rw [← hW0]; unfold World.alloc; simp
 have hz : W0.heap.size = w.heap.size + 1:=by rw [← hW0]; simp
 have hrg : rg < w.heap.size:=by obtain ⟨_,_,_,h,_⟩:=hr; exact heap_lt h
 have T1:=Lib.hid (ctext_rs B rg w.heap.size 0 [34,120,34] rest P (.slice none 0 0) G k 20000 ⟨#[]⟩ W0 (hr.upd (Upd.of_below hb0 []) hB (by simp)) (by decide) (by decide) (by decide) hrest hB hBw (by omega) (by omega) (by rw [ob_cell ho]; rfl) (ob_free ho 0 (by simp)))
 have HW0:=Lib.hid hW0
 have HB0:=Lib.hid hb0
 have HO:=Lib.hid ho
 have HZ:=Lib.hid hz
 have HR:=Lib.hid hrg
 have HB:=Lib.hid hB
 have HPR:=Lib.hid hP
 have HUB:=Lib.hid hub
 have HMB:=Lib.hid hmb
 have HBW:=Lib.hid hBw
 obtain ⟨i0,hinf,hz0,hz1,hz2⟩:=info_partsB dat_infoB
 clear hW0 hb0 ho hz hr hrest hrg hB hu hm hP hub hmb hBw
 go_enter Tryz.func46,Tryz.ntmps46
 go_wp2_with (fail)
 rw [HW0.out]
 refine T1.out.mono ?_
 rintro e w1 ⟨rfl,hrs,hup,hpb⟩
 have hob : w1.heap[w.heap.size]? = some (.cells #[.string ⟨#[34,120,34]⟩] 9 (0,0)):=hpb.trans (sets_block [.string ⟨#[34,120,34]⟩] HO.out 0)
 have RS1:=Lib.hid hrs
 have UP1 : Hid (Upd w w1 [rg]):=Lib.hid (((Upd.of_below HB0.out [rg,w.heap.size]).trans hup).mono fun q hq hn=>by simp at hn ⊢; omega)
 have hbw1 : Below B w w1:=UP1.out.below HBW.out (by simp; exact HB.out)
 have t3 : w1.cell? ⟨w.heap.size,0,none⟩ = some (.string ⟨#[34,120,34]⟩):=ob_cell hob 0
 obtain ⟨W2,hW2⟩ : ∃ W2,Lib.bytesWorld w1 5 ⟨#[34,120,34]⟩ = W2:=⟨_,rfl⟩
 have hcv : (convert 9 45 (.string ⟨#[34,120,34]⟩)).run Tryz.prog w1 = .ok (.slice (some ⟨w1.heap.size,0,none⟩) 3 (grownCap w1 3 0 5)) W2:=by
  rw [← hW2]
  exact Lib.run_convert_string_bytes w1 9 45 5 ⟨#[34,120,34]⟩ Tryz.underlying9 Tryz.underlying45 Tryz.underlying5
 obtain ⟨c0,hc0⟩ : ∃ c0,grownCap w1 3 0 5 = c0:=⟨_,rfl⟩
 rw [hc0] at hcv
 have hb2 : Below w1.heap.size w1 W2:=by rw [← hW2]; exact Lib.bytesWorld_below _ _ _
 have hbw2 : Below B w W2:=hbw1.trans (hb2.mono (by have:=hbw1.size; have:=HBW.out; omega))
 have RD:=Lib.hid (rread_x w1.heap.size 0 c0 W2 (fun j hj=>by
  rw [Nat.zero_add,← hW2,Lib.bytesWorld_cell w1 5 ⟨#[34,120,34]⟩ j hj]
  rcases (by simp at hj; omega : j = 0 ∨ j = 1 ∨ j = 2) with rfl | rfl | rfl <;> rfl) (HUB.out W2 hbw2) (HMB.out W2 hbw2))
 have HOB:=Lib.hid hob
 have HB2:=Lib.hid hb2
 clear hrs hup hpb hob hW2 hc0 hb2 hbw2 hbw1
 go_wp2_with (fail)
 refine RD.out.mono ?_
 rintro e w3 ⟨db,dcap,rfl,hc8,hdb,hdl,hd1,hd2,hb3⟩
 obtain ⟨W4,hW4⟩ : ∃ W4,w3.alloc (.cells #[.int .i64 0,.int .i64 0] 113 (0,0)) = W4:=⟨_,rfl⟩
 have hb4 : Below w3.heap.size w3 W4:=by rw [← hW4]; exact (Below.refl _ w3).alloc (Nat.le_refl _) _
 have hb14 : Below w1.heap.size w1 W4:=bel_trans (B:=w1.heap.size) (bel_trans (B:=w1.heap.size) HB2.out hb3) hb4
 have hc84 : C8 W4 db 0 strX 0:=hc8.keep hb4 hdl
 have UP4 : Hid (Upd w W4 [rg]):=Lib.hid (UP1.out.trans (Upd.of_below hb14 [rg]))
 have RS4 : Hid (RS B W4 rg (rest) P (.slice none 0 0) G k):=Lib.hid (RS1.out.upd (Upd.of_below hb14 []) HB.out (by simp))
 have HOB4:=Lib.hid ((hb14.block _ (heap_lt HOB.out)).trans HOB.out)
 have HC8:=Lib.hid hc84
 have HDB:=Lib.hid (show db < W4.heap.size from Nat.lt_of_lt_of_le hdl hb4.size)
 have HDB2:=Lib.hid (show w1.heap.size ≤ db from Nat.le_trans HB2.out.size hdb)
 have HW4:=Lib.hid hW4
 clear hW4 hb4 hb14 hc84 hc8 hdb hdl hb3 t3 hcv
 go_wp2_with (fail)
 rw [HW4.out]
 obtain ⟨ib,o,c,h1⟩:=RS4.out.blk
 have H1:=Lib.hid h1
 have l2 : W4.cell? ⟨rg,2,none⟩ = some (.slice none 0 0):=ob_cell h1 2
 have f2:=ob_free h1 2 (by simp)
 have l2a : (W4.alloc (.cells #[.int .i64 0,.int .i64 0,.bool false,.float .f64 0,.bool false,.slice none 0 0,.string ⟨#[]⟩,.slice none 0 0] 44)).cell? ⟨rg,2,none⟩ = some (.slice none 0 0):=ob_cell ((Below.heap_alloc W4 _ _ (heap_lt h1)).trans h1) 2
 have y0 : W4.cell? ⟨db,0,none⟩ = some (.int .i64 3):=HC8.out.c0
 have y1 : W4.cell? ⟨db,1,none⟩ = some (.int .i64 0):=HC8.out.c1
 have y2 : W4.cell? ⟨db,2,none⟩ = some (.bool false):=HC8.out.c2
 have y3 : W4.cell? ⟨db,3,none⟩ = some (.float .f64 0):=HC8.out.c3
 have y4 : W4.cell? ⟨db,4,none⟩ = some (.bool false):=HC8.out.c4
 have y5 : W4.cell? ⟨db,5,none⟩ = some (.slice none 0 0):=HC8.out.c5
 have y6 : W4.cell? ⟨db,6,none⟩ = some (.string ⟨#[120]⟩):=HC8.out.c6
 have y7 : W4.cell? ⟨db,7,none⟩ = some (.slice none 0 0):=HC8.out.c7
 have hca : C8 (W4.alloc (.cells #[.int .i64 0,.int .i64 0,.bool false,.float .f64 0,.bool false,.slice none 0 0,.string ⟨#[]⟩,.slice none 0 0] 44)) db 0 strX 0:=HC8.out.of_same (Below.heap_alloc W4 _ _ HDB.out)
 have ya0 : (W4.alloc (.cells #[.int .i64 0,.int .i64 0,.bool false,.float .f64 0,.bool false,.slice none 0 0,.string ⟨#[]⟩,.slice none 0 0] 44)).cell? ⟨db,0,none⟩ = some (.int .i64 3):=hca.c0
 have ya1 : (W4.alloc (.cells #[.int .i64 0,.int .i64 0,.bool false,.float .f64 0,.bool false,.slice none 0 0,.string ⟨#[]⟩,.slice none 0 0] 44)).cell? ⟨db,1,none⟩ = some (.int .i64 0):=hca.c1
 have ya2 : (W4.alloc (.cells #[.int .i64 0,.int .i64 0,.bool false,.float .f64 0,.bool false,.slice none 0 0,.string ⟨#[]⟩,.slice none 0 0] 44)).cell? ⟨db,2,none⟩ = some (.bool false):=hca.c2
 have ya3 : (W4.alloc (.cells #[.int .i64 0,.int .i64 0,.bool false,.float .f64 0,.bool false,.slice none 0 0,.string ⟨#[]⟩,.slice none 0 0] 44)).cell? ⟨db,3,none⟩ = some (.float .f64 0):=hca.c3
 have ya4 : (W4.alloc (.cells #[.int .i64 0,.int .i64 0,.bool false,.float .f64 0,.bool false,.slice none 0 0,.string ⟨#[]⟩,.slice none 0 0] 44)).cell? ⟨db,4,none⟩ = some (.bool false):=hca.c4
 have ya5 : (W4.alloc (.cells #[.int .i64 0,.int .i64 0,.bool false,.float .f64 0,.bool false,.slice none 0 0,.string ⟨#[]⟩,.slice none 0 0] 44)).cell? ⟨db,5,none⟩ = some (.slice none 0 0):=hca.c5
 have ya6 : (W4.alloc (.cells #[.int .i64 0,.int .i64 0,.bool false,.float .f64 0,.bool false,.slice none 0 0,.string ⟨#[]⟩,.slice none 0 0] 44)).cell? ⟨db,6,none⟩ = some (.string ⟨#[120]⟩):=hca.c6
 have ya7 : (W4.alloc (.cells #[.int .i64 0,.int .i64 0,.bool false,.float .f64 0,.bool false,.slice none 0 0,.string ⟨#[]⟩,.slice none 0 0] 44)).cell? ⟨db,7,none⟩ = some (.slice none 0 0):=hca.c7
 clear h1 hca
 go_wp2_with (fail)
 go_region_law (refine step_append_grows rfl (.tmp 24) (.tmp 29) 25 rfl 44 i0 _ 8 104 Tryz.underlying25 hinf hz0 hz1 hz2 rfl (by decide) none 0 0 [] (by first | rfl | simp [Act.eval,Act.put]) (fun _=>⟨rfl,rfl⟩) rfl (fun b hb=>by cases hb) ⟨W4.heap.size,0,none⟩ 1 1 [.int .i64 0,.int .i64 0,.bool false,.float .f64 0,.bool false,.slice none 0 0,.string ⟨#[]⟩,.slice none 0 0] (by first | rfl | simp [Act.eval,Act.put]) rfl (fun j u hj=>by rw [Lib.add_plain,Nat.zero_add]; show (World.cell? (World.alloc W4 _) ⟨W4.heap.size,j,none⟩) = some u; rw [World.cell?_alloc_new]; simpa using hj) (by decide) (by decide) (by decide) (by decide) ?_; intro v' w' hown hgrow; obtain ⟨g,cap,cur,rfl,q1,q2,q3,q4,q5,q6⟩:=own_form hown (by decide); have hbk : ∀ k,k < W4.heap.size → w'.heap[k]? = W4.heap[k]?:=fun k hk=>(hgrow.block k (by simp; omega) (by simp)).trans (Below.heap_alloc W4 _ k hk); have hcb : C8 w' db 0 strX 0:=HC8.out.of_same (hbk _ HDB.out); have u0 : w'.cell? ⟨db,0,none⟩ = some (.int .i64 3):=hcb.c0; have u1 : w'.cell? ⟨db,1,none⟩ = some (.int .i64 0):=hcb.c1; have u2 : w'.cell? ⟨db,2,none⟩ = some (.bool false):=hcb.c2; have u3 : w'.cell? ⟨db,3,none⟩ = some (.float .f64 0):=hcb.c3; have u4 : w'.cell? ⟨db,4,none⟩ = some (.bool false):=hcb.c4; have u5 : w'.cell? ⟨db,5,none⟩ = some (.slice none 0 0):=hcb.c5; have u6 : w'.cell? ⟨db,6,none⟩ = some (.string ⟨#[120]⟩):=hcb.c6; have u7 : w'.cell? ⟨db,7,none⟩ = some (.slice none 0 0):=hcb.c7; have t0 : w'.cell? ⟨rg,2,none⟩ = some (.slice none 0 0):=ob_cell ((hbk _ (heap_lt H1.out)).trans H1.out) 2; have t1:=ob_free ((hbk _ (heap_lt H1.out)).trans H1.out) 2 (by simp); have z0 : w'.cell? ⟨g,0,none⟩ = some (.int .i64 0):=(ob_cell q2 0).trans (cur_at q6 (by decide)); have e0:=ob_free q2 0 (by rw [q5]; omega); have z1 : w'.cell? ⟨g,1,none⟩ = some (.int .i64 0):=(ob_cell q2 1).trans (cur_at q6 (by decide)); have e1:=ob_free q2 1 (by rw [q5]; omega); have z2 : w'.cell? ⟨g,2,none⟩ = some (.bool false):=(ob_cell q2 2).trans (cur_at q6 (by decide)); have e2:=ob_free q2 2 (by rw [q5]; omega); have z3 : w'.cell? ⟨g,3,none⟩ = some (.float .f64 0):=(ob_cell q2 3).trans (cur_at q6 (by decide)); have e3:=ob_free q2 3 (by rw [q5]; omega); have z4 : w'.cell? ⟨g,4,none⟩ = some (.bool false):=(ob_cell q2 4).trans (cur_at q6 (by decide)); have e4:=ob_free q2 4 (by rw [q5]; omega); have z5 : w'.cell? ⟨g,5,none⟩ = some (.slice none 0 0):=(ob_cell q2 5).trans (cur_at q6 (by decide)); have e5:=ob_free q2 5 (by rw [q5]; omega); have z6 : w'.cell? ⟨g,6,none⟩ = some (.string ⟨#[]⟩):=(ob_cell q2 6).trans (cur_at q6 (by decide)); have e6:=ob_free q2 6 (by rw [q5]; omega); have z7 : w'.cell? ⟨g,7,none⟩ = some (.slice none 0 0):=(ob_cell q2 7).trans (cur_at q6 (by decide)); have e7:=ob_free q2 7 (by rw [q5]; omega); have q1' : W4.heap.size + 1 ≤ g:=(by simpa using q1); have hn : ¬ (g = rg):=(by intro e; have:=heap_lt H1.out; omega); have hn' : ¬ (rg = g):=fun e=>hn e.symm; have hnd : ¬ (db = g):=(by intro e; have:=HDB.out; omega); have hnd' : ¬ (g = db):=fun e=>hnd e.symm; have KB:=Lib.hid (And.intro q1' (And.intro q2 (And.intro q3 (And.intro q4 (And.intro q5 (And.intro hbk hgrow)))))); clear q1 q1' q2 q3 q4 q5 q6 hbk hgrow hown hcb)
 all_goals
  have hz : C8 w' g 0 zeroHd 0:=⟨z0,z1,z2,z3,z4,z5,z6,z7⟩
  obtain ⟨q1',q2,q3,q4,q5,hbk,hgrow⟩:=KB.out
  obtain ⟨WA,hWA⟩ : ∃ WA,(set8z w' g strX 0).setCell ⟨rg,2,none⟩ (.slice (some ⟨g,0,none⟩) 1 cap) = WA:=⟨_,rfl⟩
  obtain ⟨WB,hWB⟩ : ∃ WB,set8z (w'.setCell ⟨rg,2,none⟩ (.slice (some ⟨g,0,none⟩) 1 cap)) g strX 0 = WB:=⟨_,rfl⟩
  obtain ⟨f1,f2,f3,f4,f5⟩:=add_fin (i:=2) (v:=.slice (some ⟨g,0,none⟩) 1 cap) strX 0 (Below.refl _ W4) (heap_lt H1.out) q1' (heap_lt q2) hz hbk hgrow.os hgrow.tape hgrow.output
  obtain ⟨g1,g2,g3,g4,g5⟩:=add_fin2 (i:=2) (v:=.slice (some ⟨g,0,none⟩) 1 cap) strX 0 (Below.refl _ W4) (heap_lt H1.out) q1' (heap_lt q2) hz hbk hgrow.os hgrow.tape hgrow.output
  have RA : Hid (CRes B w W4 WA rg rest P G k g cap):=Lib.hid (cres_of HB.out UP4.out RS4.out (by rw [← hWA]; exact f4) (by rw [← hWA]; exact f1) f2 (by rw [← hWA]; exact f3) q3 q4 fun ib o c h=>by
   rw [← hWA]
   exact sets_block [.slice (some ⟨g,0,none⟩) 1 cap] (f5.trans ((hbk _ (heap_lt h)).trans h)) 2)
  have RB : Hid (CRes B w W4 WB rg rest P G k g cap):=Lib.hid (cres_of HB.out UP4.out RS4.out (by rw [← hWB]; exact g4) (by rw [← hWB]; exact g1) g2 (by rw [← hWB]; exact g3) q3 q4 fun ib o c h=>by
   rw [← hWB]
   exact g5.trans (sets_block [.slice (some ⟨g,0,none⟩) 1 cap] ((hbk _ (heap_lt h)).trans h) 2))
  dsimp only [set8z,strX,List.length_nil] at hWA hWB
  have e1 : ((⟨#[34,120,34]⟩ : ByteArray).toList == (⟨#[34,120,34]⟩ : ByteArray).toList) = true:=by simp
  clear f1 f2 f3 f4 f5 g1 g2 g3 g4 g5 q1' q2 q3 q4 q5 hbk hgrow hz z0 e0 u0 y0 ya0 z1 u1 y1 ya1 z2 e2 u2 y2 ya2 z3 e3 u3 y3 ya3 z4 e4 u4 y4 ya4 z5 e5 u5 y5 ya5 z6 e6 u6 y6 ya6 z7 e7 u7 y7 ya7 t0 t1 hn hn' hnd hnd' l2 l2a
  have FIN : Hid (∀ WF,CRes B w W4 WF rg rest P G k g cap → CFacts B w WF db):=Lib.hid fun WF h=>cfacts_of h HC8.out HDB.out HOB4.out (by have:=HDB2.out; have:=heap_lt HOB.out; have:=HR.out; have:=UP1.out.size; omega) HR.out HBW.out HB.out
  first
   | (rw [hWA]; have RF:=RA; clear RA RB hWA hWB)
   | (rw [hWB]; have RF:=RB; clear RA RB hWA hWB)
  obtain ⟨⟨y0,y1,y2,y3,y4,y5,y6,y7⟩,hst,hbf⟩:=FIN.out _ RF.out
  have P1:=Lib.hid (HPR.out _ hbf)
  have HST:=Lib.hid hst
  clear hbf FIN
  go_wp2_with (fail)
  refine P1.out.mono ?_
  rintro e w6 ⟨rfl,hb6⟩
  have st6 : w6.cell? ⟨w.heap.size,0,none⟩ = some (.string ⟨#[34,120,34]⟩):=(hb6.cell (p:=⟨w.heap.size,0,none⟩) (World.block_lt_of_cell? _ _ HST.out)).trans HST.out
  have FF:=Lib.hid (cfin_of RF.out hb6 HB.out)
  clear hb6 hst y0 y1 y2 y3 y4 y5 y6 y7
  go_wp2_with (fail)
  go_ret
  exact ⟨by first | rfl | simp,g,cap,FF.out⟩
end LM
namespace LM
attribute [local go_sem] run_store_flt
abbrev xPr : List Nat:=[0,0,1,0,0,4,109,97,105,110,0,0,0,0,0,0,0,0,0,0,0,1,0,0,0,0,0,2,0,0,0,0,0,0,0,0,0,0,0,15,0,0,0,0,0,0]
abbrev xGl : List Nat:=[0,0,1,0,0,1,103] ++ xPr
abbrev xAll : List Nat:=[0,0,1,0,0,3,34,120,34] ++ xGl
abbrev xIs : List (Nat × Nat × Nat):=[(0,0,0),(15,0,0)]
structure StC (W : World) (lo rg : Nat) (cb cc : Nat) : Prop where
 c8 : C8 W cb 0 strX 0
 lo : lo ≤ cb
 hi : cb < W.heap.size
 c1 : 1 ≤ cc
 c2 : cc ≤ maxLen
 ne : cb ≠ rg
theorem StC.upd {W W' : World} {lo rg cb cc : Nat} (h : StC W lo rg cb cc) (hu : Upd W W' [rg]) : StC W' lo rg cb cc :=
 ⟨h.c8.of_same (hu.keep cb h.hi (by simp; exact h.ne)),h.lo,Nat.lt_of_lt_of_le h.hi hu.size,h.c1,h.c2,h.ne⟩
structure StG (W : World) (lo rg : Nat) (gb gc : Nat) : Prop where
 c : W.cell? ⟨gb,0,none⟩ = some (.string (bytesOf [103]))
 lo : lo ≤ gb
 hi : gb < W.heap.size
 c1 : 1 ≤ gc
 c2 : gc ≤ maxLen
 ne : gb ≠ rg
theorem StG.upd {W W' : World} {lo rg gb gc : Nat} (h : StG W lo rg gb gc) (hu : Upd W W' [rg]) : StG W' lo rg gb gc :=
 ⟨(hu.cell h.hi (by simp; exact h.ne)).trans h.c,h.lo,Nat.lt_of_lt_of_le h.hi hu.size,h.c1,h.c2,h.ne⟩
structure StP (W : World) (lo : Nat) (pb pc : Nat) (cur : Array Value) (v : Value) : Prop where
 p : W.heap[pb]? = some (.cells cur 36 (0,0))
 f : cur[0]? = some (.string (bytesOf [109,97,105,110]))∧cur[1]? = some (.int .i64 0)∧cur[2]? = some (.bool false)∧cur[3]? = some (.int .i64 0)∧cur[4]? = some (.int .i64 1)∧cur[5]? = some (.int .i64 0)∧cur[6]? = some v
 own : W.ownsRow (pb + 1) 23 3 v 2 (insC xIs)
 lo : lo ≤ pb
 c1 : 1 ≤ pc
 c2 : pc ≤ maxLen
theorem xconsts (B rg : Nat) (w W1 W : World) (hr : RS B W rg xAll (.slice none 0 0) (.slice none 0 0) (.slice none 0 0) 0) (hB : B ≤ rg) (hBw : B ≤ W1.heap.size) (hu : Upd W1 W [rg]) (hrg : rg < W1.heap.size)
  (hP : ∀ V,Below B W1 V → UT V∧MK V∧Calls Tryz.prog 18 #[datA strX 0] V fun e w'=>e = .returned (.tuple #[.string ⟨#[34,120,34]⟩,.int .i64 0])∧Below V.heap.size V w') :
  Calls Tryz.prog 21 #[.pointer (some ⟨rg,0,none⟩)] W fun e w'=>e = .returned (.bool true)∧∃ cb cc,RS B w' rg xGl (.slice none 0 0) (.slice (some ⟨cb,0,none⟩) 1 cc) (.slice none 0 0) 0∧StC w' W1.heap.size rg cb cc∧Upd W1 w' [rg]:=by
 refine cconsts_by rg _ W ?_
 have hBW : B ≤ W.heap.size:=Nat.le_trans hBw hu.size
 refine clist_const B rg 1 _ _ _ _ 0 4000 (fun i V=>(i = 0∧RS B V rg ([0,0,3,34,120,34] ++ xGl) (.slice none 0 0) (.slice none 0 0) (.slice none 0 0) 0∧Upd W1 V [rg]) ∨ (i = 1∧∃ cb cc,RS B V rg xGl (.slice none 0 0) (.slice (some ⟨cb,0,none⟩) 1 cc) (.slice none 0 0) 0∧StC V W1.heap.size rg cb cc∧Upd W1 V [rg])) W hr (by decide) (by decide) hB hBW (fun w' r u=>.inl ⟨rfl,r,hu.trans u⟩) (fun i V hi h=>?_) |>.mono ?_
 ·rcases h with ⟨rfl,r,u⟩ | ⟨rfl,_⟩
  ·have hbv : Below B W1 V:=u.below hBw (by simp; exact hB)
   refine (cconst_x B rg xGl _ _ 0 V r (by decide) hB (Nat.le_trans hBw u.size) (hP V hbv).1 (hP V hbv).2.1 (fun V2 h2=>(hP V2 (hbv.trans h2)).2.2) (fun V2 h2=>(hP V2 (hbv.trans h2)).1) (fun V2 h2=>(hP V2 (hbv.trans h2)).2.1)).mono ?_
   rintro e w' ⟨rfl,gb,cap,r',c8,lo,hi',c1,c2,u'⟩
   have hlo:=Nat.le_trans u.size lo
   exact ⟨rfl,.inr ⟨rfl,gb,cap,r',⟨c8,hlo,hi',c1,c2,by omega⟩,u.trans u'⟩⟩
  ·omega
 ·rintro e w' ⟨rfl,h⟩
  rcases h with ⟨h,_⟩ | ⟨_,h⟩
  ·omega
  ·exact ⟨rfl,h⟩
theorem xglobals (B rg : Nat) (W1 W : World) (cb cc : Nat) (hr : RS B W rg xGl (.slice none 0 0) (.slice (some ⟨cb,0,none⟩) 1 cc) (.slice none 0 0) 0) (hc : StC W W1.heap.size rg cb cc) (hB : B ≤ rg) (hBw : B ≤ W1.heap.size) (hu : Upd W1 W [rg]) (hrg : rg < W1.heap.size) :
  Calls Tryz.prog 22 #[.pointer (some ⟨rg,0,none⟩)] W fun e w'=>e = .returned (.bool true)∧∃ gb gc,RS B w' rg xPr (.slice none 0 0) (.slice (some ⟨cb,0,none⟩) 1 cc) (.slice (some ⟨gb,0,none⟩) 1 gc) 0∧StC w' W1.heap.size rg cb cc∧StG w' W1.heap.size rg gb gc∧Upd W1 w' [rg]:=by
 refine cglobals_by rg _ W ?_
 refine clist_glob B rg 1 _ _ _ _ 0 4000 (fun i V=>(i = 0∧RS B V rg ([0,0,1,103] ++ xPr) (.slice none 0 0) (.slice (some ⟨cb,0,none⟩) 1 cc) (.slice none 0 0) 0∧StC V W1.heap.size rg cb cc∧Upd W1 V [rg]) ∨ (i = 1∧∃ gb gc,RS B V rg xPr (.slice none 0 0) (.slice (some ⟨cb,0,none⟩) 1 cc) (.slice (some ⟨gb,0,none⟩) 1 gc) 0∧StC V W1.heap.size rg cb cc∧StG V W1.heap.size rg gb gc∧Upd W1 V [rg])) W hr (by decide) (by decide) hB (Nat.le_trans hBw hu.size) (fun w' r u=>.inl ⟨rfl,r,hc.upd u,hu.trans u⟩) (fun i V hi h=>?_) |>.mono ?_
 ·rcases h with ⟨rfl,r,c,u⟩ | ⟨rfl,_⟩
  ·refine (cglobal_any B rg [103] xPr _ _ 0 V r (by decide) (by decide) (by decide) hB (Nat.le_trans hBw u.size)).mono ?_
   rintro e w' ⟨rfl,gb,cap,r',cl,lo,hi',c1,c2,u'⟩
   have hlo:=Nat.le_trans u.size lo
   exact ⟨rfl,.inr ⟨rfl,gb,cap,r',c.upd u',⟨cl,hlo,hi',c1,c2,by omega⟩,u.trans u'⟩⟩
  ·omega
 ·rintro e w' ⟨rfl,h⟩
  rcases h with ⟨h,_⟩ | ⟨_,h⟩
  ·omega
  ·exact ⟨rfl,h⟩
theorem xprocs (B rg : Nat) (W1 W : World) (cb cc gb gc : Nat) (hr : RS B W rg xPr (.slice none 0 0) (.slice (some ⟨cb,0,none⟩) 1 cc) (.slice (some ⟨gb,0,none⟩) 1 gc) 0) (hc : StC W W1.heap.size rg cb cc) (hg : StG W W1.heap.size rg gb gc) (hB : B ≤ rg) (hBw : B ≤ W1.heap.size) (hu : Upd W1 W [rg]) (hrg : rg < W1.heap.size) :
  Calls Tryz.prog 23 #[.pointer (some ⟨rg,0,none⟩)] W fun e w'=>e = .returned (.bool true)∧∃ pb pc cur v,RS B w' rg [] (.slice (some ⟨pb,0,none⟩) 1 pc) (.slice (some ⟨cb,0,none⟩) 1 cc) (.slice (some ⟨gb,0,none⟩) 1 gc) 2∧StC w' W1.heap.size rg cb cc∧StG w' W1.heap.size rg gb gc∧StP w' W1.heap.size pb pc cur v∧Upd W1 w' [rg]:=by
 refine cprocs_by rg _ W ?_
 refine clist_proc B rg 1 _ _ _ _ 0 4000 (fun i V=>(i = 0∧RS B V rg ([0,0,4,109,97,105,110,0,0,0,0,0,0,0,0,0,0,0,1,0,0,0,0,0,2,0,0,0,0,0,0,0,0,0,0,0,15,0,0,0,0,0,0]) (.slice none 0 0) (.slice (some ⟨cb,0,none⟩) 1 cc) (.slice (some ⟨gb,0,none⟩) 1 gc) 0∧StC V W1.heap.size rg cb cc∧StG V W1.heap.size rg gb gc∧Upd W1 V [rg]) ∨ (i = 1∧∃ pb pc cur v,RS B V rg [] (.slice (some ⟨pb,0,none⟩) 1 pc) (.slice (some ⟨cb,0,none⟩) 1 cc) (.slice (some ⟨gb,0,none⟩) 1 gc) 2∧StC V W1.heap.size rg cb cc∧StG V W1.heap.size rg gb gc∧StP V W1.heap.size pb pc cur v∧Upd W1 V [rg])) W hr (by decide) (by decide) hB (Nat.le_trans hBw hu.size) (fun w' r u=>.inl ⟨rfl,r,hc.upd u,hg.upd u,hu.trans u⟩) (fun i V hi h=>?_) |>.mono ?_
 ·rcases h with ⟨rfl,r,c,g,u⟩ | ⟨rfl,_⟩
  ·refine (cproc_rs B rg 0 0 1 0 (by decide) (by decide) (by decide) (by decide) [109,97,105,110] (by decide) (by decide) xIs (by decide) (by decide) [] _ _ V r hB (Nat.le_trans hBw u.size)).mono ?_
   rintro e w' ⟨rfl,pb,cap,cur,v,r',hp,hf,how,lo,c1,c2,u'⟩
   exact ⟨rfl,.inr ⟨rfl,pb,cap,cur,v,r',c.upd u',g.upd u',⟨hp,hf,how,Nat.le_trans u.size lo,c1,c2⟩,u.trans u'⟩⟩
  ·omega
 ·rintro e w' ⟨rfl,h⟩
  rcases h with ⟨h,_⟩ | ⟨_,h⟩
  ·omega
  ·exact ⟨rfl,h⟩
end LM
namespace LM
attribute [local go_sem] run_store_flt
abbrev fnsO : Obj:=.cells #[.func (.func 21) #[] #[],.func (.func 22) #[] #[],.func (.func 23) #[] #[],.func (.func 24) #[] #[]] 67 (0,0)
def StR (B rg : Nat) (W1 W : World) (j : Nat) : Prop :=
 (j = 0∧RS B W rg xAll (.slice none 0 0) (.slice none 0 0) (.slice none 0 0) 0∧Upd W1 W [rg]) ∨
 (j = 1∧∃ cb cc,RS B W rg xGl (.slice none 0 0) (.slice (some ⟨cb,0,none⟩) 1 cc) (.slice none 0 0) 0∧StC W W1.heap.size rg cb cc∧Upd W1 W [rg]) ∨
 (j = 2∧∃ cb cc gb gc,RS B W rg xPr (.slice none 0 0) (.slice (some ⟨cb,0,none⟩) 1 cc) (.slice (some ⟨gb,0,none⟩) 1 gc) 0∧StC W W1.heap.size rg cb cc∧StG W W1.heap.size rg gb gc∧Upd W1 W [rg]) ∨
 ((j = 3 ∨ j = 4)∧∃ cb cc gb gc pb pc cur v,RS B W rg [] (.slice (some ⟨pb,0,none⟩) 1 pc) (.slice (some ⟨cb,0,none⟩) 1 cc) (.slice (some ⟨gb,0,none⟩) 1 gc) 2∧StC W W1.heap.size rg cb cc∧StG W W1.heap.size rg gb gc∧StP W W1.heap.size pb pc cur v∧Upd W1 W [rg])
theorem StR.up {B rg : Nat} {W1 W : World} {j : Nat} (h : StR B rg W1 W j) : Upd W1 W [rg]:=by
 rcases h with ⟨_,_,u⟩ | ⟨_,_,_,_,_,u⟩ | ⟨_,_,_,_,_,_,_,_,u⟩ | ⟨_,_,_,_,_,_,_,_,_,_,_,_,_,u⟩ <;> exact u
def RdR (w : World) (e : Ending) (w' : World) : Prop:=∃ lo rg cb cc gb gc pb pc cur v,e = .returned (.tuple #[.agg #[.slice (some ⟨pb,0,none⟩) 1 pc,.slice (some ⟨cb,0,none⟩) 1 cc,.slice (some ⟨gb,0,none⟩) 1 gc],.int .i64 0])∧StC w' lo rg cb cc∧StG w' lo rg gb gc∧StP w' lo pb pc cur v∧w.heap.size ≤ lo∧Below w.heap.size w w'
theorem cread_x (ib o c : Nat) (w : World) (hib : ib < w.heap.size) (hc : xAll.length ≤ c) (hc2 : c ≤ 9223372036854775807) (hcl : ∀ j v,xAll[j]? = some v → w.cell? ⟨ib,o + j,none⟩ = some (.int .u8 ((v : Nat) : Int)))
  (hP : ∀ V,Below w.heap.size w V → UT V∧MK V∧Calls Tryz.prog 18 #[datA strX 0] V fun e w'=>e = .returned (.tuple #[.string ⟨#[34,120,34]⟩,.int .i64 0])∧Below V.heap.size V w') :
  Calls Tryz.prog 10 #[.slice (some ⟨ib,o,none⟩) 62 c] w fun e w'=>RdR w e w':=by
 obtain ⟨W0,hW0⟩ : ∃ W0,w.alloc (.cells #[.slice none 0 0,.slice none 0 0,.slice none 0 0] 28 (0,0)) = W0:=⟨_,rfl⟩
 obtain ⟨W1,hW1⟩ : ∃ W1,W0.alloc (rdO ib o 62 c (.slice none 0 0) (.slice none 0 0) (.slice none 0 0) 0) = W1:=⟨_,rfl⟩
 obtain ⟨W2,hW2⟩ : ∃ W2,W1.alloc fnsO = W2:=⟨_,rfl⟩
 have s0 : W0.heap.size = w.heap.size + 1:=by rw [← hW0]; simp
 have s1 : W1.heap.size = w.heap.size + 2:=by rw [← hW1]; simp; omega
 have s2 : W2.heap.size = w.heap.size + 3:=by rw [← hW2]; simp; omega
 have b0 : Below w.heap.size w W0:=by rw [← hW0]; exact (Below.refl _ w).alloc (Nat.le_refl _) _
 have b1 : Below W0.heap.size W0 W1:=by rw [← hW1]; exact (Below.refl _ W0).alloc (Nat.le_refl _) _
 have b2 : Below W1.heap.size W1 W2:=by rw [← hW2]; exact (Below.refl _ W1).alloc (Nat.le_refl _) _
 have o0 : W0.heap[w.heap.size]? = some (.cells #[.slice none 0 0,.slice none 0 0,.slice none 0 0] 28 (0,0)):=by rw [← hW0]; unfold World.alloc; simp
 have o1 : W1.heap[w.heap.size + 1]? = some (rdO ib o 62 c (.slice none 0 0) (.slice none 0 0) (.slice none 0 0) 0):=by rw [← hW1,← s0]; unfold World.alloc; simp
 have o2 : W2.heap[w.heap.size + 2]? = some fnsO:=by rw [← hW2,← s1]; unfold World.alloc; simp
 have o02 : W2.heap[w.heap.size]? = some (.cells #[.slice none 0 0,.slice none 0 0,.slice none 0 0] 28 (0,0)):=(b2.block _ (by omega)).trans ((b1.block _ (by omega)).trans o0)
 have o12 : W2.heap[w.heap.size + 1]? = some (rdO ib o 62 c (.slice none 0 0) (.slice none 0 0) (.slice none 0 0) 0):=(b2.block _ (by omega)).trans o1
 have hb2 : Below w.heap.size w W2:=bel_trans (B:=w.heap.size) (bel_trans (B:=w.heap.size) b0 b1) b2
 have rs : RS w.heap.size W2 (w.heap.size + 1) xAll (.slice none 0 0) (.slice none 0 0) (.slice none 0 0) 0:=⟨ib,o,c,o12,hc,hc2,hib,fun j v hj=>(hb2.cell (p:=⟨ib,o + j,none⟩) hib).trans (hcl j v hj)⟩
 have hP2 : ∀ V,Below w.heap.size W2 V → UT V∧MK V∧Calls Tryz.prog 18 #[datA strX 0] V fun e w'=>e = .returned (.tuple #[.string ⟨#[34,120,34]⟩,.int .i64 0])∧Below V.heap.size V w':=fun V hV=>hP V (hb2.trans hV)
 have X0:=Lib.hid fun (W : World) (h : StR w.heap.size (w.heap.size + 1) W2 W 0)=>show Calls Tryz.prog 21 #[.pointer (some ⟨w.heap.size + 1,0,none⟩)] W fun e w'=>e = .returned (.bool true)∧StR w.heap.size (w.heap.size + 1) W2 w' 1 by
  obtain ⟨r,u⟩ : RS w.heap.size W (w.heap.size + 1) xAll (.slice none 0 0) (.slice none 0 0) (.slice none 0 0) 0∧Upd W2 W [w.heap.size + 1]:=by rcases h with ⟨_,h⟩ | ⟨h,_⟩ | ⟨h,_⟩ | ⟨h | h,_⟩ <;> first | exact h | omega
  exact (xconsts w.heap.size (w.heap.size + 1) w W2 W r (by omega) (by omega) u (by omega) hP2).mono fun e w' ⟨he,h⟩=>⟨he,.inr (.inl ⟨rfl,h⟩)⟩
 have X1:=Lib.hid fun (W : World) (h : StR w.heap.size (w.heap.size + 1) W2 W 1)=>show Calls Tryz.prog 22 #[.pointer (some ⟨w.heap.size + 1,0,none⟩)] W fun e w'=>e = .returned (.bool true)∧StR w.heap.size (w.heap.size + 1) W2 w' 2 by
  rcases h with ⟨h,_⟩ | ⟨_,cb,cc,r,c,u⟩ | ⟨h,_⟩ | ⟨h | h,_⟩
  ·omega
  ·exact (xglobals w.heap.size (w.heap.size + 1) W2 W cb cc r c (by omega) (by omega) u (by omega)).mono fun e w' ⟨he,gb,gc,h⟩=>⟨he,.inr (.inr (.inl ⟨rfl,cb,cc,gb,gc,h⟩))⟩
  all_goals omega
 have X2:=Lib.hid fun (W : World) (h : StR w.heap.size (w.heap.size + 1) W2 W 2)=>show Calls Tryz.prog 23 #[.pointer (some ⟨w.heap.size + 1,0,none⟩)] W fun e w'=>e = .returned (.bool true)∧StR w.heap.size (w.heap.size + 1) W2 w' 3 by
  rcases h with ⟨h,_⟩ | ⟨h,_⟩ | ⟨_,cb,cc,gb,gc,r,c,g,u⟩ | ⟨h | h,_⟩
  ·omega
  ·omega
  ·exact (xprocs w.heap.size (w.heap.size + 1) W2 W cb cc gb gc r c g (by omega) (by omega) u (by omega)).mono fun e w' ⟨he,pb,pc,cur,v,h⟩=>⟨he,.inr (.inr (.inr ⟨.inl rfl,cb,cc,gb,gc,pb,pc,cur,v,h⟩))⟩
  all_goals omega
 have X3:=Lib.hid fun (W : World) (h : StR w.heap.size (w.heap.size + 1) W2 W 3)=>show Calls Tryz.prog 24 #[.pointer (some ⟨w.heap.size + 1,0,none⟩)] W fun e w'=>e = .returned (.bool true)∧StR w.heap.size (w.heap.size + 1) W2 w' 4 by
  rcases h with ⟨h,_⟩ | ⟨h,_⟩ | ⟨h,_⟩ | ⟨_,cb,cc,gb,gc,pb,pc,cur,v,r,h⟩
  ·omega
  ·omega
  ·omega
  ·exact (cend_any _ _ _ _ _ _ W r).mono fun e w' ⟨he,hw⟩=>⟨he,by rw [← hw]; exact .inr (.inr (.inr ⟨.inr rfl,cb,cc,gb,gc,pb,pc,cur,v,r,h⟩))⟩
 have HW0:=Lib.hid hW0
 have HW1:=Lib.hid hW1
 have HW2:=Lib.hid hW2
 have HS:=Lib.hid (And.intro s0 (And.intro s1 s2))
 have HB2:=Lib.hid hb2
 have HO2:=Lib.hid o2
 have HO02:=Lib.hid o02
 have HRS:=Lib.hid rs
 clear hW0 hW1 hW2 s0 s1 s2 b0 b1 b2 o0 o1 o2 o02 o12 hb2 rs hP hP2 hib hc hc2 hcl
 go_enter Tryz.func10,Tryz.ntmps10
 go_wp2_with (fail)
 rw [HW0.out,HW1.out,HW2.out]
 go_loopg [11] 4 (fun kk i wr=>∃ j : Nat,j ≤ 4∧kk = 4 - j∧i = .int .i64 (j : Int)∧StR w.heap.size (w.heap.size + 1) W2 wr j)
 case atStart=>exact ⟨0,by omega,rfl,rfl,.inl ⟨rfl,HRS.out,Upd.refl _ _⟩⟩
 case round =>
  obtain ⟨j,hj,rfl,rfl,hst⟩:=hrel
  have hfn : wr.heap[w.heap.size + 2]? = some fnsO:=(hst.up.keep _ (heap_lt HO2.out) (by simp)).trans HO2.out
  rcases (by omega : j = 0 ∨ j = 1 ∨ j = 2 ∨ j = 3 ∨ j = 4) with rfl | rfl | rfl | rfl | rfl
  ·have C0:=Lib.hid (X0.out wr hst)
   have y0 : wr.cell? ⟨w.heap.size + 2,0,none⟩ = some (.func (.func 21) #[] #[]):=ob_cell hfn 0
   clear hst hfn
   go_wp2_with (fail)
   refine C0.out.mono ?_
   rintro e w3 ⟨rfl,h3⟩
   have H3:=Lib.hid h3
   clear h3 y0
   go_wp2_with (fail)
   go_roundg (4 - (0 + 1))
   case measure=>omega
   case rel=>exact ⟨0 + 1,by omega,rfl,by go_num,H3.out⟩
  ·have C1:=Lib.hid (X1.out wr hst)
   have y0 : wr.cell? ⟨w.heap.size + 2,1,none⟩ = some (.func (.func 22) #[] #[]):=ob_cell hfn 1
   clear hst hfn
   go_wp2_with (fail)
   refine C1.out.mono ?_
   rintro e w3 ⟨rfl,h3⟩
   have H3:=Lib.hid h3
   clear h3 y0
   go_wp2_with (fail)
   go_roundg (4 - (1 + 1))
   case measure=>omega
   case rel=>exact ⟨1 + 1,by omega,rfl,by go_num,H3.out⟩
  ·have C2:=Lib.hid (X2.out wr hst)
   have y0 : wr.cell? ⟨w.heap.size + 2,2,none⟩ = some (.func (.func 23) #[] #[]):=ob_cell hfn 2
   clear hst hfn
   go_wp2_with (fail)
   refine C2.out.mono ?_
   rintro e w3 ⟨rfl,h3⟩
   have H3:=Lib.hid h3
   clear h3 y0
   go_wp2_with (fail)
   go_roundg (4 - (2 + 1))
   case measure=>omega
   case rel=>exact ⟨2 + 1,by omega,rfl,by go_num,H3.out⟩
  ·have C3:=Lib.hid (X3.out wr hst)
   have y0 : wr.cell? ⟨w.heap.size + 2,3,none⟩ = some (.func (.func 24) #[] #[]):=ob_cell hfn 3
   clear hst hfn
   go_wp2_with (fail)
   refine C3.out.mono ?_
   rintro e w3 ⟨rfl,h3⟩
   have H3:=Lib.hid h3
   clear h3 y0
   go_wp2_with (fail)
   go_roundg (4 - (3 + 1))
   case measure=>omega
   case rel=>exact ⟨3 + 1,by omega,rfl,by go_num,H3.out⟩
  ·clear hfn
   have hof : wr.heap[w.heap.size]? = some (.cells #[.slice none 0 0,.slice none 0 0,.slice none 0 0] 28 (0,0)):=(hst.up.keep _ (heap_lt HO02.out) (by simp)).trans HO02.out
   rcases hst with ⟨h,_⟩ | ⟨h,_⟩ | ⟨h,_⟩ | ⟨_,cb,cc,gb,gc,pb,pc,cur,v,r,sc,sg,sp,u⟩
   ·omega
   ·omega
   ·omega
   obtain ⟨ib',o',c',hr⟩:=r.blk
   have r1 : wr.cell? ⟨w.heap.size + 1,1,none⟩ = some (.slice (some ⟨pb,0,none⟩) 1 pc):=ob_cell hr 1
   have r2 : wr.cell? ⟨w.heap.size + 1,2,none⟩ = some (.slice (some ⟨cb,0,none⟩) 1 cc):=ob_cell hr 2
   have r3 : wr.cell? ⟨w.heap.size + 1,3,none⟩ = some (.slice (some ⟨gb,0,none⟩) 1 gc):=ob_cell hr 3
   have z0 : wr.cell? ⟨w.heap.size,0,none⟩ = some (.slice none 0 0):=ob_cell hof 0
   have z1 : wr.cell? ⟨w.heap.size,1,none⟩ = some (.slice none 0 0):=ob_cell hof 1
   have z2 : wr.cell? ⟨w.heap.size,2,none⟩ = some (.slice none 0 0):=ob_cell hof 2
   have e0:=ob_free hof 0 (by simp)
   have e1:=ob_free hof 1 (by simp)
   have e2:=ob_free hof 2 (by simp)
   obtain ⟨WF,hWF⟩ : ∃ WF,((wr.setCell ⟨w.heap.size,0,none⟩ (.slice (some ⟨pb,0,none⟩) 1 pc)).setCell ⟨w.heap.size,1,none⟩ (.slice (some ⟨cb,0,none⟩) 1 cc)).setCell ⟨w.heap.size,2,none⟩ (.slice (some ⟨gb,0,none⟩) 1 gc) = WF:=⟨_,rfl⟩
   have hbr : Below w.heap.size w wr:=HB2.out.trans (u.below (by have:=HS.out; omega) (by simp))
   have hbF : Below w.heap.size w WF:=by rw [← hWF]; exact ((hbr.setCell (Nat.le_refl _) _).setCell (Nat.le_refl _) _).setCell (Nat.le_refl _) _
   have hBr : Below 0 wr WF:=by rw [← hWF]; exact (((Below.refl 0 wr).setCell (Nat.zero_le _) _).setCell (Nat.zero_le _) _).setCell (Nat.zero_le _) _
   have hoF : WF.heap[w.heap.size]? = some (.cells #[.slice (some ⟨pb,0,none⟩) 1 pc,.slice (some ⟨cb,0,none⟩) 1 cc,.slice (some ⟨gb,0,none⟩) 1 gc] 28 (0,0)):=by rw [← hWF]; exact sets_block [.slice (some ⟨pb,0,none⟩) 1 pc,.slice (some ⟨cb,0,none⟩) 1 cc,.slice (some ⟨gb,0,none⟩) 1 gc] hof 0
   have hsF : WF.heap.size = wr.heap.size:=by rw [← hWF,World.size_setCell,World.size_setCell,World.size_setCell]
   have hkF : ∀ q,q ≠ w.heap.size → WF.heap[q]? = wr.heap[q]?:=fun q hq=>by rw [← hWF,heap_setCell_other _ (⟨w.heap.size,2,none⟩ : Addr) _ _ hq,heap_setCell_other _ (⟨w.heap.size,1,none⟩ : Addr) _ _ hq,heap_setCell_other _ (⟨w.heap.size,0,none⟩ : Addr) _ _ hq]
   have uF : Upd wr WF [w.heap.size]:=⟨hBr.os,hBr.tape,hBr.output,by omega,fun q _ hn=>hkF q (by simpa using hn)⟩
   have hs2:=HS.out.2.2
   have l1:=sc.lo
   have l2:=sg.lo
   have l3:=sp.lo
   have FF:=Lib.hid (show StC WF W2.heap.size (w.heap.size + 1) cb cc∧StG WF W2.heap.size (w.heap.size + 1) gb gc∧StP WF W2.heap.size pb pc cur v∧w.heap.size ≤ W2.heap.size∧Below w.heap.size w WF from
    ⟨⟨sc.c8.of_same (hkF cb (by omega)),sc.lo,by rw [hsF]; exact sc.hi,sc.c1,sc.c2,sc.ne⟩,⟨(World.cell?_of_block (a:=⟨gb,0,none⟩) (hkF gb (by omega))).trans sg.c,sg.lo,by rw [hsF]; exact sg.hi,sg.c1,sg.c2,sg.ne⟩,⟨(hkF pb (by omega)).trans sp.p,sp.f,own_upd sp.own uF (by simp; omega),sp.lo,sp.c1,sp.c2⟩,by omega,hbF⟩)
   have q0 : WF.cell? ⟨w.heap.size,0,none⟩ = some (.slice (some ⟨pb,0,none⟩) 1 pc):=ob_cell hoF 0
   have q1 : WF.cell? ⟨w.heap.size,1,none⟩ = some (.slice (some ⟨cb,0,none⟩) 1 cc):=ob_cell hoF 1
   have q2 : WF.cell? ⟨w.heap.size,2,none⟩ = some (.slice (some ⟨gb,0,none⟩) 1 gc):=ob_cell hoF 2
   have HWF:=Lib.hid hWF
   clear hWF hbr hbF hBr hoF hsF hkF uF hs2 l1 l2 l3 r sc sg sp u hr hof
   go_wp2_with (fail)
   rw [HWF.out]
   refine bodyPost_ret (v:=.tuple #[.agg #[.slice (some ⟨pb,0,none⟩) 1 pc,.slice (some ⟨cb,0,none⟩) 1 cc,.slice (some ⟨gb,0,none⟩) 1 gc],.int .i64 0]) (by simp [results,Tryz.results10,go_sem,q0,q1,q2]) rfl ?_
   exact ⟨W2.heap.size,w.heap.size + 1,cb,cc,gb,gc,pb,pc,cur,v,rfl,FF.out⟩
end LM
namespace LM
attribute [local go_sem] run_store_flt
theorem ceffect_call (P C G : Value) (w : World) : Calls Tryz.prog 7 #[.agg #[.int .i64 13,.int .i64 3,.int .i64 0],.agg #[P,C,G]] w fun e w'=>e = .returned (.tuple #[.int .i64 4,.int .i64 1])∧Below w.heap.size w w':=by
 obtain ⟨W0,hW0⟩ : ∃ W0,w.alloc (.cells #[.int .i64 13,.int .i64 3,.int .i64 0] 23 (0,0)) = W0:=⟨_,rfl⟩
 obtain ⟨W1,hW1⟩ : ∃ W1,W0.alloc (.cells #[P,C,G] 28 (0,0)) = W1:=⟨_,rfl⟩
 have s0 : W0.heap.size = w.heap.size + 1:=by rw [← hW0]; simp
 have b0 : Below w.heap.size w W0:=by rw [← hW0]; exact (Below.refl _ w).alloc (Nat.le_refl _) _
 have b1 : Below W0.heap.size W0 W1:=by rw [← hW1]; exact (Below.refl _ W0).alloc (Nat.le_refl _) _
 have o0 : W0.heap[w.heap.size]? = some (.cells #[.int .i64 13,.int .i64 3,.int .i64 0] 23 (0,0)):=by rw [← hW0]; unfold World.alloc; simp
 have o1 : W1.heap[w.heap.size]? = some (.cells #[.int .i64 13,.int .i64 3,.int .i64 0] 23 (0,0)):=(b1.block _ (by omega)).trans o0
 have y0 : W1.cell? ⟨w.heap.size,0,none⟩ = some (.int .i64 13):=ob_cell o1 0
 have y1 : W1.cell? ⟨w.heap.size,1,none⟩ = some (.int .i64 3):=ob_cell o1 1
 have HB:=Lib.hid (bel_trans (B:=w.heap.size) b0 b1)
 have HW0:=Lib.hid hW0
 have HW1:=Lib.hid hW1
 have HS:=Lib.hid s0
 clear hW0 hW1 s0 b0 b1 o0 o1
 go_enter Tryz.func7,Tryz.ntmps7
 go_wp2_with (fail)
 rw [HW0.out,HW1.out]
 go_wp2_with (fail)
 refine bodyPost_ret (v:=.tuple #[.int .i64 4,.int .i64 1]) (by simp [results,Tryz.results7,go_sem]) rfl ?_
 exact ⟨rfl,HB.out⟩
end LM
namespace LM
attribute [local go_sem] run_store_flt
theorem strX_ok : strX.Ok Fr.nil.len:=⟨by decide,by decide,by decide,(by intro x h; cases h),by decide,fun _=>⟨rfl,rfl⟩,by decide,by decide,by decide,fun _=>⟨rfl,rfl⟩,(by intro ad h; cases h),(by intro ad h; cases h)⟩
theorem strX_v (w : World) : DatV w strX .nil:=⟨fun h=>absurd h (by decide),0,0,fun h=>absurd h (by decide),trivial⟩
theorem strX_tx : txD (fun h=>quoteL h.t) strX .nil = [34,120,34]:=by rfl
theorem dprint_x (w : World) (hu : UT w) (hdb : DB w) :
  Calls Tryz.prog 18 #[datA strX 0] w fun e w'=>e = .returned (.tuple #[.string ⟨#[34,120,34]⟩,.int .i64 0])∧Below w.heap.size w w':=by
 have h:=dprint_right (fun _=>true) (fun h=>quoteL h.t) .nil trivial strX w (strX_v w) strX_ok hu (fun t ht=>by rcases ht with ⟨h,_⟩ | h; exact absurd h (by decide); cases h) (by decide)
  (fun h=>h.k = 3∧h.t.size ≤ 1000000) (fun b w0 hb hw hh hp=>dwrite_str2 b w0 hh hp.1 (quoteL hh.t) fun W cs hW hr hl=>dwtext_any b cs hh.t W hr (fun V hV=>by
   have hwb : w.heap.size ≤ b:=by rw [hb]; exact hw.size
   have h2 : Below w.heap.size w V:=(hw.trans (hW.mono hwb)).trans (hV.mono hwb)
   exact hdb.below h2) hp.2 (by omega)) trivial ⟨fun _=>⟨rfl,rfl,by decide⟩,fun h=>absurd h (by decide)⟩ (by rw [strX_tx]; decide)
 rw [strX_tx] at h
 exact h
theorem cisconst_x (w : World) (hu : UT w) (hdb : DB w) :
  Calls Tryz.prog 40 #[datA strX 0] w fun e w'=>e = .returned (.bool true)∧Below w.heap.size w w' :=
 cconst_by strX 0 ⟨#[34,120,34]⟩ 0 w fun W hW=>dprint_x W (hu.keep hW) (hdb.below hW)
theorem dsame_x (w : World) : Calls Tryz.prog 29 #[datA strX 0,datA strX 0] w fun e w'=>e = .returned (.bool true)∧Below w.heap.size w w':=by
 have h:=dSame_any .nil .nil trivial trivial trivial trivial (by decide) strX strX w (strX_v w) (strX_v w) strX_ok strX_ok (by decide) (by decide)
 rw [show (headS strX strX && sameF .nil .nil) = true by simp [headS,numS,sameF]] at h
 exact h
end LM
namespace LM
attribute [local go_sem] run_store_flt
abbrev xI : List Ins:=[⟨0,0,0⟩,⟨15,0,0⟩]
abbrev prX (ib ic : Nat) : Prh:=⟨⟨#[109,97,105,110]⟩,0,false,0,1,0,some ⟨ib,0,none⟩,ic,xI⟩
abbrev codX (pb pc cb cc gb gc ib ic : Nat) : Cod:=⟨some ⟨pb,0,none⟩,pc,[prX ib ic],some ⟨cb,0,none⟩,cc,.cons strX .nil .nil,some ⟨gb,0,none⟩,gc,[⟨#[103]⟩]⟩
structure XAt (w : World) (pb pc cb cc gb gc ib ic : Nat) : Prop where
 p : P7 w pb 0 (prX ib ic)
 pl : pb < w.heap.size
 i : InsAt w ib 0 xI
 c : C8 w cb 0 strX 0
 cl : cb < w.heap.size
 g : w.cell? ⟨gb,0,none⟩ = some (.string ⟨#[103]⟩)
 gl : gb < w.heap.size
 hp : 1 ≤ pc∧pc ≤ 9223372036854775807
 hc : 1 ≤ cc∧cc ≤ 9223372036854775807
 hg : 1 ≤ gc∧gc ≤ 9223372036854775807
 hi : 2 ≤ ic∧ic ≤ 9223372036854775807
theorem XAt.below {w w' : World} {pb pc cb cc gb gc ib ic : Nat} (h : XAt w pb pc cb cc gb gc ib ic) (hb : Below w.heap.size w w') : XAt w' pb pc cb cc gb gc ib ic :=
 ⟨h.p.keep hb h.pl,Nat.lt_of_lt_of_le h.pl hb.size,h.i.below hb,h.c.keep hb h.cl,Nat.lt_of_lt_of_le h.cl hb.size,(hb.cell (p:=⟨gb,0,none⟩) h.gl).trans h.g,Nat.lt_of_lt_of_le h.gl hb.size,h.hp,h.hc,h.hg,h.hi⟩
theorem one_at {α : Type} {x y : α} {j : Nat} (h : [x][j]? = some y) : j = 0∧x = y:=by
 cases j with
 | zero=>exact ⟨rfl,by simpa using h⟩
 | succ j=>simp at h
theorem XAt.prc {w : World} {pb pc cb cc gb gc ib ic : Nat} (h : XAt w pb pc cb cc gb gc ib ic) : PrcAt w pb 0 [prX ib ic]:=fun j p hj=>by
 obtain ⟨rfl,rfl⟩:=one_at hj
 exact ⟨h.pl,h.p⟩
theorem XAt.str {w : World} {pb pc cb cc gb gc ib ic : Nat} (h : XAt w pb pc cb cc gb gc ib ic) : StrAt w gb 0 [⟨#[103]⟩]:=fun j p hj=>by
 obtain ⟨rfl,rfl⟩:=one_at hj
 exact ⟨h.gl,h.g⟩
theorem XAt.fat {w : World} {pb pc cb cc gb gc ib ic : Nat} (h : XAt w pb pc cb cc gb gc ib ic) : FAt w cb 0 (.cons strX .nil .nil) :=
 ⟨h.cl,h.c,fun h=>absurd h (by decide),⟨0,0,fun h=>absurd h (by decide),trivial⟩,trivial⟩
theorem XAt.v {w : World} {pb pc cb cc gb gc ib ic : Nat} (h : XAt w pb pc cb cc gb gc ib ic) : CodV w (codX pb pc cb cc gb gc ib ic) :=
 ⟨⟨pb,0,fun _=>rfl,h.prc⟩,fun p hp=>by obtain rfl:=List.mem_singleton.1 hp; exact ⟨ib,0,fun _=>rfl,h.i⟩,⟨cb,0,fun _=>rfl,h.fat⟩,⟨gb,0,fun _=>rfl,h.str⟩⟩
theorem XAt.ok {w : World} {pb pc cb cc gb gc ib ic : Nat} (h : XAt w pb pc cb cc gb gc ib ic) : (codX pb pc cb cc gb gc ib ic).Ok :=
 ⟨h.hp,h.hc,h.hg,fun p hp=>by obtain rfl:=List.mem_singleton.1 hp; exact ⟨h.hi,(by decide : 2 ≤ 140737488355328)⟩⟩
theorem x_drop {hh : Hd} {k r : Fr} {j : Nat} (h : (Fr.cons strX .nil .nil).drop j = .cons hh k r) : hh = strX∧k = .nil:=by
 cases j with
 | zero=>unfold Fr.drop at h; injection h with h1 h2 h3; exact ⟨h1.symm,h2.symm⟩
 | succ j=>cases j <;> (simp [Fr.drop] at h)
abbrev xU : List UInt8:=xAll.map UInt8.ofNat
theorem x_bytes (pb pc cb cc gb gc ib ic : Nat) : bytesL (fun _ _=>⟨#[34,120,34]⟩) (codX pb pc cb cc gb gc ib ic) = xU:=by first | kernel_rfl | (simp [bytesL,constsL,globsL,procsL,procL,insLs,insL,num3,text3,Fr.len,ByteArray.size]; done)
theorem x_cells : xU.map encB = xAll.map (fun v=>Value.int .u8 ((v : Nat) : Int)):=by rfl
theorem cbytes_x (pb pc cb cc gb gc ib ic : Nat) (w : World) (h : XAt w pb pc cb cc gb gc ib ic) (hu : UT w) (hd : DB w) :
  Calls Tryz.prog 9 #[codA (codX pb pc cb cc gb gc ib ic)] w fun e w'=>∃ v' W0,e = .returned (.tuple #[v',.int .i64 0])∧Below w.heap.size w W0∧BB W0.heap.size W0 v' xU w':=by
 have hh:=cbytes_by (fun _ _=>⟨#[34,120,34]⟩) (fun _ _=>true) pb 0 pc [prX ib ic] cb 0 cc (.cons strX .nil .nil) gb 0 gc [⟨#[103]⟩] w h.v h.ok h.prc
  (fun p hp=>by obtain rfl:=List.mem_singleton.1 hp; exact ⟨ib,0,fun _=>⟨rfl,(h.i 0 _ rfl).1⟩,h.i⟩) h.fat h.str (by rfl)
  (fun hh k j r hdr W hW hV=>by obtain ⟨rfl,rfl⟩:=x_drop hdr; exact cisconst_x W (hu.keep hW) (hd.below hW))
  (fun hh k j r hdr=>by obtain ⟨rfl,rfl⟩:=x_drop hdr; exact ⟨by decide,fun W hW hV=>dprint_x W (hu.keep hW) (hd.below hW)⟩)
  (by rw [x_bytes]; decide)
 rw [x_bytes] at hh
 exact hh
theorem csame_x (pb pc cb cc gb gc ib ic pb' pc' cb' cc' gb' gc' ib' ic' : Nat) (w : World) (h : XAt w pb pc cb cc gb gc ib ic) (h' : XAt w pb' pc' cb' cc' gb' gc' ib' ic') :
  Calls Tryz.prog 11 #[codA (codX pb pc cb cc gb gc ib ic),codA (codX pb' pc' cb' cc' gb' gc' ib' ic')] w fun e w'=>e = .returned (.bool true)∧Below w.heap.size w w' :=
 csame_by _ _ w h.v h'.v h.ok h'.ok rfl (fun j p p' hp hp'=>by
   obtain ⟨rfl,rfl⟩:=one_at hp
   obtain ⟨-,rfl⟩:=one_at hp'
   exact ⟨rfl,rfl,rfl,rfl,rfl,rfl,rfl⟩) rfl rfl
  fun hh k hh' k' j r r' hdr hdr' W hW hV hV'=>by
   obtain ⟨rfl,rfl⟩:=x_drop hdr
   obtain ⟨rfl,rfl⟩:=x_drop hdr'
   exact dsame_x W
theorem xat_of {w : World} {lo rg cb cc gb gc pb pc : Nat} {cur : Array Value} {v : Value} (c : StC w lo rg cb cc) (g : StG w lo rg gb gc) (p : StP w lo pb pc cur v) : ∃ ib ic,v = .slice (some ⟨ib,0,none⟩) 2 ic∧XAt w pb pc cb cc gb gc ib ic:=by
 obtain ⟨ib,ic,ci,rfl,hlo,hbl,h2,hm,hsz,htk⟩:=own_form p.own (by decide)
 obtain ⟨f0,f1,f2,f3,f4,f5,f6⟩:=p.f
 have hmax : maxLen = 9223372036854775807:=rfl
 have hib:=heap_lt hbl
 have hins : InsAt w ib 0 xI:=fun j x hj=>by
  rcases j with _ | _ | j
  ·obtain rfl : (⟨0,0,0⟩ : Ins) = x:=by simpa using hj
   exact ⟨hib,(ob_cell hbl 0).trans (cur_at htk (i:=0) (by decide)),(ob_cell hbl 1).trans (cur_at htk (i:=1) (by decide)),(ob_cell hbl 2).trans (cur_at htk (i:=2) (by decide))⟩
  ·obtain rfl : (⟨15,0,0⟩ : Ins) = x:=by simpa using hj
   exact ⟨hib,(ob_cell hbl 3).trans (cur_at htk (i:=3) (by decide)),(ob_cell hbl 4).trans (cur_at htk (i:=4) (by decide)),(ob_cell hbl 5).trans (cur_at htk (i:=5) (by decide))⟩
  ·simp at hj
 exact ⟨ib,ic,rfl,⟨(ob_cell p.p 0).trans f0,(ob_cell p.p 1).trans f1,(ob_cell p.p 2).trans f2,(ob_cell p.p 3).trans f3,(ob_cell p.p 4).trans f4,(ob_cell p.p 5).trans f5,(ob_cell p.p 6).trans f6⟩,heap_lt p.p,hins,c.c8,c.hi,g.c,g.hi,⟨p.c1,by have:=p.c2; omega⟩,⟨c.c1,by have:=c.c2; omega⟩,⟨g.c1,by have:=g.c2; omega⟩,⟨h2,by omega⟩⟩
theorem xbytes_at {B : Nat} {W0 w : World} {v : Value} (h : BB B W0 v xU w) : ∃ g cap,v = .slice (some ⟨g,0,none⟩) 62 cap∧g < w.heap.size∧62 ≤ cap∧cap ≤ 9223372036854775807∧∀ j n,xAll[j]? = some n → w.cell? ⟨g,0 + j,none⟩ = some (.int .u8 ((n : Nat) : Int)):=by
 obtain ⟨g,cap,cur,rfl,hlo,hbl,h2,hm,hsz,htk⟩:=own_form h.1 (by decide)
 have hmax : maxLen = 9223372036854775807:=rfl
 refine ⟨g,cap,rfl,heap_lt hbl,h2,by omega,fun j n hj=>?_⟩
 have hjl : j < xAll.length:=(List.getElem?_eq_some_iff.1 hj).1
 rw [Nat.zero_add]
 refine (ob_cell hbl j).trans ((cur_at htk (i:=j) (by rw [List.length_map,List.length_map]; exact hjl)).trans ?_)
 rw [x_cells,List.getElem?_map,hj]
 rfl
end LM
namespace LM
attribute [local go_sem] run_store_flt
theorem x_world (w : World) : ∃ W, (((((w.alloc (.cells #[.int .i64 0, .int .i64 0, .int .i64 0, .int .i64 15, .int .i64 0, .int .i64 0] 23 (0, 0))).alloc
   (.cells #[.string ⟨#[109,97,105,110]⟩,.int .i64 0,.bool false,.int .i64 0,.int .i64 1,.int .i64 0,.slice (some ⟨w.heap.size,0,none⟩) 2 2] 36 (0,0))).alloc
   (.cells #[.int .i64 3,.int .i64 0,.bool false,.float .f64 0,.bool false,.slice none 0 0,.string ⟨#[120]⟩,.slice none 0 0] 44 (0,0))).alloc
   (.cells #[.string ⟨#[103]⟩] 9 (0,0))).alloc
   (.cells #[.slice (some ⟨w.heap.size + 1,0,none⟩) 1 1,.slice (some ⟨w.heap.size + 1 + 1,0,none⟩) 1 1,.slice (some ⟨w.heap.size + 1 + 1 + 1,0,none⟩) 1 1] 28 (0,0))) = W∧Below w.heap.size w W∧w.heap.size + 1 + 1 + 1 + 1 < W.heap.size ∧
  XAt W (w.heap.size + 1) 1 (w.heap.size + 1 + 1) 1 (w.heap.size + 1 + 1 + 1) 1 w.heap.size 2∧W.heap[w.heap.size + 1 + 1 + 1 + 1]? = some (.cells #[.slice (some ⟨w.heap.size + 1,0,none⟩) 1 1,.slice (some ⟨w.heap.size + 1 + 1,0,none⟩) 1 1,.slice (some ⟨w.heap.size + 1 + 1 + 1,0,none⟩) 1 1] 28 (0,0)):=by
 have h:=((((Obs.nil.new (w:=w) (.cells #[.int .i64 0,.int .i64 0,.int .i64 0,.int .i64 15,.int .i64 0,.int .i64 0] 23 (0,0))).new
   (.cells #[.string ⟨#[109,97,105,110]⟩,.int .i64 0,.bool false,.int .i64 0,.int .i64 1,.int .i64 0,.slice (some ⟨w.heap.size,0,none⟩) 2 2] 36 (0,0))).new
   (.cells #[.int .i64 3,.int .i64 0,.bool false,.float .f64 0,.bool false,.slice none 0 0,.string ⟨#[120]⟩,.slice none 0 0] 44 (0,0))).new
   (.cells #[.string ⟨#[103]⟩] 9 (0,0))).new
   (.cells #[.slice (some ⟨w.heap.size + 1,0,none⟩) 1 1,.slice (some ⟨w.heap.size + 1 + 1,0,none⟩) 1 1,.slice (some ⟨w.heap.size + 1 + 1 + 1,0,none⟩) 1 1] 28 (0,0))
 simp only [World.size_alloc] at h
 refine ⟨_,rfl,(((((Below.refl _ w).alloc (Nat.le_refl _) _).alloc (by simp) _).alloc (by simp; omega) _).alloc (by simp; omega) _).alloc (by simp; omega) _,by simp,?_,h.hd⟩
 have o1:=h.tl.hd
 have o2:=h.tl.tl.hd
 have o3:=h.tl.tl.tl.hd
 have o4:=h.tl.tl.tl.tl.hd
 refine ⟨⟨ob_cell o3 0,ob_cell o3 1,ob_cell o3 2,ob_cell o3 3,ob_cell o3 4,ob_cell o3 5,ob_cell o3 6⟩,heap_lt o3,fun j x hj=>?_,⟨ob_cell o2 0,ob_cell o2 1,ob_cell o2 2,ob_cell o2 3,ob_cell o2 4,ob_cell o2 5,ob_cell o2 6,ob_cell o2 7⟩,heap_lt o2,ob_cell o1 0,heap_lt o1,by decide,by decide,by decide,by decide⟩
 rcases j with _ | _ | j
 ·obtain rfl : (⟨0,0,0⟩ : Ins) = x:=by simpa using hj
  exact ⟨heap_lt o4,ob_cell o4 0,ob_cell o4 1,ob_cell o4 2⟩
 ·obtain rfl : (⟨15,0,0⟩ : Ins) = x:=by simpa using hj
  exact ⟨heap_lt o4,ob_cell o4 3,ob_cell o4 4,ob_cell o4 5⟩
 ·simp at hj
theorem calive_any (w : World) (hu : UT w) (hm : MK w) (hd : DB w) : Calls Tryz.prog 4 #[] w fun e w'=>e = .returned (.bool true)∧Below w.heap.size w w':=by
 obtain ⟨W5,hW5,hb5,hs5,hx5,ho5⟩:=x_world w
 have HU:=Lib.hid (hu.keep hb5)
 have HM:=Lib.hid (hm.keep hb5)
 have HD:=Lib.hid (hd.below hb5)
 have HW5:=Lib.hid hW5
 have HB5:=Lib.hid hb5
 have HS5:=Lib.hid hs5
 have HX5:=Lib.hid hx5
 have HO5:=Lib.hid ho5
 have C0:=Lib.hid (cbytes_zero W5)
 clear hu hm hd hW5 hb5 hs5 hx5 ho5
 go_enter Tryz.func4,Tryz.ntmps4
 go_wp2_with (fail)
 rw [HW5.out]
 refine C0.out.mono ?_
 rintro e w1 ⟨v1,V1,rfl,hv1,hbb1⟩
 obtain ⟨g1,cap1,cur1,rfl,-,-,-,-,-,-⟩:=own_form hbb1.1 (by decide)
 have hw1 : Below W5.heap.size W5 w1:=hv1.trans (hbb1.2.1.mono hv1.size)
 have ho1:=(hw1.block _ HS5.out).trans HO5.out
 have y0 : w1.cell? ⟨w.heap.size + 1 + 1 + 1 + 1,0,none⟩ = some (.slice (some ⟨w.heap.size + 1,0,none⟩) 1 1):=ob_cell ho1 0
 have y1 : w1.cell? ⟨w.heap.size + 1 + 1 + 1 + 1,1,none⟩ = some (.slice (some ⟨w.heap.size + 1 + 1,0,none⟩) 1 1):=ob_cell ho1 1
 have y2 : w1.cell? ⟨w.heap.size + 1 + 1 + 1 + 1,2,none⟩ = some (.slice (some ⟨w.heap.size + 1 + 1 + 1,0,none⟩) 1 1):=ob_cell ho1 2
 have C1:=Lib.hid (cbytes_x _ _ _ _ _ _ _ _ w1 (HX5.out.below hw1) (HU.out.keep hw1) (HD.out.below hw1))
 have HW1:=Lib.hid hw1
 clear ho1 hw1 hbb1 hv1
 go_wp2_with (fail)
 refine C1.out.mono ?_
 rintro e w2 ⟨v2,V2,rfl,hv2,hbb2⟩
 obtain ⟨g2,cap2,rfl,hg2,hc2,hc2',hcl2⟩:=xbytes_at hbb2
 have hw2 : Below W5.heap.size W5 w2:=bel_trans (B:=W5.heap.size) HW1.out (hv2.trans (hbb2.2.1.mono hv2.size))
 have C2:=Lib.hid (cread_x g2 0 cap2 w2 hg2 hc2 hc2' hcl2 fun V hV=>by
  have hV5 : Below W5.heap.size W5 V:=bel_trans (B:=W5.heap.size) hw2 hV
  exact ⟨HU.out.keep hV5,HM.out.keep hV5,dprint_x V (HU.out.keep hV5) (HD.out.below hV5)⟩)
 have HW2:=Lib.hid hw2
 clear hw2 hbb2 hv2 hg2 hc2 hc2' hcl2 y0 y1 y2
 go_wp2_with (fail)
 refine C2.out.mono ?_
 rintro e w3 ⟨lo,rg,cb,cc,gb,gc,pb,pc,cur,v,rfl,sc,sg,sp,hlo,hb3⟩
 obtain ⟨ib,ic,rfl,hx3⟩:=xat_of sc sg sp
 obtain ⟨W4,hW4⟩ : ∃ W4,w3.alloc (.cells #[.slice (some ⟨pb,0,none⟩) 1 pc,.slice (some ⟨cb,0,none⟩) 1 cc,.slice (some ⟨gb,0,none⟩) 1 gc] 28 (0,0)) = W4:=⟨_,rfl⟩
 have hb4 : Below w3.heap.size w3 W4:=by rw [← hW4]; exact (Below.refl _ w3).alloc (Nat.le_refl _) _
 have hw4 : Below W5.heap.size W5 W4:=bel_trans (B:=W5.heap.size) (bel_trans (B:=W5.heap.size) HW2.out hb3) hb4
 have ho4 : W4.heap[w3.heap.size]? = some (.cells #[.slice (some ⟨pb,0,none⟩) 1 pc,.slice (some ⟨cb,0,none⟩) 1 cc,.slice (some ⟨gb,0,none⟩) 1 gc] 28 (0,0)):=by rw [← hW4]; unfold World.alloc; simp
 have ho3:=((bel_trans (B:=W5.heap.size) HW2.out hb3).block _ HS5.out).trans HO5.out
 have ho1:=(hw4.block _ HS5.out).trans HO5.out
 have x0 : w3.cell? ⟨w.heap.size + 1 + 1 + 1 + 1,0,none⟩ = some (.slice (some ⟨w.heap.size + 1,0,none⟩) 1 1):=ob_cell ho3 0
 have y0 : (w3.alloc (.cells #[.slice (some ⟨pb,0,none⟩) 1 pc,.slice (some ⟨cb,0,none⟩) 1 cc,.slice (some ⟨gb,0,none⟩) 1 gc] 28 (0,0))).cell? ⟨w.heap.size + 1 + 1 + 1 + 1,0,none⟩ = some (.slice (some ⟨w.heap.size + 1,0,none⟩) 1 1):=by rw [hW4]; exact ob_cell ho1 0
 have x1 : w3.cell? ⟨w.heap.size + 1 + 1 + 1 + 1,1,none⟩ = some (.slice (some ⟨w.heap.size + 1 + 1,0,none⟩) 1 1):=ob_cell ho3 1
 have y1 : (w3.alloc (.cells #[.slice (some ⟨pb,0,none⟩) 1 pc,.slice (some ⟨cb,0,none⟩) 1 cc,.slice (some ⟨gb,0,none⟩) 1 gc] 28 (0,0))).cell? ⟨w.heap.size + 1 + 1 + 1 + 1,1,none⟩ = some (.slice (some ⟨w.heap.size + 1 + 1,0,none⟩) 1 1):=by rw [hW4]; exact ob_cell ho1 1
 have x2 : w3.cell? ⟨w.heap.size + 1 + 1 + 1 + 1,2,none⟩ = some (.slice (some ⟨w.heap.size + 1 + 1 + 1,0,none⟩) 1 1):=ob_cell ho3 2
 have y2 : (w3.alloc (.cells #[.slice (some ⟨pb,0,none⟩) 1 pc,.slice (some ⟨cb,0,none⟩) 1 cc,.slice (some ⟨gb,0,none⟩) 1 gc] 28 (0,0))).cell? ⟨w.heap.size + 1 + 1 + 1 + 1,2,none⟩ = some (.slice (some ⟨w.heap.size + 1 + 1 + 1,0,none⟩) 1 1):=by rw [hW4]; exact ob_cell ho1 2
 have C3:=Lib.hid (ceffect_call (.slice (some ⟨w.heap.size + 1,0,none⟩) 1 1) (.slice (some ⟨w.heap.size + 1 + 1,0,none⟩) 1 1) (.slice (some ⟨w.heap.size + 1 + 1 + 1,0,none⟩) 1 1) W4)
 have HX3:=Lib.hid (hx3.below hb4)
 have HW4:=Lib.hid hw4
 have HO4:=Lib.hid ho4
 have HE4:=Lib.hid hW4
 clear sc sg sp hlo hb3 hx3 hb4 hw4 ho4 ho1 ho3 hW4
 go_wp2_with (fail)
 rw [HE4.out]
 refine C3.out.mono ?_
 rintro e w5 ⟨rfl,hb5⟩
 clear x0 x1 x2 y0 y1 y2
 have hw5 : Below W5.heap.size W5 w5:=bel_trans (B:=W5.heap.size) HW4.out hb5
 have ho1:=(hw5.block _ HS5.out).trans HO5.out
 have y0 : w5.cell? ⟨w.heap.size + 1 + 1 + 1 + 1,0,none⟩ = some (.slice (some ⟨w.heap.size + 1,0,none⟩) 1 1):=ob_cell ho1 0
 have y1 : w5.cell? ⟨w.heap.size + 1 + 1 + 1 + 1,1,none⟩ = some (.slice (some ⟨w.heap.size + 1 + 1,0,none⟩) 1 1):=ob_cell ho1 1
 have y2 : w5.cell? ⟨w.heap.size + 1 + 1 + 1 + 1,2,none⟩ = some (.slice (some ⟨w.heap.size + 1 + 1 + 1,0,none⟩) 1 1):=ob_cell ho1 2
 have ho6:=(hb5.block _ (heap_lt HO4.out)).trans HO4.out
 have z0 : w5.cell? ⟨w3.heap.size,0,none⟩ = some (.slice (some ⟨pb,0,none⟩) 1 pc):=ob_cell ho6 0
 have z1 : w5.cell? ⟨w3.heap.size,1,none⟩ = some (.slice (some ⟨cb,0,none⟩) 1 cc):=ob_cell ho6 1
 have z2 : w5.cell? ⟨w3.heap.size,2,none⟩ = some (.slice (some ⟨gb,0,none⟩) 1 gc):=ob_cell ho6 2
 have C4:=Lib.hid (csame_x _ _ _ _ _ _ _ _ _ _ _ _ _ _ _ _ w5 (HX5.out.below hw5) (HX3.out.below hb5))
 have HW6:=Lib.hid hw5
 clear hb5 hw5 ho1 ho6
 go_wp2_with (fail)
 refine C4.out.mono ?_
 rintro e w6 ⟨rfl,hb6⟩
 have HB6:=Lib.hid hb6
 clear hb6 y0 y1 y2 z0 z1 z2
 go_wp2_with (fail)
 go_ret
 exact ⟨rfl,bel_trans (B:=w.heap.size) (bel_trans (B:=w.heap.size) HB5.out HW6.out) HB6.out⟩
end LM
namespace LM
attribute [local go_sem] run_store_flt
end LM
end Go.Proofs.YtaonablbgicmpaaGreatDoor
