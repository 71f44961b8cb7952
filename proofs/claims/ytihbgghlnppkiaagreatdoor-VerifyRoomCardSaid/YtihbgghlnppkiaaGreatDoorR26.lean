import Derived.Test.YtihbgghlnppkiaaGreatDoorR25
set_option linter.unusedVariables false
set_option linter.unusedSimpArgs false
set_option maxRecDepth 100000
set_option maxHeartbeats 16000000
namespace Go.Proofs.YtihbgghlnppkiaaGreatDoor
open Go Go.RowKit
namespace LM
abbrev oneP (depth : Int) (ib io cap : Nat) (l : List Ins) : Prh:=⟨⟨#[]⟩,0,false,0,depth,0,some ⟨ib,io,none⟩,cap,l⟩
abbrev oneC (g : Nat) (depth : Int) (ib io cap : Nat) (l : List Ins) : Cod:=⟨some ⟨g,0,none⟩,1,[oneP depth ib io cap l],none,0,.nil,none,0,[]⟩
abbrev CheckW (Q : Int → Int → Nat → Prop) (c : Cod) (W : World) : Prop:=Calls Tryz.prog 6 #[codA c] W fun e w'=>∃ (z m : Int) (i : Nat),Q z m i∧e = .returned (.agg #[.int .i64 z,.int .i64 m,.int .i64 (i : Int)])∧Below W.heap.size W w'
theorem vone_any (Q : Int → Int → Nat → Prop) (depth : Int) (l : List Ins) (n ib io cap : Nat) (w : World) (hn : l.length = n)
    (hCk : ∀ W g,Below w.heap.size w W → W.heap[g]? = some (prO (oneP depth ib io cap l)) → CheckW Q (oneC g depth ib io cap l) W) :
    Calls Tryz.prog 9 #[.int .i64 depth,.slice (some ⟨ib,io,none⟩) n cap] w fun e w'=>∃ (z m : Int) (i : Nat),Q z m i∧e = .returned (.agg #[.int .i64 z,.int .i64 m,.int .i64 (i : Int)])∧Below w.heap.size w w':=by
  obtain ⟨W1,hW1⟩ : ∃ W1,w.alloc (flawO 0 0 0) = W1:=⟨_,rfl⟩
  obtain ⟨W2,hW2⟩ : ∃ W2,W1.alloc (prO (oneP depth ib io cap l)) = W2:=⟨_,rfl⟩
  have hb1 : Below w.heap.size w W1:=by rw [← hW1]; exact (Below.refl _ w).alloc (Nat.le_refl _) _
  have hs1 : W1.heap.size = w.heap.size + 1:=by rw [← hW1]; simp
  have hb2 : Below W1.heap.size W1 W2:=by rw [← hW2]; exact (Below.refl _ W1).alloc (Nat.le_refl _) _
  have o1 : W1.heap[w.heap.size]? = some (flawO 0 0 0):=by rw [← hW1]; exact Array.getElem?_push_size
  have o2 : W2.heap[W1.heap.size]? = some (prO (oneP depth ib io cap l)):=by rw [← hW2]; exact Array.getElem?_push_size
  have o3 : W2.heap[w.heap.size]? = some (flawO 0 0 0):=(hb2.block _ (hlt_of o1)).trans o1
  have b12 : Below w.heap.size w W2:=bel_trans (B:=w.heap.size) hb1 hb2
  have CK:=Lib.hid (hCk W2 _ b12 o2)
  dsimp only [CheckW,codA,oneC,oneP,List.length_cons,List.length_nil,Fr.len] at CK
  have HW1:=Lib.hid hW1
  have HW2 : Hid (W1.alloc (.cells #[.string ⟨#[]⟩,.int .i64 0,.bool false,.int .i64 0,.int .i64 depth,.int .i64 0,.slice (some ⟨ib,io,none⟩) n cap] 35 (0,0)) = W2):=Lib.hid (by rw [← hW2,← hn])
  have HB:=Lib.hid b12
  have O3:=Lib.hid o3
  have HN:=Lib.hid hn
  clear hW1 hW2 hb1 hs1 hb2 o1 o2 o3 b12 hCk hn
  go_enter Tryz.func9,Tryz.ntmps9
  go_upto_region 1 with (fail)
  rw [HW1.out]
  go_wp2_with (fail)
  rw [HW2.out]
  refine CK.out.mono ?_
  rintro e w3 ⟨z,m,i,hz,rfl,hb3⟩
  have of3:=(hb3.block _ (hlt_of O3.out)).trans O3.out
  have f0 : w3.cell? ⟨w.heap.size,0,none⟩ = some (.int .i64 0):=ob_cell of3 0
  have f1 : w3.cell? ⟨w.heap.size,1,none⟩ = some (.int .i64 0):=ob_cell of3 1
  have f2 : w3.cell? ⟨w.heap.size,2,none⟩ = some (.int .i64 0):=ob_cell of3 2
  have l0:=ob_free of3 0 (by simp)
  have l1:=ob_free of3 1 (by simp)
  have l2:=ob_free of3 2 (by simp)
  have OF3:=Lib.hid of3
  have HZ:=Lib.hid hz
  have HB3:=Lib.hid (bel_trans (B:=w.heap.size) HB.out hb3)
  obtain ⟨WF,hWF⟩ : ∃ WF,((w3.setCell ⟨w.heap.size,0,none⟩ (.int .i64 z)).setCell ⟨w.heap.size,1,none⟩ (.int .i64 m)).setCell ⟨w.heap.size,2,none⟩ (.int .i64 (i : Int)) = WF:=⟨_,rfl⟩
  have HWF:=Lib.hid hWF
  clear of3 hz hb3 hWF
  go_wp2_with (fail)
  rw [HWF.out]
  have of4 : WF.heap[w.heap.size]? = some (flawO z m i):=by rw [← HWF.out]; exact fl_blk OF3.out
  have f0 : WF.cell? ⟨w.heap.size,0,none⟩ = some (.int .i64 z):=ob_cell of4 0
  have f1 : WF.cell? ⟨w.heap.size,1,none⟩ = some (.int .i64 m):=ob_cell of4 1
  have f2 : WF.cell? ⟨w.heap.size,2,none⟩ = some (.int .i64 (i : Int)):=ob_cell of4 2
  clear of4
  go_wp2_with (fail)
  refine bodyPost_ret (v:=.agg #[.int .i64 z,.int .i64 m,.int .i64 (i : Int)]) (by simp [results,Tryz.results9,go_sem,f0,f1,f2]) rfl ⟨z,m,i,HZ.out,rfl,?_⟩
  rw [← HWF.out]
  exact fl_below HB3.out (Nat.le_refl _)
abbrev OneCk (w : World) (Q : Int → Int → Nat → Prop) (depth : Int) (l : List Ins) : Prop:=∀ W g ib io cap,Below w.heap.size w W → W.heap[g]? = some (prO (oneP depth ib io cap l)) → InsAt W ib io l → l.length ≤ cap → cap ≤ 9223372036854775807 → CheckW Q (oneC g depth ib io cap l) W
theorem valive_any (w : World) (ha : OneCk w (fun z m i=>z = 113∧i = 0) 1 [⟨15,0,0⟩]) (hb : OneCk w (fun z m i=>z = 0) 1 [⟨19,0,0⟩,⟨15,0,0⟩]) (hc : OneCk w (fun z m i=>z = 114) 1 [⟨19,0,0⟩]) :
    Calls Tryz.prog 4 #[] w fun e w'=>e = .returned (.bool true)∧Below w.heap.size w w':=by
  obtain ⟨W1,hW1⟩ : ∃ W1,w.alloc (.cells #[.int .i64 15,.int .i64 0,.int .i64 0] 41 (0,0)) = W1:=⟨_,rfl⟩
  have hb1 : Below w.heap.size w W1:=by rw [← hW1]; exact (Below.refl _ w).alloc (Nat.le_refl _) _
  have i1 : InsAt W1 w.heap.size 0 [⟨15,0,0⟩]:=by
    have o1 : W1.heap[w.heap.size]? = some (.cells #[.int .i64 15,.int .i64 0,.int .i64 0] 41 (0,0)):=by rw [← hW1]; exact Array.getElem?_push_size
    intro j x hj
    rcases j with _ | j
    · obtain rfl : (⟨15,0,0⟩ : Ins) = x:=by simpa using hj
      exact ⟨hlt_of o1,ob_cell o1 0,ob_cell o1 1,ob_cell o1 2⟩
    · simp at hj
  have A1:=Lib.hid (vone_any (fun z m i=>z = 113∧i = 0) 1 [⟨15,0,0⟩] 1 w.heap.size 0 1 W1 rfl fun W g hW hg=>ha W g _ _ _ (bel_trans (B:=w.heap.size) hb1 hW) hg (i1.below hW) (Nat.le_refl _) (by decide))
  have HW1:=Lib.hid hW1
  have HB1:=Lib.hid hb1
  clear hW1 hb1 i1
  go_enter Tryz.func4,Tryz.ntmps4
  go_wp2_with (fail)
  rw [HW1.out]
  refine A1.out.mono ?_
  rintro e w2 ⟨z1,m1,i1,⟨rfl,rfl⟩,rfl,hb2⟩
  obtain ⟨W2,hW2⟩ : ∃ W2,w2.alloc (.cells #[.int .i64 113,.int .i64 m1,.int .i64 0] 31 (0,0)) = W2:=⟨_,rfl⟩
  obtain ⟨W3,hW3⟩ : ∃ W3,W2.alloc (.cells #[.int .i64 19,.int .i64 0,.int .i64 0,.int .i64 15,.int .i64 0,.int .i64 0] 41 (0,0)) = W3:=⟨_,rfl⟩
  have hB2 : Below w.heap.size w W2:=by rw [← hW2]; exact (bel_trans (B:=w.heap.size) HB1.out hb2).alloc (bel_trans (B:=w.heap.size) HB1.out hb2).size _
  have hb3 : Below W2.heap.size W2 W3:=by rw [← hW3]; exact (Below.refl _ W2).alloc (Nat.le_refl _) _
  have hB3 : Below w.heap.size w W3:=bel_trans (B:=w.heap.size) hB2 hb3
  have i3 : InsAt W3 W2.heap.size 0 [⟨19,0,0⟩,⟨15,0,0⟩]:=by
    have o1 : W3.heap[W2.heap.size]? = some (.cells #[.int .i64 19,.int .i64 0,.int .i64 0,.int .i64 15,.int .i64 0,.int .i64 0] 41 (0,0)):=by rw [← hW3]; exact Array.getElem?_push_size
    intro j x hj
    rcases j with _ | _ | j
    · obtain rfl : (⟨19,0,0⟩ : Ins) = x:=by simpa using hj
      exact ⟨hlt_of o1,ob_cell o1 0,ob_cell o1 1,ob_cell o1 2⟩
    · obtain rfl : (⟨15,0,0⟩ : Ins) = x:=by simpa using hj
      exact ⟨hlt_of o1,ob_cell o1 3,ob_cell o1 4,ob_cell o1 5⟩
    · simp at hj
  have A2:=Lib.hid (vone_any (fun z m i=>z = 0) 1 [⟨19,0,0⟩,⟨15,0,0⟩] 2 W2.heap.size 0 2 W3 rfl fun W g hW hg=>hb W g _ _ _ (bel_trans (B:=w.heap.size) hB3 hW) hg (i3.below hW) (Nat.le_refl _) (by decide))
  have hp2 : W2.heap[w2.heap.size]? = some (.cells #[.int .i64 113,.int .i64 m1,.int .i64 0] 31 (0,0)):=by rw [← hW2]; exact Array.getElem?_push_size
  have P2:=Lib.hid ((hb3.block _ (hlt_of hp2)).trans hp2)
  have HW2:=Lib.hid hW2
  have HW3:=Lib.hid hW3
  have HB3:=Lib.hid hB3
  clear hW2 hW3 hB2 hb3 hB3 i3 hp2 hb2
  go_upto_region 2 with (fail)
  rw [HW2.out]
  go_wp2_with (fail)
  rw [HW3.out]
  refine A2.out.mono ?_
  rintro e w4 ⟨z2,m2,i2,rfl,rfl,hb4⟩
  obtain ⟨W4,hW4⟩ : ∃ W4,w4.alloc (.cells #[.int .i64 0,.int .i64 m2,.int .i64 (i2 : Int)] 31 (0,0)) = W4:=⟨_,rfl⟩
  obtain ⟨W5,hW5⟩ : ∃ W5,W4.alloc (.cells #[.int .i64 19,.int .i64 0,.int .i64 0] 41 (0,0)) = W5:=⟨_,rfl⟩
  have h34 : Below W3.heap.size W3 W4:=by rw [← hW4]; exact hb4.alloc hb4.size _
  have hb5 : Below W4.heap.size W4 W5:=by rw [← hW5]; exact (Below.refl _ W4).alloc (Nat.le_refl _) _
  have h35 : Below W3.heap.size W3 W5:=bel_trans (B:=W3.heap.size) h34 hb5
  have hB5 : Below w.heap.size w W5:=bel_trans (B:=w.heap.size) HB3.out h35
  have i5 : InsAt W5 W4.heap.size 0 [⟨19,0,0⟩]:=by
    have o1 : W5.heap[W4.heap.size]? = some (.cells #[.int .i64 19,.int .i64 0,.int .i64 0] 41 (0,0)):=by rw [← hW5]; exact Array.getElem?_push_size
    intro j x hj
    rcases j with _ | j
    · obtain rfl : (⟨19,0,0⟩ : Ins) = x:=by simpa using hj
      exact ⟨hlt_of o1,ob_cell o1 0,ob_cell o1 1,ob_cell o1 2⟩
    · simp at hj
  have A3:=Lib.hid (vone_any (fun z m i=>z = 114) 1 [⟨19,0,0⟩] 1 W4.heap.size 0 1 W5 rfl fun W g hW hg=>hc W g _ _ _ (bel_trans (B:=w.heap.size) hB5 hW) hg (i5.below hW) (Nat.le_refl _) (by decide))
  have hp4 : W4.heap[w4.heap.size]? = some (.cells #[.int .i64 0,.int .i64 m2,.int .i64 (i2 : Int)] 31 (0,0)):=by rw [← hW4]; exact Array.getElem?_push_size
  have P5:=Lib.hid ((hb5.block _ (hlt_of hp4)).trans hp4)
  have Q5:=Lib.hid ((h35.block _ (hlt_of P2.out)).trans P2.out)
  have HW4:=Lib.hid hW4
  have HW5:=Lib.hid hW5
  have HB5:=Lib.hid hB5
  clear hW4 hW5 h34 hb5 h35 hB5 i5 hp4 hb4
  go_upto_region 3 with (fail)
  rw [HW4.out]
  go_wp2_with (fail)
  rw [HW5.out]
  refine A3.out.mono ?_
  rintro e w6 ⟨z3,m3,i3,rfl,rfl,hb6⟩
  obtain ⟨W6,hW6⟩ : ∃ W6,w6.alloc (.cells #[.int .i64 114,.int .i64 m3,.int .i64 (i3 : Int)] 31 (0,0)) = W6:=⟨_,rfl⟩
  have h56 : Below W5.heap.size W5 W6:=by rw [← hW6]; exact hb6.alloc hb6.size _
  have p6 : W6.heap[w6.heap.size]? = some (.cells #[.int .i64 114,.int .i64 m3,.int .i64 (i3 : Int)] 31 (0,0)):=by rw [← hW6]; exact Array.getElem?_push_size
  have p5:=(h56.block _ (hlt_of P5.out)).trans P5.out
  have p2:=(h56.block _ (hlt_of Q5.out)).trans Q5.out
  have g0 : W6.cell? ⟨w2.heap.size,0,none⟩ = some (.int .i64 113):=ob_cell p2 0
  have g2 : W6.cell? ⟨w2.heap.size,2,none⟩ = some (.int .i64 0):=ob_cell p2 2
  have g3 : W6.cell? ⟨w4.heap.size,0,none⟩ = some (.int .i64 0):=ob_cell p5 0
  have g4 : W6.cell? ⟨w6.heap.size,0,none⟩ = some (.int .i64 114):=ob_cell p6 0
  have HW6:=Lib.hid hW6
  have HB6:=Lib.hid (bel_trans (B:=w.heap.size) HB5.out h56)
  clear hW6 h56 p6 p5 p2 hb6
  go_upto_region 4 with (fail)
  rw [HW6.out]
  go_wp2_with (fail)
  go_ret
  exact ⟨rfl,HB6.out⟩
end LM
end Go.Proofs.YtihbgghlnppkiaaGreatDoor
