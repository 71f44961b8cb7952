import Derived.Test.YtihbgghlnppkiaaGreatDoorR32
import Derived.Test.YtihbgghlnppkiaaGreatDoorR30
import Derived.Test.YtihbgghlnppkiaaGreatDoorR20
import Derived.Test.YtihbgghlnppkiaaGreatDoorR08
import Derived.Test.YtihbgghlnppkiaaGreatDoorR14
import Derived.Test.YtihbgghlnppkiaaGreatDoorR17
import Derived.Test.YtihbgghlnppkiaaGreatDoorR07
import Derived.Test.YtihbgghlnppkiaaGreatDoorR21
import Derived.Laws.AppendOwnNone
import Derived.Test.YtihbgghlnppkiaaGreatDoorR04
import Derived.Test.YtihbgghlnppkiaaGreatDoorR01
import Derived.Test.YtihbgghlnppkiaaGreatDoorR10
import Derived.LoopTactic
import Derived.Deep.DrawnRows
import Derived.Test.YtihbgghlnppkiaaGreatDoorR38
import Derived.Deep.RegionHeld3
import Derived.Deep.LoopGhost
import Derived.Test.YtihbgghlnppkiaaGreatDoorR41
import Derived.Test.YtihbgghlnppkiaaGreatDoorR19
import Derived.Lib.SmallJoins
import Derived.Deep.Strs
import Derived.OpenShut
import Derived.ShutString
import Derived.Handy
import Derived.Test.YtihbgghlnppkiaaGreatDoorR33
import Derived.Lib.Atoi
import Derived.Lib.ItoaNum
import Derived.Test.YtihbgghlnppkiaaGreatDoorR57
set_option linter.unusedVariables false
set_option linter.unusedSimpArgs false
set_option maxRecDepth 100000
set_option maxHeartbeats 16000000
namespace Go.Proofs.YtihbgghlnppkiaaGreatDoor
open Go Go.RowKit
namespace LM
end LM
namespace LM
end LM
namespace LM
end LM
namespace LM
end LM
namespace LM
end LM
namespace LM
attribute [local go_sem] run_store_flt
theorem ttext_f (f : Nat) (t : ByteArray) (s : Bool) (A : Option Addr) (n c : Nat) (w : World)
    (hT : ∀ W,Below w.heap.size w W → Calls Tryz.prog 86 #[.float .f64 f] W fun e w'=>e = .returned (.string t)∧Below W.heap.size W w') :
    Calls Tryz.prog 71 #[numA true f s A n c] w fun e w'=>e = .returned (.string t)∧Below w.heap.size w w':=by
  have Y0:=Nx.new w true f s A n c
  have hb0 : Below w.heap.size w (w.alloc (numO true f s A n c)):=(Below.refl _ w).alloc (Nat.le_refl _) _
  obtain ⟨y0,y1,y2,y3,-,-,-,-,yl⟩:=Y0.facts
  have HB0:=Lib.hid hb0
  have HT:=Lib.hid (hT _ hb0)
  clear hb0 Y0 hT
  go_enter Tryz.func71,Tryz.ntmps71
  go_wp2_with (fail)
  refine HT.out.mono ?_
  rintro e w1 ⟨rfl,hb1⟩
  go_wp2_with (fail)
  go_ret
  exact ⟨rfl,bel_trans (B:=w.heap.size) HB0.out hb1⟩
theorem ttext_i (f : Nat) (x : Int) (s : Bool) (A : Option Addr) (n c : Nat) (w : World) (hv : IntV w (.agg #[.bool s, .slice A n c]) x) (nx : ¬ BigI x) (htab : Lib.TabIs Tryz.prog w "internal/strconv.uint64pow10" .u64 Lib.pow10Tab) :
    Calls Tryz.prog 71 #[numA false f s A n c] w fun e w'=>e = .returned (.string ⟨(decI x).toArray⟩)∧Below w.heap.size w w':=by
  have Y0:=Nx.new w false f s A n c
  have hb0 : Below w.heap.size w (w.alloc (numO false f s A n c)):=(Below.refl _ w).alloc (Nat.le_refl _) _
  obtain ⟨y0,y1,y2,y3,-,-,-,-,yl⟩:=Y0.facts
  have HB0:=Lib.hid hb0
  have HT:=Lib.hid (etext_int (hv.alloc (numO false f s A n c)) nx (tab_below htab hb0))
  clear hb0 Y0 hv htab
  go_enter Tryz.func71,Tryz.ntmps71
  go_wp2_with (fail)
  refine HT.out.mono ?_
  rintro e w1 ⟨rfl,hb1⟩
  go_wp2_with (fail)
  go_ret
  exact ⟨rfl,bel_trans (B:=w.heap.size) HB0.out hb1⟩
end LM
namespace LM
attribute [local go_sem] run_store_flt
end LM
namespace LM
attribute [local go_sem] run_store_flt
end LM
namespace LM
attribute [local go_sem] run_store_flt
end LM
namespace LM
attribute [local go_sem] run_store_flt
end LM
namespace LM
attribute [local go_sem] run_store_flt
end LM
namespace LM
attribute [local go_sem] run_store_flt
end LM
namespace LM
attribute [local go_sem] run_store_flt
def rightN (fl : Bool) (f : Nat) (s : Bool) (xs : List Nat) : Bool:=if fl then (!s && decide (xs.length = 0)) else (decide (f = 0) && rightB s xs)
end LM
end Go.Proofs.YtihbgghlnppkiaaGreatDoor
namespace Go.Proofs.YtihbgghlnppkiaaGreatDoor
open Go Go.RowKit Go.ChangeShapes Go.WideShapes Go.ChangeAt
namespace LM
/-! a number that came in -/
theorem trod_flt {H : Type} {enc : TypeId × Value → H} {P : Program} {w : World} {base : Nat} {spare : Nat → Bool} {held : Bool} {fuel : Nat} {t : TypeId} {cs : List Value} {x : DataW H × List MemPlace} (ht : P.underlying t = some (.float .f64)) (h : DataW.trod enc P w base spare held fuel t cs = some x) : ∃ n,cs = [.float .f64 n]∧n < 18446744073709551616:=by
  cases fuel with
  | zero=>simp [DataW.trod] at h
  | succ n =>
    unfold DataW.trod at h
    rw [ht] at h
    split at h <;> simp_all
    rename_i hk
    subst hk
    have h3:=h.1.2
    unfold Lit.wf at h3
    simpa using h3
end LM
end Go.Proofs.YtihbgghlnppkiaaGreatDoor
namespace Go.Proofs.YtihbgghlnppkiaaGreatDoor
open Go Go.RowKit
namespace LM
attribute [local go_sem] run_store_flt
abbrev CallB (w : World) (f : FuncId) (args : Array Value) (r : Value) : Prop:=∀ W,Below w.heap.size w W → Calls Tryz.prog f args W fun e w'=>e = .returned r∧Below W.heap.size W w'
end LM
namespace LM
attribute [local go_sem] run_store_flt
theorem tright_f (f : Nat) (s : Bool) (A : Option Addr) (n c : Nat) (w : World) :
    Calls Tryz.prog 78 #[numA true f s A n c] w fun e w'=>e = .returned (.bool (!s && decide (n = 0)))∧Below w.heap.size w w':=by
  have Y0:=Nx.new w true f s A n c
  have hb0 : Below w.heap.size w (w.alloc (numO true f s A n c)):=(Below.refl _ w).alloc (Nat.le_refl _) _
  obtain ⟨y0,y1,y2,y3,-,-,-,-,yl⟩:=Y0.facts
  have HB0:=Lib.hid hb0
  have N1:=Lib.hid (tnothing_any s A n c (w.alloc (numO true f s A n c)))
  clear hb0 Y0
  cases s
  · go_enter Tryz.func78,Tryz.ntmps78
    go_wp2_with (fail)
    refine N1.out.mono ?_
    rintro e w1 ⟨rfl,hb1⟩
    go_wp2_with (fail)
    go_ret
    exact ⟨by simp,bel_trans (B:=w.heap.size) HB0.out hb1⟩
  · go_enter Tryz.func78,Tryz.ntmps78
    go_wp2_with (fail)
    go_ret
    exact ⟨by simp,HB0.out⟩
theorem tright_i (f : Nat) (hf : f < 18446744073709551616) (s : Bool) (A : Option Addr) (n c : Nat) (rb : Bool) (w : World) (hR : CallB w 93 #[.agg #[.bool s,.slice A n c]] (.bool rb)) :
    Calls Tryz.prog 78 #[numA false f s A n c] w fun e w'=>e = .returned (.bool (decide (f = 0) && rb))∧Below w.heap.size w w':=by
  have Y0:=Nx.new w false f s A n c
  have hb0 : Below w.heap.size w (w.alloc (numO false f s A n c)):=(Below.refl _ w).alloc (Nat.le_refl _) _
  obtain ⟨y0,y1,y2,y3,-,-,-,-,yl⟩:=Y0.facts
  have HB0:=Lib.hid hb0
  have HR:=Lib.hid (hR _ hb0)
  have B1:=Lib.hid fun W=>bits_any f W hf
  have hz : ((canW f : Nat) : Int) = 0 ↔ f = 0:=by
    unfold canW
    split
    · rename_i h; unfold nanW at h; omega
    · omega
  obtain ⟨g,hg⟩ : ∃ g,canW f = g:=⟨_,rfl⟩
  rw [hg] at hz B1
  clear hb0 Y0 hR hg
  by_cases h0 : f = 0
  · obtain rfl : g = 0:=by omega
    have h2 : decide (f = 0) = true:=decide_eq_true h0
    rw [h2]
    clear h2 h0 hz
    go_enter Tryz.func78,Tryz.ntmps78
    go_wp2_with (fail)
    refine (B1.out _).mono ?_
    rintro e w1 ⟨rfl,rfl⟩
    go_wp2_with (fail)
    refine HR.out.mono ?_
    rintro e w1 ⟨rfl,hb1⟩
    go_wp2_with (fail)
    go_ret
    exact ⟨by simp,bel_trans (B:=w.heap.size) HB0.out hb1⟩
  · have h1 : ((g : Int) == 0) = false:=by rw [beq_eq_false_iff_ne]; omega
    have h2 : decide (f = 0) = false:=decide_eq_false h0
    rw [h2]
    clear h2 h0 hz
    go_enter Tryz.func78,Tryz.ntmps78
    go_wp2_with (fail)
    refine (B1.out _).mono ?_
    rintro e w1 ⟨rfl,rfl⟩
    go_wp2_with (fail)
    go_ret
    exact ⟨by simp,HB0.out⟩
theorem tright_any (fl : Bool) (f : Nat) (hf : f < 18446744073709551616) (s : Bool) (A : Option Addr) (c : Nat) (xs : List Nat) (w : World) (ha : Rd w A xs) (hx : Lm xs) (hl : xs.length ≤ 1000) :
    Calls Tryz.prog 78 #[numA fl f s A xs.length c] w fun e w'=>e = .returned (.bool (rightN fl f s xs))∧Below w.heap.size w w':=by
  unfold rightN
  cases fl
  · rw [if_neg (by decide)]
    exact tright_i f hf s A xs.length c _ w fun W hW=>eright_any s A c xs W (ha.below hW) hx hl
  · rw [if_pos rfl]
    exact tright_f f s A xs.length c w
def nothB (fl : Bool) (f : Nat) (s : Bool) (xs : List Nat) : Bool:=!fl && decide (xs.length = 0) && rightN fl f s xs
theorem dnothing_any (fl : Bool) (f : Nat) (s : Bool) (A : Option Addr) (n c : Nat) (rb : Bool) (w : World) (hR : CallB w 78 #[numA fl f s A n c] (.bool rb)) :
    Calls Tryz.prog 90 #[numA fl f s A n c] w fun e w'=>e = .returned (.bool (!fl && decide (n = 0) && rb))∧Below w.heap.size w w':=by
  have Y0:=Nx.new w fl f s A n c
  have hb0 : Below w.heap.size w (w.alloc (numO fl f s A n c)):=(Below.refl _ w).alloc (Nat.le_refl _) _
  obtain ⟨y0,y1,y2,y3,-,-,-,-,yl⟩:=Y0.facts
  have HB0:=Lib.hid hb0
  have HR:=Lib.hid (hR _ hb0)
  clear hb0 Y0 hR
  cases fl
  · by_cases hn : n = 0
    · subst hn
      go_enter Tryz.func90,Tryz.ntmps90
      go_wp2_with (fail)
      refine HR.out.mono ?_
      rintro e w1 ⟨rfl,hb1⟩
      go_wp2_with (fail)
      go_ret
      exact ⟨by simp,bel_trans (B:=w.heap.size) HB0.out hb1⟩
    · have h1 : ((n : Int) == 0) = false:=by rw [beq_eq_false_iff_ne]; omega
      have h2 : decide (n = 0) = false:=decide_eq_false hn
      rw [h2]
      clear h2 hn
      go_enter Tryz.func90,Tryz.ntmps90
      go_wp2_with (fail)
      go_ret
      exact ⟨by simp,HB0.out⟩
  · go_enter Tryz.func90,Tryz.ntmps90
    go_wp2_with (fail)
    go_ret
    exact ⟨by simp,HB0.out⟩
end LM
namespace LM
attribute [local go_sem] run_store_flt
def elseB (k : Int) (bn nb bt bi : Bool) : Bool :=
  (decide (k = 1 ∨ k = 2) || bn) && (decide (k = 0) || nb) && (decide (k = 3 ∨ k = 4) || bt) && (decide (5 ≤ k∧k ≤ 7) || bi)
theorem dat_block (w : World) (h : Hd) (n : Nat) : ∃ W0,w.alloc (datO h n) = W0∧Below w.heap.size w W0∧W0.heap[w.heap.size]? = some (datO h n)∧w.heap.size < W0.heap.size :=
  ⟨_,rfl,(Below.refl _ w).alloc (Nat.le_refl _) _,by unfold World.alloc; simp,by simp⟩
theorem kinds (k : Int) : k = 0 ∨ k = 1 ∨ k = 2 ∨ k = 3 ∨ k = 4 ∨ k = 5 ∨ k = 6 ∨ k = 7 ∨ ((k == 0) = false∧(k == 1) = false∧(k == 2) = false∧(k == 3) = false∧(k == 4) = false∧(k == 5) = false∧(k == 6) = false∧(k == 7) = false):=by
  by_cases h0 : k = 0; · exact .inl h0
  by_cases h1 : k = 1; · exact .inr (.inl h1)
  by_cases h2 : k = 2; · exact .inr (.inr (.inl h2))
  by_cases h3 : k = 3; · exact .inr (.inr (.inr (.inl h3)))
  by_cases h4 : k = 4; · exact .inr (.inr (.inr (.inr (.inl h4))))
  by_cases h5 : k = 5; · exact .inr (.inr (.inr (.inr (.inr (.inl h5)))))
  by_cases h6 : k = 6; · exact .inr (.inr (.inr (.inr (.inr (.inr (.inl h6))))))
  by_cases h7 : k = 7; · exact .inr (.inr (.inr (.inr (.inr (.inr (.inr (.inl h7)))))))
  refine .inr (.inr (.inr (.inr (.inr (.inr (.inr (.inr ⟨?_,?_,?_,?_,?_,?_,?_,?_⟩))))))) <;> rw [beq_eq_false_iff_ne] <;> assumption
theorem delse_any (h : Hd) (n : Nat) (nb bn bt bi : Bool) (w : World) (hbn : (h.n == 0) = bn) (hbt : (h.t.toList == []) = bt) (hbi : ((n : Int) == 0) = bi) (hN : CallB w 90 #[numA h.fl h.f h.s h.A h.xs.length h.c] (.bool nb)) :
    Calls Tryz.prog 77 #[datA h n] w fun e w'=>e = .returned (.bool (elseB h.k bn nb bt bi))∧Below w.heap.size w w':=by
  obtain ⟨W0,hW0,hb0,ho,hs0⟩:=dat_block w h n
  have C:=C8.of_block ho
  obtain ⟨x0,x1,x2,x3,x4,x5,x6,x7⟩:=C
  obtain ⟨k,m,fl,f,s,A,xs,c,t,B,cap⟩:=h
  simp only [Nat.zero_add] at x0 x1 x2 x3 x4 x5 x6 x7 hbn hbt hN ⊢
  have HW0:=Lib.hid hW0
  have HB0:=Lib.hid hb0
  have HN:=Lib.hid (hN W0 hb0)
  clear hW0 hb0 hN ho
  have HC:=Lib.hid fun W (hb : Below W0.heap.size W0 W)=>(show C8 W w.heap.size 0 ⟨k,m,fl,f,s,A,xs,c,t,B,cap⟩ n from ⟨(hb.cell (p:=⟨w.heap.size,0,none⟩) hs0).trans x0,(hb.cell (p:=⟨w.heap.size,1,none⟩) hs0).trans x1,(hb.cell (p:=⟨w.heap.size,2,none⟩) hs0).trans x2,(hb.cell (p:=⟨w.heap.size,3,none⟩) hs0).trans x3,(hb.cell (p:=⟨w.heap.size,4,none⟩) hs0).trans x4,(hb.cell (p:=⟨w.heap.size,5,none⟩) hs0).trans x5,(hb.cell (p:=⟨w.heap.size,6,none⟩) hs0).trans x6,(hb.cell (p:=⟨w.heap.size,7,none⟩) hs0).trans x7⟩)
  rcases kinds k with rfl | rfl | rfl | rfl | rfl | rfl | rfl | rfl | ⟨k0,k1,k2,k3,k4,k5,k6,k7⟩
  · go_enter Tryz.func77,Tryz.ntmps77
    go_wp2_with (fail)
    all_goals
      try rw [HW0.out]
      go_wp2_with (fail)
      all_goals
        go_ret
        exact ⟨by simp [elseB, *],HB0.out⟩
  rotate_right
  · have HE : Hid (elseB k bn nb bt bi = (bn && nb && bt && bi)):=Lib.hid (by
      rw [beq_eq_false_iff_ne] at k0 k1 k2 k3 k4 k5 k6 k7
      unfold elseB
      rw [decide_eq_false (by omega),decide_eq_false (by omega),decide_eq_false (by omega),decide_eq_false (by omega)]
      simp)
    go_enter Tryz.func77,Tryz.ntmps77
    go_wp2_with (fail)
    all_goals
      try rw [HW0.out]
      go_wp2_with (go_at_call 90; refine HN.out.mono ?_; rintro e w1 ⟨rfl,hb1⟩; have HB1:=Lib.hid (bel_trans (B:=w.heap.size) HB0.out hb1); obtain ⟨y0,y1,y2,y3,y4,y5,y6,y7⟩:=HC.out _ hb1; simp only [Nat.zero_add] at y0 y1 y2 y3 y4 y5 y6 y7; clear hb1)
      all_goals
        go_ret
        first | exact ⟨by rw [HE.out]; simp [*],HB1.out⟩ | exact ⟨by rw [HE.out]; simp [*],HB0.out⟩
  all_goals
    go_enter Tryz.func77,Tryz.ntmps77
    go_wp2_with (fail)
    all_goals
      try rw [HW0.out]
      go_wp2_with (go_at_call 90; refine HN.out.mono ?_; rintro e w1 ⟨rfl,hb1⟩; have HB1:=Lib.hid (bel_trans (B:=w.heap.size) HB0.out hb1); obtain ⟨y0,y1,y2,y3,y4,y5,y6,y7⟩:=HC.out _ hb1; simp only [Nat.zero_add] at y0 y1 y2 y3 y4 y5 y6 y7; clear hb1)
      all_goals
        go_ret
        first | exact ⟨by simp [elseB, *],HB1.out⟩ | exact ⟨by simp [elseB, *],HB0.out⟩
end LM
namespace LM
attribute [local go_sem] run_store_flt
theorem cnum_any (n : Int) (w : World) : Calls Tryz.prog 52 #[.int .i64 n] w fun e w'=>e = .returned (.bool (numB n))∧Below w.heap.size w w':=by
  by_cases h1 : 0 ≤ n
  · have d1 : decide (0 ≤ n) = true:=decide_eq_true h1
    have e1 : numB n = decide (n ≤ 16777215):=by unfold numB; rw [d1]; rfl
    have E1:=Lib.hid e1
    clear e1 h1
    go_enter Tryz.func52,Tryz.ntmps52
    go_wp2_with (fail)
    go_ret
    exact ⟨by rw [E1.out]; rfl,Below.refl _ _⟩
  · have d1 : decide (0 ≤ n) = false:=decide_eq_false h1
    have e1 : numB n = false:=by unfold numB; rw [d1]; rfl
    have E1:=Lib.hid e1
    clear e1 h1
    go_enter Tryz.func52,Tryz.ntmps52
    go_wp2_with (fail)
    go_ret
    exact ⟨by rw [E1.out]; rfl,Below.refl _ _⟩
theorem cnums_any (xs : List Int) (b off cap : Nat) (w : World) (hF : NumAt w b off xs) (hc1 : xs.length ≤ cap) (hc2 : cap ≤ 9223372036854775807) :
    Calls Tryz.prog 34 #[.slice (some ⟨b,off,none⟩) xs.length cap] w fun e w'=>e = .returned (.bool (xs.all numB))∧Below w.heap.size w w':=by
  have H:=Lib.hid (cnall_any numB xs (some ⟨b,off,none⟩) cap b off w (fun _=>rfl) hF hc1 hc2 fun x _ W _=>cnum_any x W)
  obtain ⟨r,hr⟩ : ∃ r,xs.all numB = r:=⟨_,rfl⟩
  rw [hr] at H ⊢
  clear hF hr
  go_enter Tryz.func34,Tryz.ntmps34
  go_wp2_with (fail)
  refine H.out.mono ?_
  rintro e w1 ⟨rfl,hb1⟩
  have HB1:=Lib.hid hb1
  clear hb1
  go_wp2_with (fail)
  go_ret
  exact ⟨rfl,HB1.out⟩
theorem nums_laid (w : World) (xs : List Int) (t : TypeId) : NumAt (w.alloc (.cells (xs.map fun x=>Value.int .i64 x).toArray t)) w.heap.size 0 xs:=fun j x hx =>
  ⟨by simp,by
    rw [show (⟨w.heap.size,0 + j,none⟩ : Addr) = ⟨w.heap.size,j,none⟩ by rw [Nat.zero_add],World.cell?_alloc_new]
    simp [hx]⟩
theorem cinstr_any (x : Ins) (w : World) : Calls Tryz.prog 36 #[insA x] w fun e w'=>e = .returned (.bool (insB x))∧Below w.heap.size w w':=by
  obtain ⟨W0,hW0⟩ : ∃ W0,w.alloc (insO x) = W0:=⟨_,rfl⟩
  have hb0 : Below w.heap.size w W0:=by rw [← hW0]; exact (Below.refl _ w).alloc (Nat.le_refl _) _
  have ho : W0.heap[w.heap.size]? = some (insO x):=by rw [← hW0]; unfold World.alloc; simp
  have hsz : W0.heap.size = w.heap.size + 1:=by rw [← hW0]; simp
  have hn:=nums_laid W0 [x.op,x.a,x.b] 3
  have hb1 : Below w.heap.size w (W0.alloc (.cells #[.int .i64 x.op,.int .i64 x.a,.int .i64 x.b] 3)):=hb0.alloc hb0.size _
  have H : Hid (Calls Tryz.prog 34 #[.slice (some ⟨w.heap.size + 1,0,none⟩) 3 3] (W0.alloc (.cells #[.int .i64 x.op,.int .i64 x.a,.int .i64 x.b] 3)) fun e w'=>e = .returned (.bool ([x.op,x.a,x.b].all numB))∧Below (W0.alloc (.cells #[.int .i64 x.op,.int .i64 x.a,.int .i64 x.b] 3)).heap.size (W0.alloc (.cells #[.int .i64 x.op,.int .i64 x.a,.int .i64 x.b] 3)) w'):=Lib.hid (by rw [← hsz]; exact cnums_any [x.op,x.a,x.b] W0.heap.size 0 3 _ hn (Nat.le_refl 3) (by decide))
  have HB1:=Lib.hid hb1
  have HW0:=Lib.hid hW0
  obtain ⟨y0,y1,y2⟩:=I3.of_block ho
  have E : Hid (insB x = [x.op,x.a,x.b].all numB):=Lib.hid rfl
  obtain ⟨r,hr⟩ : ∃ r,[x.op,x.a,x.b].all numB = r:=⟨_,rfl⟩
  rw [hr] at H E
  clear hW0 hb0 ho hn hb1 hr hsz
  go_enter Tryz.func36,Tryz.ntmps36
  go_wp2_with (fail)
  rw [HW0.out]
  refine H.out.mono ?_
  rintro e w1 ⟨rfl,hb1⟩
  have HB2:=Lib.hid (bel_trans (B:=w.heap.size) HB1.out hb1)
  clear hb1
  go_wp2_with (fail)
  go_ret
  exact ⟨by rw [E.out]; rfl,HB2.out⟩
theorem cname_any (s : ByteArray) (w : World) : Calls Tryz.prog 20 #[.string s] w fun e w'=>e = .returned (.bool (decide (s.size ≤ 100)))∧Below w.heap.size w w':=by
  have d1 : decide ((s.size : Int) ≤ 100) = decide (s.size ≤ 100):=decide_eq_decide.2 (by omega)
  go_enter Tryz.func20,Tryz.ntmps20
  go_wp2_with (fail)
  go_ret
  exact ⟨by first | rfl | simp [*],Below.refl _ _⟩
theorem cproc_any (p : Prh) (w : World) (hv : PrV w p) (hok : p.Ok) : Calls Tryz.prog 18 #[prA p] w fun e w'=>e = .returned (.bool (prB p))∧Below w.heap.size w w':=by
  obtain ⟨W0,hW0⟩ : ∃ W0,w.alloc (prO p) = W0:=⟨_,rfl⟩
  have hb0 : Below w.heap.size w W0:=by rw [← hW0]; exact (Below.refl _ w).alloc (Nat.le_refl _) _
  have ho : W0.heap[w.heap.size]? = some (prO p):=by rw [← hW0]; unfold World.alloc; simp
  have hs0 : w.heap.size < W0.heap.size:=by rw [← hW0]; simp
  have N1:=Lib.hid fun W=>cname_any p.nm W
  have N2 : Hid (∀ W : World,Calls Tryz.prog 34 #[.slice (some ⟨W.heap.size,0,none⟩) 4 4] (W.alloc (.cells #[.int .i64 p.pa,.int .i64 p.sl,.int .i64 p.de,.int .i64 p.fr] 3)) fun e w'=>e = .returned (.bool ([p.pa,p.sl,p.de,p.fr].all numB))∧Below (W.alloc (.cells #[.int .i64 p.pa,.int .i64 p.sl,.int .i64 p.de,.int .i64 p.fr] 3)).heap.size (W.alloc (.cells #[.int .i64 p.pa,.int .i64 p.sl,.int .i64 p.de,.int .i64 p.fr] 3)) w'):=Lib.hid fun W =>
    cnums_any [p.pa,p.sl,p.de,p.fr] W.heap.size 0 4 _ (nums_laid W [p.pa,p.sl,p.de,p.fr] 3) (Nat.le_refl 4) (by decide)
  have N3 : Hid (∀ W,Below w.heap.size w W → Calls Tryz.prog 35 #[.slice p.B p.code.length p.cap,.func (.func 36) #[] #[]] W fun e w'=>e = .returned (.bool (p.code.all insB))∧Below W.heap.size W w'):=Lib.hid fun W hW=>by
    obtain ⟨b,off,hB,hF⟩:=hv.below hW
    exact ciall_any insB p.code p.B p.cap b off W hB hF hok.cap.1 hok.cap.2 fun x _ W2 _=>cinstr_any x W2
  have HB0:=Lib.hid hb0
  have HO:=Lib.hid ho
  have HS:=Lib.hid hs0
  have HW0:=Lib.hid hW0
  obtain ⟨y0,y1,y2,y3,y4,y5,y6⟩:=P7.of_block ho
  have E : Hid (prB p = (decide (p.nm.size ≤ 100) && ([p.pa,p.sl,p.de,p.fr].all numB && p.code.all insB))):=Lib.hid rfl
  obtain ⟨r1,hr1⟩ : ∃ r,decide (p.nm.size ≤ 100) = r:=⟨_,rfl⟩
  obtain ⟨r2,hr2⟩ : ∃ r,[p.pa,p.sl,p.de,p.fr].all numB = r:=⟨_,rfl⟩
  obtain ⟨r3,hr3⟩ : ∃ r,p.code.all insB = r:=⟨_,rfl⟩
  rw [hr1] at N1 E
  rw [hr2] at N2 E
  rw [hr3] at N3 E
  clear hW0 hb0 ho hs0 hr1 hr2 hr3 hv hok
  go_enter Tryz.func18,Tryz.ntmps18
  go_wp2_with (fail)
  rw [HW0.out]
  refine (N1.out _).mono ?_
  rintro e w1 ⟨rfl,hb1⟩
  have HB1:=Lib.hid (bel_trans (B:=w.heap.size) HB0.out hb1)
  have K1:=Lib.hid ((P7.of_block HO.out).keep hb1 HS.out)
  have hs1 : w.heap.size < w1.heap.size:=Nat.lt_of_lt_of_le HS.out hb1.size
  have HS1:=Lib.hid hs1
  clear hb1 y0 y1 y2 y3 y4 y5 y6 hs1
  cases r1
  · go_wp2_with (fail)
    go_ret
    exact ⟨by rw [E.out]; rfl,HB1.out⟩
  obtain ⟨y0,y1,y2,y3,y4,y5,y6⟩:=K1.out
  simp only [Nat.zero_add] at y0 y1 y2 y3 y4 y5 y6
  go_wp2_with (fail)
  refine (N2.out _).mono ?_
  rintro e w2 ⟨rfl,hb2⟩
  have hba : Below w1.heap.size w1 w2:=bel_trans (B:=w1.heap.size) ((Below.refl _ w1).alloc (Nat.le_refl _) _) hb2
  have HB2:=Lib.hid (bel_trans (B:=w.heap.size) HB1.out hba)
  have K2:=Lib.hid (K1.out.keep hba HS1.out)
  clear hb2 hba y0 y1 y2 y3 y4 y5 y6
  cases r2
  · go_wp2_with (fail)
    go_ret
    exact ⟨by rw [E.out]; rfl,HB2.out⟩
  obtain ⟨y0,y1,y2,y3,y4,y5,y6⟩:=K2.out
  simp only [Nat.zero_add] at y0 y1 y2 y3 y4 y5 y6
  go_wp2_with (fail)
  refine (N3.out _ HB2.out).mono ?_
  rintro e w3 ⟨rfl,hb3⟩
  have HB3:=Lib.hid (bel_trans (B:=w.heap.size) HB2.out hb3)
  clear hb3
  go_wp2_with (fail)
  go_ret
  exact ⟨by rw [E.out]; rfl,HB3.out⟩
theorem cconst_by (h : Hd) (n : Nat) (t : ByteArray) (z : Int) (w : World) (hP : ∀ W,Below w.heap.size w W → Calls Tryz.prog 41 #[datA h n] W fun e w'=>e = .returned (.tuple #[.string t,.int .i64 z])∧Below W.heap.size W w') :
    Calls Tryz.prog 22 #[datA h n] w fun e w'=>e = .returned (.bool ((z == 0) && decide (t.size ≤ 20000)))∧Below w.heap.size w w':=by
  obtain ⟨W0,hW0,hb0,ho,hs0⟩:=dat_block w h n
  have H:=Lib.hid (hP W0 hb0)
  have d1 : decide ((t.size : Int) ≤ 20000) = decide (t.size ≤ 20000):=decide_eq_decide.2 (by omega)
  have HB0:=Lib.hid hb0
  have HW0:=Lib.hid hW0
  obtain ⟨y0,y1,y2,y3,y4,y5,y6,y7⟩:=C8.of_block ho
  clear hW0 hb0 ho hs0 hP
  obtain ⟨q,hq⟩ : ∃ q,(z == 0) = q:=⟨_,rfl⟩
  rw [hq]
  cases q
  · go_enter Tryz.func22,Tryz.ntmps22
    go_wp2_with (fail)
    rw [HW0.out]
    refine H.out.mono ?_
    rintro e w1 ⟨rfl,hb1⟩
    have HB1:=Lib.hid (bel_trans (B:=w.heap.size) HB0.out hb1)
    clear hb1
    go_wp2_with (fail)
    go_ret
    exact ⟨by first | rfl | simp,HB1.out⟩
  · go_enter Tryz.func22,Tryz.ntmps22
    go_wp2_with (fail)
    rw [HW0.out]
    refine H.out.mono ?_
    rintro e w1 ⟨rfl,hb1⟩
    have HB1:=Lib.hid (bel_trans (B:=w.heap.size) HB0.out hb1)
    clear hb1
    go_wp2_with (fail)
    go_ret
    exact ⟨by first | rfl | simp [*],HB1.out⟩
end LM
namespace LM
end LM
end Go.Proofs.YtihbgghlnppkiaaGreatDoor
namespace Go.Proofs.YtihbgghlnppkiaaGreatDoor
open Go Go.Shelf Go.RowKit Go.Sort Go.Lib
namespace LM
theorem ftoaF_mzero (b B : Nat) (W0 : World) (v : Value) (w : World) (hbe : b = 9223372036854775808) (hob : OB B W0 0 [] v [] w) :
    Calls Tryz.prog 140 #[v,.float .f64 b,.int .u8 102,.int .i64 (-1)] w fun r w' =>
      ∃ v' g ds,r = .returned v'∧OB B W0 g ds v' (fmtF true [] 0) w':=by
  obtain ⟨bq,hbq⟩ : ∃ q,b / 4503599627370496 = q:=⟨_,rfl⟩
  have hbqi : (b : Int) / 4503599627370496 = (bq : Int):=by omega
  have hbql : bq < 4096:=by omega
  have hex2 : bits .and .i64 (bq : Int) 2047 = 0:=by
    have h:=i64_and_nat bq 2047 (by omega) (by decide)
    have h2 : bq &&& 2047 = 0:=by rw [nat_mask11]; omega
    rw [h2] at h
    exact h
  have hfr2 : bits .and .u64 (b : Int) 4503599627370495 = 0:=by
    have h:=u64_and_nat b 4503599627370495 (by omega) (by decide)
    have h2 : b &&& 4503599627370495 = 0:=by
      rw [show b &&& 4503599627370495 = b % 2 ^ 52 from Nat.and_two_pow_sub_one_eq_mod b 52]
      omega
    rw [h2] at h
    exact h
  have hneg2 : ((b : Int) / 9223372036854775808 != 0) = true:=by
    rw [bne_iff_ne]; omega
  have RB:=run_sbits b
  have FZ:=Lib.hid fun k=>fmtF_zero B W0 v [] (w.drewN k) true 0 (hob.drewN k) (by decide)
  clear hbe hbq hob
  go_enter Tryz.func140,Tryz.ntmps140
  go_wp2_with (fail)
  go_quiet (fail)
  go_wp2_with (fail)
  refine (FZ.out _).mono ?_
  rintro r w4 ⟨v4,rfl,hob4⟩
  go_wp2
  go_ret
  exact ⟨_,_,_,rfl,hob4⟩
end LM
namespace LM
theorem atoi_all : ((List.range 1999).all fun i=>decide (Lib.atoi (expB ((i : Int) - 999)) = some ((i : Int) - 999))) = true:=by decide +kernel
theorem atoi_exp {x : Int} (h0 : -999 ≤ x) (h1 : x ≤ 999) : Lib.atoi (expB x) = some x:=by
  have h:=List.all_eq_true.1 atoi_all (x + 999).toNat (List.mem_range.2 (by omega))
  have e : (((x + 999).toNat : Nat) : Int) - 999 = x:=by omega
  rw [e] at h
  exact of_decide_eq_true h
abbrev preE (neg : Bool) (D : List UInt8) : List UInt8:=signB neg ++ (D.take 1 ++ restB D)
theorem fmtE_split (neg : Bool) (D : List UInt8) (dp : Int) : fmtE neg D dp = preE neg D ++ 101 :: expB (dp - 1):=by
  unfold fmtE
  simp [List.append_assoc]
theorem sign_mem {neg : Bool} {x : UInt8} (h : x ∈ signB neg) : x = 45:=by
  unfold signB at h
  cases neg <;> simp at h
  exact h
theorem pre_mem {neg : Bool} {D : List UInt8} {x : UInt8} (h : x ∈ preE neg D) : x = 45 ∨ x = 46 ∨ x ∈ D:=by
  rcases List.mem_append.1 h with h | h
  · exact .inl (sign_mem h)
  · rcases List.mem_append.1 h with h | h
    · exact .inr (.inr (List.mem_of_mem_take h))
    · unfold restB at h
      split at h
      · cases h
      · rcases List.mem_cons.1 h with h | h
        · exact .inr (.inl h)
        · exact .inr (.inr (List.mem_of_mem_drop h))
theorem pre_e {neg : Bool} {D : List UInt8} {dp : Int} (h : FinT D dp) : 101 ∉ preE neg D:=fun hm=>by
  rcases pre_mem hm with h2 | h2 | h2
  · cases h2
  · cases h2
  · have:=h.dig _ h2
    have e : (101 : UInt8).toNat = 101:=rfl
    omega
theorem pre_len {neg : Bool} {D : List UInt8} {dp : Int} (h : FinT D dp) : (preE neg D).length ≤ 22∧preE neg D ≠ []:=by
  have h1:=h.le
  have h2:=h.ne
  have hs : (signB neg).length ≤ 1:=by unfold signB; cases neg <;> simp
  have hr : (restB D).length ≤ 20:=by
    unfold restB
    split
    · simp
    · simp; omega
  refine ⟨by rw [List.length_append,List.length_append,List.length_take]; omega,fun e=>?_⟩
  have h5 : (signB neg ++ (D.take 1 ++ restB D)).length = 0:=by
    rw [show signB neg ++ (D.take 1 ++ restB D) = [] from e]
    rfl
  rw [List.length_append,List.length_append,List.length_take] at h5
  omega
theorem exp_len (x : Int) : (expB x).length ≤ 4:=by
  unfold expB
  simp only [List.length_cons]
  split
  · simp
  · split <;> simp
theorem fmtF_len {neg : Bool} {D : List UInt8} {dp : Int} (h : FinT D dp) : (fmtF neg D dp).length ≤ 1000∧fmtF neg D dp ≠ []:=by
  have h1:=h.le
  have h2:=h.ne
  have h3:=h.dp
  have hs : (signB neg).length ≤ 1:=by unfold signB; cases neg <;> simp
  have hi : (intB D dp).length ≤ 420∧1 ≤ (intB D dp).length:=by
    unfold intB
    split
    · rw [List.length_append,List.length_take,List.length_replicate]; omega
    · simp
  have hf : (fracB D dp).length ≤ 430:=by
    unfold fracB
    split
    · simp
    · rw [List.length_cons,List.length_append,List.length_replicate,List.length_drop]; omega
  unfold fmtF
  refine ⟨by rw [List.length_append,List.length_append]; omega,fun e=>?_⟩
  have h5 : (signB neg ++ (intB D dp ++ fracB D dp)).length = 0:=by
    rw [e]
    rfl
  rw [List.length_append,List.length_append] at h5
  omega
theorem fin_facts (b a : Nat) (hb : b < 18446744073709551616) (ha : b % 9223372036854775808 = a) (hfin : a < 9218868437227405312) :
    ¬ nanW b∧(FloatKind.f64.format.order b 9218868437227405311 == some .gt) = false∧(FloatKind.f64.format.order (Op.negFloat .f64 b) 9218868437227405311 == some .gt) = false∧(FloatKind.f64.format.order a 0 == some .eq) = decide (a = 0):=by
  obtain ⟨s,m,e,hc,rfl⟩:=word_of b hb (by omega)
  refine ⟨can_nan hc,can_pinf hc,can_minf hc,?_⟩
  rw [can_abs hc] at ha
  subst ha
  rw [canf_zero hc]
  obtain ⟨h1,h2,h3,h4⟩:=hc
  rw [decide_eq_decide]
  unfold wordF
  simp
  omega
theorem small_facts (a : Nat) (h : a < 4503599627370496) : (FloatKind.f64.format.order a 4562254508917369340 == some .gt || FloatKind.f64.format.order a 4562254508917369340 == some .eq) = false:=by
  have hc : CanF a (-1074):=⟨by omega,by omega,by omega,.inr rfl⟩
  have e : a = wordF false a (-1074):=by unfold wordF; simp
  have hk : CanF 4611686018427388 (-62):=by unfold CanF; decide
  have hlt : sv false a (-1074) < sv false 4611686018427388 (-62):=by
    rw [sv_false,sv_false]
    have h2 : 4611686018427388 * 1 ≤ 4611686018427388 * 2 ^ ((-62 : Int) + 1074).toNat:=Nat.mul_le_mul_left _ (Nat.pow_pos (by decide))
    have h3 : a * 2 ^ ((-1074 : Int) + 1074).toNat = a:=by rw [show ((-1074 : Int) + 1074).toNat = 0 from by decide]; simp
    rw [h3]
    generalize 4611686018427388 * 2 ^ ((-62 : Int) + 1074).toNat = z at h2
    omega
  have ho : FloatKind.f64.format.order a 4562254508917369340 = some (compare (sv false a (-1074)) (sv false 4611686018427388 (-62))):=by
    have h2:=order_num (s:=false) (t:=false) hc hk
    rw [← e,show wordF false 4611686018427388 (-62) = 4562254508917369340 from by decide] at h2
    exact h2
  rw [ho,cmp_gt,cmp_eq,decide_eq_false (by omega),decide_eq_false (by omega)]
  rfl
abbrev FormF (a : Nat) : Prop:=(FloatKind.f64.format.order a 4562254508917369340 == some .gt || FloatKind.f64.format.order a 4562254508917369340 == some .eq) = true∧(FloatKind.f64.format.order a 4921056587992461136 == some .lt) = true
abbrev FormE (a : Nat) : Prop:=(FloatKind.f64.format.order a 4562254508917369340 == some .gt || FloatKind.f64.format.order a 4562254508917369340 == some .eq) = false ∨ ((FloatKind.f64.format.order a 4562254508917369340 == some .gt || FloatKind.f64.format.order a 4562254508917369340 == some .eq) = true∧(FloatKind.f64.format.order a 4921056587992461136 == some .lt) = false)
theorem form_or (a : Nat) : FormF a ∨ FormE a:=by
  unfold FormF FormE
  generalize (FloatKind.f64.format.order a 4562254508917369340 == some .gt || FloatKind.f64.format.order a 4562254508917369340 == some .eq) = x
  generalize (FloatKind.f64.format.order a 4921056587992461136 == some .lt) = y
  cases x <;> cases y <;> simp
theorem ftext_e (b a : Nat) (neg : Bool) (D : List UInt8) (dp : Int) (hf : FinT D dp) (hb : b < 18446744073709551616) (ha : b % 9223372036854775808 = a) (hfin : a < 9218868437227405312) (h0 : a ≠ 0) (hz : FormE a) (hok : FtoaOk b 101 (fmtE neg D dp)) (w : World) (hv : FV w) :
    Calls Tryz.prog 86 #[.float .f64 b] w fun e w'=>e = .returned (.string ⟨(pointB (preE neg D) ++ 101 :: Lib.itoa (dp - 1)).toArray⟩)∧Below w.heap.size w w':=by
  obtain ⟨f1,f2,f3,f4⟩:=fin_facts b a hb ha hfin
  rw [decide_eq_false h0] at f4
  have h4:=hf.dp
  obtain ⟨p1,p2⟩:=pre_len (neg:=neg) hf
  exact flotext_e b a (fmtE neg D dp) (preE neg D) (expB (dp - 1)) (dp - 1) w hb ha f1 f2 f3 f4 hz (by rw [fmtE_split,List.length_append,List.length_cons]; have:=exp_len (dp - 1); omega) (fmtE_split _ _ _) (pre_e hf) (by have:=exp_len (dp - 1); omega) (atoi_exp (by omega) (by omega)) (by omega) hv.tab (hok w hv)
theorem ftext_f (b a : Nat) (neg : Bool) (D : List UInt8) (dp : Int) (hf : FinT D dp) (hb : b < 18446744073709551616) (ha : b % 9223372036854775808 = a) (hfin : a < 9218868437227405312) (h0 : a ≠ 0) (hz : FormF a) (hok : FtoaOk b 102 (fmtF neg D dp)) (w : World) (hv : FV w) :
    Calls Tryz.prog 86 #[.float .f64 b] w fun e w'=>e = .returned (.string ⟨(pointB (fmtF neg D dp)).toArray⟩)∧Below w.heap.size w w':=by
  obtain ⟨f1,f2,f3,f4⟩:=fin_facts b a hb ha hfin
  rw [decide_eq_false h0] at f4
  obtain ⟨p1,p2⟩:=fmtF_len (neg:=neg) hf
  exact flotext_f b a (fmtF neg D dp) w hb ha f1 f2 f3 (.inr ⟨f4,hz.1,hz.2⟩) (by omega) p2 (hok w hv)
end LM
namespace LM
theorem dec_three {u : Nat} (h1 : ¬ u < 100) (h2 : u < 1000) : decDigits u = [UInt8.ofNat (48 + u / 100),UInt8.ofNat (48 + u / 10 % 10),UInt8.ofNat (48 + u % 10)]:=by
  have e : decDigits u = decDigits (u / 10) ++ [UInt8.ofNat (48 + u % 10)]:=by
    rw [decDigits]
    exact dif_neg (by omega)
  rw [e,decDigits_two (by omega) (by omega),show u / 10 / 10 = u / 100 from by omega]
  rfl
theorem exp_itoa {x : Int} (h0 : -999 ≤ x) (h1 : x ≤ 999) : ∃ sg P T,expB x = sg :: P∧((sg = 43∧Lib.itoa x = T) ∨ (sg = 45∧Lib.itoa x = 45 :: T)) ∧
    ((∃ c,P = [48,c]∧T = [c]) ∨ (T = P∧∃ c r,P = c :: r∧48 < c.toNat))∧2 ≤ P.length∧P.length ≤ 3∧∀ b ∈ P,48 ≤ b.toNat∧b.toNat ≤ 57:=by
  obtain ⟨u,hu⟩ : ∃ u,x.natAbs = u:=⟨_,rfl⟩
  have hd : ∀ v : Nat,v < 10 → (UInt8.ofNat (48 + v)).toNat = 48 + v:=fun v hv=>by
    have : (UInt8.ofNat (48 + v)).toNat = (48 + v) % 256:=by simp
    rw [this]; omega
  have hi : (x < 0∧Lib.itoa x = 45 :: decDigits u) ∨ (¬ x < 0∧Lib.itoa x = decDigits u):=by
    unfold Lib.itoa
    by_cases hx : x < 0
    · rw [if_pos hx,hu]; exact .inl ⟨hx,rfl⟩
    · rw [if_neg hx,show x.toNat = u from by omega]; exact .inr ⟨hx,rfl⟩
  unfold expB
  rw [hu]
  refine ⟨if x < 0 then 45 else 43,if u < 10 then [48,UInt8.ofNat (48 + u)] else if u < 100 then [UInt8.ofNat (48 + u / 10),UInt8.ofNat (48 + u % 10)] else [UInt8.ofNat (48 + u / 100),UInt8.ofNat (48 + u / 10 % 10),UInt8.ofNat (48 + u % 10)],decDigits u,rfl,?_,?_⟩
  · rcases hi with ⟨h2,h3⟩ | ⟨h2,h3⟩
    · rw [if_pos h2]; exact .inr ⟨rfl,h3⟩
    · rw [if_neg h2]; exact .inl ⟨rfl,h3⟩
  · by_cases k1 : u < 10
    · rw [if_pos k1,decDigits_one k1]
      refine ⟨.inl ⟨_,rfl,rfl⟩,by simp,by simp,fun b hb=>?_⟩
      simp only [List.mem_cons,List.not_mem_nil,or_false] at hb
      rcases hb with rfl | rfl
      · decide
      · rw [hd u k1]; omega
    · rw [if_neg k1]
      by_cases k2 : u < 100
      · rw [if_pos k2,decDigits_two k1 k2]
        refine ⟨.inr ⟨rfl,_,_,rfl,by rw [hd _ (by omega)]; omega⟩,by simp,by simp,fun b hb=>?_⟩
        simp only [List.mem_cons,List.not_mem_nil,or_false] at hb
        rcases hb with rfl | rfl
        · rw [hd _ (by omega)]; omega
        · rw [hd _ (by omega)]; omega
      · rw [if_neg k2,dec_three k2 (by omega)]
        refine ⟨.inr ⟨rfl,_,_,rfl,by rw [hd _ (by omega)]; omega⟩,by simp,by simp,fun b hb=>?_⟩
        simp only [List.mem_cons,List.not_mem_nil,or_false] at hb
        rcases hb with rfl | rfl | rfl
        · rw [hd _ (by omega)]; omega
        · rw [hd _ (by omega)]; omega
        · rw [hd _ (by omega)]; omega
end LM
namespace LM
attribute [local go_sem] run_store_flt
end LM
namespace LM
attribute [local go_sem] run_store_flt
def allP : List UInt8 → Bool
  | []=>true
  | c :: l=>plainB c.toNat && allP l
def nameV (l : List UInt8) (q : Bool) : Bool:=decide (1 ≤ l.length) && (decide (l.length ≤ 40) && (decide (l ≠ [46]) && (allP l && q)))
def NoNum (l : List UInt8) (ff : Nat) : Prop:=¬ OkText (signOf l).2∧(parV l ff).2 ≠ 0
theorem plain_ascii : ∀ b : Fin 256,plainB b.val = true → b.val < 128:=by decide
theorem allP_ascii : ∀ (l : List UInt8),allP l = true → ∀ (j : Nat) b,l[j]? = some b → b.toNat < 128
  | [],_,j,b,h=>by simp at h
  | c :: l,hp,j,b,h=>by
    unfold allP at hp
    rw [Bool.and_eq_true] at hp
    cases j with
    | zero =>
      simp at h
      subst h
      exact plain_ascii ⟨c.toNat,c.toNat_lt⟩ hp.1
    | succ j =>
      rw [List.getElem?_cons_succ] at h
      exact allP_ascii l hp.2 j b h
theorem pout_er {l : List UInt8} {z er : Int} (h : POut l z er) (hk : OkText (signOf l).2) : er = 11 ∨ er = 0:=by
  rcases h with ⟨h1,_⟩ | ⟨_,_,_,h4⟩ | ⟨_,_,_,h4⟩
  · exact absurd hk h1
  · exact .inl h4
  · exact .inr h4
theorem tout_er {l : List UInt8} {ff : Nat} {w : World} {fl : Bool} {f : Nat} {s : Bool} {A : Option Addr} {n c : Nat} {er : Int} {q : Bool} (hq : q = true ↔ NoNum l ff) (h : TOut l ff w fl f s A n c er) : (er == 13) = q:=by
  rcases h with ⟨h1,_,_,z,h4,_⟩ | ⟨h1,h2,_,_,_,_,_,_,h3⟩ | ⟨h1,h2,_,_,_,_,_,_,h3⟩
  · have hf : q = false:=by rw [Bool.eq_false_iff]; exact fun h=>(hq.1 h).1 h1
    rcases pout_er h4 h1 with rfl | rfl <;> rw [hf] <;> rfl
  · rw [hq.2 ⟨h1,h2⟩,h3]; rfl
  · have hf : q = false:=by rw [Bool.eq_false_iff]; exact fun h=>(hq.1 h).2 h2
    rw [hf,h3]; rfl
theorem dname_any (s : ByteArray) (ff : Nat) (q : Bool) (hq : q = true ↔ NoNum s.data.toList ff) (hf : ReadsF s ff) (w : World) (hv : FV w) (hx : FX w) (hr : RngCell w) (hsy : SynCell w) :
    Calls Tryz.prog 82 #[.string s] w fun e w'=>e = .returned (.bool (nameV s.data.toList q))∧Below w.heap.size w w':=by
  have hz : s.data.toList.length = s.size:=by rw [Lib.size_eq]
  have hl:=Go.ByteArray.toList_eq s
  obtain ⟨R,hR⟩ : ∃ R,nameV s.data.toList q = R:=⟨_,rfl⟩
  rw [hR]
  unfold nameV at hR
  rw [hz] at hR
  by_cases h1 : s.size < 1
  · have HR:=Lib.hid (show R = false by rw [← hR,decide_eq_false (by omega : ¬ 1 ≤ s.size)]; rfl)
    have e1 : decide ((s.size : Int) < 1) = true:=decide_eq_true (by omega)
    clear hR hz hl hv hx hr hsy hf hq h1
    go_enter Tryz.func82,Tryz.ntmps82
    go_wp2_with (fail)
    go_returns
    rw [HR.out]
    exact ⟨rfl,Below.refl _ _⟩
  · have e1 : decide ((s.size : Int) < 1) = false:=decide_eq_false (by omega)
    by_cases h2 : 40 < s.size
    · have HR:=Lib.hid (show R = false by rw [← hR,decide_eq_false (by omega : ¬ s.size ≤ 40)]; simp)
      have e2 : decide ((40 : Int) < (s.size : Int)) = true:=decide_eq_true (by omega)
      clear hR hz hl hv hx hr hsy hf hq h1 h2
      go_enter Tryz.func82,Tryz.ntmps82
      go_wp2_with (fail)
      go_returns
      rw [HR.out]
      exact ⟨rfl,Below.refl _ _⟩
    · have e2 : decide ((40 : Int) < (s.size : Int)) = false:=decide_eq_false (by omega)
      by_cases h3 : s.data.toList = [46]
      · have HR:=Lib.hid (show R = false by rw [← hR,h3]; simp)
        have c1 : (s.toList == [46]) = true:=by rw [hl,h3]; rfl
        clear hR hz hl hv hx hr hsy hf hq h1 h2 h3
        go_enter Tryz.func82,Tryz.ntmps82
        go_wp2_with (fail)
        go_returns
        rw [HR.out]
        exact ⟨rfl,Below.refl _ _⟩
      · have c1 : (s.toList == [46]) = false:=by rw [hl]; simpa using h3
        have hR2 : (allP s.data.toList && q) = R:=by
          rw [← hR,decide_eq_true (by omega : 1 ≤ s.size),decide_eq_true (by omega : s.size ≤ 40),decide_eq_true h3]; rfl
        have HR:=Lib.hid hR2
        have HBY:=Lib.hid (byF_at s)
        have TP:=Lib.hid (fun (hp : allP s.data.toList = true)=>tparse_any s ff (by omega) (allP_ascii _ hp) hf w hv hx hr hsy)
        have HQ:=Lib.hid hq
        have hS : s.size ≤ 40:=by omega
        have HA:=Lib.hid (show allP (s.data.toList.drop 0) = allP s.data.toList from rfl)
        obtain ⟨AP,hAP⟩ : ∃ AP,allP s.data.toList = AP:=⟨_,rfl⟩
        rw [hAP] at HR TP HA
        clear hR hR2 hz hl hv hx hr hsy hf hq h1 h2 h3 hAP
        go_enter Tryz.func82,Tryz.ntmps82
        go_wp2_with (fail)
        go_loopg [20] s.size (fun qq i wr=>wr = w∧∃ (j : Nat),s.size - j = qq∧j ≤ s.size∧i = .int .i64 (j : Int)∧Hid (allP (s.data.toList.drop j) = AP))
        case atStart=>exact ⟨rfl,0,rfl,Nat.zero_le _,rfl,HA⟩
        case round =>
          obtain ⟨rfl,j,rfl,hj,rfl,hrun⟩:=hrel
          clear HA
          by_cases hlt : j < s.size
          · obtain ⟨c8,hd,hc8⟩:=drop_byte s j hlt
            have hby:=HBY.out j hlt
            have h1:=hrun.out
            rw [hd] at h1
            unfold allP at h1
            rw [hc8] at h1
            obtain ⟨c,hc⟩ : ∃ c,byF s j = c:=⟨_,rfl⟩
            have hc256 : c < 256:=by rw [← hc,← hc8]; exact c8.toNat_lt
            rw [hc] at hby h1
            have F1:=Lib.hid fun W=>isname_any c hc256 W
            have e0 : decide ((j : Int) < (s.size : Int)) = true:=decide_eq_true (by omega)
            obtain ⟨k,hk⟩ : ∃ k,plainB c = k:=⟨_,rfl⟩
            rw [hk] at F1 h1
            clear hd hc8 hc hrun hk
            cases k
            · have H1:=Lib.hid (show R = false by rw [← HR.out,← h1]; rfl)
              clear h1
              go_wp2_with (fail)
              refine (F1.out _).mono ?_
              rintro e w' ⟨rfl,rfl⟩
              go_wp2_with (fail)
              go_ret
              rw [H1.out]
              exact ⟨rfl,Below.refl _ _⟩
            · have H1:=Lib.hid (show allP (s.data.toList.drop (j + 1)) = AP by rw [← h1]; rfl)
              clear h1
              go_wp2_with (fail)
              refine (F1.out _).mono ?_
              rintro e w' ⟨rfl,rfl⟩
              go_wp2_with (fail)
              go_roundg (s.size - (j + 1))
              case measure=>omega
              case rel=>exact ⟨rfl,j + 1,rfl,by omega,by go_num,H1⟩
          · have hje : j = s.size:=by omega
            subst hje
            have h1:=hrun.out
            rw [List.drop_of_length_le (by rw [← Lib.size_eq]; exact Nat.le_refl _)] at h1
            have h1 : true = AP:=h1
            subst h1
            have H1:=Lib.hid (show R = q by rw [← HR.out]; rfl)
            have TP2:=Lib.hid (TP.out rfl)
            clear hrun HBY TP HR
            go_wp2_with (fail)
            refine TP2.out.mono ?_
            rintro e w' ⟨fl,f,sg,A,n,cc,er,rfl,ht,hb⟩
            have e13:=tout_er HQ.out ht
            have HB:=Lib.hid (hb.alloc hb.size (.cells #[.bool fl,.float .f64 f,.bool sg,.slice A n cc] 63))
            clear ht hb
            go_wp2_with (fail)
            go_returns
            rw [H1.out]
            exact ⟨rfl,HB.out⟩
end LM
namespace LM
theorem nonum_bool (l : List UInt8) (ff : Nat) : ∃ q : Bool,q = true ↔ NoNum l ff:=by
  by_cases h : NoNum l ff
  · exact ⟨true,fun _=>h,fun _=>rfl⟩
  · exact ⟨false,fun h2=>Bool.noConfusion h2,fun h2=>absurd h2 h⟩
end LM
end Go.Proofs.YtihbgghlnppkiaaGreatDoor
