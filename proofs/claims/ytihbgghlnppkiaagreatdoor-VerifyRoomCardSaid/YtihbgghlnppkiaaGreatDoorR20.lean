import Derived.Test.YtihbgghlnppkiaaGreatDoorR08
import Derived.Laws.AppendOwnNone
import Derived.Test.YtihbgghlnppkiaaGreatDoorR07
import Derived.Test.YtihbgghlnppkiaaGreatDoorR04
import Derived.Test.YtihbgghlnppkiaaGreatDoorR01
import Derived.Deep.RegionHeld3
import Derived.Test.YtihbgghlnppkiaaGreatDoorR17
import Derived.Test.YtihbgghlnppkiaaGreatDoorR19
import Derived.Test.YtihbgghlnppkiaaGreatDoorR21
import Derived.LoopTactic
import Derived.Deep.LoopGhost
import Derived.Deep.DeepCutAuto
import Derived.Deep.QuietTactic
import Derived.BigQuiet
import Derived.BigRegion
import Derived.WalkMore
import Derived.ScopeJumps
set_option linter.unusedVariables false
set_option linter.unusedSimpArgs false
set_option maxRecDepth 100000
set_option maxHeartbeats 16000000
namespace Go.Proofs.YtihbgghlnppkiaaGreatDoor
open Go.RowKit
namespace LM
section
variable {w w' : World} {L : List (Nat × Bool × Option Addr × Nat × Nat)} {M : List (Value × Int)}
end
end LM
namespace LM
end LM
namespace LM
section
variable {w W : World} {L : List (Nat × Bool × Option Addr × Nat × Nat)} {v1 va : Value} {p a : Int}
end
theorem bel_trans {B : Nat} {w W w2 : World} (h : Below B w W) (hb : Below W.heap.size W w2) (hB : B ≤ w.heap.size:=by exact Nat.le_refl _) : Below B w w2:=h.trans (hb.mono (Nat.le_trans hB h.size))
section
variable {w w2 : World} {K : Nat} {s s2 b1 b2 : Bool} {A A2 A1 B2 : Option Addr} {n c n2 c2 n1 c1 m2 d2 : Nat} {p a : Int}
end
end LM
end Go.Proofs.YtihbgghlnppkiaaGreatDoor
namespace Go.Proofs.YtihbgghlnppkiaaGreatDoor
open Go Go.RowKit
namespace LM
def Nx (w : World) (g : Nat) (fl : Bool) (f : Nat) (s : Bool) (A : Option Addr) (n c : Nat) : Prop:=w.heap[g]? = some (.cells #[.bool fl,.float .f64 f,.bool s,.slice A n c] 63 (0,0))
section
variable {w w' w2 : World} {g B : Nat} {fl : Bool} {f : Nat} {s : Bool} {A : Option Addr} {n c : Nat}
theorem Nx.lt (h : Nx w g fl f s A n c) : g < w.heap.size:=by
  rcases Nat.lt_or_ge g w.heap.size with hlt | hge
  · exact hlt
  · unfold Nx at h; rw [Array.getElem?_eq_none hge] at h; cases h
theorem Nx.facts (h : Nx w g fl f s A n c) :
    w.cell? ⟨g,0,none⟩ = some (.bool fl)∧w.cell? ⟨g,1,none⟩ = some (.float .f64 f)∧w.cell? ⟨g,2,none⟩ = some (.bool s)∧w.cell? ⟨g,3,none⟩ = some (.slice A n c) ∧
    w.frozen? ⟨g,0,none⟩ = false∧w.frozen? ⟨g,1,none⟩ = false∧w.frozen? ⟨g,2,none⟩ = false∧w.frozen? ⟨g,3,none⟩ = false∧g < w.heap.size:=by
  have hl:=h.lt
  unfold Nx at h
  exact ⟨by simp [World.cell?,h],by simp [World.cell?,h],by simp [World.cell?,h],by simp [World.cell?,h],by simp [World.frozen?,h],by simp [World.frozen?,h],by simp [World.frozen?,h],by simp [World.frozen?,h],hl⟩
theorem Nx.keep (h : Nx w g fl f s A n c) (hb : Below B w w') (hg : g < B) : Nx w' g fl f s A n c:=(hb.block _ hg).trans h
theorem Nx.below (h : Nx w g fl f s A n c) (hb : Below w.heap.size w w') : Nx w' g fl f s A n c:=h.keep hb h.lt
theorem Nx.new (w : World) (fl : Bool) (f : Nat) (s : Bool) (A : Option Addr) (n c : Nat) : Nx (w.alloc (.cells #[.bool fl,.float .f64 f,.bool s,.slice A n c] 63)) w.heap.size fl f s A n c:=by
  unfold Nx World.alloc
  simp
theorem Nx.stored (h : Nx w g fl f s A n c) (fl' : Bool) (f' : Nat) (s' : Bool) (A' : Option Addr) (n' c' : Nat) :
    Nx ((((w.setCell ⟨g,0,none⟩ (.bool fl')).setCell ⟨g,1,none⟩ (.float .f64 f')).setCell ⟨g,2,none⟩ (.bool s')).setCell ⟨g,3,none⟩ (.slice A' n' c')) g fl' f' s' A' n' c':=by
  have h1:=heap_setCell_same w g 0 _ _ (.bool fl') h
  have h2:=heap_setCell_same _ g 1 _ _ (.float .f64 f') h1
  have h3:=heap_setCell_same _ g 2 _ _ (.bool s') h2
  have h4:=heap_setCell_same _ g 3 _ _ (.slice A' n' c') h3
  exact h4.trans rfl
theorem Rd.offNx {A' : Option Addr} {xs : List Nat} (h : Rd w A' xs) (hb : Nx w g fl f s A n c) (hx : 0 < xs.length) : Off A' g:=by
  intro ad e e2
  obtain ⟨k,off,e3,hlt,hc⟩:=h hx
  rw [e3] at e
  injection e with e
  subst e
  obtain rfl : k = g:=e2
  have h0:=hc 0 hx
  unfold Nx at hb
  simp only [World.cell?,hb] at h0
  have : off = 0 ∨ off = 1 ∨ off = 2 ∨ off = 3 ∨ 4 ≤ off:=by omega
  rcases this with rfl | rfl | rfl | rfl | h2
  · simp at h0
  · simp at h0
  · simp at h0
  · simp at h0
  · rw [Array.getElem?_eq_none (by simp; omega)] at h0
    simp at h0
abbrev set4 (w : World) (g : Nat) (a b d e : Value) : World:=(((w.setCell ⟨g,0,none⟩ a).setCell ⟨g,1,none⟩ b).setCell ⟨g,2,none⟩ d).setCell ⟨g,3,none⟩ e
theorem Rd.stored4 {A' : Option Addr} {xs : List Nat} (h : Rd w A' xs) (hb : Nx w g fl f s A n c) (a b d e : Value) : Rd (set4 w g a b d e) A' xs:=fun hx =>
  ((((h.setCell (p:=⟨g,0,none⟩) (h.offNx hb hx) a).setCell (p:=⟨g,1,none⟩) (h.offNx hb hx) b).setCell (p:=⟨g,2,none⟩) (h.offNx hb hx) d).setCell (p:=⟨g,3,none⟩) (h.offNx hb hx) e) hx
theorem IntV.stored4 {v : Value} {z : Int} (h : IntV w v z) (hb : Nx w g fl f s A n c) (a b d e : Value) : IntV (set4 w g a b d e) v z:=by
  obtain ⟨A,c,r,e,h1,h2,h3,h4,h5⟩:=h
  exact ⟨A,c,r,e,h1,h2,h3.stored4 hb _ _ _ _,h4,h5⟩
theorem IntR.stored4 {v : Value} {z : Int} (h : IntR w v z) (hb : Nx w g fl f s A n c) (a b d e : Value) : IntR (set4 w g a b d e) v z:=by
  obtain ⟨A,c,r,e,h3,h4,h5⟩:=h
  exact ⟨A,c,r,e,h3.stored4 hb _ _ _ _,h4,h5⟩
theorem below_stored4 (h : Below B w w2) (hg : B ≤ g) (a b d e : Value) : Below B w (set4 w2 g a b d e) :=
  (((h.setCell (p:=⟨g,0,none⟩) hg a).setCell (p:=⟨g,1,none⟩) hg b).setCell (p:=⟨g,2,none⟩) hg d).setCell (p:=⟨g,3,none⟩) hg e
theorem stored_num (Y : Nx w2 g fl f s A n c) (hb : Below B w w2) (hg : B ≤ g) (fl' : Bool) (f' : Nat) (s' : Bool) (A' : Option Addr) (n' c' : Nat) :
    ∃ W,(((w2.setCell ⟨g,0,none⟩ (.bool fl')).setCell ⟨g,1,none⟩ (.float .f64 f')).setCell ⟨g,2,none⟩ (.bool s')).setCell ⟨g,3,none⟩ (.slice A' n' c') = W∧Nx W g fl' f' s' A' n' c'∧Below B w W∧(∀ v z,IntV w2 v z → IntV W v z)∧(∀ v z,IntR w2 v z → IntR W v z) :=
  ⟨_,rfl,Y.stored _ _ _ _ _ _,below_stored4 hb hg _ _ _ _,fun _ _ h=>h.stored4 Y _ _ _ _,fun _ _ h=>h.stored4 Y _ _ _ _⟩
end
theorem run_store_flt (P : Program) (w : World) (a : Addr) (m : Mode) (k : FloatKind) (b : Nat) : (store a (.float k b) m).run P w = stored P w a (.float k b) m:=run_store P w a _ m rfl
attribute [local go_sem] run_store_flt
theorem twhole_any (s : Bool) (A : Option Addr) (n c : Nat) (w : World) :
    Calls Tryz.prog 113 #[.agg #[.bool s,.slice A n c]] w fun e w'=>e = .returned (.agg #[.bool false,.float .f64 0,.bool s,.slice A n c])∧Below w.heap.size w w'∧(∀ v z,IntV w v z → IntV w' v z):=by
  go_enter Tryz.func113,Tryz.ntmps113
  go_wp2_with (fail)
  refine bodyPost_ret (v:=.agg #[.bool false,.float .f64 0,.bool s,.slice A n c]) (by simp [results,Tryz.results113,go_sem]) rfl ?_
  exact ⟨rfl,((Below.refl _ w).alloc (Nat.le_refl _) _).alloc (by simp) _,fun v z h=>(h.alloc _).alloc _⟩
end LM
namespace LM
attribute [local go_sem] run_store_flt
theorem tflo_any (f : Nat) (w : World) :
    Calls Tryz.prog 115 #[.float .f64 f] w fun e w'=>e = .returned (.agg #[.bool true,.float .f64 f,.bool false,.slice none 0 0])∧Below w.heap.size w w':=by
  go_enter Tryz.func115,Tryz.ntmps115
  go_wp2_with (fail)
  refine bodyPost_ret (v:=.agg #[.bool true,.float .f64 f,.bool false,.slice none 0 0]) (by simp [results,Tryz.results115,go_sem]) rfl ?_
  exact ⟨rfl,(Below.refl _ w).alloc (Nat.le_refl _) _⟩
theorem tnothing_any (s : Bool) (A : Option Addr) (n c : Nat) (w : World) :
    Calls Tryz.prog 91 #[.agg #[.bool s,.slice A n c]] w fun e w'=>e = .returned (.bool (decide (n = 0)))∧Below w.heap.size w w':=by
  have X0:=Bx.new w s A n c
  have hb0 : Below w.heap.size w (w.alloc (.cells #[.bool s,.slice A n c] 61)):=(Below.refl _ w).alloc (Nat.le_refl _) _
  obtain ⟨q0,q1,-,-,ql⟩:=X0.facts
  have HB0:=Lib.hid hb0
  have hd : ((n : Int) == 0) = decide (n = 0):=by
    rw [Bool.eq_iff_iff,beq_iff_eq,decide_eq_true_iff]; omega
  clear hb0 X0
  go_enter Tryz.func91,Tryz.ntmps91
  go_wp2_with (fail)
  go_ret
  exact ⟨rfl,HB0.out⟩
end LM
namespace LM
attribute [local go_sem] run_store_flt
def Obs (w : World) (L : List (Nat × Obj)) : Prop:=∀ q ∈ L,w.heap[q.1]? = some q.2
section
variable {w w' : World} {L : List (Nat × Obj)} {g : Nat} {o : Obj}
theorem Obs.nil : Obs w []:=fun q hq=>by cases hq
theorem Obs.cons (h : w.heap[g]? = some o) (hs : Obs w L) : Obs w ((g,o) :: L):=fun q hq=>by
  rcases List.mem_cons.1 hq with rfl | hq
  · exact h
  · exact hs q hq
theorem Obs.hd (h : Obs w ((g,o) :: L)) : w.heap[g]? = some o:=h _ (List.mem_cons_self ..)
theorem Obs.tl {p : Nat × Obj} (h : Obs w (p :: L)) : Obs w L:=fun q hq=>h q (List.mem_cons_of_mem _ hq)
theorem Obs.below (h : Obs w L) (hb : Below w.heap.size w w') : Obs w' L:=fun q hq=>by
  have h1:=h q hq
  refine (hb.block q.1 ?_).trans h1
  rcases Nat.lt_or_ge q.1 w.heap.size with h2 | h2
  · exact h2
  · rw [Array.getElem?_eq_none h2] at h1; cases h1
theorem Obs.alloc (h : Obs w L) (x : Obj) : Obs (w.alloc x) L:=fun q hq=>by
  have h1:=h q hq
  refine (Below.heap_alloc w x _ ?_).trans h1
  rcases Nat.lt_or_ge q.1 w.heap.size with h2 | h2
  · exact h2
  · rw [Array.getElem?_eq_none h2] at h1; cases h1
theorem Obs.new (h : Obs w L) (x : Obj) : Obs (w.alloc x) ((w.heap.size,x) :: L):=Obs.cons (by unfold World.alloc; simp) (h.alloc x)
end
theorem ob_cell {w : World} {g : Nat} {cs : Array Value} {T : TypeId} (h : w.heap[g]? = some (.cells cs T (0,0))) (i : Nat) : w.cell? ⟨g,i,none⟩ = cs[i]?:=by
  simp [World.cell?,h]
theorem ob_free {w : World} {g : Nat} {cs : Array Value} {T : TypeId} (h : w.heap[g]? = some (.cells cs T (0,0))) (i : Nat) (hi : i < cs.size) : w.frozen? ⟨g,i,none⟩ = false:=by
  simp [World.frozen?,h]
abbrev numO (fl : Bool) (f : Nat) (s : Bool) (A : Option Addr) (n c : Nat) : Obj:=.cells #[.bool fl,.float .f64 f,.bool s,.slice A n c] 63 (0,0)
abbrev numA (fl : Bool) (f : Nat) (s : Bool) (A : Option Addr) (n c : Nat) : Value:=.agg #[.bool fl,.float .f64 f,.bool s,.slice A n c]
end LM
namespace LM
structure Hd where
  k : Int
  n : Int
  fl : Bool
  f : Nat
  s : Bool
  A : Option Addr
  xs : List Nat
  c : Nat
  t : ByteArray
  B : Option Addr
  cap : Nat
inductive Fr where
  | nil : Fr
  | cons (h : Hd) (kids rest : Fr) : Fr
def Fr.len : Fr → Nat
  | .nil=>0
  | .cons _ _ r=>r.len + 1
def Fr.size : Fr → Nat
  | .nil=>0
  | .cons _ k r=>k.size + r.size + 1
abbrev datA (h : Hd) (n : Nat) : Value:=.agg #[.int .i64 h.k,.int .i64 h.n,.bool h.fl,.float .f64 h.f,.bool h.s,.slice h.A h.xs.length h.c,.string h.t,.slice h.B n h.cap]
abbrev datO (h : Hd) (n : Nat) : Obj:=.cells #[.int .i64 h.k,.int .i64 h.n,.bool h.fl,.float .f64 h.f,.bool h.s,.slice h.A h.xs.length h.c,.string h.t,.slice h.B n h.cap] 65 (0,0)
structure C8 (w : World) (b off : Nat) (h : Hd) (n : Nat) : Prop where
  c0 : w.cell? ⟨b,off,none⟩ = some (.int .i64 h.k)
  c1 : w.cell? ⟨b,off + 1,none⟩ = some (.int .i64 h.n)
  c2 : w.cell? ⟨b,off + 2,none⟩ = some (.bool h.fl)
  c3 : w.cell? ⟨b,off + 3,none⟩ = some (.float .f64 h.f)
  c4 : w.cell? ⟨b,off + 4,none⟩ = some (.bool h.s)
  c5 : w.cell? ⟨b,off + 5,none⟩ = some (.slice h.A h.xs.length h.c)
  c6 : w.cell? ⟨b,off + 6,none⟩ = some (.string h.t)
  c7 : w.cell? ⟨b,off + 7,none⟩ = some (.slice h.B n h.cap)
def FAt (w : World) : Nat → Nat → Fr → Prop
  | _,_,.nil=>True
  | b,off,.cons h kids rest=>b < w.heap.size∧C8 w b off h kids.len∧Rd w h.A h.xs∧(∃ b' off',(0 < kids.len → h.B = some ⟨b',off',none⟩)∧FAt w b' off' kids)∧FAt w b (off + 8) rest
structure DatV (w : World) (h : Hd) (kids : Fr) : Prop where
  xs : Rd w h.A h.xs
  items : ∃ b off,(0 < kids.len → h.B = some ⟨b,off,none⟩)∧FAt w b off kids
structure Hd.Ok (h : Hd) (m : Nat) : Prop where
  k : -9223372036854775808 ≤ h.k∧h.k ≤ 9223372036854775807
  n : -9223372036854775808 ≤ h.n∧h.n ≤ 9223372036854775807
  f : h.f < 18446744073709551616
  lm : Lm h.xs
  c : h.xs.length ≤ h.c∧h.c ≤ 9223372036854775807
  nA : h.A = none → h.xs.length = 0∧h.c = 0
  l : h.xs.length ≤ 1000
  t : h.t.size ≤ 281474976710656
  cap : m ≤ h.cap∧h.cap ≤ 9223372036854775807
  nB : h.B = none → m = 0∧h.cap = 0
  sA : ∀ ad,h.A = some ad → 0 < h.c → ad.spot = none
  sB : ∀ ad,h.B = some ad → 0 < h.cap → ad.spot = none
def Fr.Ok : Fr → Prop
  | .nil=>True
  | .cons h kids rest=>h.Ok kids.len∧kids.Ok∧rest.Ok
theorem C8.keep {w w' : World} {b off : Nat} {h : Hd} {n B : Nat} (hc : C8 w b off h n) (hb : Below B w w') (hlt : b < B) : C8 w' b off h n :=
  ⟨(hb.cell (p:=⟨b,_,none⟩) hlt).trans hc.c0,(hb.cell (p:=⟨b,_,none⟩) hlt).trans hc.c1,(hb.cell (p:=⟨b,_,none⟩) hlt).trans hc.c2,(hb.cell (p:=⟨b,_,none⟩) hlt).trans hc.c3,
    (hb.cell (p:=⟨b,_,none⟩) hlt).trans hc.c4,(hb.cell (p:=⟨b,_,none⟩) hlt).trans hc.c5,(hb.cell (p:=⟨b,_,none⟩) hlt).trans hc.c6,(hb.cell (p:=⟨b,_,none⟩) hlt).trans hc.c7⟩
theorem FAt.below {w w' : World} (hb : Below w.heap.size w w') : ∀ (fr : Fr) (b off : Nat),FAt w b off fr → FAt w' b off fr:=by
  intro fr
  induction fr with
  | nil=>intro b off _; exact trivial
  | cons h kids rest ihk ihr =>
    intro b off hf
    obtain ⟨h1,h2,h3,⟨b',off',h4,h5⟩,h6⟩:=hf
    exact ⟨Nat.lt_of_lt_of_le h1 hb.size,h2.keep hb h1,h3.below hb,⟨b',off',h4,ihk _ _ h5⟩,ihr _ _ h6⟩
theorem DatV.below {w w' : World} {h : Hd} {kids : Fr} (hd : DatV w h kids) (hb : Below w.heap.size w w') : DatV w' h kids:=by
  obtain ⟨h1,b,off,h2,h3⟩:=hd
  exact ⟨h1.below hb,b,off,h2,FAt.below hb _ _ _ h3⟩
theorem C8.of_block {w : World} {b : Nat} {h : Hd} {n : Nat} (hb : w.heap[b]? = some (datO h n)) : C8 w b 0 h n :=
  ⟨by rw [ob_cell hb]; rfl,by rw [ob_cell hb]; rfl,by rw [ob_cell hb]; rfl,by rw [ob_cell hb]; rfl,by rw [ob_cell hb]; rfl,by rw [ob_cell hb]; rfl,by rw [ob_cell hb]; rfl,by rw [ob_cell hb]; rfl⟩
theorem FAt.hd {w : World} {b off : Nat} {h : Hd} {kids rest : Fr} (hf : FAt w b off (.cons h kids rest)) : b < w.heap.size∧C8 w b off h kids.len∧DatV w h kids∧FAt w b (off + 8) rest:=by
  obtain ⟨h1,h2,h3,h4,h5⟩:=hf
  exact ⟨h1,h2,⟨h3,h4⟩,h5⟩
def Fr.drop : Nat → Fr → Fr
  | 0,fr=>fr
  | _ + 1,.nil=>.nil
  | i + 1,.cons _ _ r=>r.drop i
theorem Fr.len_drop : ∀ (i : Nat) (fr : Fr),(fr.drop i).len = fr.len - i:=by
  intro i
  induction i with
  | zero=>intro fr; rfl
  | succ i ih =>
    intro fr
    cases fr with
    | nil=>show 0 = 0 - (i + 1); omega
    | cons h k r =>
      have:=ih r
      show (r.drop i).len = (r.len + 1) - (i + 1)
      omega
theorem Fr.size_drop : ∀ (i : Nat) (fr : Fr),(fr.drop i).size ≤ fr.size:=by
  intro i
  induction i with
  | zero=>intro fr; exact Nat.le_refl _
  | succ i ih =>
    intro fr
    cases fr with
    | nil=>exact Nat.le_refl _
    | cons h k r =>
      have:=ih r
      show (r.drop i).size ≤ k.size + r.size + 1
      omega
theorem FAt.drop {w : World} {b : Nat} : ∀ (i : Nat) (fr : Fr) (off : Nat),FAt w b off fr → FAt w b (off + i * 8) (fr.drop i):=by
  intro i
  induction i with
  | zero=>intro fr off h; rw [Nat.zero_mul]; exact h
  | succ i ih =>
    intro fr off h
    cases fr with
    | nil=>exact trivial
    | cons hh k r =>
      have:=ih r (off + 8) h.hd.2.2.2
      rw [show off + (i + 1) * 8 = off + 8 + i * 8 from by omega]
      exact this
theorem Fr.Ok.drop : ∀ (i : Nat) {fr : Fr},fr.Ok → (fr.drop i).Ok:=by
  intro i
  induction i with
  | zero=>intro fr h; exact h
  | succ i ih =>
    intro fr h
    cases fr with
    | nil=>exact trivial
    | cons hh k r=>exact ih h.2.2
theorem Fr.cons_of_lt {fr : Fr} {i : Nat} (hi : i < fr.len) : ∃ h k r,fr.drop i = .cons h k r∧fr.drop (i + 1) = r:=by
  induction i generalizing fr with
  | zero =>
    cases fr with
    | nil=>exact absurd hi (by show ¬ 0 < 0; omega)
    | cons h k r=>exact ⟨h,k,r,rfl,rfl⟩
  | succ i ih =>
    cases fr with
    | nil=>exact absurd hi (by show ¬ i + 1 < 0; omega)
    | cons h k r =>
      have h2 : i < r.len:=by have h3 : i + 1 < r.len + 1:=hi; omega
      exact ih h2
end LM
namespace LM
structure Ins where
  op : Int
  a : Int
  b : Int
structure Prh where
  nm : ByteArray
  pa : Int
  rs : Bool
  sl : Int
  de : Int
  fr : Int
  B : Option Addr
  cap : Nat
  code : List Ins
abbrev insA (x : Ins) : Value:=.agg #[.int .i64 x.op,.int .i64 x.a,.int .i64 x.b]
abbrev prA (p : Prh) : Value:=.agg #[.string p.nm,.int .i64 p.pa,.bool p.rs,.int .i64 p.sl,.int .i64 p.de,.int .i64 p.fr,.slice p.B p.code.length p.cap]
abbrev insO (x : Ins) : Obj:=.cells #[.int .i64 x.op,.int .i64 x.a,.int .i64 x.b] 41 (0,0)
abbrev prO (p : Prh) : Obj:=.cells #[.string p.nm,.int .i64 p.pa,.bool p.rs,.int .i64 p.sl,.int .i64 p.de,.int .i64 p.fr,.slice p.B p.code.length p.cap] 35 (0,0)
structure I3 (w : World) (b off : Nat) (x : Ins) : Prop where
  c0 : w.cell? ⟨b,off,none⟩ = some (.int .i64 x.op)
  c1 : w.cell? ⟨b,off + 1,none⟩ = some (.int .i64 x.a)
  c2 : w.cell? ⟨b,off + 2,none⟩ = some (.int .i64 x.b)
structure P7 (w : World) (b off : Nat) (p : Prh) : Prop where
  c0 : w.cell? ⟨b,off,none⟩ = some (.string p.nm)
  c1 : w.cell? ⟨b,off + 1,none⟩ = some (.int .i64 p.pa)
  c2 : w.cell? ⟨b,off + 2,none⟩ = some (.bool p.rs)
  c3 : w.cell? ⟨b,off + 3,none⟩ = some (.int .i64 p.sl)
  c4 : w.cell? ⟨b,off + 4,none⟩ = some (.int .i64 p.de)
  c5 : w.cell? ⟨b,off + 5,none⟩ = some (.int .i64 p.fr)
  c6 : w.cell? ⟨b,off + 6,none⟩ = some (.slice p.B p.code.length p.cap)
def InsAt (w : World) (b off : Nat) (l : List Ins) : Prop:=∀ j x,l[j]? = some x → b < w.heap.size∧I3 w b (off + j * 3) x
def StrAt (w : World) (b off : Nat) (l : List ByteArray) : Prop:=∀ j x,l[j]? = some x → b < w.heap.size∧w.cell? ⟨b,off + j,none⟩ = some (.string x)
def NumAt (w : World) (b off : Nat) (l : List Int) : Prop:=∀ j x,l[j]? = some x → b < w.heap.size∧w.cell? ⟨b,off + j,none⟩ = some (.int .i64 x)
def PrcAt (w : World) (b off : Nat) (l : List Prh) : Prop:=∀ j p,l[j]? = some p → b < w.heap.size∧P7 w b (off + j * 7) p
def PrV (w : World) (p : Prh) : Prop:=∃ b off,(0 < p.code.length → p.B = some ⟨b,off,none⟩)∧InsAt w b off p.code
structure Prh.Ok (p : Prh) : Prop where
  cap : p.code.length ≤ p.cap∧p.cap ≤ 9223372036854775807
  l : p.code.length ≤ 140737488355328
theorem I3.keep {w w' : World} {b off : Nat} {x : Ins} {B : Nat} (h : I3 w b off x) (hb : Below B w w') (hlt : b < B) : I3 w' b off x :=
  ⟨(hb.cell (p:=⟨b,_,none⟩) hlt).trans h.c0,(hb.cell (p:=⟨b,_,none⟩) hlt).trans h.c1,(hb.cell (p:=⟨b,_,none⟩) hlt).trans h.c2⟩
theorem P7.keep {w w' : World} {b off : Nat} {x : Prh} {B : Nat} (h : P7 w b off x) (hb : Below B w w') (hlt : b < B) : P7 w' b off x :=
  ⟨(hb.cell (p:=⟨b,_,none⟩) hlt).trans h.c0,(hb.cell (p:=⟨b,_,none⟩) hlt).trans h.c1,(hb.cell (p:=⟨b,_,none⟩) hlt).trans h.c2,(hb.cell (p:=⟨b,_,none⟩) hlt).trans h.c3,(hb.cell (p:=⟨b,_,none⟩) hlt).trans h.c4,
    (hb.cell (p:=⟨b,_,none⟩) hlt).trans h.c5,(hb.cell (p:=⟨b,_,none⟩) hlt).trans h.c6⟩
theorem InsAt.below {w w' : World} (hb : Below w.heap.size w w') {b off : Nat} {l : List Ins} (h : InsAt w b off l) : InsAt w' b off l:=fun j x hx =>
  ⟨Nat.lt_of_lt_of_le (h j x hx).1 hb.size,(h j x hx).2.keep hb (h j x hx).1⟩
theorem StrAt.below {w w' : World} (hb : Below w.heap.size w w') {b off : Nat} {l : List ByteArray} (h : StrAt w b off l) : StrAt w' b off l:=fun j x hx =>
  ⟨Nat.lt_of_lt_of_le (h j x hx).1 hb.size,(hb.cell (p:=⟨b,off + j,none⟩) (h j x hx).1).trans (h j x hx).2⟩
theorem NumAt.below {w w' : World} (hb : Below w.heap.size w w') {b off : Nat} {l : List Int} (h : NumAt w b off l) : NumAt w' b off l:=fun j x hx =>
  ⟨Nat.lt_of_lt_of_le (h j x hx).1 hb.size,(hb.cell (p:=⟨b,off + j,none⟩) (h j x hx).1).trans (h j x hx).2⟩
theorem PrcAt.below {w w' : World} (hb : Below w.heap.size w w') {b off : Nat} {l : List Prh} (h : PrcAt w b off l) : PrcAt w' b off l:=fun j x hx =>
  ⟨Nat.lt_of_lt_of_le (h j x hx).1 hb.size,(h j x hx).2.keep hb (h j x hx).1⟩
theorem PrV.below {w w' : World} (hb : Below w.heap.size w w') {p : Prh} (h : PrV w p) : PrV w' p:=by
  obtain ⟨b,off,h1,h2⟩:=h
  exact ⟨b,off,h1,h2.below hb⟩
theorem I3.of_block {w : World} {b : Nat} {x : Ins} (hb : w.heap[b]? = some (insO x)) : I3 w b 0 x :=
  ⟨by rw [ob_cell hb]; rfl,by rw [ob_cell hb]; rfl,by rw [ob_cell hb]; rfl⟩
theorem P7.of_block {w : World} {b : Nat} {p : Prh} (hb : w.heap[b]? = some (prO p)) : P7 w b 0 p :=
  ⟨by rw [ob_cell hb]; rfl,by rw [ob_cell hb]; rfl,by rw [ob_cell hb]; rfl,by rw [ob_cell hb]; rfl,by rw [ob_cell hb]; rfl,by rw [ob_cell hb]; rfl,by rw [ob_cell hb]; rfl⟩
theorem drop_at {α : Type} {l : List α} {j : Nat} (h : j < l.length) : ∃ x,l[j]? = some x∧l.drop j = x :: l.drop (j + 1) :=
  ⟨l[j],List.getElem?_eq_getElem h,List.drop_eq_getElem_cons h⟩
structure Cod where
  PB : Option Addr
  pc : Nat
  ps : List Prh
  CB : Option Addr
  cc : Nat
  kids : Fr
  GB : Option Addr
  gc : Nat
  gs : List ByteArray
abbrev codA (c : Cod) : Value:=.agg #[.slice c.PB c.ps.length c.pc,.slice c.CB c.kids.len c.cc,.slice c.GB c.gs.length c.gc]
abbrev codO (c : Cod) : Obj:=.cells #[.slice c.PB c.ps.length c.pc,.slice c.CB c.kids.len c.cc,.slice c.GB c.gs.length c.gc] 26 (0,0)
structure K3 (w : World) (b off : Nat) (c : Cod) : Prop where
  c0 : w.cell? ⟨b,off,none⟩ = some (.slice c.PB c.ps.length c.pc)
  c1 : w.cell? ⟨b,off + 1,none⟩ = some (.slice c.CB c.kids.len c.cc)
  c2 : w.cell? ⟨b,off + 2,none⟩ = some (.slice c.GB c.gs.length c.gc)
structure CodV (w : World) (c : Cod) : Prop where
  ps : ∃ b off,(0 < c.ps.length → c.PB = some ⟨b,off,none⟩)∧PrcAt w b off c.ps
  pv : ∀ p ∈ c.ps,PrV w p
  kids : ∃ b off,(0 < c.kids.len → c.CB = some ⟨b,off,none⟩)∧FAt w b off c.kids
  gs : ∃ b off,(0 < c.gs.length → c.GB = some ⟨b,off,none⟩)∧StrAt w b off c.gs
structure Cod.Ok (c : Cod) : Prop where
  ps : c.ps.length ≤ c.pc∧c.pc ≤ 9223372036854775807
  kids : c.kids.len ≤ c.cc∧c.cc ≤ 9223372036854775807
  gs : c.gs.length ≤ c.gc∧c.gc ≤ 9223372036854775807
  pr : ∀ p ∈ c.ps,p.Ok
theorem K3.keep {w w' : World} {b off : Nat} {c : Cod} {B : Nat} (h : K3 w b off c) (hb : Below B w w') (hlt : b < B) : K3 w' b off c :=
  ⟨(hb.cell (p:=⟨b,_,none⟩) hlt).trans h.c0,(hb.cell (p:=⟨b,_,none⟩) hlt).trans h.c1,(hb.cell (p:=⟨b,_,none⟩) hlt).trans h.c2⟩
theorem K3.of_block {w : World} {b : Nat} {c : Cod} (hb : w.heap[b]? = some (codO c)) : K3 w b 0 c :=
  ⟨by rw [ob_cell hb]; rfl,by rw [ob_cell hb]; rfl,by rw [ob_cell hb]; rfl⟩
theorem CodV.below {w w' : World} (hb : Below w.heap.size w w') {c : Cod} (h : CodV w c) : CodV w' c:=by
  obtain ⟨⟨b1,o1,h1,h2⟩,h3,⟨b2,o2,h4,h5⟩,⟨b3,o3,h6,h7⟩⟩:=h
  exact ⟨⟨b1,o1,h1,h2.below hb⟩,fun p hp=>(h3 p hp).below hb,⟨b2,o2,h4,FAt.below hb _ _ _ h5⟩,⟨b3,o3,h6,h7.below hb⟩⟩
theorem cod_block (w : World) (c : Cod) : ∃ W0,w.alloc (codO c) = W0∧Below w.heap.size w W0∧W0.heap[w.heap.size]? = some (codO c)∧w.heap.size < W0.heap.size∧W0.heap.size = w.heap.size + 1 :=
  ⟨_,rfl,(Below.refl _ w).alloc (Nat.le_refl _) _,by unfold World.alloc; simp,by simp,by simp⟩
def insN (l : List Prh) : Nat:=(l.map fun p=>p.code.length).sum
theorem insN_cons (p : Prh) (l : List Prh) : insN (p :: l) = p.code.length + insN l:=rfl
theorem insN_le {l : List Prh} (h : ∀ p ∈ l,p.Ok) : insN l ≤ l.length * 140737488355328:=by
  induction l with
  | nil=>exact Nat.zero_le _
  | cons p l ih =>
    have h1:=(h p (List.mem_cons_self ..)).l
    have h2:=ih fun q hq=>h q (List.mem_cons_of_mem _ hq)
    rw [insN_cons,List.length_cons,Nat.succ_mul]
    omega
def fewB (c : Cod) : Bool:=decide (c.ps.length ≤ 4000) && (decide (c.kids.len ≤ 4000) && (decide (c.gs.length ≤ 4000) && decide (insN c.ps ≤ 40000)))
def numB (n : Int) : Bool:=decide (0 ≤ n) && decide (n ≤ 16777215)
def insB (x : Ins) : Bool:=[x.op,x.a,x.b].all numB
def prB (p : Prh) : Bool:=decide (p.nm.size ≤ 100) && ([p.pa,p.sl,p.de,p.fr].all numB && p.code.all insB)
end LM
namespace LM
def PrN (p : Prh) : Prop:=(0 ≤ p.pa∧p.pa ≤ 16777215)∧(0 ≤ p.sl∧p.sl ≤ 16777215)∧(0 ≤ p.de∧p.de ≤ 16777215)∧(0 ≤ p.fr∧p.fr ≤ 16777215)
def nmV (p : Prh) : Int:=if p.rs then p.pa + 1 else p.pa
structure L6 (w : World) (L : Nat) (c : Cod) (pb po : Nat) (n k : Int) : Prop where
  c0 : w.cell? ⟨L,0,none⟩ = some (.slice c.PB c.ps.length c.pc)
  c1 : w.cell? ⟨L,1,none⟩ = some (.slice c.CB c.kids.len c.cc)
  c2 : w.cell? ⟨L,2,none⟩ = some (.slice c.GB c.gs.length c.gc)
  c3 : w.cell? ⟨L,3,none⟩ = some (.pointer (some ⟨pb,po,none⟩))
  c4 : w.cell? ⟨L,4,none⟩ = some (.int .i64 n)
  c5 : w.cell? ⟨L,5,none⟩ = some (.int .i64 k)
abbrev lookO (c : Cod) (pb po : Nat) (n k : Int) : Obj:=.cells #[.slice c.PB c.ps.length c.pc,.slice c.CB c.kids.len c.cc,.slice c.GB c.gs.length c.gc,.pointer (some ⟨pb,po,none⟩),.int .i64 n,.int .i64 k] 48 (0,0)
theorem L6.of_block {w : World} {L : Nat} {c : Cod} {pb po : Nat} {n k : Int} (h : w.heap[L]? = some (lookO c pb po n k)) : L6 w L c pb po n k :=
  ⟨ob_cell h 0,ob_cell h 1,ob_cell h 2,ob_cell h 3,ob_cell h 4,ob_cell h 5⟩
theorem L6.keep {w w' : World} {L : Nat} {c : Cod} {pb po : Nat} {n k : Int} {B : Nat} (h : L6 w L c pb po n k) (hb : Below B w w') (hlt : L < B) : L6 w' L c pb po n k :=
  ⟨(hb.cell (p:=⟨L,_,none⟩) hlt).trans h.c0,(hb.cell (p:=⟨L,_,none⟩) hlt).trans h.c1,(hb.cell (p:=⟨L,_,none⟩) hlt).trans h.c2,(hb.cell (p:=⟨L,_,none⟩) hlt).trans h.c3,(hb.cell (p:=⟨L,_,none⟩) hlt).trans h.c4,(hb.cell (p:=⟨L,_,none⟩) hlt).trans h.c5⟩
theorem vnames_any (b off : Nat) (p : Prh) (hn : PrN p) (w : World) (h : P7 w b off p) :
    Calls Tryz.prog 43 #[.pointer (some ⟨b,off,none⟩)] w fun e w'=>e = .returned (.int .i64 (nmV p))∧w' = w:=by
  obtain ⟨nm,pa,rs,sl,de,fr,B,cap,code⟩:=p
  obtain ⟨x0,x1,x2,x3,x4,x5,x6⟩:=h
  have w1 : IntKind.i64.wrap (pa + 1) = pa + 1:=by have:=hn.1; dsimp only at this; rw [IntKind.wrap_i64]; omega
  dsimp only at x0 x1 x2 x3 x4 x5 x6
  cases rs
  · have E : Hid (nmV ⟨nm,pa,false,sl,de,fr,B,cap,code⟩ = pa):=Lib.hid rfl
    clear hn
    go_enter Tryz.func43,Tryz.ntmps43
    go_wp2_with (fail)
    go_ret
    exact ⟨by rw [E.out]; rfl,rfl⟩
  · have E : Hid (nmV ⟨nm,pa,true,sl,de,fr,B,cap,code⟩ = pa + 1):=Lib.hid rfl
    clear hn
    go_enter Tryz.func43,Tryz.ntmps43
    go_wp2_with (fail)
    go_ret
    exact ⟨by rw [E.out]; rfl,rfl⟩
def numE (p : Prh) : Int:=if p.sl < nmV p then 113 else if 180 < p.sl + p.de then 113 else if 180 < p.fr then 113 else if p.code.length = 0 then 114 else 0
theorem vnumbers_any (L : Nat) (c : Cod) (pb po : Nat) (n k : Int) (p : Prh) (hn : PrN p) (w : World) (hl : L6 w L c pb po n k) (hp : P7 w pb po p) :
    Calls Tryz.prog 25 #[.pointer (some ⟨L,0,none⟩)] w fun e w'=>e = .returned (.int .i64 (numE p))∧Below w.heap.size w w':=by
  obtain ⟨y0,y1,y2,y3,y4,y5⟩:=hl
  have NM : Hid (∀ W : World,W.heap = w.heap → Calls Tryz.prog 43 #[.pointer (some ⟨pb,po,none⟩)] W fun e w'=>e = .returned (.int .i64 (nmV p))∧w' = W):=Lib.hid fun W hW =>
    vnames_any pb po p hn W ⟨by rw [World.cell?,hW]; exact hp.c0,by rw [World.cell?,hW]; exact hp.c1,by rw [World.cell?,hW]; exact hp.c2,by rw [World.cell?,hW]; exact hp.c3,by rw [World.cell?,hW]; exact hp.c4,by rw [World.cell?,hW]; exact hp.c5,by rw [World.cell?,hW]; exact hp.c6⟩
  obtain ⟨x0,x1,x2,x3,x4,x5,x6⟩:=hp
  obtain ⟨⟨a1,a2⟩,⟨a3,a4⟩,⟨a5,a6⟩,a7,a8⟩:=hn
  have w1 : IntKind.i64.wrap (p.sl + p.de) = p.sl + p.de:=by rw [IntKind.wrap_i64]; omega
  obtain ⟨m,hm⟩ : ∃ m,nmV p = m:=⟨_,rfl⟩
  obtain ⟨E,hE⟩ : ∃ E,numE p = E:=⟨_,rfl⟩
  rw [hm] at NM
  rw [hE]
  unfold numE at hE
  rw [hm] at hE
  have HE:=Lib.hid hE
  clear hE hm a1 a2 a3 a4 a5 a6 a7 a8
  by_cases c1 : p.sl < m
  · have g1 : decide (p.sl < m) = true:=decide_eq_true c1
    have R : Hid (E = 113):=Lib.hid (by rw [← HE.out,if_pos c1])
    clear HE c1
    go_enter Tryz.func25,Tryz.ntmps25
    go_wp2_with (fail)
    go_region_with (go_at_call 43; refine (NM.out _ (by rfl)).mono ?_; rintro e w' ⟨rfl,rfl⟩)
    all_goals
      go_wp2_with (fail)
      go_ret
      exact ⟨by rw [R.out]; rfl,by repeat (first | exact Below.refl _ _ | apply Below.drew)⟩
  have g1 : decide (p.sl < m) = false:=decide_eq_false c1
  by_cases c2 : 180 < p.sl + p.de
  · have g2 : decide (180 < p.sl + p.de) = true:=decide_eq_true c2
    have R : Hid (E = 113):=Lib.hid (by rw [← HE.out,if_neg c1,if_pos c2])
    clear HE c1 c2
    go_enter Tryz.func25,Tryz.ntmps25
    go_wp2_with (fail)
    go_region_with (go_at_call 43; refine (NM.out _ (by rfl)).mono ?_; rintro e w' ⟨rfl,rfl⟩)
    all_goals
      go_wp2_with (fail)
      go_region
      all_goals
        go_wp2_with (fail)
        go_ret
        exact ⟨by rw [R.out]; rfl,by repeat (first | exact Below.refl _ _ | apply Below.drew)⟩
  have g2 : decide (180 < p.sl + p.de) = false:=decide_eq_false c2
  by_cases c3 : 180 < p.fr
  · have g3 : decide (180 < p.fr) = true:=decide_eq_true c3
    have R : Hid (E = 113):=Lib.hid (by rw [← HE.out,if_neg c1,if_neg c2,if_pos c3])
    clear HE c1 c2 c3
    go_enter Tryz.func25,Tryz.ntmps25
    go_wp2_with (fail)
    go_region_with (go_at_call 43; refine (NM.out _ (by rfl)).mono ?_; rintro e w' ⟨rfl,rfl⟩)
    all_goals
      go_wp2_with (fail)
      go_region
      all_goals
        go_wp2_with (fail)
        go_ret
        exact ⟨by rw [R.out]; rfl,by repeat (first | exact Below.refl _ _ | apply Below.drew)⟩
  have g3 : decide (180 < p.fr) = false:=decide_eq_false c3
  by_cases c4 : p.code.length = 0
  · have g4 : ((p.code.length : Int) == 0) = true:=by rw [c4]; rfl
    have R : Hid (E = 114):=Lib.hid (by rw [← HE.out,if_neg c1,if_neg c2,if_neg c3,if_pos c4])
    clear HE c1 c2 c3 c4
    go_enter Tryz.func25,Tryz.ntmps25
    go_wp2_with (fail)
    go_region_with (go_at_call 43; refine (NM.out _ (by rfl)).mono ?_; rintro e w' ⟨rfl,rfl⟩)
    all_goals
      go_wp2_with (fail)
      go_region
      all_goals
        go_wp2_with (fail)
        go_ret
        exact ⟨by rw [R.out]; rfl,by repeat (first | exact Below.refl _ _ | apply Below.drew)⟩
  have g4 : ((p.code.length : Int) == 0) = false:=by rw [beq_eq_false_iff_ne]; omega
  have R : Hid (E = 0):=Lib.hid (by rw [← HE.out,if_neg c1,if_neg c2,if_neg c3,if_neg c4])
  clear HE c1 c2 c3 c4
  go_enter Tryz.func25,Tryz.ntmps25
  go_wp2_with (fail)
  go_region_with (go_at_call 43; refine (NM.out _ (by rfl)).mono ?_; rintro e w' ⟨rfl,rfl⟩)
  all_goals
    go_wp2_with (fail)
    go_region
    all_goals
      go_wp2_with (fail)
      go_ret
      exact ⟨by rw [R.out]; rfl,by repeat (first | exact Below.refl _ _ | apply Below.drew)⟩
def goesB (x : Ins) : Bool:=x.op != 11 && (x.op != 14 && x.op != 15)
def jumpB (x : Ins) : Bool:=x.op == 11 || x.op == 12
theorem ins_world (x : Ins) (w : World) : ∃ W0,w.alloc (insO x) = W0∧Below w.heap.size w W0∧I3 W0 w.heap.size 0 x :=
  ⟨_,rfl,(Below.refl _ w).alloc (Nat.le_refl _) _,I3.of_block (by unfold World.alloc; simp)⟩
theorem vgoes_any (x : Ins) (w : World) : Calls Tryz.prog 48 #[insA x] w fun e w'=>e = .returned (.bool (goesB x))∧Below w.heap.size w w':=by
  obtain ⟨W0,hW0,hb0,y0,y1,y2⟩:=ins_world x w
  have HW0:=Lib.hid hW0
  have HB0:=Lib.hid hb0
  obtain ⟨b1,h1⟩ : ∃ b,(x.op != 11) = b:=⟨_,rfl⟩
  obtain ⟨b2,h2⟩ : ∃ b,(x.op != 14) = b:=⟨_,rfl⟩
  obtain ⟨b3,h3⟩ : ∃ b,(x.op != 15) = b:=⟨_,rfl⟩
  have HQ : Hid (goesB x = (b1 && (b2 && b3))):=Lib.hid (by unfold goesB; rw [h1,h2,h3])
  have f1 : (x.op == 11) = !b1:=by rw [← h1]; simp [bne]
  have f2 : (x.op == 14) = !b2:=by rw [← h2]; simp [bne]
  have f3 : (x.op == 15) = !b3:=by rw [← h3]; simp [bne]
  clear hW0 hb0
  cases b1 <;> cases b2 <;> cases b3
  all_goals
    go_enter Tryz.func48,Tryz.ntmps48
    go_wp2_with (fail)
    rw [HW0.out]
    go_wp2_with (fail)
    go_ret
    exact ⟨by rw [HQ.out]; rfl,HB0.out⟩
theorem vjumps_any (x : Ins) (w : World) : Calls Tryz.prog 49 #[insA x] w fun e w'=>e = .returned (.bool (jumpB x))∧Below w.heap.size w w':=by
  obtain ⟨W0,hW0,hb0,y0,y1,y2⟩:=ins_world x w
  have HW0:=Lib.hid hW0
  have HB0:=Lib.hid hb0
  obtain ⟨b1,h1⟩ : ∃ b,(x.op == 11) = b:=⟨_,rfl⟩
  obtain ⟨b2,h2⟩ : ∃ b,(x.op == 12) = b:=⟨_,rfl⟩
  have HQ : Hid (jumpB x = (b1 || b2)):=Lib.hid (by unfold jumpB; rw [h1,h2])
  clear hW0 hb0
  cases b1 <;> cases b2
  all_goals
    go_enter Tryz.func49,Tryz.ntmps49
    go_wp2_with (fail)
    rw [HW0.out]
    go_wp2_with (fail)
    go_ret
    exact ⟨by rw [HQ.out]; rfl,HB0.out⟩
def beginB (ps : List Prh) : Bool:=match ps with | []=>false | p :: _=>p.pa == 0 && (!p.rs && p.fr == 0)
theorem vbegin_any (ps : List Prh) (B : Option Addr) (cap b off : Nat) (w : World) (hB : 0 < ps.length → B = some ⟨b,off,none⟩) (hF : PrcAt w b off ps) (hc : ps.length ≤ cap∧cap ≤ 9223372036854775807) :
    Calls Tryz.prog 11 #[.slice B ps.length cap] w fun e w'=>e = .returned (.bool (beginB ps))∧w' = w:=by
  cases ps with
  | nil =>
    clear hF hB hc
    dsimp only [List.length_nil]
    go_enter Tryz.func11,Tryz.ntmps11
    go_wp2_with (fail)
    go_ret
    exact ⟨rfl,rfl⟩
  | cons p l =>
    obtain rfl:=hB (by simp)
    obtain ⟨hbl,x0,x1,x2,x3,x4,x5,x6⟩:=hF 0 p rfl
    obtain ⟨n,hn⟩ : ∃ n,(p :: l).length = n:=⟨_,rfl⟩
    have hn1 : 0 < n:=by rw [← hn]; simp
    rw [hn] at hc ⊢
    have E : Hid (beginB (p :: l) = (p.pa == 0 && (!p.rs && p.fr == 0))):=Lib.hid rfl
    have d1 : decide ((0 : Int) < (n : Int)) = true:=decide_eq_true (by omega)
    have d1' : decide (0 < n) = true:=decide_eq_true hn1
    have d2 : (0 : Int) < (n : Int):=by omega
    have d4 : (n : Int) ≤ (cap : Int):=by omega
    have d5 : (cap : Int) ≤ 9223372036854775807:=by omega
    obtain ⟨b1,h1⟩ : ∃ q,(p.pa == 0) = q:=⟨_,rfl⟩
    obtain ⟨b2,h2⟩ : ∃ q,p.rs = q:=⟨_,rfl⟩
    obtain ⟨b3,h3⟩ : ∃ q,(p.fr == 0) = q:=⟨_,rfl⟩
    rw [h2] at x2 E
    rw [h1,h3] at E
    simp only [Nat.zero_mul,Nat.add_zero] at x0 x1 x2 x3 x4 x5 x6
    clear hF hn hB hc h2
    cases b1 <;> cases b2 <;> cases b3
    all_goals
      go_enter Tryz.func11,Tryz.ntmps11
      go_wp2_with (fail)
      go_ret
      exact ⟨by rw [E.out]; rfl,rfl⟩
end LM
namespace LM
theorem vlen_any (A : Option Addr) (n cap : Nat) (w : World) : Calls Tryz.prog 29 #[.slice A n cap] w fun e w'=>e = .returned (.int .i64 (n : Int))∧w = w':=by
  go_enter Tryz.func29,Tryz.ntmps29
  go_wp2_with (fail)
  go_ret
  exact ⟨rfl,rfl⟩
theorem vless_any (g n cap i j : Nat) (x y : Int) (w : World) (hi : i < n) (hj : j < n) (hc : n ≤ cap∧cap ≤ 9223372036854775807) (h1 : w.cell? ⟨g,i,none⟩ = some (.int .i64 x)) (h2 : w.cell? ⟨g,j,none⟩ = some (.int .i64 y)) :
    Calls Tryz.prog 265 #[.slice (some ⟨g,0,none⟩) n cap,.int .i64 (i : Int),.int .i64 (j : Int)] w fun e w'=>e = .returned (.bool (decide (x < y)))∧w' = w.drew:=by
  have a1 : (0 : Int) ≤ (i : Int):=by omega
  have a2 : (i : Int) < (n : Int):=by omega
  have a3 : (0 : Int) ≤ (j : Int):=by omega
  have a4 : (j : Int) < (n : Int):=by omega
  have a5 : (n : Int) ≤ (cap : Int):=by omega
  have a6 : (cap : Int) ≤ 9223372036854775807:=by omega
  go_enter Tryz.func265,Tryz.ntmps265
  go_wp2_with (fail)
  go_region
  all_goals
    go_wp2_with (fail)
    go_ret
    exact ⟨rfl,rfl⟩
theorem cell_setCell_some {w : World} {p q : Addr} {x v : Value} (h : w.cell? q = some v) : ∃ v',(w.setCell p x).cell? q = some v':=by
  by_cases e : p = q
  · subst e; exact ⟨x,World.cell?_setCell_same w p x h⟩
  · exact ⟨v,(World.cell?_setCell_other w p q x e).trans h⟩
theorem vswap_any (g n cap i j : Nat) (x y : Int) (w : World) (hi : i < n) (hj : j < n) (hc : n ≤ cap∧cap ≤ 9223372036854775807) (h1 : w.cell? ⟨g,i,none⟩ = some (.int .i64 x)) (h2 : w.cell? ⟨g,j,none⟩ = some (.int .i64 y)) (f1 : w.frozen? ⟨g,i,none⟩ = false) (f2 : w.frozen? ⟨g,j,none⟩ = false) :
    Calls Tryz.prog 267 #[.slice (some ⟨g,0,none⟩) n cap,.int .i64 (i : Int),.int .i64 (j : Int)] w fun e w'=>(∃ v,e = .returned v)∧w' = ((w.setCell ⟨g,i,none⟩ (.int .i64 y)).setCell ⟨g,j,none⟩ (.int .i64 x)).drew:=by
  have a1 : (0 : Int) ≤ (i : Int):=by omega
  have a2 : (i : Int) < (n : Int):=by omega
  have a3 : (0 : Int) ≤ (j : Int):=by omega
  have a4 : (j : Int) < (n : Int):=by omega
  have a5 : (n : Int) ≤ (cap : Int):=by omega
  have a6 : (cap : Int) ≤ 9223372036854775807:=by omega
  obtain ⟨z,hz⟩:=cell_setCell_some (p:=⟨g,i,none⟩) (x:=.int .i64 y) h2
  obtain ⟨z',hz'⟩:=cell_setCell_some (p:=⟨g,j,none⟩) (x:=.int .i64 x) h1
  have f3 : (w.setCell ⟨g,i,none⟩ (.int .i64 y)).frozen? ⟨g,j,none⟩ = false:=by rw [World.frozen?_setCell]; exact f2
  have f4 : (w.setCell ⟨g,j,none⟩ (.int .i64 x)).frozen? ⟨g,i,none⟩ = false:=by rw [World.frozen?_setCell]; exact f1
  go_enter Tryz.func267,Tryz.ntmps267
  go_wp2_with (fail)
  go_region
  all_goals
    go_wp2_with (fail)
    go_end0
    exact ⟨⟨_,rfl⟩,rfl⟩
theorem find_by {nm : String} {a : Option (FuncId × Bool)} {b : List FieldStep} (h : (Array.find? (fun x=>x.name == nm) Tryz.t82.methods).map (fun m=>(m.func,m.path.toList)) = some (a,b)) :
    ∃ m : Method,Array.find? (fun x=>x.name == nm) Tryz.t82.methods = some m∧m.func = a∧m.path.toList = b:=by
  cases hf : Array.find? (fun x=>x.name == nm) Tryz.t82.methods with
  | none=>rw [hf] at h; cases h
  | some m =>
    rw [hf] at h
    simp only [Option.map_some,Option.some.injEq,Prod.mk.injEq] at h
    exact ⟨m,rfl,h.1,h.2⟩
theorem meth_len (f W0 : Nat) (lv : Value) (w : World) (h : w.cell? ⟨W0, 5, none⟩ = some lv) : (method (f + 1) 82 (.pointer (some ⟨W0, 5, none⟩)) "Len").run Tryz.prog w = .ok (29, lv) w := by
  obtain ⟨m, hm, h1, h2⟩ := find_by (nm := "Len") (a := some (29, false)) (b := [⟨76, 0, true⟩]) (by kernel_rfl)
  rw [method]
  have ha : (Addr.add ⟨W0,5,none⟩ 0) = ⟨W0,5,none⟩:=rfl
  simp [hm,h1,h2,follow,receiverAt,fieldPlace,Place.get,asAddr,go_sem,ha,loadVar,h]
theorem meth_less (f W0 : Nat) (lv : Value) (w : World) (h : w.cell? ⟨W0, 5, none⟩ = some lv) : (method (f + 1) 82 (.pointer (some ⟨W0, 5, none⟩)) "Less").run Tryz.prog w = .ok (265, lv) w := by
  obtain ⟨m, hm, h1, h2⟩ := find_by (nm := "Less") (a := some (265, false)) (b := [⟨76, 0, true⟩]) (by kernel_rfl)
  rw [method]
  have ha : (Addr.add ⟨W0,5,none⟩ 0) = ⟨W0,5,none⟩:=rfl
  simp [hm,h1,h2,follow,receiverAt,fieldPlace,Place.get,asAddr,go_sem,ha,loadVar,h]
theorem meth_swap (f W0 : Nat) (lv : Value) (w : World) (h : w.cell? ⟨W0, 5, none⟩ = some lv) : (method (f + 1) 82 (.pointer (some ⟨W0, 5, none⟩)) "Swap").run Tryz.prog w = .ok (267, lv) w := by
  obtain ⟨m, hm, h1, h2⟩ := find_by (nm := "Swap") (a := some (267, false)) (b := [⟨76, 0, true⟩]) (by kernel_rfl)
  rw [method]
  have ha : (Addr.add ⟨W0,5,none⟩ 0) = ⟨W0,5,none⟩:=rfl
  simp [hm,h1,h2,follow,receiverAt,fieldPlace,Place.get,asAddr,go_sem,ha,loadVar,h]
end LM
namespace LM
def boundV (c : Cod) (p : Prh) (k : Int) (op : Int) : Int :=
  if op = 0 ∨ op = 18 then c.kids.len else if op = 1 ∨ op = 2 then p.sl else if op = 3 then p.fr else if op = 4 ∨ op = 5 ∨ op = 6 then c.gs.length else if op = 10 then c.ps.length
  else if op = 11 ∨ op = 12 then p.code.length else if op = 20 then k else if op = 17 then 21 else 16777216
theorem vbound_any (L : Nat) (c : Cod) (pb po : Nat) (n k : Int) (p : Prh) (op : Int) (w : World) (hl : L6 w L c pb po n k) (hp : P7 w pb po p) :
    Calls Tryz.prog 44 #[.pointer (some ⟨L,0,none⟩),.int .i64 op] w fun e w'=>e = .returned (.int .i64 (boundV c p k op))∧w' = w:=by
  obtain ⟨y0,y1,y2,y3,y4,y5⟩:=hl
  obtain ⟨x0,x1,x2,x3,x4,x5,x6⟩:=hp
  obtain ⟨R,hR⟩ : ∃ R,boundV c p k op = R:=⟨_,rfl⟩
  rw [hR]
  unfold boundV at hR
  have HR:=Lib.hid hR
  clear hR
  by_cases q0 : op = 0
  · subst q0
    have E : Hid (R = (c.kids.len : Int)):=Lib.hid (by rw [← HR.out]; first | rfl | simp)
    clear HR
    go_enter Tryz.func44,Tryz.ntmps44
    go_wp2_with (fail)
    go_ret
    exact ⟨by rw [E.out]; rfl,rfl⟩
  have e0 : (op == 0) = false:=beq_eq_false_iff_ne.2 q0
  by_cases q18 : op = 18
  · subst q18
    have E : Hid (R = (c.kids.len : Int)):=Lib.hid (by rw [← HR.out]; first | rfl | simp)
    clear HR
    go_enter Tryz.func44,Tryz.ntmps44
    go_wp2_with (fail)
    go_ret
    exact ⟨by rw [E.out]; rfl,rfl⟩
  have e18 : (op == 18) = false:=beq_eq_false_iff_ne.2 q18
  by_cases q1 : op = 1
  · subst q1
    have E : Hid (R = p.sl):=Lib.hid (by rw [← HR.out]; first | rfl | simp)
    clear HR
    go_enter Tryz.func44,Tryz.ntmps44
    go_wp2_with (fail)
    go_ret
    exact ⟨by rw [E.out]; rfl,rfl⟩
  have e1 : (op == 1) = false:=beq_eq_false_iff_ne.2 q1
  by_cases q2 : op = 2
  · subst q2
    have E : Hid (R = p.sl):=Lib.hid (by rw [← HR.out]; first | rfl | simp)
    clear HR
    go_enter Tryz.func44,Tryz.ntmps44
    go_wp2_with (fail)
    go_ret
    exact ⟨by rw [E.out]; rfl,rfl⟩
  have e2 : (op == 2) = false:=beq_eq_false_iff_ne.2 q2
  by_cases q3 : op = 3
  · subst q3
    have E : Hid (R = p.fr):=Lib.hid (by rw [← HR.out]; first | rfl | simp)
    clear HR
    go_enter Tryz.func44,Tryz.ntmps44
    go_wp2_with (fail)
    go_ret
    exact ⟨by rw [E.out]; rfl,rfl⟩
  have e3 : (op == 3) = false:=beq_eq_false_iff_ne.2 q3
  by_cases q4 : op = 4
  · subst q4
    have E : Hid (R = (c.gs.length : Int)):=Lib.hid (by rw [← HR.out]; first | rfl | simp)
    clear HR
    go_enter Tryz.func44,Tryz.ntmps44
    go_wp2_with (fail)
    go_ret
    exact ⟨by rw [E.out]; rfl,rfl⟩
  have e4 : (op == 4) = false:=beq_eq_false_iff_ne.2 q4
  by_cases q5 : op = 5
  · subst q5
    have E : Hid (R = (c.gs.length : Int)):=Lib.hid (by rw [← HR.out]; first | rfl | simp)
    clear HR
    go_enter Tryz.func44,Tryz.ntmps44
    go_wp2_with (fail)
    go_ret
    exact ⟨by rw [E.out]; rfl,rfl⟩
  have e5 : (op == 5) = false:=beq_eq_false_iff_ne.2 q5
  by_cases q6 : op = 6
  · subst q6
    have E : Hid (R = (c.gs.length : Int)):=Lib.hid (by rw [← HR.out]; first | rfl | simp)
    clear HR
    go_enter Tryz.func44,Tryz.ntmps44
    go_wp2_with (fail)
    go_ret
    exact ⟨by rw [E.out]; rfl,rfl⟩
  have e6 : (op == 6) = false:=beq_eq_false_iff_ne.2 q6
  by_cases q10 : op = 10
  · subst q10
    have E : Hid (R = (c.ps.length : Int)):=Lib.hid (by rw [← HR.out]; first | rfl | simp)
    clear HR
    go_enter Tryz.func44,Tryz.ntmps44
    go_wp2_with (fail)
    go_ret
    exact ⟨by rw [E.out]; rfl,rfl⟩
  have e10 : (op == 10) = false:=beq_eq_false_iff_ne.2 q10
  by_cases q11 : op = 11
  · subst q11
    have E : Hid (R = (p.code.length : Int)):=Lib.hid (by rw [← HR.out]; first | rfl | simp)
    clear HR
    go_enter Tryz.func44,Tryz.ntmps44
    go_wp2_with (fail)
    go_ret
    exact ⟨by rw [E.out]; rfl,rfl⟩
  have e11 : (op == 11) = false:=beq_eq_false_iff_ne.2 q11
  by_cases q12 : op = 12
  · subst q12
    have E : Hid (R = (p.code.length : Int)):=Lib.hid (by rw [← HR.out]; first | rfl | simp)
    clear HR
    go_enter Tryz.func44,Tryz.ntmps44
    go_wp2_with (fail)
    go_ret
    exact ⟨by rw [E.out]; rfl,rfl⟩
  have e12 : (op == 12) = false:=beq_eq_false_iff_ne.2 q12
  by_cases q20 : op = 20
  · subst q20
    have E : Hid (R = k):=Lib.hid (by rw [← HR.out]; first | rfl | simp)
    clear HR
    go_enter Tryz.func44,Tryz.ntmps44
    go_wp2_with (fail)
    go_ret
    exact ⟨by rw [E.out]; rfl,rfl⟩
  have e20 : (op == 20) = false:=beq_eq_false_iff_ne.2 q20
  by_cases q17 : op = 17
  · subst q17
    have E : Hid (R = (21 : Int)):=Lib.hid (by rw [← HR.out]; first | rfl | simp)
    clear HR
    go_enter Tryz.func44,Tryz.ntmps44
    go_wp2_with (fail)
    go_ret
    exact ⟨by rw [E.out]; rfl,rfl⟩
  have e17 : (op == 17) = false:=beq_eq_false_iff_ne.2 q17
  have E : Hid (R = 16777216):=Lib.hid (by rw [← HR.out]; simp [q0,q18,q1,q2,q3,q4,q5,q6,q10,q11,q12,q20,q17])
  clear HR q0 q18 q1 q2 q3 q4 q5 q6 q10 q11 q12 q20 q17
  go_enter Tryz.func44,Tryz.ntmps44
  go_wp2_with (fail)
  go_ret
  exact ⟨by rw [E.out]; rfl,rfl⟩
end LM
namespace LM
def kindAt : Fr → Nat → Int
  | .nil,_=>0
  | .cons h _ _,0=>h.k
  | .cons _ _ r,j + 1=>kindAt r j
def insE (c : Cod) (p : Prh) (k : Int) (x : Ins) : Int :=
  if 21 < x.op then 111 else if boundV c p k x.op ≤ x.a then 112 else if x.op = 18∧kindAt c.kids x.a.toNat ≠ 4 then 112 else if x.op = 17∧3 < x.b then 112 else 0
theorem kind_cell {w : World} {b : Nat} : ∀ (fr : Fr) (off j : Nat),FAt w b off fr → j < fr.len → w.cell? ⟨b,off + j * 8,none⟩ = some (.int .i64 (kindAt fr j)):=by
  intro fr
  induction fr with
  | nil=>intro off j _ h; exact absurd h (by show ¬ j < 0; omega)
  | cons h k r _ ihr =>
    intro off j hf hj
    cases j with
    | zero=>have:=hf.hd.2.1.c0; simpa [kindAt] using this
    | succ j =>
      have h3 : j < r.len:=by have h4 : j + 1 < r.len + 1:=hj; omega
      have:=ihr (off + 8) j hf.hd.2.2.2 h3
      rw [show off + (j + 1) * 8 = off + 8 + j * 8 by omega]
      exact this
theorem vinstr_any (L : Nat) (c : Cod) (pb po : Nat) (n k : Int) (p : Prh) (x : Ins) (hx : 0 ≤ x.a) (w : World) (hLw : L < w.heap.size) (hpw : pb < w.heap.size) (hl : L6 w L c pb po n k) (hp : P7 w pb po p)
    (cb coff : Nat) (hCB : 0 < c.kids.len → c.CB = some ⟨cb,coff,none⟩) (hCF : FAt w cb coff c.kids) (hcc : c.kids.len ≤ c.cc∧c.cc ≤ 9223372036854775807) :
    Calls Tryz.prog 26 #[.pointer (some ⟨L,0,none⟩),insA x] w fun e w'=>e = .returned (.int .i64 (insE c p k x))∧Below w.heap.size w w':=by
  obtain ⟨op,a,b⟩:=x
  dsimp only at hx
  obtain ⟨W0,hW0,hb0,z0,z1,z2⟩:=ins_world ⟨op,a,b⟩ w
  dsimp only at hW0 z0 z1 z2 ⊢
  simp only [Nat.zero_add] at z0 z1 z2
  obtain ⟨y0,y1,y2,y3,y4,y5⟩:=hl.keep hb0 hLw
  have BO : Hid (∀ W : World,W.heap = W0.heap → Calls Tryz.prog 44 #[.pointer (some ⟨L,0,none⟩),.int .i64 op] W fun e w'=>e = .returned (.int .i64 (boundV c p k op))∧w' = W):=Lib.hid fun W hW=>by
    have k1:=hl.keep hb0 hLw
    have k2:=hp.keep hb0 hpw
    have e : ∀ a,W.cell? a = W0.cell? a:=fun a=>by unfold World.cell?; rw [hW]
    exact vbound_any L c pb po n k p op W ⟨by rw [e]; exact k1.c0,by rw [e]; exact k1.c1,by rw [e]; exact k1.c2,by rw [e]; exact k1.c3,by rw [e]; exact k1.c4,by rw [e]; exact k1.c5⟩
      ⟨by rw [e]; exact k2.c0,by rw [e]; exact k2.c1,by rw [e]; exact k2.c2,by rw [e]; exact k2.c3,by rw [e]; exact k2.c4,by rw [e]; exact k2.c5,by rw [e]; exact k2.c6⟩
  obtain ⟨bd,hbd⟩ : ∃ q,boundV c p k op = q:=⟨_,rfl⟩
  obtain ⟨E,hE⟩ : ∃ E,insE c p k ⟨op,a,b⟩ = E:=⟨_,rfl⟩
  rw [hbd] at BO
  rw [hE]
  unfold insE at hE
  dsimp only at hE
  rw [hbd] at hE
  have HE:=Lib.hid hE
  have HW0:=Lib.hid hW0
  have HB0:=Lib.hid hb0
  have HBD:=Lib.hid hbd
  have CF:=Lib.hid (FAt.below hb0 _ _ _ hCF)
  have CB:=Lib.hid hCB
  clear hE hbd hW0 hb0 hCF hCB hl hp
  by_cases c1 : 21 < op
  · have g1 : decide (21 < op) = true:=decide_eq_true c1
    have R : Hid (E = 111):=Lib.hid (by rw [← HE.out,if_pos c1])
    clear HE HBD CF CB hx c1
    go_enter Tryz.func26,Tryz.ntmps26
    go_wp2_with (fail)
    rw [HW0.out]
    go_wp2_with (fail)
    go_ret
    exact ⟨by rw [R.out]; rfl,HB0.out⟩
  have g1 : decide (21 < op) = false:=decide_eq_false c1
  obtain ⟨q2,hq2⟩ : ∃ q,decide (bd ≤ a) = q:=⟨_,rfl⟩
  have YS : Hid (∀ W : World,W.heap = W0.heap → W.cell? ⟨w.heap.size,0,none⟩ = some (.int .i64 op)∧W.cell? ⟨w.heap.size,1,none⟩ = some (.int .i64 a)∧W.cell? ⟨w.heap.size,2,none⟩ = some (.int .i64 b)∧W.cell? ⟨L,1,none⟩ = W0.cell? ⟨L,1,none⟩∧∀ x,W.cell? x = W0.cell? x):=Lib.hid fun W hW=>by
    have e : ∀ a,W.cell? a = W0.cell? a:=fun a=>by unfold World.cell?; rw [hW]
    exact ⟨by rw [e]; exact z0,by rw [e]; exact z1,by rw [e]; exact z2,e _,e⟩
  have Y1:=Lib.hid y1
  have C1:=Lib.hid c1
  have HX:=Lib.hid hx
  clear c1 hx y0 y1 y2 y3 y4 y5
  go_enter Tryz.func26,Tryz.ntmps26
  go_upto_region 3 with (fail)
  rw [HW0.out]
  go_cut [9] (fun v wx=>v = .bool q2∧Hid (wx.heap = W0.heap)∧Hid (Below w.heap.size w wx))
  case first =>
    go_region_with (go_at_call 44; refine (BO.out _ (by rfl)).mono ?_; rintro e w' ⟨rfl,rfl⟩)
    all_goals
      go_wp2_with (fail)
      go_meet
      exact ⟨rfl,Lib.hid rfl,Lib.hid (by repeat (first | exact HB0.out | apply Below.drew))⟩
  case rest =>
    obtain ⟨rfl,HW,HB⟩:=hcut
    obtain ⟨z0,z1,z2,k1,kk⟩:=YS.out wc HW.out
    rw [Y1.out] at k1
    have KK:=Lib.hid kk
    clear kk
    cases q2
    · have c2 : ¬ bd ≤ a:=of_decide_eq_false hq2
      have C2:=Lib.hid c2
      clear c2 hq2
      by_cases c3 : op = 18
      · subst c3
        obtain ⟨m,hm⟩ : ∃ m : Nat,a = (m : Int):=⟨a.toNat,(Int.toNat_of_nonneg HX.out).symm⟩
        subst hm
        have hbk : bd = (c.kids.len : Int):=by rw [← HBD.out]; rfl
        have hml : m < c.kids.len:=by have:=C2.out; omega
        have cbe:=CB.out (Nat.lt_of_le_of_lt (Nat.zero_le _) hml)
        rw [cbe] at k1
        have kc:=kind_cell c.kids coff m CF.out hml
        rw [← KK.out] at kc
        obtain ⟨kd,hkd⟩ : ∃ q,kindAt c.kids m = q:=⟨_,rfl⟩
        rw [hkd] at kc
        have E2 : Hid (E = if kd ≠ 4 then 112 else 0):=Lib.hid (by
          rw [← HE.out,if_neg C1.out,if_neg C2.out,show ((m : Int)).toNat = m from Int.toNat_natCast m,hkd]
          by_cases h4 : kd = 4
          · rw [if_neg (by rintro ⟨-,h⟩; exact h h4),if_neg (by omega),if_neg (by rintro h; exact h h4)]
          · rw [if_pos ⟨rfl,h4⟩,if_pos h4])
        have d2 : (0 : Int) ≤ (m : Int):=Int.natCast_nonneg m
        have d3 : (m : Int) < (c.kids.len : Int):=Int.ofNat_lt.2 hml
        have d4 : (c.kids.len : Int) ≤ (c.cc : Int):=Int.ofNat_le.2 hcc.1
        have d5 : (c.cc : Int) ≤ 9223372036854775807:=by have:=hcc.2; omega
        clear hkd hbk cbe hml CF CB hcc
        obtain ⟨q,hq⟩ : ∃ q,(kd == 4) = q:=⟨_,rfl⟩
        cases q
        · have R : Hid (E = 112):=Lib.hid (by rw [E2.out,if_pos (by rw [beq_eq_false_iff_ne] at hq; exact hq)])
          clear E2
          go_wp2_with (fail)
          go_quiet (fail)
          go_wp2_with (fail)
          go_ret
          exact ⟨by rw [R.out]; rfl,by first | exact HB.out | exact below_drewN HB.out _⟩
        · have R : Hid (E = 0):=Lib.hid (by rw [E2.out,if_neg (by rw [beq_iff_eq] at hq; exact fun h=>h hq)])
          clear E2
          go_wp2_with (fail)
          go_quiet (fail)
          go_wp2_with (fail)
          go_ret
          exact ⟨by rw [R.out]; rfl,by first | exact HB.out | exact below_drewN HB.out _⟩
      · have g3 : (op == 18) = false:=beq_eq_false_iff_ne.2 c3
        have C3:=Lib.hid c3
        clear c3 hcc CF CB k1
        obtain ⟨q4,hq4⟩ : ∃ q,(op == 17) = q:=⟨_,rfl⟩
        obtain ⟨q5,hq5⟩ : ∃ q,decide (3 < b) = q:=⟨_,rfl⟩
        have R : Hid (E = if q4 = true∧q5 = true then 112 else 0):=Lib.hid (by
          rw [← HE.out,if_neg C1.out,if_neg C2.out,if_neg (fun h=>C3.out h.1),← hq4,← hq5]
          simp only [beq_iff_eq,decide_eq_true_eq])
        cases q4 <;> cases q5
        all_goals
          go_wp2_with (fail)
          go_quiet (fail)
          go_wp2_with (fail)
          go_ret
          exact ⟨by rw [R.out]; rfl,by first | exact HB.out | exact below_drewN HB.out _⟩
    · have R : Hid (E = 112):=Lib.hid (by rw [← HE.out,if_neg C1.out,if_pos (of_decide_eq_true hq2)])
      clear hq2 hcc
      go_wp2_with (fail)
      go_ret
      exact ⟨by rw [R.out]; rfl,HB.out⟩
end LM
namespace LM
attribute [local go_sem] run_store_flt
theorem cnindex_any (q : Int → Bool) (g : Nat) (xs : List Int) (B : Option Addr) (cap b off : Nat) (w : World) (hB : 0 < xs.length → B = some ⟨b,off,none⟩) (hF : NumAt w b off xs) (hc1 : xs.length ≤ cap) (hc2 : cap ≤ 9223372036854775807)
    (hcl : ∀ x ∈ xs,∀ W,Below w.heap.size w W → Calls Tryz.prog 66 #[(.int .i64 x),.pointer (some ⟨g,0,none⟩)] W fun e w'=>e = .returned (.bool (!q x))∧Below W.heap.size W w') :
    Calls Tryz.prog 76 #[.slice B xs.length cap,.func (.func 66) #[] #[.pointer (some ⟨g,0,none⟩)]] w fun e w'=>(∃ z : Int,e = .returned (.int .i64 z)∧decide (0 ≤ z) = !xs.all q)∧Below w.heap.size w w':=by
  rcases Nat.eq_zero_or_pos xs.length with h0 | hpos
  · have hk0 : xs = []:=List.length_eq_zero_iff.1 h0
    subst hk0
    show Calls Tryz.prog 76 #[.slice B 0 cap,.func (.func 66) #[] #[.pointer (some ⟨g,0,none⟩)]] w fun e w'=>(∃ z : Int,e = .returned (.int .i64 z)∧decide (0 ≤ z) = false)∧Below w.heap.size w w'
    clear hcl hF hB hc1
    go_enter Tryz.func76,Tryz.ntmps76
    go_wp2_with (fail)
    go_loopg [8] 0 (fun kk i wr=>wr = w∧i = .int .i64 0)
    case atStart=>exact ⟨rfl,rfl⟩
    case round =>
      obtain ⟨rfl,rfl⟩:=hrel
      go_wp2_with (fail)
      go_ret
      exact ⟨⟨-1,rfl,rfl⟩,Below.refl _ _⟩
  obtain rfl:=hB hpos
  clear hB
  have HF:=Lib.hid hF
  have HCL:=Lib.hid hcl
  clear hF hcl
  go_enter Tryz.func76,Tryz.ntmps76
  go_wp2_with (fail)
  go_loopg [8] xs.length (fun kk i wr=>Below w.heap.size w wr∧∃ j : Nat,j ≤ xs.length∧kk = xs.length - j∧i = .int .i64 (j : Int)∧(xs.drop j).all q = xs.all q)
  case atStart=>exact ⟨Below.refl _ _,0,Nat.zero_le _,rfl,rfl,rfl⟩
  case round =>
    obtain ⟨hbr,j,hj,rfl,rfl,hrf⟩:=hrel
    have HBR:=Lib.hid hbr
    clear hbr
    by_cases hjl : j < xs.length
    · obtain ⟨x,hx,hdr⟩:=drop_at hjl
      rw [hdr,List.all_cons] at hrf
      obtain ⟨hbl,x0⟩:=(HF.out.below HBR.out) j x hx
      have CL:=Lib.hid (HCL.out x (List.mem_of_getElem? hx) wr HBR.out)
      obtain ⟨p,hp⟩ : ∃ p,q x = p:=⟨_,rfl⟩
      rw [hp] at CL hrf
      have HRF:=Lib.hid hrf
      clear hrf hdr hx hp
      go_wp2_with (fail)
      refine CL.out.mono ?_
      rintro e w2 ⟨rfl,hb2⟩
      have HB2:=Lib.hid (bel_trans (B:=w.heap.size) HBR.out hb2)
      clear hb2
      cases p
      · go_wp2_with (fail)
        go_ret
        exact ⟨⟨j,rfl,by rw [← HRF.out]; simp⟩,HB2.out⟩
      · go_wp2_with (fail)
        go_roundg (xs.length - (j + 1))
        case measure=>omega
        case rel=>exact ⟨HB2.out,j + 1,by omega,rfl,by go_num,by rw [← HRF.out]; simp⟩
    · have hje : j = xs.length:=by omega
      subst hje
      rw [List.drop_length] at hrf
      have HR : Hid (true = xs.all q):=Lib.hid hrf
      clear hrf
      go_wp2_with (fail)
      go_ret
      exact ⟨⟨-1,rfl,by rw [← HR.out]; rfl⟩,HBR.out⟩
theorem cncontains_any (q : Int → Bool) (g : Nat) (xs : List Int) (B : Option Addr) (cap b off : Nat) (w : World) (hB : 0 < xs.length → B = some ⟨b,off,none⟩) (hF : NumAt w b off xs) (hc1 : xs.length ≤ cap) (hc2 : cap ≤ 9223372036854775807)
    (hcl : ∀ x ∈ xs,∀ W,Below w.heap.size w W → Calls Tryz.prog 66 #[(.int .i64 x),.pointer (some ⟨g,0,none⟩)] W fun e w'=>e = .returned (.bool (!q x))∧Below W.heap.size W w') :
    Calls Tryz.prog 65 #[.slice B xs.length cap,.func (.func 66) #[] #[.pointer (some ⟨g,0,none⟩)]] w fun e w'=>e = .returned (.bool (!xs.all q))∧Below w.heap.size w w':=by
  have H1:=Lib.hid (cnindex_any q g xs B cap b off w hB hF hc1 hc2 hcl)
  clear hB hF hcl
  go_enter Tryz.func65,Tryz.ntmps65
  go_wp2_with (fail)
  refine H1.out.mono ?_
  rintro e w1 ⟨⟨z,rfl,hz⟩,hb1⟩
  have HB1:=Lib.hid hb1
  have HZ:=Lib.hid hz
  clear hb1 hz
  go_wp2_with (fail)
  go_ret
  exact ⟨by rw [← HZ.out]; rfl,HB1.out⟩
theorem cnclosure (x : Int) (g : Nat) (q : Bool) (w : World) (hg : g < w.heap.size) (hcell : w.cell? ⟨g,0,none⟩ = some (.func (.func 52) #[] #[]))
    (hR : ∀ W,Below w.heap.size w W → Calls Tryz.prog 52 #[(.int .i64 x)] W fun e w'=>e = .returned (.bool q)∧Below W.heap.size W w') :
    Calls Tryz.prog 66 #[(.int .i64 x),.pointer (some ⟨g,0,none⟩)] w fun e w'=>e = .returned (.bool (!q))∧Below w.heap.size w w':=by
  have HR:=Lib.hid (hR w (Below.refl _ w))
  clear hR
  go_enter Tryz.func66,Tryz.ntmps66
  go_wp2_with (fail)
  refine HR.out.mono ?_
  rintro e w1 ⟨rfl,hb1⟩
  have HB1:=Lib.hid hb1
  clear hb1
  go_wp2_with (fail)
  go_ret
  exact ⟨rfl,HB1.out⟩
theorem cnall_any (q : Int → Bool) (xs : List Int) (B : Option Addr) (cap b off : Nat) (w : World) (hB : 0 < xs.length → B = some ⟨b,off,none⟩) (hF : NumAt w b off xs) (hc1 : xs.length ≤ cap) (hc2 : cap ≤ 9223372036854775807)
    (hR : ∀ x ∈ xs,∀ W,Below w.heap.size w W → Calls Tryz.prog 52 #[(.int .i64 x)] W fun e w'=>e = .returned (.bool (q x))∧Below W.heap.size W w') :
    Calls Tryz.prog 51 #[.slice B xs.length cap,.func (.func 52) #[] #[]] w fun e w'=>e = .returned (.bool (xs.all q))∧Below w.heap.size w w':=by
  obtain ⟨W0,hW0⟩ : ∃ W0,w.alloc (.cells #[.func (.func 52) #[] #[]] 109 (0,0)) = W0:=⟨_,rfl⟩
  have hb0 : Below w.heap.size w W0:=by rw [← hW0]; exact (Below.refl _ w).alloc (Nat.le_refl _) _
  have ho : W0.heap[w.heap.size]? = some (.cells #[.func (.func 52) #[] #[]] 109 (0,0)):=by rw [← hW0]; unfold World.alloc; simp
  have hs0 : w.heap.size < W0.heap.size:=by rw [← hW0]; simp
  have hc : W0.cell? ⟨w.heap.size,0,none⟩ = some (.func (.func 52) #[] #[]):=by rw [ob_cell ho]; rfl
  have HC:=Lib.hid (cncontains_any q w.heap.size xs B cap b off W0 hB (hF.below hb0) hc1 hc2 fun x hx W hW=>cnclosure x w.heap.size (q x) W (Nat.lt_of_lt_of_le hs0 hW.size) ((hW.cell (p:=⟨w.heap.size,0,none⟩) hs0).trans hc) fun W2 hW2=>hR x hx W2 (bel_trans (B:=w.heap.size) (bel_trans (B:=w.heap.size) hb0 hW) hW2))
  have HW0:=Lib.hid hW0
  have HB0:=Lib.hid hb0
  clear hW0 hb0 ho hs0 hc hR hF hB
  obtain ⟨r,hr⟩ : ∃ r,xs.all q = r:=⟨_,rfl⟩
  rw [hr] at HC ⊢
  clear hr
  go_enter Tryz.func51,Tryz.ntmps51
  go_wp2_with (fail)
  rw [HW0.out]
  refine HC.out.mono ?_
  rintro e w1 ⟨rfl,hb1⟩
  have HB1:=Lib.hid (bel_trans (B:=w.heap.size) HB0.out hb1)
  clear hb1
  go_wp2_with (fail)
  go_ret
  exact ⟨by simp,HB1.out⟩
theorem ciindex_any (q : Ins → Bool) (g : Nat) (xs : List Ins) (B : Option Addr) (cap b off : Nat) (w : World) (hB : 0 < xs.length → B = some ⟨b,off,none⟩) (hF : InsAt w b off xs) (hc1 : xs.length ≤ cap) (hc2 : cap ≤ 9223372036854775807)
    (hcl : ∀ x ∈ xs,∀ W,Below w.heap.size w W → Calls Tryz.prog 54 #[(insA x),.pointer (some ⟨g,0,none⟩)] W fun e w'=>e = .returned (.bool (!q x))∧Below W.heap.size W w') :
    Calls Tryz.prog 67 #[.slice B xs.length cap,.func (.func 54) #[] #[.pointer (some ⟨g,0,none⟩)]] w fun e w'=>(∃ z : Int,e = .returned (.int .i64 z)∧decide (0 ≤ z) = !xs.all q)∧Below w.heap.size w w':=by
  rcases Nat.eq_zero_or_pos xs.length with h0 | hpos
  · have hk0 : xs = []:=List.length_eq_zero_iff.1 h0
    subst hk0
    show Calls Tryz.prog 67 #[.slice B 0 cap,.func (.func 54) #[] #[.pointer (some ⟨g,0,none⟩)]] w fun e w'=>(∃ z : Int,e = .returned (.int .i64 z)∧decide (0 ≤ z) = false)∧Below w.heap.size w w'
    clear hcl hF hB hc1
    go_enter Tryz.func67,Tryz.ntmps67
    go_wp2_with (fail)
    go_loopg [8] 0 (fun kk i wr=>wr = w∧i = .int .i64 0)
    case atStart=>exact ⟨rfl,rfl⟩
    case round =>
      obtain ⟨rfl,rfl⟩:=hrel
      go_wp2_with (fail)
      go_ret
      exact ⟨⟨-1,rfl,rfl⟩,Below.refl _ _⟩
  obtain rfl:=hB hpos
  clear hB
  have HF:=Lib.hid hF
  have HCL:=Lib.hid hcl
  clear hF hcl
  go_enter Tryz.func67,Tryz.ntmps67
  go_wp2_with (fail)
  go_loopg [8] xs.length (fun kk i wr=>Below w.heap.size w wr∧∃ j : Nat,j ≤ xs.length∧kk = xs.length - j∧i = .int .i64 (j : Int)∧(xs.drop j).all q = xs.all q)
  case atStart=>exact ⟨Below.refl _ _,0,Nat.zero_le _,rfl,rfl,rfl⟩
  case round =>
    obtain ⟨hbr,j,hj,rfl,rfl,hrf⟩:=hrel
    have HBR:=Lib.hid hbr
    clear hbr
    by_cases hjl : j < xs.length
    · obtain ⟨x,hx,hdr⟩:=drop_at hjl
      rw [hdr,List.all_cons] at hrf
      obtain ⟨hbl,⟨x0,x1,x2⟩⟩:=(HF.out.below HBR.out) j x hx
      have CL:=Lib.hid (HCL.out x (List.mem_of_getElem? hx) wr HBR.out)
      obtain ⟨p,hp⟩ : ∃ p,q x = p:=⟨_,rfl⟩
      rw [hp] at CL hrf
      have HRF:=Lib.hid hrf
      clear hrf hdr hx hp
      go_wp2_with (fail)
      refine CL.out.mono ?_
      rintro e w2 ⟨rfl,hb2⟩
      have HB2:=Lib.hid (bel_trans (B:=w.heap.size) HBR.out hb2)
      clear hb2
      cases p
      · go_wp2_with (fail)
        go_ret
        exact ⟨⟨j,rfl,by rw [← HRF.out]; simp⟩,HB2.out⟩
      · go_wp2_with (fail)
        go_roundg (xs.length - (j + 1))
        case measure=>omega
        case rel=>exact ⟨HB2.out,j + 1,by omega,rfl,by go_num,by rw [← HRF.out]; simp⟩
    · have hje : j = xs.length:=by omega
      subst hje
      rw [List.drop_length] at hrf
      have HR : Hid (true = xs.all q):=Lib.hid hrf
      clear hrf
      go_wp2_with (fail)
      go_ret
      exact ⟨⟨-1,rfl,by rw [← HR.out]; rfl⟩,HBR.out⟩
theorem cicontains_any (q : Ins → Bool) (g : Nat) (xs : List Ins) (B : Option Addr) (cap b off : Nat) (w : World) (hB : 0 < xs.length → B = some ⟨b,off,none⟩) (hF : InsAt w b off xs) (hc1 : xs.length ≤ cap) (hc2 : cap ≤ 9223372036854775807)
    (hcl : ∀ x ∈ xs,∀ W,Below w.heap.size w W → Calls Tryz.prog 54 #[(insA x),.pointer (some ⟨g,0,none⟩)] W fun e w'=>e = .returned (.bool (!q x))∧Below W.heap.size W w') :
    Calls Tryz.prog 53 #[.slice B xs.length cap,.func (.func 54) #[] #[.pointer (some ⟨g,0,none⟩)]] w fun e w'=>e = .returned (.bool (!xs.all q))∧Below w.heap.size w w':=by
  have H1:=Lib.hid (ciindex_any q g xs B cap b off w hB hF hc1 hc2 hcl)
  clear hB hF hcl
  go_enter Tryz.func53,Tryz.ntmps53
  go_wp2_with (fail)
  refine H1.out.mono ?_
  rintro e w1 ⟨⟨z,rfl,hz⟩,hb1⟩
  have HB1:=Lib.hid hb1
  have HZ:=Lib.hid hz
  clear hb1 hz
  go_wp2_with (fail)
  go_ret
  exact ⟨by rw [← HZ.out]; rfl,HB1.out⟩
theorem ciclosure (x : Ins) (g : Nat) (q : Bool) (w : World) (hg : g < w.heap.size) (hcell : w.cell? ⟨g,0,none⟩ = some (.func (.func 36) #[] #[]))
    (hR : ∀ W,Below w.heap.size w W → Calls Tryz.prog 36 #[(insA x)] W fun e w'=>e = .returned (.bool q)∧Below W.heap.size W w') :
    Calls Tryz.prog 54 #[(insA x),.pointer (some ⟨g,0,none⟩)] w fun e w'=>e = .returned (.bool (!q))∧Below w.heap.size w w':=by
  obtain ⟨W0,hW0⟩ : ∃ W0,w.alloc (insO x) = W0:=⟨_,rfl⟩
  have hb0 : Below w.heap.size w W0:=by rw [← hW0]; exact (Below.refl _ w).alloc (Nat.le_refl _) _
  have ho : W0.heap[w.heap.size]? = some (insO x):=by rw [← hW0]; unfold World.alloc; simp
  have x0 : (w.alloc (insO x)).cell? ⟨g,0,none⟩ = some (.func (.func 36) #[] #[]):=by rw [hW0]; exact (hb0.cell (p:=⟨g,0,none⟩) hg).trans hcell
  have HO:=Lib.hid ho
  have HW0:=Lib.hid hW0
  have HB0:=Lib.hid hb0
  have HR:=Lib.hid (hR W0 hb0)
  obtain ⟨y0,y1,y2⟩:=I3.of_block ho
  clear hW0 hb0 ho hR hcell
  go_enter Tryz.func54,Tryz.ntmps54
  go_wp2_with (fail)
  rw [HW0.out]
  refine HR.out.mono ?_
  rintro e w1 ⟨rfl,hb1⟩
  have HB1:=Lib.hid (bel_trans (B:=w.heap.size) HB0.out hb1)
  clear hb1
  go_wp2_with (fail)
  go_ret
  exact ⟨rfl,HB1.out⟩
theorem ciall_any (q : Ins → Bool) (xs : List Ins) (B : Option Addr) (cap b off : Nat) (w : World) (hB : 0 < xs.length → B = some ⟨b,off,none⟩) (hF : InsAt w b off xs) (hc1 : xs.length ≤ cap) (hc2 : cap ≤ 9223372036854775807)
    (hR : ∀ x ∈ xs,∀ W,Below w.heap.size w W → Calls Tryz.prog 36 #[(insA x)] W fun e w'=>e = .returned (.bool (q x))∧Below W.heap.size W w') :
    Calls Tryz.prog 35 #[.slice B xs.length cap,.func (.func 36) #[] #[]] w fun e w'=>e = .returned (.bool (xs.all q))∧Below w.heap.size w w':=by
  obtain ⟨W0,hW0⟩ : ∃ W0,w.alloc (.cells #[.func (.func 36) #[] #[]] 86 (0,0)) = W0:=⟨_,rfl⟩
  have hb0 : Below w.heap.size w W0:=by rw [← hW0]; exact (Below.refl _ w).alloc (Nat.le_refl _) _
  have ho : W0.heap[w.heap.size]? = some (.cells #[.func (.func 36) #[] #[]] 86 (0,0)):=by rw [← hW0]; unfold World.alloc; simp
  have hs0 : w.heap.size < W0.heap.size:=by rw [← hW0]; simp
  have hc : W0.cell? ⟨w.heap.size,0,none⟩ = some (.func (.func 36) #[] #[]):=by rw [ob_cell ho]; rfl
  have HC:=Lib.hid (cicontains_any q w.heap.size xs B cap b off W0 hB (hF.below hb0) hc1 hc2 fun x hx W hW=>ciclosure x w.heap.size (q x) W (Nat.lt_of_lt_of_le hs0 hW.size) ((hW.cell (p:=⟨w.heap.size,0,none⟩) hs0).trans hc) fun W2 hW2=>hR x hx W2 (bel_trans (B:=w.heap.size) (bel_trans (B:=w.heap.size) hb0 hW) hW2))
  have HW0:=Lib.hid hW0
  have HB0:=Lib.hid hb0
  clear hW0 hb0 ho hs0 hc hR hF hB
  obtain ⟨r,hr⟩ : ∃ r,xs.all q = r:=⟨_,rfl⟩
  rw [hr] at HC ⊢
  clear hr
  go_enter Tryz.func35,Tryz.ntmps35
  go_wp2_with (fail)
  rw [HW0.out]
  refine HC.out.mono ?_
  rintro e w1 ⟨rfl,hb1⟩
  have HB1:=Lib.hid (bel_trans (B:=w.heap.size) HB0.out hb1)
  clear hb1
  go_wp2_with (fail)
  go_ret
  exact ⟨by simp,HB1.out⟩
theorem csindex_any (q : ByteArray → Bool) (g : Nat) (xs : List ByteArray) (B : Option Addr) (cap b off : Nat) (w : World) (hB : 0 < xs.length → B = some ⟨b,off,none⟩) (hF : StrAt w b off xs) (hc1 : xs.length ≤ cap) (hc2 : cap ≤ 9223372036854775807)
    (hcl : ∀ x ∈ xs,∀ W,Below w.heap.size w W → Calls Tryz.prog 38 #[(.string x),.pointer (some ⟨g,0,none⟩)] W fun e w'=>e = .returned (.bool (!q x))∧Below W.heap.size W w') :
    Calls Tryz.prog 55 #[.slice B xs.length cap,.func (.func 38) #[] #[.pointer (some ⟨g,0,none⟩)]] w fun e w'=>(∃ z : Int,e = .returned (.int .i64 z)∧decide (0 ≤ z) = !xs.all q)∧Below w.heap.size w w':=by
  rcases Nat.eq_zero_or_pos xs.length with h0 | hpos
  · have hk0 : xs = []:=List.length_eq_zero_iff.1 h0
    subst hk0
    show Calls Tryz.prog 55 #[.slice B 0 cap,.func (.func 38) #[] #[.pointer (some ⟨g,0,none⟩)]] w fun e w'=>(∃ z : Int,e = .returned (.int .i64 z)∧decide (0 ≤ z) = false)∧Below w.heap.size w w'
    clear hcl hF hB hc1
    go_enter Tryz.func55,Tryz.ntmps55
    go_wp2_with (fail)
    go_loopg [8] 0 (fun kk i wr=>wr = w∧i = .int .i64 0)
    case atStart=>exact ⟨rfl,rfl⟩
    case round =>
      obtain ⟨rfl,rfl⟩:=hrel
      go_wp2_with (fail)
      go_ret
      exact ⟨⟨-1,rfl,rfl⟩,Below.refl _ _⟩
  obtain rfl:=hB hpos
  clear hB
  have HF:=Lib.hid hF
  have HCL:=Lib.hid hcl
  clear hF hcl
  go_enter Tryz.func55,Tryz.ntmps55
  go_wp2_with (fail)
  go_loopg [8] xs.length (fun kk i wr=>Below w.heap.size w wr∧∃ j : Nat,j ≤ xs.length∧kk = xs.length - j∧i = .int .i64 (j : Int)∧(xs.drop j).all q = xs.all q)
  case atStart=>exact ⟨Below.refl _ _,0,Nat.zero_le _,rfl,rfl,rfl⟩
  case round =>
    obtain ⟨hbr,j,hj,rfl,rfl,hrf⟩:=hrel
    have HBR:=Lib.hid hbr
    clear hbr
    by_cases hjl : j < xs.length
    · obtain ⟨x,hx,hdr⟩:=drop_at hjl
      rw [hdr,List.all_cons] at hrf
      obtain ⟨hbl,x0⟩:=(HF.out.below HBR.out) j x hx
      have CL:=Lib.hid (HCL.out x (List.mem_of_getElem? hx) wr HBR.out)
      obtain ⟨p,hp⟩ : ∃ p,q x = p:=⟨_,rfl⟩
      rw [hp] at CL hrf
      have HRF:=Lib.hid hrf
      clear hrf hdr hx hp
      go_wp2_with (fail)
      refine CL.out.mono ?_
      rintro e w2 ⟨rfl,hb2⟩
      have HB2:=Lib.hid (bel_trans (B:=w.heap.size) HBR.out hb2)
      clear hb2
      cases p
      · go_wp2_with (fail)
        go_ret
        exact ⟨⟨j,rfl,by rw [← HRF.out]; simp⟩,HB2.out⟩
      · go_wp2_with (fail)
        go_roundg (xs.length - (j + 1))
        case measure=>omega
        case rel=>exact ⟨HB2.out,j + 1,by omega,rfl,by go_num,by rw [← HRF.out]; simp⟩
    · have hje : j = xs.length:=by omega
      subst hje
      rw [List.drop_length] at hrf
      have HR : Hid (true = xs.all q):=Lib.hid hrf
      clear hrf
      go_wp2_with (fail)
      go_ret
      exact ⟨⟨-1,rfl,by rw [← HR.out]; rfl⟩,HBR.out⟩
theorem cscontains_any (q : ByteArray → Bool) (g : Nat) (xs : List ByteArray) (B : Option Addr) (cap b off : Nat) (w : World) (hB : 0 < xs.length → B = some ⟨b,off,none⟩) (hF : StrAt w b off xs) (hc1 : xs.length ≤ cap) (hc2 : cap ≤ 9223372036854775807)
    (hcl : ∀ x ∈ xs,∀ W,Below w.heap.size w W → Calls Tryz.prog 38 #[(.string x),.pointer (some ⟨g,0,none⟩)] W fun e w'=>e = .returned (.bool (!q x))∧Below W.heap.size W w') :
    Calls Tryz.prog 37 #[.slice B xs.length cap,.func (.func 38) #[] #[.pointer (some ⟨g,0,none⟩)]] w fun e w'=>e = .returned (.bool (!xs.all q))∧Below w.heap.size w w':=by
  have H1:=Lib.hid (csindex_any q g xs B cap b off w hB hF hc1 hc2 hcl)
  clear hB hF hcl
  go_enter Tryz.func37,Tryz.ntmps37
  go_wp2_with (fail)
  refine H1.out.mono ?_
  rintro e w1 ⟨⟨z,rfl,hz⟩,hb1⟩
  have HB1:=Lib.hid hb1
  have HZ:=Lib.hid hz
  clear hb1 hz
  go_wp2_with (fail)
  go_ret
  exact ⟨by rw [← HZ.out]; rfl,HB1.out⟩
theorem csclosure (x : ByteArray) (g : Nat) (q : Bool) (w : World) (hg : g < w.heap.size) (hcell : w.cell? ⟨g,0,none⟩ = some (.func (.func 20) #[] #[]))
    (hR : ∀ W,Below w.heap.size w W → Calls Tryz.prog 20 #[(.string x)] W fun e w'=>e = .returned (.bool q)∧Below W.heap.size W w') :
    Calls Tryz.prog 38 #[(.string x),.pointer (some ⟨g,0,none⟩)] w fun e w'=>e = .returned (.bool (!q))∧Below w.heap.size w w':=by
  have HR:=Lib.hid (hR w (Below.refl _ w))
  clear hR
  go_enter Tryz.func38,Tryz.ntmps38
  go_wp2_with (fail)
  refine HR.out.mono ?_
  rintro e w1 ⟨rfl,hb1⟩
  have HB1:=Lib.hid hb1
  clear hb1
  go_wp2_with (fail)
  go_ret
  exact ⟨rfl,HB1.out⟩
theorem csall_any (q : ByteArray → Bool) (xs : List ByteArray) (B : Option Addr) (cap b off : Nat) (w : World) (hB : 0 < xs.length → B = some ⟨b,off,none⟩) (hF : StrAt w b off xs) (hc1 : xs.length ≤ cap) (hc2 : cap ≤ 9223372036854775807)
    (hR : ∀ x ∈ xs,∀ W,Below w.heap.size w W → Calls Tryz.prog 20 #[(.string x)] W fun e w'=>e = .returned (.bool (q x))∧Below W.heap.size W w') :
    Calls Tryz.prog 19 #[.slice B xs.length cap,.func (.func 20) #[] #[]] w fun e w'=>e = .returned (.bool (xs.all q))∧Below w.heap.size w w':=by
  obtain ⟨W0,hW0⟩ : ∃ W0,w.alloc (.cells #[.func (.func 20) #[] #[]] 56 (0,0)) = W0:=⟨_,rfl⟩
  have hb0 : Below w.heap.size w W0:=by rw [← hW0]; exact (Below.refl _ w).alloc (Nat.le_refl _) _
  have ho : W0.heap[w.heap.size]? = some (.cells #[.func (.func 20) #[] #[]] 56 (0,0)):=by rw [← hW0]; unfold World.alloc; simp
  have hs0 : w.heap.size < W0.heap.size:=by rw [← hW0]; simp
  have hc : W0.cell? ⟨w.heap.size,0,none⟩ = some (.func (.func 20) #[] #[]):=by rw [ob_cell ho]; rfl
  have HC:=Lib.hid (cscontains_any q w.heap.size xs B cap b off W0 hB (hF.below hb0) hc1 hc2 fun x hx W hW=>csclosure x w.heap.size (q x) W (Nat.lt_of_lt_of_le hs0 hW.size) ((hW.cell (p:=⟨w.heap.size,0,none⟩) hs0).trans hc) fun W2 hW2=>hR x hx W2 (bel_trans (B:=w.heap.size) (bel_trans (B:=w.heap.size) hb0 hW) hW2))
  have HW0:=Lib.hid hW0
  have HB0:=Lib.hid hb0
  clear hW0 hb0 ho hs0 hc hR hF hB
  obtain ⟨r,hr⟩ : ∃ r,xs.all q = r:=⟨_,rfl⟩
  rw [hr] at HC ⊢
  clear hr
  go_enter Tryz.func19,Tryz.ntmps19
  go_wp2_with (fail)
  rw [HW0.out]
  refine HC.out.mono ?_
  rintro e w1 ⟨rfl,hb1⟩
  have HB1:=Lib.hid (bel_trans (B:=w.heap.size) HB0.out hb1)
  clear hb1
  go_wp2_with (fail)
  go_ret
  exact ⟨by simp,HB1.out⟩
theorem cpindex_any (q : Prh → Bool) (g : Nat) (xs : List Prh) (B : Option Addr) (cap b off : Nat) (w : World) (hB : 0 < xs.length → B = some ⟨b,off,none⟩) (hF : PrcAt w b off xs) (hc1 : xs.length ≤ cap) (hc2 : cap ≤ 9223372036854775807)
    (hcl : ∀ x ∈ xs,∀ W,Below w.heap.size w W → Calls Tryz.prog 33 #[(prA x),.pointer (some ⟨g,0,none⟩)] W fun e w'=>e = .returned (.bool (!q x))∧Below W.heap.size W w') :
    Calls Tryz.prog 50 #[.slice B xs.length cap,.func (.func 33) #[] #[.pointer (some ⟨g,0,none⟩)]] w fun e w'=>(∃ z : Int,e = .returned (.int .i64 z)∧decide (0 ≤ z) = !xs.all q)∧Below w.heap.size w w':=by
  rcases Nat.eq_zero_or_pos xs.length with h0 | hpos
  · have hk0 : xs = []:=List.length_eq_zero_iff.1 h0
    subst hk0
    show Calls Tryz.prog 50 #[.slice B 0 cap,.func (.func 33) #[] #[.pointer (some ⟨g,0,none⟩)]] w fun e w'=>(∃ z : Int,e = .returned (.int .i64 z)∧decide (0 ≤ z) = false)∧Below w.heap.size w w'
    clear hcl hF hB hc1
    go_enter Tryz.func50,Tryz.ntmps50
    go_wp2_with (fail)
    go_loopg [8] 0 (fun kk i wr=>wr = w∧i = .int .i64 0)
    case atStart=>exact ⟨rfl,rfl⟩
    case round =>
      obtain ⟨rfl,rfl⟩:=hrel
      go_wp2_with (fail)
      go_ret
      exact ⟨⟨-1,rfl,rfl⟩,Below.refl _ _⟩
  obtain rfl:=hB hpos
  clear hB
  have HF:=Lib.hid hF
  have HCL:=Lib.hid hcl
  clear hF hcl
  go_enter Tryz.func50,Tryz.ntmps50
  go_wp2_with (fail)
  go_loopg [8] xs.length (fun kk i wr=>Below w.heap.size w wr∧∃ j : Nat,j ≤ xs.length∧kk = xs.length - j∧i = .int .i64 (j : Int)∧(xs.drop j).all q = xs.all q)
  case atStart=>exact ⟨Below.refl _ _,0,Nat.zero_le _,rfl,rfl,rfl⟩
  case round =>
    obtain ⟨hbr,j,hj,rfl,rfl,hrf⟩:=hrel
    have HBR:=Lib.hid hbr
    clear hbr
    by_cases hjl : j < xs.length
    · obtain ⟨x,hx,hdr⟩:=drop_at hjl
      rw [hdr,List.all_cons] at hrf
      obtain ⟨hbl,⟨x0,x1,x2,x3,x4,x5,x6⟩⟩:=(HF.out.below HBR.out) j x hx
      have CL:=Lib.hid (HCL.out x (List.mem_of_getElem? hx) wr HBR.out)
      obtain ⟨p,hp⟩ : ∃ p,q x = p:=⟨_,rfl⟩
      rw [hp] at CL hrf
      have HRF:=Lib.hid hrf
      clear hrf hdr hx hp
      go_wp2_with (fail)
      refine CL.out.mono ?_
      rintro e w2 ⟨rfl,hb2⟩
      have HB2:=Lib.hid (bel_trans (B:=w.heap.size) HBR.out hb2)
      clear hb2
      cases p
      · go_wp2_with (fail)
        go_ret
        exact ⟨⟨j,rfl,by rw [← HRF.out]; simp⟩,HB2.out⟩
      · go_wp2_with (fail)
        go_roundg (xs.length - (j + 1))
        case measure=>omega
        case rel=>exact ⟨HB2.out,j + 1,by omega,rfl,by go_num,by rw [← HRF.out]; simp⟩
    · have hje : j = xs.length:=by omega
      subst hje
      rw [List.drop_length] at hrf
      have HR : Hid (true = xs.all q):=Lib.hid hrf
      clear hrf
      go_wp2_with (fail)
      go_ret
      exact ⟨⟨-1,rfl,by rw [← HR.out]; rfl⟩,HBR.out⟩
theorem cpcontains_any (q : Prh → Bool) (g : Nat) (xs : List Prh) (B : Option Addr) (cap b off : Nat) (w : World) (hB : 0 < xs.length → B = some ⟨b,off,none⟩) (hF : PrcAt w b off xs) (hc1 : xs.length ≤ cap) (hc2 : cap ≤ 9223372036854775807)
    (hcl : ∀ x ∈ xs,∀ W,Below w.heap.size w W → Calls Tryz.prog 33 #[(prA x),.pointer (some ⟨g,0,none⟩)] W fun e w'=>e = .returned (.bool (!q x))∧Below W.heap.size W w') :
    Calls Tryz.prog 32 #[.slice B xs.length cap,.func (.func 33) #[] #[.pointer (some ⟨g,0,none⟩)]] w fun e w'=>e = .returned (.bool (!xs.all q))∧Below w.heap.size w w':=by
  have H1:=Lib.hid (cpindex_any q g xs B cap b off w hB hF hc1 hc2 hcl)
  clear hB hF hcl
  go_enter Tryz.func32,Tryz.ntmps32
  go_wp2_with (fail)
  refine H1.out.mono ?_
  rintro e w1 ⟨⟨z,rfl,hz⟩,hb1⟩
  have HB1:=Lib.hid hb1
  have HZ:=Lib.hid hz
  clear hb1 hz
  go_wp2_with (fail)
  go_ret
  exact ⟨by rw [← HZ.out]; rfl,HB1.out⟩
theorem cpclosure (x : Prh) (g : Nat) (q : Bool) (w : World) (hg : g < w.heap.size) (hcell : w.cell? ⟨g,0,none⟩ = some (.func (.func 18) #[] #[]))
    (hR : ∀ W,Below w.heap.size w W → Calls Tryz.prog 18 #[(prA x)] W fun e w'=>e = .returned (.bool q)∧Below W.heap.size W w') :
    Calls Tryz.prog 33 #[(prA x),.pointer (some ⟨g,0,none⟩)] w fun e w'=>e = .returned (.bool (!q))∧Below w.heap.size w w':=by
  obtain ⟨W0,hW0⟩ : ∃ W0,w.alloc (prO x) = W0:=⟨_,rfl⟩
  have hb0 : Below w.heap.size w W0:=by rw [← hW0]; exact (Below.refl _ w).alloc (Nat.le_refl _) _
  have ho : W0.heap[w.heap.size]? = some (prO x):=by rw [← hW0]; unfold World.alloc; simp
  have x0 : (w.alloc (prO x)).cell? ⟨g,0,none⟩ = some (.func (.func 18) #[] #[]):=by rw [hW0]; exact (hb0.cell (p:=⟨g,0,none⟩) hg).trans hcell
  have HO:=Lib.hid ho
  have HW0:=Lib.hid hW0
  have HB0:=Lib.hid hb0
  have HR:=Lib.hid (hR W0 hb0)
  obtain ⟨y0,y1,y2,y3,y4,y5,y6⟩:=P7.of_block ho
  clear hW0 hb0 ho hR hcell
  go_enter Tryz.func33,Tryz.ntmps33
  go_wp2_with (fail)
  rw [HW0.out]
  refine HR.out.mono ?_
  rintro e w1 ⟨rfl,hb1⟩
  have HB1:=Lib.hid (bel_trans (B:=w.heap.size) HB0.out hb1)
  clear hb1
  go_wp2_with (fail)
  go_ret
  exact ⟨rfl,HB1.out⟩
theorem cpall_any (q : Prh → Bool) (xs : List Prh) (B : Option Addr) (cap b off : Nat) (w : World) (hB : 0 < xs.length → B = some ⟨b,off,none⟩) (hF : PrcAt w b off xs) (hc1 : xs.length ≤ cap) (hc2 : cap ≤ 9223372036854775807)
    (hR : ∀ x ∈ xs,∀ W,Below w.heap.size w W → Calls Tryz.prog 18 #[(prA x)] W fun e w'=>e = .returned (.bool (q x))∧Below W.heap.size W w') :
    Calls Tryz.prog 17 #[.slice B xs.length cap,.func (.func 18) #[] #[]] w fun e w'=>e = .returned (.bool (xs.all q))∧Below w.heap.size w w':=by
  obtain ⟨W0,hW0⟩ : ∃ W0,w.alloc (.cells #[.func (.func 18) #[] #[]] 54 (0,0)) = W0:=⟨_,rfl⟩
  have hb0 : Below w.heap.size w W0:=by rw [← hW0]; exact (Below.refl _ w).alloc (Nat.le_refl _) _
  have ho : W0.heap[w.heap.size]? = some (.cells #[.func (.func 18) #[] #[]] 54 (0,0)):=by rw [← hW0]; unfold World.alloc; simp
  have hs0 : w.heap.size < W0.heap.size:=by rw [← hW0]; simp
  have hc : W0.cell? ⟨w.heap.size,0,none⟩ = some (.func (.func 18) #[] #[]):=by rw [ob_cell ho]; rfl
  have HC:=Lib.hid (cpcontains_any q w.heap.size xs B cap b off W0 hB (hF.below hb0) hc1 hc2 fun x hx W hW=>cpclosure x w.heap.size (q x) W (Nat.lt_of_lt_of_le hs0 hW.size) ((hW.cell (p:=⟨w.heap.size,0,none⟩) hs0).trans hc) fun W2 hW2=>hR x hx W2 (bel_trans (B:=w.heap.size) (bel_trans (B:=w.heap.size) hb0 hW) hW2))
  have HW0:=Lib.hid hW0
  have HB0:=Lib.hid hb0
  clear hW0 hb0 ho hs0 hc hR hF hB
  obtain ⟨r,hr⟩ : ∃ r,xs.all q = r:=⟨_,rfl⟩
  rw [hr] at HC ⊢
  clear hr
  go_enter Tryz.func17,Tryz.ntmps17
  go_wp2_with (fail)
  rw [HW0.out]
  refine HC.out.mono ?_
  rintro e w1 ⟨rfl,hb1⟩
  have HB1:=Lib.hid (bel_trans (B:=w.heap.size) HB0.out hb1)
  clear hb1
  go_wp2_with (fail)
  go_ret
  exact ⟨by simp,HB1.out⟩
end LM
namespace LM
attribute [local go_sem] run_store_flt
def cnt : Int → Int → Fr → Int
  | _,n,.nil=>n
  | most,n,.cons _ kids rest=>if most ≤ n then n else cnt most (n + cnt (most - n) 1 kids) rest
theorem cnt_bd : ∀ (fr : Fr) (most n : Int),n ≤ cnt most n fr∧(cnt most n fr ≤ n ∨ cnt most n fr ≤ most)∧(n < most → 1 ≤ n → cnt most n fr ≤ most):=by
  intro fr
  induction fr with
  | nil=>intro most n; exact ⟨Int.le_refl _,.inl (Int.le_refl _),fun h _=>by show n ≤ most; omega⟩
  | cons h kids rest ihk ihr =>
    intro most n
    unfold cnt
    by_cases hm : most ≤ n
    · rw [if_pos hm]
      exact ⟨Int.le_refl _,.inl (Int.le_refl _),fun h _=>by omega⟩
    · rw [if_neg hm]
      have h1:=ihk (most - n) 1
      have h2:=ihr most (n + cnt (most - n) 1 kids)
      generalize cnt (most - n) 1 kids = c at *
      refine ⟨by omega,?_,fun _ _=>?_⟩ <;> omega
def Fr.nodes : Fr → Nat
  | .nil=>0
  | .cons _ kids rest=>kids.nodes + 1 + rest.nodes
theorem cnt_nodes : ∀ (fr : Fr) (most n : Int),n + fr.nodes ≤ most → cnt most n fr = n + fr.nodes:=by
  intro fr
  induction fr with
  | nil=>intro most n _; show n = n + ((0 : Nat) : Int); omega
  | cons h kids rest ihk ihr =>
    intro most n hm
    have hm' : n + ((kids.nodes + 1 + rest.nodes : Nat) : Int) ≤ most:=hm
    show (if most ≤ n then n else cnt most (n + cnt (most - n) 1 kids) rest) = n + ((kids.nodes + 1 + rest.nodes : Nat) : Int)
    rw [if_neg (by omega),ihk _ _ (by omega),ihr _ _ (by omega)]
    omega
theorem cnt_more : ∀ (fr : Fr) (most n : Int),most ≤ n + fr.nodes → most ≤ cnt most n fr:=by
  intro fr
  induction fr with
  | nil=>intro most n h; have h' : most ≤ n + ((0 : Nat) : Int):=h; show most ≤ n; omega
  | cons h kids rest ihk ihr =>
    intro most n hm
    have hm' : most ≤ n + ((kids.nodes + 1 + rest.nodes : Nat) : Int):=hm
    show most ≤ (if most ≤ n then n else cnt most (n + cnt (most - n) 1 kids) rest)
    by_cases h1 : most ≤ n
    · rw [if_pos h1]; exact h1
    · rw [if_neg h1]
      by_cases h2 : most - n ≤ 1 + kids.nodes
      · have h3:=ihk (most - n) 1 (by omega)
        have h4:=(cnt_bd rest most (n + cnt (most - n) 1 kids)).1
        omega
      · rw [cnt_nodes kids _ _ (by omega)]
        exact ihr _ _ (by omega)
theorem counted_item {w : World} {b off j : Nat} {fr : Fr} {hh : Hd} {k r : Fr} (hf : FAt w b off fr) (hj : fr.drop j = .cons hh k r) : b < w.heap.size∧C8 w b (off + j * 8) hh k.len∧DatV w hh k:=by
  have h:=FAt.drop j fr off hf
  rw [hj] at h
  exact ⟨h.hd.1,h.hd.2.1,h.hd.2.2.1⟩
theorem size_item {fr : Fr} {j : Nat} {hh : Hd} {k r : Fr} (hj : fr.drop j = .cons hh k r) : k.size < fr.size:=by
  have h:=Fr.size_drop j fr
  rw [hj] at h
  have h2 : k.size + r.size + 1 ≤ fr.size:=h
  omega
theorem counted_any : ∀ (m : Nat) (kids : Fr),kids.size < m → kids.Ok → ∀ (h : Hd) (most : Int) (w : World),DatV w h kids → kids.len ≤ h.cap → h.cap ≤ 9223372036854775807 → 1 ≤ most → most ≤ 4611686018427387904 →
    Calls Tryz.prog 68 #[datA h kids.len,.int .i64 most] w fun e w'=>e = .returned (.int .i64 (cnt most 1 kids))∧Below w.heap.size w w':=by
  intro m
  induction m with
  | zero=>intro kids h; omega
  | succ m ih =>
    intro kids hsz hok h most w hd hc1 hc2 hm1 hm2
    obtain ⟨W0,hW0⟩ : ∃ W0,w.alloc (datO h kids.len) = W0:=⟨_,rfl⟩
    have hb0 : Below w.heap.size w W0:=by rw [← hW0]; exact (Below.refl _ w).alloc (Nat.le_refl _) _
    have ho : W0.heap[w.heap.size]? = some (datO h kids.len):=by rw [← hW0]; unfold World.alloc; simp
    have hs0 : w.heap.size < W0.heap.size:=by rw [← hW0]; simp
    have c7 : W0.cell? ⟨w.heap.size,7,none⟩ = some (.slice h.B kids.len h.cap):=(C8.of_block ho).c7
    obtain ⟨b,off,hB,hF⟩:=(hd.below hb0).items
    have HW0:=Lib.hid hW0
    have HB0:=Lib.hid hb0
    have HO:=Lib.hid ho
    have HF:=Lib.hid hF
    have HB:=Lib.hid hB
    have HOK:=Lib.hid hok
    have IH:=Lib.hid ih
    have HSZ:=Lib.hid hsz
    clear hW0 hb0 ho hF hB hok ih hsz hd
    go_enter Tryz.func68,Tryz.ntmps68
    go_wp2_with (fail)
    rw [HW0.out]
    go_loopg [5,10] kids.len (fun kk n i wr=>Below W0.heap.size W0 wr∧∃ j : Nat,j ≤ kids.len∧kk = kids.len - j∧i = .int .i64 (j : Int)∧∃ a : Int,n = .int .i64 a∧cnt most a (kids.drop j) = cnt most 1 kids∧1 ≤ a∧(a ≤ 1 ∨ a ≤ most))
    case atStart=>exact ⟨Below.refl _ _,0,Nat.zero_le _,rfl,rfl,1,rfl,rfl,by omega,by omega⟩
    case round =>
      obtain ⟨hbr,j,hj,rfl,rfl,a,rfl,hcn,ha1,ha2⟩:=hrel
      have HBR:=Lib.hid hbr
      have HCN:=Lib.hid hcn
      have e7 : wr.cell? ⟨w.heap.size,7,none⟩ = some (.slice h.B kids.len h.cap):=(hbr.cell (p:=⟨w.heap.size,7,none⟩) hs0).trans c7
      clear hbr hcn
      by_cases hjl : j < kids.len
      · obtain ⟨hh,k,r,hdr,hdr1⟩:=Fr.cons_of_lt hjl
        rw [HB.out (by omega)] at e7
        have hcn:=HCN.out
        rw [hdr] at hcn
        obtain ⟨hbl,C,D⟩:=counted_item (FAt.below HBR.out _ _ _ HF.out) hdr
        have hks:=size_item hdr
        have hko:=HOK.out.drop j
        rw [hdr] at hko
        by_cases hmo : most ≤ a
        · have d1 : decide (most ≤ a) = true:=decide_eq_true hmo
          have hres : a = cnt most 1 kids:=by rw [← hcn]; unfold cnt; rw [if_pos hmo]
          have HR:=Lib.hid hres
          clear hmo hcn hdr hdr1 C D hks hko hres
          go_wp2_with (fail)
          go_ret
          exact ⟨by rw [← HR.out]; rfl,bel_trans (B:=w.heap.size) HB0.out HBR.out⟩
        · have d1 : decide (most ≤ a) = false:=decide_eq_false hmo
          have hcn2 : cnt most (a + cnt (most - a) 1 k) r = cnt most 1 kids:=by rw [← hcn]; conv=>rhs; unfold cnt; rw [if_neg hmo]
          have hb1:=cnt_bd k (most - a) 1
          have CK:=Lib.hid (IH.out k (by have:=HSZ.out; omega) hko.2.1 hh (most - a) wr D hko.1.cap.1 hko.1.cap.2 (by omega) (by omega))
          have HCN2:=Lib.hid hcn2
          have HB1:=Lib.hid hb1
          have HDR:=Lib.hid hdr1
          have w1 : IntKind.i64.wrap (most - a) = most - a:=by rw [IntKind.wrap_i64]; omega
          obtain ⟨x0,x1,x2,x3,x4,x5,x6,x7⟩:=C
          clear hcn hcn2 hdr hdr1 hb1 hks hko D
          go_wp2_with (fail)
          refine CK.out.mono ?_
          rintro e w2 ⟨rfl,hb2⟩
          have HB2:=Lib.hid (bel_trans (B:=W0.heap.size) HBR.out hb2)
          clear hb2
          have w2 : IntKind.i64.wrap (a + cnt (most - a) 1 k) = a + cnt (most - a) 1 k:=by rw [IntKind.wrap_i64]; have:=HB1.out; omega
          go_wp2_with (fail)
          go_roundg (kids.len - (j + 1))
          case measure=>omega
          case rel=>exact ⟨HB2.out,j + 1,by omega,rfl,by go_num,_,rfl,by rw [HDR.out]; exact HCN2.out,by have:=HB1.out; omega,by have:=HB1.out; omega⟩
      · have hje : j = kids.len:=by omega
        subst hje
        have hcn:=HCN.out
        have hnil : kids.drop kids.len = .nil:=by
          have h1:=Fr.len_drop kids.len kids
          cases h2 : kids.drop kids.len with
          | nil=>rfl
          | cons x y z=>rw [h2] at h1; have h3 : z.len + 1 = kids.len - kids.len:=h1; omega
        rw [hnil] at hcn
        have HR : Hid (a = cnt most 1 kids):=Lib.hid hcn
        clear hcn hnil
        go_wp2_with (fail)
        go_ret
        exact ⟨by rw [← HR.out]; rfl,bel_trans (B:=w.heap.size) HB0.out HBR.out⟩
end LM
end Go.Proofs.YtihbgghlnppkiaaGreatDoor
namespace Go.Proofs.YtihbgghlnppkiaaGreatDoor
open Go.RowKit
namespace LM
end LM
end Go.Proofs.YtihbgghlnppkiaaGreatDoor
namespace Go.Proofs.YtihbgghlnppkiaaGreatDoor
open Go Go.RowKit
namespace LM
attribute [local go_sem] run_store_flt
end LM
end Go.Proofs.YtihbgghlnppkiaaGreatDoor
namespace Go.Proofs.YtihbgghlnppkiaaGreatDoor
open Go.RowKit
namespace LM
end LM
namespace LM
theorem trim_last {xs : List Nat} {j : Nat} (hj : xs.length = j + 1) : (trim xs = xs) ↔ xs[j]?.getD 0 ≠ 0:=by
  constructor
  · intro h h0
    have h1:=trim_take_zero xs j (by omega) h0
    rw [← hj,List.take_length] at h1
    have h2:=trim_length_le (xs.take j)
    have h3:=congrArg List.length h
    rw [h1] at h3
    rw [List.length_take] at h2
    omega
  · intro h
    have h1:=trim_take_pos xs j (by omega) h
    rw [← hj,List.take_length] at h1
    exact h1
theorem eright_nil_false (A : Option Addr) (c : Nat) (w : World) :
    Calls Tryz.prog 93 #[.agg #[.bool false,.slice A 0 c]] w fun e w'=>e = .returned (.bool true)∧Below w.heap.size w w':=by
  have HB:=Lib.hid (show Below w.heap.size w (w.alloc (.cells #[.bool false,.slice A 0 c] 61)) from (Below.refl _ w).alloc (Nat.le_refl _) _)
  go_enter Tryz.func93,Tryz.ntmps93
  go_wp2
  go_ret
  exact ⟨rfl,HB.out⟩
theorem eright_nil_true (A : Option Addr) (c : Nat) (w : World) :
    Calls Tryz.prog 93 #[.agg #[.bool true,.slice A 0 c]] w fun e w'=>e = .returned (.bool false)∧Below w.heap.size w w':=by
  have HB:=Lib.hid (show Below w.heap.size w (w.alloc (.cells #[.bool true,.slice A 0 c] 61)) from (Below.refl _ w).alloc (Nat.le_refl _) _)
  go_enter Tryz.func93,Tryz.ntmps93
  go_wp2
  go_ret
  exact ⟨rfl,HB.out⟩
theorem eright_long (s : Bool) (A : Option Addr) (c j : Nat) (xs : List Nat) (w : World) (ha : Rd w A xs) (hx : Lm xs) (hj : xs.length = j + 1) (hl : j ≤ 1000) (h : 64 ≤ j) :
    Calls Tryz.prog 93 #[.agg #[.bool s,.slice A (j + 1) c]] w fun e w'=>e = .returned (.bool false)∧Below w.heap.size w w':=by
  have HB:=Lib.hid (show Below w.heap.size w (w.alloc (.cells #[.bool s,.slice A (j + 1) c] 61)) from (Below.refl _ w).alloc (Nat.le_refl _) _)
  have d1 : decide (((j + 1 : Nat) : Int) ≤ 64) = false:=decide_eq_false (by omega)
  have d2 : decide (j + 1 ≤ 64) = false:=decide_eq_false (by omega)
  have d3 : decide ((j : Int) + 1 ≤ 64) = false:=decide_eq_false (by omega)
  clear ha hx
  go_enter Tryz.func93,Tryz.ntmps93
  go_wp2
  go_ret
  exact ⟨rfl,HB.out⟩
theorem eright_zero (s : Bool) (A : Option Addr) (c j : Nat) (xs : List Nat) (w : World) (ha : Rd w A xs) (hx : Lm xs) (hj : xs.length = j + 1) (hl : j ≤ 1000) (h : j < 64) (hz : xs[j]?.getD 0 = 0) :
    Calls Tryz.prog 93 #[.agg #[.bool s,.slice A (j + 1) c]] w fun e w'=>e = .returned (.bool false)∧Below w.heap.size w w':=by
  have HB:=Lib.hid (show Below w.heap.size w (w.alloc (.cells #[.bool s,.slice A (j + 1) c] 61)) from (Below.refl _ w).alloc (Nat.le_refl _) _)
  have d1 : decide (((j + 1 : Nat) : Int) ≤ 64) = true:=decide_eq_true (by omega)
  have d2 : decide (j + 1 ≤ 64) = true:=decide_eq_true (by omega)
  have d3 : decide ((j : Int) + 1 ≤ 64) = true:=decide_eq_true (by omega)
  obtain ⟨b,off,rfl,hb,hcell⟩:=(ha.alloc (.cells #[.bool s,.slice A (j + 1) c] 61)).at_ (by omega : j < xs.length)
  obtain ⟨y,hy⟩ : ∃ y,xs[j]?.getD 0 = y:=⟨_,rfl⟩
  rw [hy] at hz hcell
  have hz2 : (((y : Nat) : Int) == 0) = true:=by rw [hz]; rfl
  have hz3 : (((y : Nat) : Int) != 0) = false:=by rw [bne,hz2]; rfl
  subst hz
  have hb2 : b < w.heap.size + 1:=by simpa using hb
  clear ha hx hy
  go_enter Tryz.func93,Tryz.ntmps93
  go_wp2
  go_ret
  exact ⟨rfl,HB.out⟩
theorem eright_top (s : Bool) (A : Option Addr) (c j : Nat) (xs : List Nat) (w : World) (ha : Rd w A xs) (hx : Lm xs) (hj : xs.length = j + 1) (hl : j ≤ 1000) (h : j < 64) (hz : xs[j]?.getD 0 ≠ 0) :
    Calls Tryz.prog 93 #[.agg #[.bool s,.slice A (j + 1) c]] w fun e w'=>e = .returned (.bool true)∧Below w.heap.size w w':=by
  have HB:=Lib.hid (show Below w.heap.size w (w.alloc (.cells #[.bool s,.slice A (j + 1) c] 61)) from (Below.refl _ w).alloc (Nat.le_refl _) _)
  have d1 : decide (((j + 1 : Nat) : Int) ≤ 64) = true:=decide_eq_true (by omega)
  have d2 : decide (j + 1 ≤ 64) = true:=decide_eq_true (by omega)
  have d3 : decide ((j : Int) + 1 ≤ 64) = true:=decide_eq_true (by omega)
  obtain ⟨b,off,rfl,hb,hcell⟩:=(ha.alloc (.cells #[.bool s,.slice A (j + 1) c] 61)).at_ (by omega : j < xs.length)
  obtain ⟨y,hy⟩ : ∃ y,xs[j]?.getD 0 = y:=⟨_,rfl⟩
  rw [hy] at hz hcell
  have hz2 : (((y : Nat) : Int) == 0) = false:=by rw [beq_eq_false_iff_ne]; omega
  have hz3 : (((y : Nat) : Int) != 0) = true:=by rw [bne,hz2]; rfl
  clear hz
  have hb2 : b < w.heap.size + 1:=by simpa using hb
  clear ha hx hy
  go_enter Tryz.func93,Tryz.ntmps93
  go_wp2
  go_ret
  exact ⟨rfl,HB.out⟩
theorem eright_any (s : Bool) (A : Option Addr) (c : Nat) (xs : List Nat) (w : World) (ha : Rd w A xs) (hx : Lm xs) (hl : xs.length ≤ 1000) :
    Calls Tryz.prog 93 #[.agg #[.bool s,.slice A xs.length c]] w fun e w'=>e = .returned (.bool (rightB s xs))∧Below w.heap.size w w':=by
  rcases xs with _ | ⟨x,r⟩
  · cases s with
    | false =>
      rw [show rightB false [] = true from decide_eq_true ⟨by decide,rfl,by simp⟩]
      exact eright_nil_false A c w
    | true =>
      rw [show rightB true [] = false from decide_eq_false fun h=>h.2.2 ⟨rfl,rfl⟩]
      exact eright_nil_true A c w
  · have hj : (x :: r).length = r.length + 1:=rfl
    generalize x :: r = xs at *
    generalize r.length = j at *
    rw [hj]
    by_cases h : 64 ≤ j
    · rw [show rightB s xs = false from decide_eq_false fun k=>by have:=k.1; omega]
      exact eright_long s A c j xs w ha hx hj (by omega) h
    · by_cases hz : xs[j]?.getD 0 = 0
      · rw [show rightB s xs = false from decide_eq_false fun k=>(trim_last hj).1 k.2.1 hz]
        exact eright_zero s A c j xs w ha hx hj (by omega) (by omega) hz
      · rw [show rightB s xs = true from decide_eq_true ⟨by omega,(trim_last hj).2 hz,fun k=>by have:=k.2; omega⟩]
        exact eright_top s A c j xs w ha hx hj (by omega) (by omega) hz
end LM
namespace LM
end LM
namespace LM
end LM
namespace LM
end LM
end Go.Proofs.YtihbgghlnppkiaaGreatDoor
