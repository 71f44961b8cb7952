import Derived.WalkKit
import Derived.WalkSpells
import Derived.WalkLawsBesides
import Derived.Lib.Hide
import Derived.Deep.QuietTactic
import Derived.Deep.Draws
import Derived.BigQuiet
import Derived.Laws.Rows
import Derived.Laws.OwnMore
import Derived.StillTailTactics
import Derived.Test.YtihbgghlnppkiaaGreatDoorR01
set_option linter.unusedVariables false
set_option linter.unusedSimpArgs false
set_option maxRecDepth 100000
set_option maxHeartbeats 16000000
namespace Go.Proofs.YtihbgghlnppkiaaGreatDoor
open Go.RowKit
namespace LM
def U (xs : List Nat) : List Value:=xs.map fun (x : Nat)=>Value.int .u32 (x : Int)
theorem U_len (xs : List Nat) : (U xs).length = xs.length:=by simp [U]
theorem U_get (xs : List Nat) (k : Nat) (h : k < xs.length) : (U xs)[k]? = some (.int .u32 ((xs[k]?.getD 0 : Nat) : Int)):=by
  simp [U,List.getElem?_eq_getElem h]
theorem U_append (xs ys : List Nat) : U (xs ++ ys) = U xs ++ U ys:=by simp [U]
def Rd (w : World) (A : Option Addr) (xs : List Nat) : Prop :=
  0 < xs.length → ∃ b off,A = some ⟨b,off,none⟩∧b < w.heap.size∧∀ k,k < xs.length → w.cell? ⟨b,off + k,none⟩ = some (.int .u32 ((xs[k]?.getD 0 : Nat) : Int))
def Off (A : Option Addr) (g : Nat) : Prop:=∀ ad,A = some ad → ad.block ≠ g
def Blk (w : World) (g : Nat) (cs : List Value) : Prop:=w.heap[g]? = some (.cells cs.toArray 92 (0,0))
section
variable {w w' : World} {g : Nat} {cs : List Value} {A : Option Addr} {xs : List Nat}
theorem Blk.lt (h : Blk w g cs) : g < w.heap.size:=by
  rcases Nat.lt_or_ge g w.heap.size with hlt | hge
  · exact hlt
  · unfold Blk at h; rw [Array.getElem?_eq_none hge] at h; cases h
theorem Blk.cell (h : Blk w g cs) (i : Nat) : w.cell? ⟨g,i,none⟩ = cs[i]?:=by
  rw [cell_of_row w g i cs.toArray 92 (0,0) h]; simp
theorem Blk.frozen (h : Blk w g cs) (i : Nat) : w.frozen? ⟨g,i,none⟩ = false:=by
  unfold Blk at h
  simp [World.frozen?,h]
theorem Blk.new (w : World) (cs : List Value) : Blk (w.alloc (.cells cs.toArray 92)) w.heap.size cs:=heap_alloc_new w _
theorem Blk.alloc (h : Blk w g cs) (o : Obj) : Blk (w.alloc o) g cs:=(Below.heap_alloc w o g h.lt).trans h
theorem Blk.set_ (h : Blk w g cs) (i : Nat) (u : Value) : Blk (w.setCell ⟨g,i,none⟩ u) g (cs.set i u):=by
  unfold Blk at h ⊢
  simp [World.setCell,Array.getElem?_modify,h]
theorem Blk.far (h : Blk w g cs) {p : Addr} (hp : g ≠ p.block) (u : Value) : Blk (w.setCell p u) g cs:=(Below.heap_setCell w p u g hp).trans h
theorem Blk.grown {row : Option Nat} (h : Blk w g cs) (hb : w.grownBy w' row) (hg : some g ≠ row) : Blk w' g cs:=(hb.block g h.lt hg).trans h
theorem Rd.nil : Rd w A []:=fun h=>absurd h (by simp)
theorem Rd.keep (h : Rd w A xs) (hs : w.heap.size ≤ w'.heap.size) (hk : ∀ ad : Addr,A = some ad → ad.block < w.heap.size → w'.heap[ad.block]? = w.heap[ad.block]?) : Rd w' A xs:=fun hl=>by
  obtain ⟨b,off,e,hb,hc⟩:=h hl
  exact ⟨b,off,e,by omega,fun k hk'=>(World.cell?_of_block (a:=⟨b,off + k,none⟩) (hk ⟨b,off,none⟩ e hb)).trans (hc k hk')⟩
theorem Rd.below (h : Rd w A xs) (hb : Below w.heap.size w w') : Rd w' A xs:=h.keep hb.size fun _ _ hl=>hb.block _ hl
theorem Rd.belowB {B : Nat} (h : Rd w A xs) (hb : Below B w w') (hA : ∀ ad,A = some ad → ad.block < B) : Rd w' A xs:=h.keep hb.size fun _ e _=>hb.block _ (hA _ e)
theorem Rd.alloc (h : Rd w A xs) (o : Obj) : Rd (w.alloc o) A xs:=h.keep (by simp) fun _ _ hl=>Below.heap_alloc w o _ hl
theorem Rd.setCell (h : Rd w A xs) {p : Addr} (hA : Off A p.block) (u : Value) : Rd (w.setCell p u) A xs :=
  h.keep (by simp [World.setCell]) fun ad e _=>Below.heap_setCell w p u _ (hA ad e)
theorem Rd.take (h : Rd w A xs) (n : Nat) : Rd w A (xs.take n):=fun hl=>by
  obtain ⟨b,off,e,hb,hc⟩:=h (by simp at hl; omega)
  refine ⟨b,off,e,hb,fun k hk=>?_⟩
  rw [List.length_take] at hk
  rw [hc k (by omega),List.getElem?_take,if_pos (by omega)]
theorem Rd.at_ (h : Rd w A xs) {k : Nat} (hk : k < xs.length) : ∃ b off,A = some ⟨b,off,none⟩∧b < w.heap.size∧w.cell? ⟨b,off + k,none⟩ = some (.int .u32 ((xs[k]?.getD 0 : Nat) : Int)):=by
  obtain ⟨b,off,e,hb,hc⟩:=h (by omega)
  exact ⟨b,off,e,hb,hc k hk⟩
theorem Rd.of_blk {pre post : List Nat} (h : Blk w g (U (pre ++ xs ++ post))) : Rd w (some ⟨g,pre.length,none⟩) xs:=fun _ =>
  ⟨g,pre.length,rfl,h.lt,fun k hk=>by
    rw [h.cell,U_get _ _ (by simp; omega)]
    congr 3
    rw [List.append_assoc,List.getElem?_append_right (by omega),List.getElem?_append_left (by omega)]
    congr 2; omega⟩
theorem set_mid (pre ys zs post : List Nat) (x y : Nat) : (U (pre ++ (ys ++ x :: zs) ++ post)).set (pre.length + ys.length) (.int .u32 (y : Int)) = U (pre ++ (ys ++ y :: zs) ++ post):=by
  simp only [U,List.map_append,List.map_cons,List.append_assoc,List.cons_append]
  rw [List.set_append_right _ _ (by simp),List.set_append_right _ _ (by simp)]
  simp
theorem below_drewN {B : Nat} {a w : World} (h : Below B a w) (n : Nat) : Below B a (w.drewN n):=⟨h.os,h.tape,h.output,h.size,h.block⟩
theorem only_drewN {a w : World} {row : Option Nat} (h : a.grownBy w row) (n : Nat) : a.grownBy (w.drewN n) row:=⟨h.os,h.tape,h.output,h.size,h.block⟩
theorem only_drew {a w : World} {row : Option Nat} (h : a.grownBy w row) : a.grownBy w.drew row:=⟨h.os,h.tape,h.output,h.size,h.block⟩
theorem only_alloc {a w : World} {row : Option Nat} (h : a.grownBy w row) (o : Obj) : a.grownBy (w.alloc o) row :=
  ⟨h.os,h.tape,h.output,Nat.le_trans h.size (by simp),fun i hi hne=>(Below.heap_alloc w o i (Nat.lt_of_lt_of_le hi h.size)).trans (h.block i hi hne)⟩
theorem only_setCell {a w : World} {g : Nat} (h : a.grownBy w (some g)) {p : Addr} (hp : p.block = g ∨ a.heap.size ≤ p.block) (u : Value) : a.grownBy (w.setCell p u) (some g) :=
  ⟨h.os,h.tape,h.output,by simpa [World.setCell] using h.size,fun i hi hne=>(Below.heap_setCell w p u i (by
    rintro rfl
    rcases hp with hp | hp
    · exact hne (by rw [hp])
    · omega)).trans (h.block i hi hne)⟩
theorem only_of_below {a w : World} (h : Below a.heap.size a w) (row : Option Nat) : a.grownBy w row:=⟨h.os,h.tape,h.output,h.size,fun i hi _=>h.block i hi⟩
theorem only_trans {a b c : World} {row : Option Nat} (h : a.grownBy b row) (k : b.grownBy c row) : a.grownBy c row :=
  ⟨k.os.trans h.os,k.tape.trans h.tape,k.output.trans h.output,Nat.le_trans h.size k.size,fun i hi hn=>(k.block i (Nat.lt_of_lt_of_le hi h.size) hn).trans (h.block i hi hn)⟩
theorem only_refl (w : World) (row : Option Nat) : w.grownBy w row:=World.grownBy.refl w row
theorem below_of_only {a b w : World} {g : Nat} {B : Nat} (h : Below B a b) (k : b.grownBy w (some g)) (hB : B ≤ g) (hs : B ≤ b.heap.size) : Below B a w :=
  h.grown k hs fun _ e=>by injection e with e; omega
end
end LM
end Go.Proofs.YtihbgghlnppkiaaGreatDoor
namespace Go.Proofs.YtihbgghlnppkiaaGreatDoor
open Go Go.RowKit
namespace LM
def DecR (w : World) (g : Nat) (s : Dec) : Prop:=∃ A : Array Value,w.heap[g]? = some (.cells A 241 (0,0))∧A.size = 804∧(∀ i,i < 800 → A[i]? = some (.int .u8 ((s.f i : Nat) : Int)))∧A[800]? = some (.int .i64 ((s.nd : Nat) : Int))∧A[801]? = some (.int .i64 s.dp)∧A[802]? = some (.bool s.neg)∧A[803]? = some (.bool s.tr)
section
variable {w w' : World} {g : Nat} {s : Dec}
theorem DecR.lt (h : DecR w g s) : g < w.heap.size:=by
  obtain ⟨A,h,_⟩:=h
  rcases Nat.lt_or_ge g w.heap.size with hlt | hge
  · exact hlt
  · rw [Array.getElem?_eq_none hge] at h; cases h
theorem DecR.byte (h : DecR w g s) (i : Nat) (hi : i < 800) : w.cell? ⟨g,i,none⟩ = some (.int .u8 ((s.f i : Nat) : Int)):=by
  obtain ⟨A,h0,h1,h2,h3,h4,h5,h6⟩:=h
  rw [cell_of_row w g i A _ (0,0) h0]
  exact h2 i hi
theorem DecR.ndc (h : DecR w g s) : w.cell? ⟨g,800,none⟩ = some (.int .i64 ((s.nd : Nat) : Int)):=by
  obtain ⟨A,h0,h1,h2,h3,h4,h5,h6⟩:=h
  rw [cell_of_row w g 800 A _ (0,0) h0]
  exact h3
theorem DecR.dpc (h : DecR w g s) : w.cell? ⟨g,801,none⟩ = some (.int .i64 s.dp):=by
  obtain ⟨A,h0,h1,h2,h3,h4,h5,h6⟩:=h
  rw [cell_of_row w g 801 A _ (0,0) h0]
  exact h4
theorem DecR.negc (h : DecR w g s) : w.cell? ⟨g,802,none⟩ = some (.bool s.neg):=by
  obtain ⟨A,h0,h1,h2,h3,h4,h5,h6⟩:=h
  rw [cell_of_row w g 802 A _ (0,0) h0]
  exact h5
theorem DecR.trc (h : DecR w g s) : w.cell? ⟨g,803,none⟩ = some (.bool s.tr):=by
  obtain ⟨A,h0,h1,h2,h3,h4,h5,h6⟩:=h
  rw [cell_of_row w g 803 A _ (0,0) h0]
  exact h6
theorem DecR.frozen (h : DecR w g s) (i : Nat) : w.frozen? ⟨g,i,none⟩ = false:=by
  obtain ⟨A,h0,_⟩:=h
  simp [World.frozen?,h0]
theorem DecR.drew (h : DecR w g s) : DecR w.drew g s:=h
theorem DecR.drewN (h : DecR w g s) (n : Nat) : DecR (w.drewN n) g s:=h
theorem dec_set {A : Array Value} {T : TypeId} (h : w.heap[g]? = some (.cells A T (0,0))) (i : Nat) (v : Value) : (w.setCell ⟨g,i,none⟩ v).heap[g]? = some (.cells (A.setIfInBounds i v) T (0,0)):=by
  simp [World.setCell,Array.getElem?_modify,h]
theorem DecR.setByte (h : DecR w g s) (i : Nat) (hi : i < 800) (v : Nat) : DecR (w.setCell ⟨g,i,none⟩ (.int .u8 (v : Int))) g { s with f:=upd s.f i v }:=by
  obtain ⟨A,h0,h1,h2,h3,h4,h5,h6⟩:=h
  refine ⟨_,dec_set h0 i _,by simp [h1],fun j hj=>?_,?_,?_,?_,?_⟩
  · rw [Array.getElem?_setIfInBounds]
    by_cases e : i = j
    · subst e
      rw [if_pos rfl,if_pos (by omega)]
      show _ = some (Value.int .u8 ((upd s.f i v i : Nat) : Int))
      rw [upd_same]
    · rw [if_neg e,h2 j hj]
      show _ = some (Value.int .u8 ((upd s.f i v j : Nat) : Int))
      rw [upd_else s.f v (fun h=>e h.symm)]
  · rw [Array.getElem?_setIfInBounds,if_neg (by omega)]; exact h3
  · rw [Array.getElem?_setIfInBounds,if_neg (by omega)]; exact h4
  · rw [Array.getElem?_setIfInBounds,if_neg (by omega)]; exact h5
  · rw [Array.getElem?_setIfInBounds,if_neg (by omega)]; exact h6
theorem DecR.setNd (h : DecR w g s) (n : Nat) : DecR (w.setCell ⟨g,800,none⟩ (.int .i64 (n : Int))) g { s with nd:=n }:=by
  obtain ⟨A,h0,h1,h2,h3,h4,h5,h6⟩:=h
  refine ⟨_,dec_set h0 800 _,by simp [h1],fun j hj=>?_,?_,?_,?_,?_⟩
  · rw [Array.getElem?_setIfInBounds,if_neg (by omega)]; exact h2 j hj
  · rw [Array.getElem?_setIfInBounds,if_pos rfl,if_pos (by omega)]
  · rw [Array.getElem?_setIfInBounds,if_neg (by omega)]; exact h4
  · rw [Array.getElem?_setIfInBounds,if_neg (by omega)]; exact h5
  · rw [Array.getElem?_setIfInBounds,if_neg (by omega)]; exact h6
theorem DecR.setDp (h : DecR w g s) (z : Int) : DecR (w.setCell ⟨g,801,none⟩ (.int .i64 z)) g { s with dp:=z }:=by
  obtain ⟨A,h0,h1,h2,h3,h4,h5,h6⟩:=h
  refine ⟨_,dec_set h0 801 _,by simp [h1],fun j hj=>?_,?_,?_,?_,?_⟩
  · rw [Array.getElem?_setIfInBounds,if_neg (by omega)]; exact h2 j hj
  · rw [Array.getElem?_setIfInBounds,if_neg (by omega)]; exact h3
  · rw [Array.getElem?_setIfInBounds,if_pos rfl,if_pos (by omega)]
  · rw [Array.getElem?_setIfInBounds,if_neg (by omega)]; exact h5
  · rw [Array.getElem?_setIfInBounds,if_neg (by omega)]; exact h6
theorem DecR.setNeg (h : DecR w g s) (b : Bool) : DecR (w.setCell ⟨g,802,none⟩ (.bool b)) g { s with neg:=b }:=by
  obtain ⟨A,h0,h1,h2,h3,h4,h5,h6⟩:=h
  refine ⟨_,dec_set h0 802 _,by simp [h1],fun j hj=>?_,?_,?_,?_,?_⟩
  · rw [Array.getElem?_setIfInBounds,if_neg (by omega)]; exact h2 j hj
  · rw [Array.getElem?_setIfInBounds,if_neg (by omega)]; exact h3
  · rw [Array.getElem?_setIfInBounds,if_neg (by omega)]; exact h4
  · rw [Array.getElem?_setIfInBounds,if_pos rfl,if_pos (by omega)]
  · rw [Array.getElem?_setIfInBounds,if_neg (by omega)]; exact h6
theorem DecR.setTr (h : DecR w g s) (b : Bool) : DecR (w.setCell ⟨g,803,none⟩ (.bool b)) g { s with tr:=b }:=by
  obtain ⟨A,h0,h1,h2,h3,h4,h5,h6⟩:=h
  refine ⟨_,dec_set h0 803 _,by simp [h1],fun j hj=>?_,?_,?_,?_,?_⟩
  · rw [Array.getElem?_setIfInBounds,if_neg (by omega)]; exact h2 j hj
  · rw [Array.getElem?_setIfInBounds,if_neg (by omega)]; exact h3
  · rw [Array.getElem?_setIfInBounds,if_neg (by omega)]; exact h4
  · rw [Array.getElem?_setIfInBounds,if_neg (by omega)]; exact h5
  · rw [Array.getElem?_setIfInBounds,if_pos rfl,if_pos (by omega)]
end
theorem DecR.eq {w : World} {g : Nat} {s t : Dec} (h : DecR w g s) (e : s = t) : DecR w g t:=e ▸ h
def DW (w0 : World) (g : Nat) (s : Dec) (w : World) : Prop:=DecR w g s∧w0.grownBy w (some g)
end LM
end Go.Proofs.YtihbgghlnppkiaaGreatDoor
