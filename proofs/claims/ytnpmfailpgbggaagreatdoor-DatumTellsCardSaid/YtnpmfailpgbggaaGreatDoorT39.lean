import Derived.Test.YtnpmfailpgbggaaGreatDoorT38
import Derived.Test.YtnpmfailpgbggaaGreatDoorT37
import Derived.Test.YtnpmfailpgbggaaGreatDoorT21
import Derived.Lib.SliceRun
import Derived.Deep.RegionHeld3
import Derived.Maps.AppendAt
import Derived.Test.YtnpmfailpgbggaaGreatDoorT10
import Derived.Test.YtnpmfailpgbggaaGreatDoorT33
import Derived.Test.YtnpmfailpgbggaaGreatDoorT17
import Derived.Test.YtnpmfailpgbggaaGreatDoorT41
import Derived.Test.YtnpmfailpgbggaaGreatDoorT44
import Derived.Test.YtnpmfailpgbggaaGreatDoorT34
import Derived.Laws.BytesString
import Derived.Laws.IdiomStrings
import Derived.Laws.Runes
import Derived.Laws.Cover4
import Derived.Lib.OthersKept
set_option linter.unusedVariables false
set_option linter.unusedSimpArgs false
set_option maxRecDepth 100000
set_option maxHeartbeats 16000000
namespace Go.Proofs.YtnpmfailpgbggaaGreatDoor
open Go Go.RowKit
namespace LM
def AlikeH (h h' : Hd) : Prop:=h'.k = h.k∧h'.n = h.n∧h'.fl = h.fl∧h'.f = h.f∧h'.s = h.s∧h'.xs = h.xs∧h'.t = h.t
def AlikeF : Fr → Fr → Prop
  | .nil,.nil=>True
  | .cons h k r,.cons h' k' r'=>AlikeH h h'∧AlikeF k k'∧AlikeF r r'
  | .nil,.cons _ _ _=>False
  | .cons _ _ _,.nil=>False
theorem AlikeF.len : ∀ {a b : Fr},AlikeF a b → b.len = a.len:=by
  intro a
  induction a with
  | nil=>intro b h; cases b with
    | nil=>rfl
    | cons x y z=>exact absurd h id
  | cons x y z _ ih=>intro b h; cases b with
    | nil=>exact absurd h id
    | cons x' y' z' =>
      have:=ih h.2.2
      show z'.len + 1 = z.len + 1
      omega
def FreshH (B : Nat) (h : Hd) (n : Nat) : Prop:=(0 < h.xs.length → ∀ ad,h.A = some ad → B ≤ ad.block)∧(0 < n → ∀ ad,h.B = some ad → B ≤ ad.block)
def FreshF (B : Nat) : Fr → Prop
  | .nil=>True
  | .cons h k r=>FreshH B h k.len∧FreshF B k∧FreshF B r
def AwayH (g : Nat) (h : Hd) (n : Nat) : Prop:=(0 < h.xs.length → Off h.A g)∧(0 < n → Off h.B g)
def AwayF (g : Nat) : Fr → Prop
  | .nil=>True
  | .cons h k r=>AwayH g h k.len∧AwayF g k∧AwayF g r
theorem FreshF.away {B g : Nat} (hg : g < B) : ∀ {fr : Fr},FreshF B fr → AwayF g fr:=by
  intro fr
  induction fr with
  | nil=>intro _; exact trivial
  | cons h k r ihk ihr =>
    intro hf
    refine ⟨⟨fun hx ad e=>?_,fun hx ad e=>?_⟩,ihk hf.2.1,ihr hf.2.2⟩
    · have:=hf.1.1 hx ad e; omega
    · have:=hf.1.2 hx ad e; omega
theorem FreshF.mono {B C : Nat} (hC : C ≤ B) : ∀ {fr : Fr},FreshF B fr → FreshF C fr:=by
  intro fr
  induction fr with
  | nil=>intro _; exact trivial
  | cons h k r ihk ihr =>
    intro hf
    exact ⟨⟨fun hx ad e=>Nat.le_trans hC (hf.1.1 hx ad e),fun hx ad e=>Nat.le_trans hC (hf.1.2 hx ad e)⟩,ihk hf.2.1,ihr hf.2.2⟩
theorem away_old {w : World} {g : Nat} (hg : w.heap.size ≤ g) : ∀ {fr : Fr} {b off : Nat},FAt w b off fr → AwayF g fr:=by
  intro fr
  induction fr with
  | nil=>intro b off _; exact trivial
  | cons h k r ihk ihr =>
    intro b off hf
    obtain ⟨h1,h2,h3,⟨b',off',h4,h5⟩,h6⟩:=hf
    refine ⟨⟨fun hx=>h3.off hx hg,fun hx ad e=>?_⟩,ihk h5,ihr h6⟩
    rw [h4 hx] at e
    injection e with e
    subst e
    cases k with
    | nil=>exact absurd hx (by show ¬ 0 < 0; omega)
    | cons x y z =>
      have : b' < w.heap.size:=h5.1
      show b' ≠ g
      omega
structure Out8 (g o : Nat) (W W' : World) : Prop where
  size : W'.heap.size = W.heap.size
  cell : ∀ c i,(c ≠ g ∨ i < o ∨ o + 8 ≤ i) → W'.cell? ⟨c,i,none⟩ = W.cell? ⟨c,i,none⟩
theorem Out8.rd {g o : Nat} {W W' : World} (h : Out8 g o W W') {A : Option Addr} {xs : List Nat} (hr : Rd W A xs) (ho : 0 < xs.length → Off A g) : Rd W' A xs:=fun hx=>by
  obtain ⟨b,off,rfl,hb,hc⟩:=hr hx
  exact ⟨b,off,rfl,by rw [h.size]; exact hb,fun k hk=>(h.cell b _ (.inl (ho hx _ rfl))).trans (hc k hk)⟩
theorem Out8.c8 {g o : Nat} {W W' : World} (h : Out8 g o W W') {b off n : Nat} {hh : Hd} (hc : C8 W b off hh n) (hb : b ≠ g ∨ off + 8 ≤ o ∨ o + 8 ≤ off) : C8 W' b off hh n:=by
  have hx : ∀ i,i < 8 → W'.cell? ⟨b,off + i,none⟩ = W.cell? ⟨b,off + i,none⟩:=fun i hi=>h.cell _ _ (by omega)
  exact ⟨(hx 0 (by decide)).trans hc.c0,(hx 1 (by decide)).trans hc.c1,(hx 2 (by decide)).trans hc.c2,(hx 3 (by decide)).trans hc.c3,(hx 4 (by decide)).trans hc.c4,(hx 5 (by decide)).trans hc.c5,(hx 6 (by decide)).trans hc.c6,(hx 7 (by decide)).trans hc.c7⟩
theorem Out8.fat {g o : Nat} {W W' : World} (h : Out8 g o W W') : ∀ {fr : Fr} {b off : Nat},FAt W b off fr → AwayF g fr → (b ≠ g ∨ off + fr.len * 8 ≤ o ∨ o + 8 ≤ off) → FAt W' b off fr:=by
  intro fr
  induction fr with
  | nil=>intro b off _ _ _; exact trivial
  | cons hh k r ihk ihr =>
    intro b off hf ha hb
    obtain ⟨h1,h2,h3,⟨b',off',h4,h5⟩,h6⟩:=hf
    have hl : (Fr.cons hh k r).len = r.len + 1:=rfl
    rw [hl] at hb
    refine ⟨by rw [h.size]; exact h1,h.c8 h2 (by omega),h.rd h3 ha.1.1,⟨b',off',h4,?_⟩,ihr h6 ha.2.2 (by omega)⟩
    rcases Nat.eq_zero_or_pos k.len with h0 | hp
    · cases k with
      | nil=>exact trivial
      | cons x y z=>have h3 : z.len + 1 = 0:=h0; omega
    · exact ihk h5 ha.2.1 (.inl (ha.1.2 hp _ (h4 hp)))
theorem Out8.dat {g o : Nat} {W W' : World} (h : Out8 g o W W') {hh : Hd} {k : Fr} (hd : DatV W hh k) (ha : AwayH g hh k.len) (hk : AwayF g k) : DatV W' hh k:=by
  obtain ⟨h1,b,off,h2,h3⟩:=hd
  refine ⟨h.rd h1 ha.1,b,off,h2,?_⟩
  rcases Nat.eq_zero_or_pos k.len with h0 | hp
  · cases k with
    | nil=>exact trivial
    | cons x y z=>have h3 : z.len + 1 = 0:=h0; omega
  · exact h.fat h3 hk (.inl (ha.2 hp _ (h2 hp)))
def Fr.app : Fr → Fr → Fr
  | .nil,y=>y
  | .cons h k r,y=>.cons h k (r.app y)
theorem app_len : ∀ (x y : Fr),(x.app y).len = x.len + y.len:=by
  intro x y
  induction x with
  | nil=>show y.len = 0 + y.len; omega
  | cons h k r _ ih=>show (r.app y).len + 1 = r.len + 1 + y.len; omega
theorem fat_app {W : World} {b : Nat} : ∀ {x y : Fr} {off : Nat},FAt W b off (x.app y) ↔ FAt W b off x∧FAt W b (off + x.len * 8) y:=by
  intro x
  induction x with
  | nil=>intro y off; show FAt W b off y ↔ True∧FAt W b (off + 0 * 8) y; rw [Nat.zero_mul,Nat.add_zero,true_and]
  | cons h k r _ ih =>
    intro y off
    have hl : (Fr.cons h k r).len = r.len + 1:=rfl
    have:=@ih y (off + 8)
    rw [hl,show off + (r.len + 1) * 8 = off + 8 + r.len * 8 from by omega]
    constructor
    · rintro ⟨h1,h2,h3,h4,h5⟩
      have h6:=this.1 h5
      exact ⟨⟨h1,h2,h3,h4,h6.1⟩,h6.2⟩
    · rintro ⟨⟨h1,h2,h3,h4,h5⟩,h6⟩
      exact ⟨h1,h2,h3,h4,this.2 ⟨h5,h6⟩⟩
theorem away_app {g : Nat} : ∀ {x y : Fr},AwayF g (x.app y) ↔ AwayF g x∧AwayF g y:=by
  intro x
  induction x with
  | nil=>intro y; exact ⟨fun h=>⟨trivial,h⟩,fun h=>h.2⟩
  | cons h k r _ ih =>
    intro y
    constructor
    · rintro ⟨h1,h2,h3⟩
      have h6:=ih.1 h3
      exact ⟨⟨h1,h2,h6.1⟩,h6.2⟩
    · rintro ⟨⟨h1,h2,h3⟩,h4⟩
      exact ⟨h1,h2,ih.2 ⟨h3,h4⟩⟩
abbrev set8 (w : World) (g o : Nat) (h : Hd) (n : Nat) : World :=
  (((((((w.setCell ⟨g,o,none⟩ (.int .i64 h.k)).setCell ⟨g,o + 1,none⟩ (.int .i64 h.n)).setCell ⟨g,o + 2,none⟩ (.bool h.fl)).setCell ⟨g,o + 3,none⟩ (.float .f64 h.f)).setCell ⟨g,o + 4,none⟩ (.bool h.s)).setCell ⟨g,o + 5,none⟩ (.slice h.A h.xs.length h.c)).setCell ⟨g,o + 6,none⟩ (.string h.t)).setCell ⟨g,o + 7,none⟩ (.slice h.B n h.cap)
theorem cell_set_ne {w : World} {b i c j : Nat} {u : Value} (h : b ≠ c ∨ i ≠ j) : (w.setCell ⟨c,j,none⟩ u).cell? ⟨b,i,none⟩ = w.cell? ⟨b,i,none⟩:=by
  by_cases hb : b = c
  · subst hb
    have ho : i ≠ j:=h.resolve_left (fun e=>e rfl)
    unfold World.cell? World.setCell
    simp only [Array.getElem?_modify,if_pos]
    cases w.heap[b]? with
    | none=>rfl
    | some o =>
      cases o <;> simp
      exact Array.getElem?_setIfInBounds_ne (fun e=>ho e.symm)
  · exact World.cell?_of_block (Below.heap_setCell w _ u _ hb)
theorem cell_set_eq {w : World} {b i : Nat} {u v : Value} (h : w.cell? ⟨b,i,none⟩ = some v) : (w.setCell ⟨b,i,none⟩ u).cell? ⟨b,i,none⟩ = some u:=by
  unfold World.cell? at h ⊢
  unfold World.setCell
  simp only [Array.getElem?_modify,if_pos]
  cases hb : w.heap[b]? with
  | none=>rw [hb] at h; cases h
  | some o =>
    rw [hb] at h
    cases o <;> simp_all
    rename_i cs _ _
    rcases Nat.lt_or_ge i cs.size with h1 | h1
    · simp [h1]
    · rw [Array.getElem?_eq_none h1] at h; cases h
theorem set8_out (w : World) (g o : Nat) (h : Hd) (n : Nat) : Out8 g o w (set8 w g o h n):=by
  refine ⟨by simp [World.setCell],fun c i hc=>?_⟩
  unfold set8
  rw [cell_set_ne (by omega),cell_set_ne (by omega),cell_set_ne (by omega),cell_set_ne (by omega),cell_set_ne (by omega),cell_set_ne (by omega),cell_set_ne (by omega),cell_set_ne (by omega)]
theorem set8_c8 {w : World} {g o m : Nat} {h0 : Hd} (hc : C8 w g o h0 m) (h : Hd) (n : Nat) : C8 (set8 w g o h n) g o h n:=by
  have k : ∀ (W : World) (i j : Nat) (u : Value),i ≠ j → (W.setCell ⟨g,o + j,none⟩ u).cell? ⟨g,o + i,none⟩ = W.cell? ⟨g,o + i,none⟩:=fun W i j u hij=>cell_set_ne (.inr (by omega))
  have k0 : ∀ (W : World) (i : Nat) (u : Value),i ≠ 0 → (W.setCell ⟨g,o,none⟩ u).cell? ⟨g,o + i,none⟩ = W.cell? ⟨g,o + i,none⟩:=fun W i u hij=>cell_set_ne (.inr (by omega))
  have k1 : ∀ (W : World) (j : Nat) (u : Value),j ≠ 0 → (W.setCell ⟨g,o + j,none⟩ u).cell? ⟨g,o,none⟩ = W.cell? ⟨g,o,none⟩:=fun W j u hij=>cell_set_ne (.inr (by omega))
  obtain ⟨c0,c1,c2,c3,c4,c5,c6,c7⟩:=hc
  unfold set8
  refine ⟨?_,?_,?_,?_,?_,?_,?_,?_⟩
  · rw [k1 _ 7 _ (by decide),k1 _ 6 _ (by decide),k1 _ 5 _ (by decide),k1 _ 4 _ (by decide),k1 _ 3 _ (by decide),k1 _ 2 _ (by decide),k1 _ 1 _ (by decide)]
    exact cell_set_eq c0
  · rw [k _ 1 7 _ (by decide),k _ 1 6 _ (by decide),k _ 1 5 _ (by decide),k _ 1 4 _ (by decide),k _ 1 3 _ (by decide),k _ 1 2 _ (by decide)]
    exact cell_set_eq (v:=.int .i64 h0.n) (by rw [k0 _ 1 _ (by decide)]; exact c1)
  · rw [k _ 2 7 _ (by decide),k _ 2 6 _ (by decide),k _ 2 5 _ (by decide),k _ 2 4 _ (by decide),k _ 2 3 _ (by decide)]
    exact cell_set_eq (v:=.bool h0.fl) (by rw [k _ 2 1 _ (by decide),k0 _ 2 _ (by decide)]; exact c2)
  · rw [k _ 3 7 _ (by decide),k _ 3 6 _ (by decide),k _ 3 5 _ (by decide),k _ 3 4 _ (by decide)]
    exact cell_set_eq (v:=.float .f64 h0.f) (by rw [k _ 3 2 _ (by decide),k _ 3 1 _ (by decide),k0 _ 3 _ (by decide)]; exact c3)
  · rw [k _ 4 7 _ (by decide),k _ 4 6 _ (by decide),k _ 4 5 _ (by decide)]
    exact cell_set_eq (v:=.bool h0.s) (by rw [k _ 4 3 _ (by decide),k _ 4 2 _ (by decide),k _ 4 1 _ (by decide),k0 _ 4 _ (by decide)]; exact c4)
  · rw [k _ 5 7 _ (by decide),k _ 5 6 _ (by decide)]
    exact cell_set_eq (v:=.slice h0.A h0.xs.length h0.c) (by rw [k _ 5 4 _ (by decide),k _ 5 3 _ (by decide),k _ 5 2 _ (by decide),k _ 5 1 _ (by decide),k0 _ 5 _ (by decide)]; exact c5)
  · rw [k _ 6 7 _ (by decide)]
    exact cell_set_eq (v:=.string h0.t) (by rw [k _ 6 5 _ (by decide),k _ 6 4 _ (by decide),k _ 6 3 _ (by decide),k _ 6 2 _ (by decide),k _ 6 1 _ (by decide),k0 _ 6 _ (by decide)]; exact c6)
  · exact cell_set_eq (v:=.slice h0.B m h0.cap) (by rw [k _ 7 6 _ (by decide),k _ 7 5 _ (by decide),k _ 7 4 _ (by decide),k _ 7 3 _ (by decide),k _ 7 2 _ (by decide),k _ 7 1 _ (by decide),k0 _ 7 _ (by decide)]; exact c7)
theorem fat_set {W : World} {g off : Nat} {x r k k' : Fr} {h h' : Hd} (hf : FAt W g off (x.app (.cons h k r))) (ha : AwayF g (x.app (.cons h k r))) (hd : DatV W h' k') (hh : AwayH g h' k'.len) (hk : AwayF g k') :
    FAt (set8 W g (off + x.len * 8) h' k'.len) g off (x.app (.cons h' k' r))∧AwayF g (x.app (.cons h' k' r)):=by
  obtain ⟨f1,f2⟩:=fat_app.1 hf
  obtain ⟨a1,a2⟩:=away_app.1 ha
  have hO:=set8_out W g (off + x.len * 8) h' k'.len
  obtain ⟨b1,b2,b3,b4,b5⟩:=f2
  have hd':=hO.dat hd hh hk
  refine ⟨fat_app.2 ⟨hO.fat f1 a1 (by omega),?_⟩,away_app.2 ⟨a1,hh,hk,a2.2.2⟩⟩
  exact ⟨by rw [hO.size]; exact b1,set8_c8 b2 h' k'.len,hd'.xs,hd'.items,hO.fat b5 a2.2.2 (by omega)⟩
end LM
namespace LM
def head8 (h : Hd) (n : Nat) : List Value:=[.int .i64 h.k,.int .i64 h.n,.bool h.fl,.float .f64 h.f,.bool h.s,.slice h.A h.xs.length h.c,.string h.t,.slice h.B n h.cap]
def cellsF : Fr → List Value
  | .nil=>[]
  | .cons h k r=>head8 h k.len ++ cellsF r
theorem cellsF_len : ∀ fr : Fr,(cellsF fr).length = fr.len * 8:=by
  intro fr
  induction fr with
  | nil=>rfl
  | cons h k r _ ih =>
    show (_ ++ cellsF r).length = (r.len + 1) * 8
    rw [List.length_append,ih]
    show 8 + r.len * 8 = _
    omega
theorem cellsF_one : ∀ fr : Fr,∀ u ∈ cellsF fr,u.oneCell' = true:=by
  intro fr
  induction fr with
  | nil=>intro u hu; cases hu
  | cons h k r _ ih =>
    intro u hu
    rcases List.mem_append.1 hu with hu | hu
    · simp only [head8,List.mem_cons,List.not_mem_nil,or_false] at hu
      rcases hu with rfl | rfl | rfl | rfl | rfl | rfl | rfl | rfl <;> rfl
    · exact ih u hu
theorem fat_cells {w : World} {b : Nat} : ∀ {fr : Fr} {off : Nat},FAt w b off fr → ∀ j u,(cellsF fr)[j]? = some u → w.cell? ⟨b,off + j,none⟩ = some u:=by
  intro fr
  induction fr with
  | nil=>intro off _ j u hu; cases hu
  | cons h k r _ ih =>
    intro off hf j u hu
    obtain ⟨h1,⟨c0,c1,c2,c3,c4,c5,c6,c7⟩,h3,h4,h5⟩:=hf
    rcases Nat.lt_or_ge j 8 with hj | hj
    · have hu2 : (head8 h k.len)[j]? = some u:=by
        rw [← hu]
        exact (List.getElem?_append_left (l₁:=head8 h k.len) hj).symm
      rcases (by omega : j = 0 ∨ j = 1 ∨ j = 2 ∨ j = 3 ∨ j = 4 ∨ j = 5 ∨ j = 6 ∨ j = 7) with rfl | rfl | rfl | rfl | rfl | rfl | rfl | rfl
      · exact c0.trans hu2
      · exact c1.trans hu2
      · exact c2.trans hu2
      · exact c3.trans hu2
      · exact c4.trans hu2
      · exact c5.trans hu2
      · exact c6.trans hu2
      · exact c7.trans hu2
    · have hu2 : (cellsF r)[j - 8]? = some u:=by
        rw [← hu]
        exact (List.getElem?_append_right (l₁:=head8 h k.len) hj).symm
      have:=ih h5 (j - 8) u hu2
      rw [show off + 8 + (j - 8) = off + j from by omega] at this
      exact this
theorem fat_move {w w' : World} {b g : Nat} (hb : Below w.heap.size w w') (hg : g < w'.heap.size) : ∀ {fr : Fr} {off off' : Nat},FAt w b off fr → (∀ j u,(cellsF fr)[j]? = some u → w'.cell? ⟨g,off' + j,none⟩ = some u) → FAt w' g off' fr:=by
  intro fr
  induction fr with
  | nil=>intro off off' _ _; exact trivial
  | cons h k r _ ih =>
    intro off off' hf hc
    obtain ⟨h1,h2,h3,⟨b',o',h4,h5⟩,h6⟩:=hf
    refine ⟨hg,⟨hc 0 _ rfl,hc 1 _ rfl,hc 2 _ rfl,hc 3 _ rfl,hc 4 _ rfl,hc 5 _ rfl,hc 6 _ rfl,hc 7 _ rfl⟩,h3.below hb,⟨b',o',h4,FAt.below hb _ _ _ h5⟩,ih h6 fun j u hu=>?_⟩
    have:=hc (j + 8) u (by
      rw [← hu]
      exact (List.getElem?_append_right (l₁:=head8 h k.len) (show 8 ≤ j + 8 by omega)).trans (by show (cellsF r)[j + 8 - 8]? = _; rw [Nat.add_sub_cancel]))
    rw [show off' + (j + 8) = off' + 8 + j from by omega] at this
    exact this
theorem datum_info : (Tryz.prog.info? 30).map (fun i=>(i.zero,i.size)) = some (some (.agg #[.int .i64 0,.int .i64 0,.bool false,.float .f64 0,.bool false,.slice none 0 0,.string ⟨#[]⟩,.slice none 0 0]),8):=by kernel_rfl
theorem datum_bytes : ((Tryz.prog.info? 30).map (fun i=>decide (i.bytes ≤ 1024))) = some true:=by kernel_rfl
theorem datum_size : ∀ w,(Go.sizeOf 30).run Tryz.prog w = .ok 8 w:=by intro w; kernel_rfl
def CloneD (w : World) (kids : Fr) (e : Ending) (w' : World) : Prop :=
  ∃ B' cap',e = .returned (.slice B' kids.len cap')∧(∀ ad,B' = some ad → ∃ g,ad = ⟨g,0,none⟩∧w.heap.size ≤ g∧g < w'.heap.size∧FAt w' g 0 kids∧∀ i,w'.frozen? ⟨g,i,none⟩ = false)∧kids.len ≤ cap'∧cap' ≤ 9223372036854775807∧(B' = none → kids.len = 0∧cap' = 0)∧Below w.heap.size w w'
theorem dclone_data (kids : Fr) (B : Option Addr) (cap : Nat) (w : World) (hB : ∃ b off,(0 < kids.len → B = some ⟨b,off,none⟩)∧FAt w b off kids) (hs : ∀ ad,B = some ad → ad.spot = none) (hn : B = none → kids.len = 0∧cap = 0) (hl : kids.len ≤ 1000000) :
    Calls Tryz.prog 69 #[.slice B kids.len cap] w (CloneD w kids):=by
  cases B with
  | none =>
    obtain ⟨h0,rfl⟩:=hn rfl
    rw [h0]
    refine (Tryz.clone_data_nil 0 0 w).mono ?_
    rintro e w' ⟨rfl,rfl⟩
    exact ⟨none,0,by rw [h0],fun ad e=>(by cases e),by omega,by decide,fun _=>⟨h0,rfl⟩,Below.refl _ _⟩
  | some ad =>
    obtain ⟨ab,ao,sp⟩:=ad
    obtain rfl : sp = none:=hs _ rfl
    obtain ⟨b,off,hB1,hF⟩:=hB
    have hi:=datum_info
    have hby:=datum_bytes
    cases hinf : Tryz.prog.info? 30 with
    | none=>rw [hinf] at hi; cases hi
    | some i0 =>
      rw [hinf] at hi hby
      simp only [Option.map_some,Option.some.injEq,Prod.mk.injEq,decide_eq_true_eq] at hi hby
      have hcell : ∀ j u,(cellsF kids)[j]? = some u → w.cell? ⟨ab,ao + j,none⟩ = some u:=fun j u hu=>by
        have hp : 0 < kids.len:=by
          rcases Nat.eq_zero_or_pos kids.len with h0 | h0
          · have h2:=cellsF_len kids
            rw [h0] at h2
            rw [List.getElem?_eq_none (by omega)] at hu
            cases hu
          · exact h0
        have e:=hB1 hp
        injection e with e
        injection e with e1 e2
        subst e1 e2
        exact fat_cells hF j u hu
      have hC:=Tryz.clone_data i0 _ 8 i0.bytes hinf hi.1 hi.2 rfl rfl (by decide) datum_size ab ao kids.len cap (cellsF kids) w (by rw [cellsF_len]) (by unfold maxLen; omega)
        (Nat.le_trans (Nat.mul_le_mul hl hby) (by decide)) hcell (cellsF_one kids)
      refine hC.mono ?_
      rintro e w' ⟨v',rfl,⟨_,⟨rfl,h0⟩ | ⟨g,cp,cur,rfl,hg,hh,h1,h2,h3,h4⟩⟩,hne,hb⟩
      · exact absurd rfl hne
      · have hgl : g < w'.heap.size:=by
          rcases Nat.lt_or_ge g w'.heap.size with h | h
          · exact h
          · rw [Array.getElem?_eq_none h] at hh; cases hh
        refine ⟨some ⟨g,0,none⟩,cp,rfl,fun ad e=>?_,h1,by unfold maxLen at h2; omega,fun e=>by (cases e),hb⟩
        injection e with e
        subst e
        refine ⟨g,rfl,hg,hgl,fat_move hb hgl hF fun j u hu=>?_,fun i=>by simp [World.frozen?,hh]⟩
        have hj : j < kids.len * 8:=by
          rcases Nat.lt_or_ge j (kids.len * 8) with h | h
          · exact h
          · rw [List.getElem?_eq_none (by rw [cellsF_len]; exact h)] at hu; cases hu
        rw [← h4,List.getElem?_take,if_pos hj,Array.getElem?_toList] at hu
        rw [Nat.zero_add]
        simp only [World.cell?,hh]
        exact hu
def CloneL (w : World) (xs : List Nat) (e : Ending) (w' : World) : Prop :=
  ∃ A' c',e = .returned (.slice A' xs.length c')∧Rd w' A' xs∧(∀ ad,A' = some ad → w.heap.size ≤ ad.block∧ad.spot = none)∧xs.length ≤ c'∧c' ≤ 9223372036854775807∧(A' = none → xs.length = 0∧c' = 0)∧Below w.heap.size w w'∧(∀ ad,A' = some ad → ad.block < w'.heap.size∧∀ i,w'.frozen? ⟨ad.block,i,none⟩ = false)
theorem dclone_limbs (xs : List Nat) (A : Option Addr) (c : Nat) (w : World) (hr : Rd w A xs) (hs : ∀ ad,A = some ad → ad.spot = none) (hn : A = none → xs.length = 0∧c = 0) (hl : xs.length ≤ 1000000) :
    Calls Tryz.prog 68 #[.slice A xs.length c] w (CloneL w xs):=by
  cases A with
  | none =>
    obtain ⟨h0,rfl⟩:=hn rfl
    obtain rfl:=List.eq_nil_of_length_eq_zero h0
    refine (Tryz.clone_limbs_nil 0 0 w).mono ?_
    rintro e w' ⟨rfl,rfl⟩
    exact ⟨none,0,rfl,Rd.nil,fun ad e=>(by cases e),Nat.le_refl _,by decide,fun _=>⟨rfl,rfl⟩,Below.refl _ _,fun ad e=>(by cases e)⟩
  | some ad =>
    obtain ⟨ab,ao,sp⟩:=ad
    obtain rfl : sp = none:=hs _ rfl
    obtain ⟨i0,hi0,hz0,hz1,hz2⟩:=info_parts u32_info
    have hcell : ∀ j u,(U xs)[j]? = some u → w.cell? ⟨ab,ao + j,none⟩ = some u:=fun j u hu=>by
      have hj : j < xs.length:=by
        rcases Nat.lt_or_ge j xs.length with h | h
        · exact h
        · rw [List.getElem?_eq_none (by rw [U_len]; exact h)] at hu; cases hu
      obtain ⟨b,off,e,hb,hc⟩:=hr.at_ hj
      injection e with e
      injection e with e1 e2
      subst e1 e2
      rw [U_get _ _ hj] at hu
      exact hc.trans hu
    have hC:=Tryz.clone_limbs i0 (.int .u32 0) 1 4 hi0 hz0 hz1 hz2 rfl (by decide) (fun w=>by kernel_rfl) ab ao xs.length c (U xs) w (by rw [U_len,Nat.mul_one]) (by unfold maxLen; omega) (by omega) hcell (fun u hu=>by
      unfold U at hu
      obtain ⟨x,_,rfl⟩:=List.mem_map.1 hu
      rfl)
    refine hC.mono ?_
    rintro e w' ⟨v',rfl,ho,hne,hb⟩
    rcases own_cases ho with ⟨rfl,rfl⟩ | ⟨g,cp,rest,rfl,hg,hB,h1,h2,h3⟩
    · exact absurd rfl hne
    · refine ⟨some ⟨g,0,none⟩,cp,rfl,fun _=>⟨g,0,rfl,hB.lt,fun k hk=>?_⟩,fun ad e=>by injection e with e; subst e; exact ⟨hg,rfl⟩,h1,by unfold maxLen at h2; omega,fun e=>by (cases e),hb,fun ad e=>by injection e with e; subst e; exact ⟨hB.lt,hB.frozen⟩⟩
      rw [Nat.zero_add,hB.cell,List.getElem?_append_left (by rw [U_len]; exact hk),U_get _ _ hk]
end LM
namespace LM
theorem dclone_data_none (ad : Addr) (cap : Nat) (w : World) :
    Calls Tryz.prog 69 #[.slice (some ad) 0 cap] w (CloneD w .nil):=by
  have q22 : ∀ (w : World) (a : Option Addr) (n c n' c' : Nat),(binOp .eql 28 (.slice a n c) (.slice none n' c')).run Tryz.prog w = .ok (.bool a.isNone) w:=fun w a n c n' c'=>Lib.run_eql_slice_nil w _ _ a n c n' c' Tryz.underlying28
  have hi:=datum_info
  have hby:=datum_bytes
  cases hinf : Tryz.prog.info? 30 with
  | none=>rw [hinf] at hi; cases hi
  | some i0 =>
    rw [hinf] at hi hby
    simp only [Option.map_some,Option.some.injEq,Prod.mk.injEq,decide_eq_true_eq] at hi hby
    go_enter Tryz.func69,Tryz.ntmps69
    go_wp2_with (at_builtin; refine wpList_append_own _ rfl _ _ 28 rfl w.heap.size 30 i0 _ 8 i0.bytes Tryz.underlying28 hinf hi.1 hi.2 rfl rfl (by decide) _ _ _ rfl (World.ownsRow_made w #[] 0 (Nat.le_refl _) (Nat.zero_le _) (by simp)) ad 0 cap [] rfl ?qc1 ?qc2 ?qc3 ?qc4 ?qc5 ?qc6 ?_)
    case qc1=>rfl
    case qc2=>intro j u hj; cases hj
    case qc3=>intro u hu; cases hu
    case qc4=>exact Nat.zero_le _
    case qc5=>rw [Nat.zero_add,Nat.zero_mul]; exact Nat.zero_le _
    case qc6=>simp
    intro v' w1 hown hgrow hnil
    go_wp2
    go_ret
    obtain ⟨_,⟨rfl,h0⟩ | ⟨g,cp,cur,rfl,hg,hh,h1,h2,h3,h4⟩⟩:=hown
    · exact (hnil rfl).elim
    · have hgl : g < w1.heap.size:=by
        rcases Nat.lt_or_ge g w1.heap.size with h | h
        · exact h
        · rw [Array.getElem?_eq_none h] at hh; cases hh
      refine ⟨some ⟨g,0,none⟩,cp,rfl,fun ad e=>?_,Nat.zero_le _,by unfold maxLen at h2; omega,fun e=>by (cases e),?_⟩
      · injection e with e
        subst e
        exact ⟨g,rfl,hg,hgl,trivial,fun i=>by simp [World.frozen?,hh]⟩
      · exact ((Below.refl _ w).alloc (Nat.le_refl _) _).grown hgrow (by simp) (by intro k hk; simp [Value.ownBlock] at hk; omega)
theorem dclone_limbs_none (ad : Addr) (cap : Nat) (w : World) :
    Calls Tryz.prog 68 #[.slice (some ad) 0 cap] w (CloneL w []):=by
  have q22 : ∀ (w : World) (a : Option Addr) (n c n' c' : Nat),(binOp .eql 23 (.slice a n c) (.slice none n' c')).run Tryz.prog w = .ok (.bool a.isNone) w:=fun w a n c n' c'=>Lib.run_eql_slice_nil w _ _ a n c n' c' Tryz.underlying23
  obtain ⟨i0,hi0,hz0,hz1,hz2⟩:=info_parts u32_info
  go_enter Tryz.func68,Tryz.ntmps68
  go_wp2_with (at_builtin; refine wpList_append_own _ rfl _ _ 23 rfl w.heap.size 60 i0 _ 1 4 Tryz.underlying23 hi0 hz0 hz1 hz2 rfl (by decide) _ _ _ rfl (World.ownsRow_made w #[] 0 (Nat.le_refl _) (Nat.zero_le _) (by simp)) ad 0 cap [] rfl ?qc1 ?qc2 ?qc3 ?qc4 ?qc5 ?qc6 ?_)
  case qc1=>rfl
  case qc2=>intro j u hj; cases hj
  case qc3=>intro u hu; cases hu
  case qc4=>exact Nat.zero_le _
  case qc5=>rw [Nat.zero_add,Nat.zero_mul]; exact Nat.zero_le _
  case qc6=>simp
  intro v' w1 hown hgrow hnil
  go_wp2
  go_ret
  obtain ⟨_,⟨rfl,h0⟩ | ⟨g,cp,cur,rfl,hg,hh,h1,h2,h3,h4⟩⟩:=hown
  · exact (hnil rfl).elim
  · refine ⟨some ⟨g,0,none⟩,cp,rfl,Rd.nil,fun ad e=>?_,Nat.zero_le _,by unfold maxLen at h2; omega,fun e=>by (cases e),?_,fun ad e=>?_⟩
    · injection e with e
      subst e
      exact ⟨hg,rfl⟩
    · exact ((Below.refl _ w).alloc (Nat.le_refl _) _).grown hgrow (by simp) (by intro k hk; simp [Value.ownBlock] at hk; omega)
    · injection e with e
      subst e
      refine ⟨?_,fun i=>by simp [World.frozen?,hh]⟩
      rcases Nat.lt_or_ge g w1.heap.size with h | h
      · exact h
      · rw [Array.getElem?_eq_none h] at hh; cases hh
theorem dclone_data2 (kids : Fr) (B : Option Addr) (cap : Nat) (w : World) (hB : ∃ b off,(0 < kids.len → B = some ⟨b,off,none⟩)∧FAt w b off kids) (hs : ∀ ad,B = some ad → 0 < cap → ad.spot = none) (hcp : kids.len ≤ cap) (hn : B = none → kids.len = 0∧cap = 0) (hl : kids.len ≤ 1000000) :
    Calls Tryz.prog 69 #[.slice B kids.len cap] w (CloneD w kids):=by
  rcases Nat.eq_zero_or_pos kids.len with h0 | hp
  · cases B with
    | none=>exact dclone_data kids none cap w hB (fun ad e=>by cases e) hn hl
    | some ad =>
      cases kids with
      | nil=>exact dclone_data_none ad cap w
      | cons x y z=>have h3 : z.len + 1 = 0:=h0; omega
  · exact dclone_data kids B cap w hB (fun ad e=>hs ad e (by omega)) hn hl
theorem dclone_limbs2 (xs : List Nat) (A : Option Addr) (c : Nat) (w : World) (hr : Rd w A xs) (hs : ∀ ad,A = some ad → 0 < c → ad.spot = none) (hcp : xs.length ≤ c) (hn : A = none → xs.length = 0∧c = 0) (hl : xs.length ≤ 1000000) :
    Calls Tryz.prog 68 #[.slice A xs.length c] w (CloneL w xs):=by
  rcases Nat.eq_zero_or_pos xs.length with h0 | hp
  · cases A with
    | none=>exact dclone_limbs xs none c w hr (fun ad e=>by cases e) hn hl
    | some ad =>
      obtain rfl:=List.eq_nil_of_length_eq_zero h0
      exact dclone_limbs_none ad c w
  · exact dclone_limbs xs A c w hr (fun ad e=>hs ad e (by omega)) hn hl
end LM
namespace LM
attribute [local go_sem] run_store_flt
abbrev zeroO : Obj:=.cells #[.int .i64 0,.int .i64 0,.bool false,.float .f64 0,.bool false,.slice none 0 0,.string ⟨#[]⟩,.slice none 0 0] 30 (0,0)
theorem stored_dat {w W : World} {B g n n' i : Nat} {h h' : Hd} {v : Value} (Y : W.heap[g]? = some (datO h n)) (hb : Below B w W) (hg : B ≤ g) (hv : ((head8 h n).toArray).setIfInBounds i v = (head8 h' n').toArray) :
    ∃ W',W.setCell ⟨g,i,none⟩ v = W'∧W'.heap[g]? = some (datO h' n')∧Below B w W'∧(∀ k,k ≠ g → W'.heap[k]? = W.heap[k]?)∧W'.heap.size = W.heap.size:=by
  refine ⟨_,rfl,?_,hb.setCell hg v,fun k hk=>Below.heap_setCell W _ v k hk,by simp [World.setCell]⟩
  have h1:=heap_setCell_same W g i (head8 h n).toArray _ v Y
  rw [hv] at h1
  exact h1
theorem Rd.other {W W' : World} {A : Option Addr} {xs : List Nat} {g : Nat} (h : Rd W A xs) (hs : W'.heap.size = W.heap.size) (hk : ∀ k,k ≠ g → W'.heap[k]? = W.heap[k]?) (ho : 0 < xs.length → Off A g) : Rd W' A xs:=fun hx=>by
  obtain ⟨b,off,rfl,hb,hc⟩:=h hx
  refine ⟨b,off,rfl,by rw [hs]; exact hb,fun k hkk=>?_⟩
  have : b ≠ g:=ho hx _ rfl
  exact (World.cell?_of_block (a:=⟨b,off + k,none⟩) (hk b this)).trans (hc k hkk)
theorem FAt.other {W W' : World} {g : Nat} (hs : W'.heap.size = W.heap.size) (hk : ∀ k,k ≠ g → W'.heap[k]? = W.heap[k]?) : ∀ {fr : Fr} {b off : Nat},FAt W b off fr → AwayF g fr → b ≠ g → FAt W' b off fr:=by
  intro fr
  induction fr with
  | nil=>intro b off _ _ _; exact trivial
  | cons h k r ihk ihr =>
    intro b off hf ha hb
    obtain ⟨h1,h2,h3,⟨b',off',h4,h5⟩,h6⟩:=hf
    have hx : ∀ i,W'.cell? ⟨b,off + i,none⟩ = W.cell? ⟨b,off + i,none⟩:=fun i=>World.cell?_of_block (a:=⟨b,off + i,none⟩) (hk b hb)
    refine ⟨by rw [hs]; exact h1,⟨(hx 0).trans h2.c0,(hx 1).trans h2.c1,(hx 2).trans h2.c2,(hx 3).trans h2.c3,(hx 4).trans h2.c4,(hx 5).trans h2.c5,(hx 6).trans h2.c6,(hx 7).trans h2.c7⟩,h3.other hs hk ha.1.1,⟨b',off',h4,?_⟩,ihr h6 ha.2.2 hb⟩
    rcases Nat.eq_zero_or_pos k.len with h0 | hp
    · cases k with
      | nil=>exact trivial
      | cons x y z=>have h3 : z.len + 1 = 0:=h0; omega
    · exact ihk h5 ha.2.1 (ha.1.2 hp _ (h4 hp))
def FewF : Fr → Prop
  | .nil=>True
  | .cons h k r=>k.len ≤ 1000000∧FewF k∧FewF r
theorem FewF.drop : ∀ (j : Nat) {fr : Fr},FewF fr → FewF (fr.drop j):=by
  intro j
  induction j with
  | zero=>intro fr h; exact h
  | succ j ih =>
    intro fr h
    cases fr with
    | nil=>exact trivial
    | cons hh k r=>exact ih h.2.2
structure Still (W W' : World) : Prop where
  size : W.heap.size ≤ W'.heap.size
  frz : ∀ b,b < W.heap.size → ∀ i,W'.frozen? ⟨b,i,none⟩ = W.frozen? ⟨b,i,none⟩
theorem Still.of_below {W W' : World} (h : Below W.heap.size W W') : Still W W':=⟨h.size,fun b hb i=>h.frozen (p:=⟨b,i,none⟩) hb⟩
theorem Still.trans {W V U : World} (h : Still W V) (h' : Still V U) : Still W U:=⟨Nat.le_trans h.size h'.size,fun b hb i=>(h'.frz b (Nat.lt_of_lt_of_le hb h.size) i).trans (h.frz b hb i)⟩
theorem Still.ad {W W' : World} (h : Still W W') {b : Nat} (hb : b < W.heap.size∧∀ i,W.frozen? ⟨b,i,none⟩ = false) : b < W'.heap.size∧∀ i,W'.frozen? ⟨b,i,none⟩ = false :=
  ⟨Nat.lt_of_lt_of_le hb.1 h.size,fun i=>(h.frz b hb.1 i).trans (hb.2 i)⟩
def SoftH (w : World) (h : Hd) (n : Nat) : Prop:=(0 < h.xs.length → ∀ ad,h.A = some ad → ad.block < w.heap.size∧∀ i,w.frozen? ⟨ad.block,i,none⟩ = false)∧(0 < n → ∀ ad,h.B = some ad → ad.block < w.heap.size∧∀ i,w.frozen? ⟨ad.block,i,none⟩ = false)
def SoftF (w : World) : Fr → Prop
  | .nil=>True
  | .cons h k r=>SoftH w h k.len∧SoftF w k∧SoftF w r
theorem SoftH.still {W W' : World} {h : Hd} {n : Nat} (s : SoftH W h n) (hs : Still W W') : SoftH W' h n:=⟨fun hx ad e=>hs.ad (s.1 hx ad e),fun hx ad e=>hs.ad (s.2 hx ad e)⟩
theorem SoftF.still {W W' : World} (hs : Still W W') : ∀ {fr : Fr},SoftF W fr → SoftF W' fr:=by
  intro fr
  induction fr with
  | nil=>intro _; exact trivial
  | cons h k r ihk ihr=>intro s; exact ⟨s.1.still hs,ihk s.2.1,ihr s.2.2⟩
theorem soft_snoc {w : World} {h : Hd} {k : Fr} (hh : SoftH w h k.len) (hk : SoftF w k) : ∀ {x : Fr},SoftF w x → SoftF w (x.app (.cons h k .nil)):=by
  intro x
  induction x with
  | nil=>intro _; exact ⟨hh,hk,trivial⟩
  | cons a b c _ ih=>intro hx; exact ⟨hx.1,hx.2.1,ih hx.2.2⟩
def RetCopy (w : World) (h : Hd) (kids : Fr) (e : Ending) (w' : World) : Prop :=
  ∃ h' kids',e = .returned (datA h' kids'.len)∧DatV w' h' kids'∧AlikeH h h'∧AlikeF kids kids'∧h'.Ok kids'.len∧kids'.Ok∧FreshH w.heap.size h' kids'.len∧FreshF w.heap.size kids'∧Below w.heap.size w w'∧SoftH w' h' kids'.len∧SoftF w' kids'
structure CopyI (w : World) (h1 : Hd) (kids : Fr) (g j : Nat) (W : World) : Prop where
  bel : Below w.heap.size w W
  blk : W.heap[w.heap.size]? = some (datO h1 kids.len)
  zer : W.heap[w.heap.size + 1]? = some zeroO
  rd : Rd W h1.A h1.xs
  lt : g < W.heap.size
  soft : ∀ i,W.frozen? ⟨g,i,none⟩ = false
  sa : 0 < h1.xs.length → ∀ ad,h1.A = some ad → ad.block < W.heap.size∧∀ i,W.frozen? ⟨ad.block,i,none⟩ = false
  row : ∃ x0 done,kids = x0.app (kids.drop j)∧AlikeF x0 done∧done.len = j∧FAt W g 0 (done.app (kids.drop j))∧AwayF g (done.app (kids.drop j))∧FreshF (w.heap.size + 2) done∧done.Ok∧SoftF W done
theorem heap_lt {W : World} {g : Nat} {o : Obj} (h : W.heap[g]? = some o) : g < W.heap.size:=by
  rcases Nat.lt_or_ge g W.heap.size with h2 | h2
  · exact h2
  · rw [Array.getElem?_eq_none h2] at h; cases h
theorem frozen_set {W : World} {p q : Addr} {u : Value} : (W.setCell p u).frozen? q = W.frozen? q:=by
  by_cases hb : q.block = p.block
  · unfold World.frozen? World.setCell
    simp only [Array.getElem?_modify,hb,if_pos]
    cases W.heap[p.block]? with
    | none=>rfl
    | some o=>cases o <;> rfl
  · exact World.frozen?_of_block (Below.heap_setCell W p u _ hb)
theorem set8_below {B g o n : Nat} {w W : World} {h : Hd} (hb : Below B w W) (hg : B ≤ g) : Below B w (set8 W g o h n) :=
  (((((((hb.setCell hg _).setCell hg _).setCell hg _).setCell hg _).setCell hg _).setCell hg _).setCell hg _).setCell hg _
theorem set8_heap {g o n k : Nat} {W : World} {h : Hd} (hk : k ≠ g) : (set8 W g o h n).heap[k]? = W.heap[k]?:=by
  unfold set8
  rw [Below.heap_setCell _ _ _ _ hk,Below.heap_setCell _ _ _ _ hk,Below.heap_setCell _ _ _ _ hk,Below.heap_setCell _ _ _ _ hk,Below.heap_setCell _ _ _ _ hk,Below.heap_setCell _ _ _ _ hk,Below.heap_setCell _ _ _ _ hk,Below.heap_setCell _ _ _ _ hk]
theorem set8_frozen {g o n : Nat} {W : World} {h : Hd} {q : Addr} : (set8 W g o h n).frozen? q = W.frozen? q:=by
  unfold set8
  rw [frozen_set,frozen_set,frozen_set,frozen_set,frozen_set,frozen_set,frozen_set,frozen_set]
theorem set8_still {g o n : Nat} {W : World} {h : Hd} : Still W (set8 W g o h n):=⟨by rw [(set8_out W g o h n).size]; exact Nat.le_refl _,fun b _ i=>set8_frozen⟩
theorem app_snoc (h : Hd) (k y : Fr) : ∀ x : Fr,(x.app (.cons h k .nil)).app y = x.app (.cons h k y):=by
  intro x
  induction x with
  | nil=>rfl
  | cons a b c _ ih=>show Fr.cons a b ((c.app (.cons h k .nil)).app y) = _; rw [ih]; rfl
theorem alike_snoc {h h' : Hd} {k k' : Fr} (hh : AlikeH h h') (hk : AlikeF k k') : ∀ {x y : Fr},AlikeF x y → AlikeF (x.app (.cons h k .nil)) (y.app (.cons h' k' .nil)):=by
  intro x
  induction x with
  | nil=>intro y hxy; cases y with
    | nil=>exact ⟨hh,hk,trivial⟩
    | cons a b c=>exact absurd hxy id
  | cons a b c _ ih=>intro y hxy; cases y with
    | nil=>exact absurd hxy id
    | cons a' b' c'=>exact ⟨hxy.1,hxy.2.1,ih hxy.2.2⟩
theorem fresh_snoc {B : Nat} {h : Hd} {k : Fr} (hh : FreshH B h k.len) (hk : FreshF B k) : ∀ {x : Fr},FreshF B x → FreshF B (x.app (.cons h k .nil)):=by
  intro x
  induction x with
  | nil=>intro _; exact ⟨hh,hk,trivial⟩
  | cons a b c _ ih=>intro hx; exact ⟨hx.1,hx.2.1,ih hx.2.2⟩
theorem ok_snoc {h : Hd} {k : Fr} (hh : h.Ok k.len) (hk : k.Ok) : ∀ {x : Fr},x.Ok → (x.app (.cons h k .nil)).Ok:=by
  intro x
  induction x with
  | nil=>intro _; exact ⟨hh,hk,trivial⟩
  | cons a b c _ ih=>intro hx; exact ⟨hx.1,hx.2.1,ih hx.2.2⟩
theorem copy_round {w wr v1 : World} {H1 hh hc : Hd} {kids k r kc : Fr} {g j : Nat} (hI : CopyI w H1 kids g j wr) (hd : kids.drop j = .cons hh k r) (hd1 : kids.drop (j + 1) = r) (hg : w.heap.size + 1 < g) (hA : 0 < H1.xs.length → Off H1.A g)
    (dc : DatV v1 hc kc) (ac : AlikeH hh hc) (afc : AlikeF k kc) (okc : hc.Ok kc.len) (okf : kc.Ok) (frc : FreshH wr.drew.heap.size hc kc.len) (frf : FreshF wr.drew.heap.size kc) (bc : Below wr.drew.heap.size wr.drew v1) (sc : SoftH v1 hc kc.len) (sf : SoftF v1 kc) : CopyI w H1 kids g (j + 1) (set8 v1 g (j * 8) hc kc.len):=by
  obtain ⟨ib,ik,iz,ir,il,ifz,isa,x0,done,ie,ia,idl,iF,iA,iN,iO,iS⟩:=hI
  rw [hd] at iF iA ie
  have hs : wr.drew.heap.size = wr.heap.size:=rfl
  have hbd : Below wr.heap.size wr v1:=⟨bc.os,bc.tape,bc.output,bc.size,bc.block⟩
  have st8 : Still v1 (set8 v1 g (j * 8) hc kc.len):=set8_still
  have hst : Still wr (set8 v1 g (j * 8) hc kc.len):=(Still.of_below hbd).trans st8
  have hlz:=heap_lt iz
  have e1 : hc.k = hh.k:=ac.1
  have awH : AwayH g hc kc.len:=⟨fun hx ad e=>by have:=frc.1 hx ad e; show ad.block ≠ g; omega,fun hx ad e=>by have:=frc.2 hx ad e; show ad.block ≠ g; omega⟩
  have hfs:=fat_set (FAt.below hbd _ _ _ iF) iA dc awH (FreshF.away (by omega) frf)
  rw [idl,Nat.zero_add] at hfs
  refine ⟨set8_below (bel_trans (B:=w.heap.size) ib hbd) (by omega),?_,?_,?_,?_,fun i=>?_,fun hx ad e=>hst.ad (isa hx ad e),x0.app (.cons hh k .nil),done.app (.cons hc kc .nil),?_,alike_snoc ac afc ia,?_,?_,?_,?_,ok_snoc okc okf iO,soft_snoc (sc.still st8) (sf.still st8) (iS.still hst)⟩
  · rw [set8_heap (by omega)]; exact (hbd.block _ (by omega)).trans ik
  · rw [set8_heap (by omega)]; exact (hbd.block _ hlz).trans iz
  · exact (set8_out v1 g (j * 8) hc kc.len).rd (ir.below hbd) hA
  · rw [(set8_out v1 g (j * 8) hc kc.len).size]; have:=hbd.size; omega
  · rw [set8_frozen]; exact (hbd.frozen (p:=⟨g,i,none⟩) il).trans (ifz i)
  · rw [hd1,app_snoc]; exact ie
  · rw [app_len]; show done.len + (0 + 1) = j + 1; omega
  · rw [hd1,app_snoc]; exact hfs.1
  · rw [hd1,app_snoc]; exact hfs.2
  · exact fresh_snoc ⟨fun hx ad e=>by have:=frc.1 hx ad e; omega,fun hx ad e=>by have:=frc.2 hx ad e; omega⟩ (FreshF.mono (by omega) frf) iN
abbrev zeroHd : Hd:=⟨0,0,false,0,false,none,[],0,⟨#[]⟩,none,0⟩
abbrev set8z (w : World) (g : Nat) (h : Hd) (n : Nat) : World :=
  (((((((w.setCell ⟨g,0,none⟩ (.int .i64 h.k)).setCell ⟨g,1,none⟩ (.int .i64 h.n)).setCell ⟨g,2,none⟩ (.bool h.fl)).setCell ⟨g,3,none⟩ (.float .f64 h.f)).setCell ⟨g,4,none⟩ (.bool h.s)).setCell ⟨g,5,none⟩ (.slice h.A h.xs.length h.c)).setCell ⟨g,6,none⟩ (.string h.t)).setCell ⟨g,7,none⟩ (.slice h.B n h.cap)
theorem result_dat {w W : World} {g B : Nat} {h : Hd} {n : Nat} (hz : W.heap[g]? = some zeroO) (hb : Below B w W) (hg : B ≤ g) : ∃ WF,set8z W g h n = WF∧C8 WF g 0 h n∧Out8 g 0 W WF∧Below B w WF∧Still W WF:=by
  have hc : C8 W g 0 zeroHd 0:=C8.of_block hz
  refine ⟨set8 W g 0 h n,rfl,set8_c8 hc h n,set8_out W g 0 h n,?_,set8_still⟩
  exact (((((((hb.setCell hg _).setCell hg _).setCell hg _).setCell hg _).setCell hg _).setCell hg _).setCell hg _).setCell hg _
theorem zero_facts {W : World} {g : Nat} (hz : W.heap[g]? = some zeroO) :
    W.cell? ⟨g,0,none⟩ = some (.int .i64 0)∧W.cell? ⟨g,1,none⟩ = some (.int .i64 0)∧W.cell? ⟨g,2,none⟩ = some (.bool false)∧W.cell? ⟨g,3,none⟩ = some (.float .f64 0)∧W.cell? ⟨g,4,none⟩ = some (.bool false)∧W.cell? ⟨g,5,none⟩ = some (.slice none 0 0)∧W.cell? ⟨g,6,none⟩ = some (.string ⟨#[]⟩)∧W.cell? ⟨g,7,none⟩ = some (.slice none 0 0) ∧
    W.frozen? ⟨g,0,none⟩ = false∧W.frozen? ⟨g,1,none⟩ = false∧W.frozen? ⟨g,2,none⟩ = false∧W.frozen? ⟨g,3,none⟩ = false∧W.frozen? ⟨g,4,none⟩ = false∧W.frozen? ⟨g,5,none⟩ = false∧W.frozen? ⟨g,6,none⟩ = false∧W.frozen? ⟨g,7,none⟩ = false∧g < W.heap.size:=by
  refine ⟨ob_cell hz 0,ob_cell hz 1,ob_cell hz 2,ob_cell hz 3,ob_cell hz 4,ob_cell hz 5,ob_cell hz 6,ob_cell hz 7,ob_free hz 0 (by decide),ob_free hz 1 (by decide),ob_free hz 2 (by decide),ob_free hz 3 (by decide),ob_free hz 4 (by decide),ob_free hz 5 (by decide),ob_free hz 6 (by decide),ob_free hz 7 (by decide),?_⟩
  rcases Nat.lt_or_ge g W.heap.size with h2 | h2
  · exact h2
  · rw [Array.getElem?_eq_none h2] at hz; cases hz
theorem drop_all (fr : Fr) : fr.drop fr.len = .nil:=by
  have h1:=Fr.len_drop fr.len fr
  cases h2 : fr.drop fr.len with
  | nil=>rfl
  | cons x y z=>rw [h2] at h1; have h3 : z.len + 1 = fr.len - fr.len:=h1; omega
theorem app_nil : ∀ (x : Fr),x.app .nil = x:=by
  intro x
  induction x with
  | nil=>rfl
  | cons h k r _ ih=>show Fr.cons h k (r.app .nil) = _; rw [ih]
theorem dcopied_any : ∀ (m : Nat) (kids : Fr),kids.size < m → kids.Ok → FewF kids → kids.len ≤ 1000000 → ∀ (h : Hd) (w : World),DatV w h kids → h.Ok kids.len → Calls Tryz.prog 38 #[datA h kids.len] w (RetCopy w h kids):=by
  intro m
  induction m with
  | zero=>intro kids h; omega
  | succ m ih =>
    intro kids hsz hok hfew hlen h w hd hho
    obtain ⟨W0,hW0⟩ : ∃ W0,(w.alloc (datO h kids.len)).alloc (zeroO) = W0:=⟨_,rfl⟩
    have hb0 : Below w.heap.size w W0:=by rw [← hW0]; exact ((Below.refl _ w).alloc (Nat.le_refl _) _).alloc (by simp) _
    have hO : Obs W0 [(w.heap.size + 1,zeroO),(w.heap.size,datO h kids.len)]:=by
      rw [← hW0]
      have h1:=(Obs.nil.new (w:=w) (datO h kids.len)).new (zeroO)
      simp only [World.size_alloc] at h1
      exact h1
    obtain ⟨x0,x1,x2,x3,x4,x5,x6,x7⟩:=C8.of_block hO.tl.hd
    have HW0:=Lib.hid hW0
    have HB0:=Lib.hid hb0
    have O0:=Lib.hid hO
    have HT:=Lib.hid fun W=>dclone_any h.t W hho.t
    have HL:=Lib.hid fun W (hW : Below w.heap.size w W)=>dclone_limbs2 h.xs h.A h.c W (hd.xs.below hW) hho.sA hho.c.1 hho.nA (by have:=hho.l; omega)
    have HI:=Lib.hid fun W (hW : Below w.heap.size w W)=>dclone_data2 kids h.B h.cap W (hd.below hW).items hho.sB hho.cap.1 hho.nB hlen
    clear hW0 hb0 hO
    go_enter Tryz.func38,Tryz.ntmps38
    go_wp2_with (fail)
    rw [HW0.out]
    refine (HT.out _).mono ?_
    rintro e w1 ⟨rfl,hb1⟩
    have O1:=Lib.hid (O0.out.below hb1)
    have HB1:=Lib.hid (bel_trans (B:=w.heap.size) HB0.out hb1)
    clear hb1 x0 x1 x2 x3 x4 x5 x6 x7
    obtain ⟨x0,x1,x2,x3,x4,x5,x6,x7⟩:=C8.of_block O1.out.tl.hd
    have fz:=fun i hi=>ob_free O1.out.tl.hd i hi
    have hl1 : w.heap.size < w1.heap.size:=by
      have h1:=O1.out.tl.hd
      rcases Nat.lt_or_ge w.heap.size w1.heap.size with h2 | h2
      · exact h2
      · rw [Array.getElem?_eq_none h2] at h1; cases h1
    have f6:=fz 6 (by simp)
    clear fz
    obtain ⟨W1,hW1,Y1,hb1,ho1,hz1⟩:=stored_dat O1.out.tl.hd HB1.out (Nat.le_refl _) (i:=6) (v:=.string h.t) (h':=h) (n':=kids.len) (by unfold head8; rfl)
    have HW1:=Lib.hid hW1
    have YY1:=Lib.hid Y1
    have HBY1:=Lib.hid hb1
    have Z1:=Lib.hid ((ho1 _ (by omega)).trans O1.out.hd)
    obtain ⟨y0,y1,y2,y3,y4,y5,y6,y7⟩:=C8.of_block Y1
    clear hW1 Y1 hb1 ho1 hz1
    go_wp2_with (fail)
    rw [HW1.out]
    refine (HL.out _ HBY1.out).mono ?_
    rintro e w2 ⟨A2,c2,rfl,hr2,ha2,hc2,hcm2,hn2,hb2,hs2⟩
    have HB2:=Lib.hid (bel_trans (B:=w.heap.size) HBY1.out hb2)
    have hlw1 : w.heap.size + 1 < W1.heap.size:=by
      have h1:=Z1.out
      rcases Nat.lt_or_ge (w.heap.size + 1) W1.heap.size with h2 | h2
      · exact h2
      · rw [Array.getElem?_eq_none h2] at h1; cases h1
    have X2:=Lib.hid ((hb2.block w.heap.size (by omega)).trans YY1.out)
    have Z2:=Lib.hid ((hb2.block (w.heap.size + 1) hlw1).trans Z1.out)
    have f5:=ob_free X2.out 5 (by simp)
    have hl2 : w.heap.size < w2.heap.size:=by have:=hb2.size; omega
    obtain ⟨W2,hW2,Y2,hb3,ho2,hz2⟩:=stored_dat X2.out HB2.out (Nat.le_refl _) (i:=5) (v:=.slice A2 h.xs.length c2) (h':={ h with A:=A2,c:=c2 }) (n':=kids.len) (by unfold head8; rfl)
    have R2:=Lib.hid (hr2.other hz2 ho2 (fun _ ad e=>by have:=(ha2 ad e).1; omega))
    have hsa2 : ∀ ad,A2 = some ad → ad.block < W2.heap.size∧∀ i,W2.frozen? ⟨ad.block,i,none⟩ = false:=fun ad e=>⟨by rw [hz2]; exact (hs2 ad e).1,fun i=>by rw [← hW2,frozen_set]; exact (hs2 ad e).2 i⟩
    have HSA2:=Lib.hid hsa2
    have HA2:=Lib.hid ha2
    have HW2:=Lib.hid hW2
    have YY2:=Lib.hid Y2
    have HBY2:=Lib.hid hb3
    have ZZ2:=Lib.hid ((ho2 _ (by omega)).trans Z2.out)
    have HN2:=Lib.hid hn2
    obtain ⟨u0,u1,u2,u3,u4,u5,u6,u7⟩:=C8.of_block X2.out
    clear hsa2 hs2 hW2 Y2 hb3 ho2 hz2 hb2 hr2 ha2 hn2 y0 y1 y2 y3 y4 y5 y6 y7 x0 x1 x2 x3 x4 x5 x6 x7
    go_wp2_with (fail)
    rw [HW2.out]
    refine (HI.out _ HBY2.out).mono ?_
    rintro e w3 ⟨B3,cap3,rfl,hB3,hc3,hcm3,hn3,hb4⟩
    have HB3:=Lib.hid (bel_trans (B:=w.heap.size) HBY2.out hb4)
    have hlw2 : w.heap.size + 1 < W2.heap.size:=by
      have h1:=ZZ2.out
      rcases Nat.lt_or_ge (w.heap.size + 1) W2.heap.size with h2 | h2
      · exact h2
      · rw [Array.getElem?_eq_none h2] at h1; cases h1
    have X3:=Lib.hid ((hb4.block w.heap.size (by omega)).trans YY2.out)
    have Z3:=Lib.hid ((hb4.block (w.heap.size + 1) hlw2).trans ZZ2.out)
    have R3:=Lib.hid (R2.out.below hb4)
    have f7:=ob_free X3.out 7 (by simp)
    have hl3 : w.heap.size < w3.heap.size:=by have:=hb4.size; omega
    obtain ⟨W3,hW3,Y3,hb5,ho3,hz3⟩:=stored_dat X3.out HB3.out (Nat.le_refl _) (i:=7) (v:=.slice B3 kids.len cap3) (h':={ h with A:=A2,c:=c2,B:=B3,cap:=cap3 }) (n':=kids.len) (by unfold head8; rfl)
    have R4:=Lib.hid (R3.out.other hz3 ho3 (fun _ ad e=>by have:=(HA2.out ad e).1; omega))
    have HW3:=Lib.hid hW3
    have YY3:=Lib.hid Y3
    have HBY3:=Lib.hid hb5
    have ZZ3:=Lib.hid ((ho3 _ (by omega)).trans Z3.out)
    have HN3:=Lib.hid hn3
    have hsa3 : ∀ ad,A2 = some ad → ad.block < W3.heap.size∧∀ i,W3.frozen? ⟨ad.block,i,none⟩ = false:=fun ad e=>by
      have h1:=(Still.of_below hb4).ad (HSA2.out ad e)
      exact ⟨by rw [hz3]; exact h1.1,fun i=>by rw [← hW3,frozen_set]; exact h1.2 i⟩
    have HSA3:=Lib.hid hsa3
    obtain ⟨v0,v1,v2,v3,v4,v5,v6,v7⟩:=C8.of_block X3.out
    clear hsa3 hW3 Y3 hb5 hn3 u0 u1 u2 u3 u4 u5 u6 u7
    go_wp2_with (fail)
    rw [HW3.out]
    cases B3 with
    | none =>
      obtain ⟨h0,rfl⟩:=HN3.out rfl
      have hk0 : kids = .nil:=by
        cases kids with
        | nil=>rfl
        | cons x y z=>have h3 : z.len + 1 = 0:=h0; omega
      subst hk0
      obtain ⟨WF,hWF,CF,OF,hbF,sWF⟩:=result_dat (h:={ h with A:=A2,c:=c2,B:=none,cap:=0 }) (n:=0) ZZ3.out HBY3.out (Nat.le_succ _)
      dsimp only [set8z] at hWF
      have HWF:=Lib.hid hWF
      have RF:=Lib.hid (OF.rd R4.out (fun _ ad e=>by have:=(HA2.out ad e).1; show ad.block ≠ _; omega))
      have HBF:=Lib.hid hbF
      have SWF:=Lib.hid sWF
      obtain ⟨q0,q1,q2,q3,q4,q5,q6,q7⟩:=CF
      dsimp only [Nat.zero_add] at q0 q1 q2 q3 q4 q5 q6 q7
      obtain ⟨t0,t1,t2,t3,t4,t5,t6,t7⟩:=C8.of_block YY3.out
      obtain ⟨z0,z1,z2,z3,z4,z5,z6,z7,e0,e1,e2,e3,e4,e5,e6,e7,el⟩:=zero_facts ZZ3.out
      clear sWF hWF OF hbF
      go_loopg [23] 0 (fun kk i wr=>wr = W3∧i = .int .i64 0)
      case atStart=>exact ⟨rfl,rfl⟩
      case round =>
        obtain ⟨rfl,rfl⟩:=hrel
        go_wp2_with (fail)
        rw [HWF.out]
        refine bodyPost_ret (v:=datA { h with A:=A2,c:=c2,B:=none,cap:=0 } 0) (by simp [results,Tryz.results38,go_sem,q0,q1,q2,q3,q4,q5,q6,q7]) rfl ?_
        exact ⟨{ h with A:=A2,c:=c2,B:=none,cap:=0 },.nil,rfl,⟨RF.out,0,0,fun h=>absurd h (by decide),trivial⟩,⟨rfl,rfl,rfl,rfl,rfl,rfl,rfl⟩,trivial,⟨hho.k,hho.n,hho.f,hho.lm,⟨hc2,hcm2⟩,HN2.out,hho.l,hho.t,⟨Nat.le_refl _,by show 0 ≤ 9223372036854775807; decide⟩,fun _=>⟨rfl,rfl⟩,fun ad e _=>(HA2.out ad e).2,fun ad e _=>by cases e⟩,trivial,
          ⟨fun _ ad e=>by have:=(HA2.out ad e).1; have:=HBY1.out.size; show w.heap.size ≤ ad.block; omega,fun h=>absurd h (by decide)⟩,trivial,HBF.out,⟨fun _ ad e=>SWF.out.ad (HSA3.out ad e),fun h=>absurd h (by decide)⟩,trivial⟩
    | some ad =>
      obtain ⟨g,rfl,hg1,hg2,hF3,hfz3⟩:=hB3 _ rfl
      have hfz4 : ∀ i,W3.frozen? ⟨g,i,none⟩ = false:=fun i=>(World.frozen?_of_block (w:=w3) (a:=⟨g,i,none⟩) (ho3 g (by omega))).trans (hfz3 i)
      have hgl : w.heap.size + 1 < g:=by omega
      have aw3 : AwayF g kids:=by
        obtain ⟨b,off,-,hF⟩:=hd.items
        exact away_old (by omega) hF
      have F3:=Lib.hid (FAt.other hz3 ho3 hF3 (by
        obtain ⟨b,off,-,hF⟩:=hd.items
        exact away_old (Nat.le_refl _) hF) (by omega))
      have AW3:=Lib.hid aw3
      have HG3:=Lib.hid hg1
      have HSZ:=Lib.hid hsz
      have HOK:=Lib.hid hok
      have HFW:=Lib.hid hfew
      have IH:=Lib.hid ih
      have HHO:=Lib.hid hho
      have hgs : g < W3.heap.size:=by omega
      obtain ⟨H1,hH1⟩ : ∃ H1 : Hd,H1 = { h with A:=A2,c:=c2,B:=some ⟨g,0,none⟩,cap:=cap3 }:=⟨_,rfl⟩
      have HH1:=Lib.hid hH1
      clear hfz3 hB3 hF3 aw3 hg1 hsz hok hfew ih hho hd ho3 hz3
      have hst : CopyI w H1 kids g 0 W3:=⟨HBY3.out,by rw [hH1]; exact YY3.out,ZZ3.out,by rw [hH1]; exact R4.out,hgs,hfz4,by rw [hH1]; exact fun _ ad e=>HSA3.out ad e,.nil,.nil,rfl,trivial,rfl,F3.out,AW3.out,trivial,trivial,trivial⟩
      have HST:=Lib.hid hst
      clear hst
      go_loopg [23] kids.len (fun kk i wr=>∃ j : Nat,j ≤ kids.len∧kk = kids.len - j∧i = .int .i64 (j : Int)∧CopyI w H1 kids g j wr)
      case atStart=>exact ⟨0,Nat.zero_le _,rfl,rfl,HST.out⟩
      case round =>
        obtain ⟨j,hj,rfl,rfl,hI⟩:=hrel
        have HI2:=Lib.hid hI
        obtain ⟨ib,ik,iz,ir,il,ifz,isa,x0,done,ie,ia,idl,iF,iA,iN,iO,iS⟩:=hI
        rw [hH1] at ik
        by_cases hjl : j < kids.len
        · obtain ⟨hh,k,r,hdr,hdr1⟩:=Fr.cons_of_lt hjl
          rw [hdr] at iF iA ie
          have f2:=(fat_app.1 iF).2
          rw [idl,Nat.zero_add] at f2
          obtain ⟨-,C,D,-⟩:=f2.hd
          have hks:=size_item hdr
          have hko:=HOK.out.drop j
          have hkf:=HFW.out.drop j
          rw [hdr] at hko hkf
          have CL:=Lib.hid (IH.out k (by have:=HSZ.out; omega) hko.2.1 hkf.2.1 hkf.1 hh wr.drew (D.below ((Below.refl _ wr).drew)) hko.1)
          have KS : Hid (∀ W,(W.heap[w.heap.size]? = some (datO { h with A:=A2,c:=c2,B:=some ⟨g,0,none⟩,cap:=cap3 } kids.len)∧C8 W g (j * 8) hh k.len) → W.cell? ⟨w.heap.size,7,none⟩ = some (.slice (some ⟨g,0,none⟩) kids.len cap3)∧W.cell? ⟨g,j * 8,none⟩ = some (.int .i64 hh.k)∧W.cell? ⟨g,j * 8 + 1,none⟩ = some (.int .i64 hh.n)∧W.cell? ⟨g,j * 8 + 2,none⟩ = some (.bool hh.fl)∧W.cell? ⟨g,j * 8 + 3,none⟩ = some (.float .f64 hh.f)∧W.cell? ⟨g,j * 8 + 4,none⟩ = some (.bool hh.s)∧W.cell? ⟨g,j * 8 + 5,none⟩ = some (.slice hh.A hh.xs.length hh.c)∧W.cell? ⟨g,j * 8 + 6,none⟩ = some (.string hh.t)∧W.cell? ⟨g,j * 8 + 7,none⟩ = some (.slice hh.B k.len hh.cap)):=Lib.hid fun W hP=>⟨ob_cell hP.1 7,hP.2.c0,hP.2.c1,hP.2.c2,hP.2.c3,hP.2.c4,hP.2.c5,hP.2.c6,hP.2.c7⟩
          have P0 : Hid (wr.drew.heap[w.heap.size]? = some (datO { h with A:=A2,c:=c2,B:=some ⟨g,0,none⟩,cap:=cap3 } kids.len)∧C8 wr.drew g (j * 8) hh k.len):=Lib.hid ⟨ik,C.keep ((Below.refl wr.heap.size wr).drew) il⟩
          have hlw:=heap_lt ik
          have hgw : g ≠ w.heap.size:=by omega
          have HDR0:=Lib.hid hdr
          have KP : Hid (∀ W,Below wr.drew.heap.size wr.drew W → W.cell? ⟨w.heap.size,7,none⟩ = some (.slice (some ⟨g,0,none⟩) kids.len cap3)):=Lib.hid fun W hW=>ob_cell ((hW.block _ hlw).trans ik) 7
          have KF : Hid (∀ W,Below wr.drew.heap.size wr.drew W → ∀ i,W.frozen? ⟨g,i,none⟩ = false):=Lib.hid fun W hW i=>(hW.frozen (p:=⟨g,i,none⟩) il).trans (ifz i)
          have KC : Hid (∀ W,Below wr.drew.heap.size wr.drew W → C8 W g (j * 8) hh k.len):=Lib.hid fun W hW=>(C.keep ((Below.refl wr.heap.size wr).drew) il).keep hW il
          have HIL:=Lib.hid il
          have HIB:=Lib.hid ib
          have HD1:=Lib.hid hdr1
          have P0:=Lib.hid (KP.out _ (Below.refl _ _))
          obtain ⟨n0,n1,n2,n3,n4,n5,n6,n7⟩:=KC.out _ (Below.refl _ _)
          clear isa iS hlw ifz hfz4 hdr hdr1 C D hks hko hkf ie ia iF iA iN iO ir iz ik ib f2
          go_wp2_with (fail)
          refine wp_region_held_drew (S:=fun W=>W.cell? ⟨w.heap.size,7,none⟩ = some (.slice (some ⟨g,0,none⟩) kids.len cap3)) (by kernel_rfl) P0.out (fun hHeld=>?_)
          refine wpAnyH_take (i:=0) (v:=?v0) rfl (by kernel_rfl) (by kernel_rfl) (by kernel_rfl) (fun _ _ _ h=>h) (Or.inl ⟨by rfl,?y0⟩) hHeld ?r0
          case y0 =>
            intro W hSw
            go_simp
            all_goals (with_reducible rfl)
          change wpAnyH _ _ _ _ _ _ _ (Act.put _ (some 26) _) _
          simp only [Act.put,List.setIfInBounds_toArray,List.set_cons_zero,List.set_cons_succ]
          refine wpAnyH_take (i:=1) (v:=?v1) rfl (by kernel_rfl) (by kernel_rfl) (by kernel_rfl) (fun _ _ _ h=>h) (Or.inl ⟨by rfl,?y1⟩) hHeld ?r1
          case y1 =>
            intro W hSw
            go_simp
            all_goals (with_reducible rfl)
          change wpAnyH _ _ _ _ _ _ _ (Act.put _ (some 27) _) _
          simp only [Act.put,List.setIfInBounds_toArray,List.set_cons_zero,List.set_cons_succ]
          refine wpAnyH_take (i:=2) (v:=?v2) rfl (by kernel_rfl) (by kernel_rfl) (by kernel_rfl) (fun _ _ _ h=>h) (Or.inl ⟨by rfl,?y2⟩) hHeld ?r2
          case y2 =>
            intro W hSw
            go_simp
            all_goals (with_reducible rfl)
          change wpAnyH _ _ _ _ _ _ _ (Act.put _ (some 28) _) _
          simp only [Act.put,List.setIfInBounds_toArray,List.set_cons_zero,List.set_cons_succ]
          refine wpAnyH_take (i:=3) (v:=?v3) rfl (by kernel_rfl) (by kernel_rfl) (by kernel_rfl) (fun _ _ _ h=>h) (Or.inl ⟨by rfl,?y3⟩) hHeld ?r3
          case y3 =>
            intro W hSw
            go_simp
            all_goals (with_reducible rfl)
          change wpAnyH _ _ _ _ _ _ _ (Act.put _ (some 29) _) _
          simp only [Act.put,List.setIfInBounds_toArray,List.set_cons_zero,List.set_cons_succ]
          refine wpAnyH_take (i:=4) (v:=?v4) rfl (by kernel_rfl) (by kernel_rfl) (by kernel_rfl) (fun _ _ _ h=>h) (Or.inl ⟨by rfl,?y4⟩) hHeld ?r4
          case y4 =>
            intro W hSw
            go_simp
            all_goals (with_reducible rfl)
          change wpAnyH _ _ _ _ _ _ _ (Act.put _ (some 30) _) _
          simp only [Act.put,List.setIfInBounds_toArray,List.set_cons_zero,List.set_cons_succ]
          refine wpAnyH_take (i:=5) (v:=?v5) rfl (by kernel_rfl) (by kernel_rfl) (by kernel_rfl) (fun _ _ _ h=>h) (Or.inl ⟨by rfl,?y5⟩) hHeld ?r5
          case y5 =>
            intro W hSw
            go_simp
            all_goals (with_reducible rfl)
          change wpAnyH _ _ _ _ _ _ _ (Act.put _ (some 31) _) _
          simp only [Act.put,List.setIfInBounds_toArray,List.set_cons_zero,List.set_cons_succ]
          refine wpAnyH_take (i:=6) (v:=?v6) rfl (by kernel_rfl) (by kernel_rfl) (by kernel_rfl) (fun _ _ _ h=>h) (Or.inl ⟨by rfl,?y6⟩) hHeld ?r6
          case y6 =>
            intro W hSw
            go_simp
            all_goals (with_reducible rfl)
          change wpAnyH _ _ _ _ _ _ _ (Act.put _ (some 32) _) _
          simp only [Act.put,List.setIfInBounds_toArray,List.set_cons_zero,List.set_cons_succ]
          refine wpAnyH_ready (rs:=[7]) (by kernel_rfl) (by simp) ?_
          refine AllReadyH.cons rfl (fun K hK=>?_) AllReadyH.nil
          go_simp
          refine hK.out _ _ P0.out (fun hHeld=>?_)
          clear hK K
          refine wpAnyH_ready (rs:=[8]) (by kernel_rfl) (by simp) ?_
          refine AllReadyH.cons rfl (fun K hK=>?_) AllReadyH.nil
          go_simp
          refine CL.out.mono ?_
          rintro e v1 ⟨hc,kc,rfl,dc,ac,afc,okc,okf,frc,frf,bc,sfc,sff⟩
          have P1:=Lib.hid (KP.out _ bc)
          have HCI:=Lib.hid (copy_round HI2.out HDR0.out HD1.out hgl (by rw [hH1]; exact fun hx=>R2.out.off hx HG3.out) dc ac afc okc okf frc frf bc sfc sff)
          have PZ:=Lib.hid (((set8_out v1 g (j * 8) hc kc.len).cell _ 7 (.inl (fun e=>hgw e.symm))).trans P1.out)
          have FZ1:=KF.out _ bc
          have fz0:=FZ1 (j * 8)
          have fz1:=FZ1 (j * 8 + 1)
          have fz2:=FZ1 (j * 8 + 2)
          have fz3:=FZ1 (j * 8 + 3)
          have fz4:=FZ1 (j * 8 + 4)
          have fz5:=FZ1 (j * 8 + 5)
          have fz6:=FZ1 (j * 8 + 6)
          have fz7:=FZ1 (j * 8 + 7)
          obtain ⟨m0,m1,m2,m3,m4,m5,m6,m7⟩:=KC.out _ bc
          have DC:=Lib.hid dc
          have AC:=Lib.hid ac
          have AFC:=Lib.hid afc
          have OKC:=Lib.hid okc
          have OKF:=Lib.hid okf
          have FRC:=Lib.hid frc
          have FRF:=Lib.hid frf
          have BC:=Lib.hid bc
          clear sfc sff FZ1 dc ac afc okc okf frc frf bc hHeld
          refine hK.out _ _ P1.out (fun hHeld=>?_)
          clear hK K
          refine wpAnyH_take (i:=9) (v:=?v9) rfl (by kernel_rfl) (by kernel_rfl) (by kernel_rfl) (fun _ _ _ h=>h) (Or.inl ⟨by rfl,?y9⟩) hHeld ?r9
          case y9 =>
            intro W hSw
            go_simp
            all_goals (with_reducible rfl)
          change wpAnyH _ _ _ _ _ _ _ (Act.put _ (some 35) _) _
          simp only [Act.put,List.setIfInBounds_toArray,List.set_cons_zero,List.set_cons_succ]
          refine wpAnyH_ready (rs:=[10]) (by kernel_rfl) (by simp) ?_
          refine AllReadyH.cons rfl (fun K hK=>?_) AllReadyH.nil
          go_simp
          refine hK.out _ _ PZ.out (fun hHeld=>?_)
          clear hK K
          refine wpAnyH_done (by kernel_rfl) ?_ _
          obtain ⟨WF,hWF⟩ : ∃ W,set8 v1 g (j * 8) hc kc.len = W:=⟨_,rfl⟩
          have hci:=HCI.out
          rw [hWF] at hci
          have HCI2:=Lib.hid hci
          dsimp only [set8] at hWF
          rw [hWF]
          clear hci hWF m0 m1 m2 m3 m4 m5 m6 m7 n0 n1 n2 n3 n4 n5 n6 n7 fz0 fz1 fz2 fz3 fz4 fz5 fz6 fz7 hHeld
          go_wp2_with (fail)
          go_roundg (kids.len - (j + 1))
          case measure=>omega
          case rel=>exact ⟨j + 1,by omega,rfl,by go_num,HCI2.out⟩
        · have hje : j = kids.len:=by omega
          subst hje
          rw [drop_all,app_nil] at ie iF iA
          subst ie
          obtain ⟨WF,hWF,CF,OF,hbF,sWF⟩:=result_dat (h:={ h with A:=A2,c:=c2,B:=some ⟨g,0,none⟩,cap:=cap3 }) (n:=kids.len) iz ib (Nat.le_succ _)
          have rf:=OF.rd ir (by rw [hH1]; exact fun _ ad e=>by have:=(HA2.out ad e).1; show ad.block ≠ _; omega)
          have ff:=OF.fat iF (FreshF.away (by omega) iN) (.inl (by omega))
          rw [hH1] at rf
          dsimp only [set8z] at hWF
          have HWF:=Lib.hid hWF
          have RF:=Lib.hid rf
          have FF:=Lib.hid ff
          have HBF:=Lib.hid hbF
          have HIA:=Lib.hid ia
          have HIN:=Lib.hid iN
          have HIO:=Lib.hid iO
          have SWF:=Lib.hid sWF
          have HSF:=Lib.hid (iS.still sWF)
          rw [hH1] at isa
          have HSA:=Lib.hid (show ∀ _ : 0 < h.xs.length,∀ ad,A2 = some ad → ad.block < wr.heap.size∧∀ i,wr.frozen? ⟨ad.block,i,none⟩ = false from isa)
          have HSG:=Lib.hid (show g < wr.heap.size∧∀ i,wr.frozen? ⟨g,i,none⟩ = false from ⟨il,ifz⟩)
          have hlen2:=ia.len
          obtain ⟨q0,q1,q2,q3,q4,q5,q6,q7⟩:=CF
          dsimp only [Nat.zero_add] at q0 q1 q2 q3 q4 q5 q6 q7
          obtain ⟨t0,t1,t2,t3,t4,t5,t6,t7⟩:=C8.of_block ik
          obtain ⟨z0,z1,z2,z3,z4,z5,z6,z7,e0,e1,e2,e3,e4,e5,e6,e7,el⟩:=zero_facts iz
          clear sWF isa iS hWF OF hbF rf ff ia iN iO iF iA ir ik iz ib ifz il
          go_wp2_with (fail)
          rw [HWF.out]
          refine bodyPost_ret (v:=datA { h with A:=A2,c:=c2,B:=some ⟨g,0,none⟩,cap:=cap3 } kids.len) (by simp [results,Tryz.results38,go_sem,q0,q1,q2,q3,q4,q5,q6,q7]) rfl ?_
          have hho:=HHO.out
          have hs1:=HBY1.out.size
          refine ⟨{ h with A:=A2,c:=c2,B:=some ⟨g,0,none⟩,cap:=cap3 },done,by rw [hlen2],⟨RF.out,g,0,fun _=>rfl,FF.out⟩,⟨rfl,rfl,rfl,rfl,rfl,rfl,rfl⟩,HIA.out,?_,HIO.out,?_,FreshF.mono (by omega) HIN.out,HBF.out,⟨fun hx ad e=>SWF.out.ad (HSA.out hx ad e),fun _ ad e=>by injection e with e; subst e; exact SWF.out.ad HSG.out⟩,HSF.out⟩
          · rw [hlen2]
            exact ⟨hho.k,hho.n,hho.f,hho.lm,⟨hc2,hcm2⟩,HN2.out,hho.l,hho.t,⟨hc3,hcm3⟩,fun e=>(by cases e),fun ad e _=>(HA2.out ad e).2,fun ad e _=>(by injection e with e; subst e; rfl)⟩
          · exact ⟨fun _ ad e=>by have:=(HA2.out ad e).1; show w.heap.size ≤ ad.block; omega,fun _ ad e=>by injection e with e; subst e; show w.heap.size ≤ g; omega⟩
end LM
namespace LM
inductive KindOf : Value → Value → Prop
  | same (v : Value) : KindOf v v
  | int (a b : Int) : KindOf (.int .i64 a) (.int .i64 b)
  | limb (a b : Nat) : KindOf (.int .u32 (a : Int)) (.int .u32 (b : Int))
  | text (a b : ByteArray) : KindOf (.string a) (.string b)
structure Spt (W W' : World) : Prop where
  size : W.heap.size ≤ W'.heap.size
  frz : ∀ b,b < W.heap.size → ∀ i,W'.frozen? ⟨b,i,none⟩ = W.frozen? ⟨b,i,none⟩
  cell : ∀ b i v,b < W.heap.size → W.cell? ⟨b,i,none⟩ = some v → ∃ v',W'.cell? ⟨b,i,none⟩ = some v'∧KindOf v v'
end LM
namespace LM
def SmF : Fr → Prop
  | .nil=>True
  | .cons h k r=>h.xs.length ≤ 1000000∧k.len ≤ 1000000∧SmF k∧SmF r
end LM
namespace LM
def KidsAt (w : World) : Fr → Prop
  | .nil=>True
  | .cons h k r=>(Rd w h.A h.xs∧∃ b off,(0 < k.len → h.B = some ⟨b,off,none⟩)∧FAt w b off k)∧KidsAt w r
def OffF (g : Option Nat) : Fr → Prop
  | .nil=>True
  | .cons h k r=>((0 < h.xs.length → ∀ ad,h.A = some ad → some ad.block ≠ g)∧(0 < k.len → ∀ ad,h.B = some ad → some ad.block ≠ g))∧OffF g k∧OffF g r
end LM
namespace LM
attribute [local go_sem] run_store_flt
structure RowI (w : World) (h1 : Hd) (kids : Fr) (j : Nat) (x0 done : Fr) (l : Value) (W : World) : Prop where
  bel : Below w.heap.size w W
  blk : W.heap[w.heap.size]? = some (datO h1 kids.len)
  zer : W.heap[w.heap.size + 1]? = some zeroO
  row : W.ownsRow (w.heap.size + 2) 30 8 l j (cellsF done)
  spl : kids = x0.app (kids.drop j)
  alk : AlikeF x0 done
  len : done.len = j
  kid : KidsAt W done
  off : OffF l.ownBlock done
  fre : FreshF (w.heap.size + 2) done
  oks : done.Ok
end LM
namespace LM
attribute [local go_sem] run_store_flt
theorem dbounded_any (kids : Fr) (hok : kids.Ok) (h : Hd) (w : World) (hd : DatV w h kids) (hho : h.Ok kids.len) :
    Calls Tryz.prog 31 #[datA h kids.len] w fun e w'=>e = .returned (.bool (decide (cnt 65536 1 kids < 65536)))∧Below w.heap.size w w':=by
  obtain ⟨W0,hW0,hb0,ho,hs0⟩:=dat_block w h kids.len
  have HC:=Lib.hid (counted_any (kids.size + 1) kids (by omega) hok h 65536 W0 (hd.below hb0) hho.cap.1 hho.cap.2 (by decide) (by decide))
  have HW0:=Lib.hid hW0
  have HB0:=Lib.hid hb0
  clear hW0 hb0 ho hd hho hok hs0
  go_enter Tryz.func31,Tryz.ntmps31
  go_wp2_with (fail)
  rw [HW0.out]
  refine HC.out.mono ?_
  rintro e w1 ⟨rfl,hb1⟩
  have HB1:=Lib.hid (bel_trans (B:=w.heap.size) HB0.out hb1)
  clear hb1
  go_wp2_with (fail)
  go_ret
  exact ⟨rfl,HB1.out⟩
theorem dnodes_any (kids : Fr) (hok : kids.Ok) (h : Hd) (w : World) (hd : DatV w h kids) (hho : h.Ok kids.len) :
    Calls Tryz.prog 14 #[datA h kids.len] w fun e w'=>e = .returned (.int .i64 (cnt 65536 1 kids))∧Below w.heap.size w w':=by
  obtain ⟨W0,hW0,hb0,ho,hs0⟩:=dat_block w h kids.len
  have HC:=Lib.hid (counted_any (kids.size + 1) kids (by omega) hok h 65536 W0 (hd.below hb0) hho.cap.1 hho.cap.2 (by decide) (by decide))
  have HW0:=Lib.hid hW0
  have HB0:=Lib.hid hb0
  clear hW0 hb0 ho hd hho hok hs0
  go_enter Tryz.func14,Tryz.ntmps14
  go_wp2_with (fail)
  rw [HW0.out]
  refine HC.out.mono ?_
  rintro e w1 ⟨rfl,hb1⟩
  have HB1:=Lib.hid (bel_trans (B:=w.heap.size) HB0.out hb1)
  clear hb1
  go_wp2_with (fail)
  go_ret
  exact ⟨rfl,HB1.out⟩
theorem dSame_any (kids kids' : Fr) (hok : kids.Ok) (hok' : kids'.Ok) (hn : NumsR kids) (hn' : NumsR kids') (hbd : cnt 65536 1 kids < 65536) (h h' : Hd) (w : World) (hd : DatV w h kids) (hd' : DatV w h' kids') (hho : h.Ok kids.len) (hho' : h'.Ok kids'.len) (hr : rightN h.fl h.f h.s h.xs = true) (hr' : rightN h'.fl h'.f h'.s h'.xs = true) :
    Calls Tryz.prog 12 #[datA h kids.len,datA h' kids'.len] w fun e w'=>e = .returned (.bool (headS h h' && sameF kids kids'))∧Below w.heap.size w w':=by
  obtain ⟨W0,hW0⟩ : ∃ W0,(w.alloc (datO h kids.len)).alloc (datO h' kids'.len) = W0:=⟨_,rfl⟩
  have hb0 : Below w.heap.size w W0:=by rw [← hW0]; exact ((Below.refl _ w).alloc (Nat.le_refl _) _).alloc (by simp) _
  have hO : Obs W0 [(w.heap.size + 1,datO h' kids'.len),(w.heap.size,datO h kids.len)]:=by
    rw [← hW0]
    have h1:=(Obs.nil.new (w:=w) (datO h kids.len)).new (datO h' kids'.len)
    simp only [World.size_alloc] at h1
    exact h1
  have HC:=Lib.hid (dbounded_any kids hok h W0 (hd.below hb0) hho)
  rw [decide_eq_true hbd] at HC
  have HS:=Lib.hid fun W (hW : Below w.heap.size w W)=>dsame_any (kids.size + 1) kids kids' (by omega) hok hok' hn hn' h h' W (hd.below hW) (hd'.below hW) hho hho' hr hr'
  have HW0:=Lib.hid hW0
  have HB0:=Lib.hid hb0
  have O0:=Lib.hid hO
  clear hW0 hb0 hO hd hd' hho hho' hok hok' hn hn' hbd hr hr'
  go_enter Tryz.func12,Tryz.ntmps12
  go_wp2_with (fail)
  rw [HW0.out]
  refine HC.out.mono ?_
  rintro e w1 ⟨rfl,hb1⟩
  have HB1:=Lib.hid (bel_trans (B:=w.heap.size) HB0.out hb1)
  obtain ⟨x0,x1,x2,x3,x4,x5,x6,x7⟩:=C8.of_block (O0.out.below hb1).tl.hd
  obtain ⟨y0,y1,y2,y3,y4,y5,y6,y7⟩:=C8.of_block (O0.out.below hb1).hd
  clear hb1
  go_wp2_with (fail)
  refine (HS.out _ HB1.out).mono ?_
  rintro e w2 ⟨rfl,hb2⟩
  have HB2:=Lib.hid (bel_trans (B:=w.heap.size) HB1.out hb2)
  clear hb2
  go_wp2_with (fail)
  go_ret
  exact ⟨rfl,HB2.out⟩
theorem dCopy_any (kids : Fr) (hok : kids.Ok) (hfew : FewF kids) (hl : kids.len ≤ 1000000) (hbd : cnt 65536 1 kids < 65536) (h : Hd) (w : World) (hd : DatV w h kids) (hho : h.Ok kids.len) :
    Calls Tryz.prog 23 #[datA h kids.len] w (RetCopy w h kids):=by
  obtain ⟨W0,hW0⟩ : ∃ W0,(w.alloc (datO h kids.len)).alloc zeroO = W0:=⟨_,rfl⟩
  have hb0 : Below w.heap.size w W0:=by rw [← hW0]; exact ((Below.refl _ w).alloc (Nat.le_refl _) _).alloc (by simp) _
  have hO : Obs W0 [(w.heap.size + 1,zeroO),(w.heap.size,datO h kids.len)]:=by
    rw [← hW0]
    have h1:=(Obs.nil.new (w:=w) (datO h kids.len)).new zeroO
    simp only [World.size_alloc] at h1
    exact h1
  have HC:=Lib.hid (dbounded_any kids hok h W0 (hd.below hb0) hho)
  rw [decide_eq_true hbd] at HC
  have HS:=Lib.hid fun W (hW : Below w.heap.size w W)=>dcopied_any (kids.size + 1) kids (by omega) hok hfew hl h W (hd.below hW) hho
  have HW0:=Lib.hid hW0
  have HB0:=Lib.hid hb0
  have O0:=Lib.hid hO
  clear hW0 hb0 hO hd hho hok hbd hfew hl
  go_enter Tryz.func23,Tryz.ntmps23
  go_wp2_with (fail)
  rw [HW0.out]
  refine HC.out.mono ?_
  rintro e w1 ⟨rfl,hb1⟩
  have HB1:=Lib.hid (bel_trans (B:=w.heap.size) HB0.out hb1)
  have O1:=Lib.hid (O0.out.below hb1)
  obtain ⟨x0,x1,x2,x3,x4,x5,x6,x7⟩:=C8.of_block (O0.out.below hb1).tl.hd
  clear hb1
  go_wp2_with (fail)
  refine (HS.out _ HB1.out).mono ?_
  rintro e w2 ⟨hc,kc,rfl,dc,ac,afc,okc,okf,frc,frf,bc,sfc,sff⟩
  have iz:=(O1.out.below bc).hd
  have hlz:=heap_lt O1.out.hd
  have ib:=bel_trans (B:=w.heap.size) HB1.out bc
  obtain ⟨WF,hWF,CF,OF,hbF,sWF⟩:=result_dat (h:=hc) (n:=kc.len) iz ib (Nat.le_succ _)
  have dF:=OF.dat dc ⟨fun hx ad e=>by have:=frc.1 hx ad e; show ad.block ≠ _; omega,fun hx ad e=>by have:=frc.2 hx ad e; show ad.block ≠ _; omega⟩ (FreshF.away (by omega) frf)
  have hs1:=HB1.out.size
  have FRC:=Lib.hid (show FreshH w.heap.size hc kc.len from ⟨fun hx ad e=>by have:=frc.1 hx ad e; omega,fun hx ad e=>by have:=frc.2 hx ad e; omega⟩)
  have FRF:=Lib.hid (FreshF.mono hs1 frf)
  dsimp only [set8z] at hWF
  have HWF:=Lib.hid hWF
  have DF:=Lib.hid dF
  have HBF:=Lib.hid hbF
  have SFC:=Lib.hid (sfc.still sWF)
  have SFF:=Lib.hid (sff.still sWF)
  have AC:=Lib.hid ac
  have AFC:=Lib.hid afc
  have OKC:=Lib.hid okc
  have OKF:=Lib.hid okf
  obtain ⟨q0,q1,q2,q3,q4,q5,q6,q7⟩:=CF
  try dsimp only [Nat.zero_add] at q0 q1 q2 q3 q4 q5 q6 q7
  obtain ⟨z0,z1,z2,z3,z4,z5,z6,z7,e0,e1,e2,e3,e4,e5,e6,e7,el⟩:=zero_facts iz
  clear sfc sff sWF hWF OF hbF dF dc ac afc okc okf frc frf bc iz ib hs1 hlz
  go_wp2_with (fail)
  rw [HWF.out]
  refine bodyPost_ret (v:=datA hc kc.len) (by simp [results,Tryz.results23,go_sem,q0,q1,q2,q3,q4,q5,q6,q7]) rfl ?_
  exact ⟨hc,kc,rfl,DF.out,AC.out,AFC.out,OKC.out,OKF.out,FRC.out,FRF.out,HBF.out,SFC.out,SFF.out⟩
end LM
namespace LM
attribute [local go_sem] run_store_flt
def WR (b : Nat) (bs : List UInt8) (W : World) : Prop:=Lib.IsBuilderF 50 5 b b (Lib.byteCells bs) W∧b < W.heap.size
def Wrote (b : Nat) (bs add : List UInt8) (W : World) (e : Ending) (W' : World) : Prop:=(∃ v,e = .returned v)∧WR b (bs ++ add) W'∧Below b W W'∧Keeps8 (b + 1) W W'
theorem strCells_eq (s : ByteArray) : Lib.strCells s = Lib.byteCells s.data.toList:=rfl
theorem wrstr_any (b : Nat) (bs : List UInt8) (s : ByteArray) (w : World) (h : WR b bs w) (hl : bs.length + s.size ≤ 140737488355328) :
    Calls Tryz.prog 39 #[.pointer (some ⟨b,0,none⟩),.string s] w (Wrote b bs s.data.toList w):=by
  refine (wstr_any b b (Lib.byteCells bs) s w h.1 (by rw [Lib.byteCells_length]; exact hl) (Nat.le_of_lt h.2)).mono ?_
  rintro e w' ⟨rfl,h1,h2,h3⟩
  refine ⟨⟨_,rfl⟩,⟨?_,Nat.lt_of_lt_of_le h.2 h2.size⟩,h2,keeps8_others h3 h2.size (Nat.lt_succ_self _)⟩
  rw [Lib.byteCells_append]
  rw [strCells_eq] at h1
  exact .inr h1
theorem WR.below {b : Nat} {bs : List UInt8} {w w' : World} (h : WR b bs w) (hb : Below w.heap.size w w') : WR b bs w':=⟨builder_below h.1 hb,Nat.lt_of_lt_of_le h.2 hb.size⟩
def leafK (k : Int) : Prop:=k ≠ 5∧k ≠ 6∧k ≠ 7
instance (k : Int) : Decidable (leafK k):=by unfold leafK; infer_instance
def Fr.isNil : Fr → Bool
  | .nil=>true
  | .cons _ _ _=>false
def txF (lf : Hd → List UInt8) : Bool → Bool → Fr → List UInt8
  | _,_,.nil=>[]
  | dot,fst,.cons h k r=>(if dot && r.isNil then [32,46,32] else if fst then [] else [32]) ++
      (if h.k = 5 then [40] ++ txF lf false true k ++ [41] else if h.k = 6 then [40] ++ txF lf true true k ++ [41] else if h.k = 7 then [35,40] ++ txF lf false true k ++ [41] else lf h) ++ txF lf dot false r
def txD (lf : Hd → List UInt8) (h : Hd) (k : Fr) : List UInt8 :=
  if h.k = 5 then [40] ++ txF lf false true k ++ [41] else if h.k = 6 then [40] ++ txF lf true true k ++ [41] else if h.k = 7 then [35,40] ++ txF lf false true k ++ [41] else lf h
theorem dwitems_any (lf : Hd → List UInt8) (kids : Fr) (n : Nat) (hn : n ≤ kids.len) (o : ByteArray) (B : Option Addr) (cap bb off b : Nat) (bs : List UInt8) (w0 w : World) (h0 : Below b w0 w) (hw0 : b = w0.heap.size) (hB : 0 < n → B = some ⟨bb,off,none⟩) (hF : FAt w0 bb off kids) (hc1 : n ≤ cap) (hc2 : cap ≤ 9223372036854775807)
    (tx : Nat → List UInt8) (ht0 : tx 0 = []) (hts : ∀ hh k j r,j < n → kids.drop j = .cons hh k r → tx (j + 1) = tx j ++ ((if j = 0 then [] else [32]) ++ txD lf hh k)) (htl : ∀ j,j ≤ n → (tx j).length ≤ (tx n).length)
    (hW : WR b bs w) (hl : bs.length + o.size + (tx n).length ≤ 100000000000)
    (hcl : ∀ hh k j r,j < n → kids.drop j = .cons hh k r → ∀ W cs,Below b w0 W → WR b cs W → cs.length + (txD lf hh k).length ≤ 100000000000 → Calls Tryz.prog 25 #[.pointer (some ⟨b,0,none⟩),datA hh k.len] W (Wrote b cs (txD lf hh k) W)) :
    Calls Tryz.prog 44 #[.pointer (some ⟨b,0,none⟩),.string o,.slice B n cap] w (Wrote b bs (o.data.toList ++ tx n) w):=by
  rcases Nat.eq_zero_or_pos n with hn0 | hpos
  · subst hn0
    have H1:=Lib.hid (wrstr_any b bs o w hW (by omega))
    have HT:=Lib.hid ht0
    clear hw0 hcl hts htl h0 hF hB ht0 hW
    go_enter Tryz.func44,Tryz.ntmps44
    go_wp2_with (fail)
    refine H1.out.mono ?_
    rintro e w1 ⟨⟨v,rfl⟩,hr⟩
    have HR:=Lib.hid hr
    clear hr
    go_wp2_with (fail)
    go_loopg [13] 0 (fun kk i wr=>wr = w1∧i = .int .i64 0)
    case atStart=>exact ⟨rfl,rfl⟩
    case round =>
      obtain ⟨rfl,rfl⟩:=hrel
      go_wp2_with (fail)
      go_end0
      refine ⟨⟨_,rfl⟩,?_,HR.out.2.1,HR.out.2.2⟩
      show WR b (bs ++ (o.data.toList ++ tx 0)) _
      rw [HT.out,List.append_nil]
      exact HR.out.1
  · obtain rfl:=hB hpos
    have H1:=Lib.hid (wrstr_any b bs o w hW (by omega))
    have HF:=Lib.hid hF
    have HCL:=Lib.hid hcl
    have HTS:=Lib.hid hts
    have HTL:=Lib.hid htl
    have H0:=Lib.hid h0
    have HT:=Lib.hid ht0
    have HWB:=Lib.hid hW.2
    have HW0:=Lib.hid hw0
    clear hw0 hcl hts htl h0 hF hB ht0 hW
    go_enter Tryz.func44,Tryz.ntmps44
    go_wp2_with (fail)
    refine H1.out.mono ?_
    rintro e w1 ⟨⟨v,rfl⟩,hr⟩
    have HR:=Lib.hid hr
    clear hr
    go_wp2_with (fail)
    go_loopg [13] n (fun kk i wr=>∃ j : Nat,j ≤ n∧kk = n - j∧i = .int .i64 (j : Int)∧WR b (bs ++ (o.data.toList ++ tx j)) wr∧Below b w wr∧Keeps8 (b + 1) w wr)
    case atStart=>exact ⟨0,Nat.zero_le _,rfl,rfl,by rw [HT.out,List.append_nil]; exact HR.out.1,HR.out.2.1,HR.out.2.2⟩
    case round =>
      obtain ⟨j,hj,rfl,rfl,hI1,hI2,hI3⟩:=hrel
      have J1:=Lib.hid hI1
      have J2:=Lib.hid hI2
      have J3:=Lib.hid hI3
      clear hI1 hI2 hI3
      by_cases hjl : j < n
      · obtain ⟨hh,k,r,hdr,hdr1⟩:=Fr.cons_of_lt (show j < kids.len by omega)
        have hbel : Below b w0 wr:=H0.out.trans J2.out
        obtain ⟨hbl,⟨x0,x1,x2,x3,x4,x5,x6,x7⟩,-⟩:=counted_item (FAt.below (HW0.out ▸ hbel) _ _ _ HF.out) hdr
        obtain ⟨W2,hW2⟩ : ∃ W2,wr.alloc (datO hh k.len) = W2:=⟨_,rfl⟩
        have hba : Below wr.heap.size wr W2:=by rw [← hW2]; exact (Below.refl _ wr).alloc (Nat.le_refl _) _
        have hbo : W2.heap[wr.heap.size]? = some (datO hh k.len):=by rw [← hW2]; unfold World.alloc; simp
        have hwb:=J1.out.2
        have A1:=Lib.hid (J1.out.below hba)
        have A2:=Lib.hid (bel_trans (B:=b) J2.out hba (by have:=HWB.out; omega))
        have A3:=Lib.hid (J3.out.trans (keeps8_below hba))
        have A0:=Lib.hid (bel_trans (B:=b) hbel hba (by have:=HW0.out; omega))
        have BO:=Lib.hid hbo
        have HW2:=Lib.hid hW2
        have ts:=HTS.out hh k j r hjl hdr
        have tl:=HTL.out (j + 1) (by omega)
        rw [ts,List.length_append,List.length_append] at tl
        obtain ⟨u0,u1,u2,u3,u4,u5,u6,u7⟩:=C8.of_block hbo
        have CL:=Lib.hid fun (W : World) (cs : List UInt8) (h1 : Below b w0 W) (h2 : WR b cs W) (h3 : cs.length + (txD lf hh k).length ≤ 100000000000)=>HCL.out hh k j r hjl hdr W cs h1 h2 h3
        have TS:=Lib.hid ts
        have TL:=Lib.hid tl
        have HJ:=Lib.hid hjl
        clear hdr hdr1 ts tl hbel hba hbo hW2 hwb
        by_cases hj0 : j = 0
        · have dj : decide (0 < j) = false:=decide_eq_false (by omega)
          have HJ0:=Lib.hid hj0
          have ET:=Lib.hid (show tx (j + 1) = tx j ++ txD lf hh k by rw [TS.out,if_pos hj0,List.nil_append])
          clear hj0
          go_wp2_with (fail)
          rw [HW2.out]
          refine (CL.out W2 _ A0.out A1.out (by have:=TL.out; rw [List.length_append,List.length_append,← Lib.size_eq]; omega)).mono ?_
          rintro e w3 ⟨⟨v3,rfl⟩,h31,h32,h33⟩
          have B1:=Lib.hid h31
          have B2:=Lib.hid (A2.out.trans h32)
          have B3:=Lib.hid (A3.out.trans h33)
          clear h31 h32 h33
          go_wp2_with (fail)
          go_roundg (n - (j + 1))
          case measure=>omega
          case rel=>exact ⟨j + 1,by omega,rfl,by go_num,by rw [ET.out]; have:=B1.out; rw [List.append_assoc,List.append_assoc] at this; exact this,B2.out,B3.out⟩
        · have dj : decide (0 < j) = true:=decide_eq_true (by omega)
          have ET:=Lib.hid (show tx (j + 1) = tx j ++ ([32] ++ txD lf hh k) by rw [TS.out,if_neg hj0])
          have H2:=Lib.hid (wrstr_any b _ ⟨#[32]⟩ W2 A1.out (by have:=TL.out; rw [if_neg hj0] at this; have t2 : ([32] : List UInt8).length = 1:=rfl; rw [List.length_append,List.length_append,← Lib.size_eq]; show _ + 1 ≤ _; omega))
          have TL2:=Lib.hid (show (tx j).length + (1 + (txD lf hh k).length) ≤ (tx n).length by have:=TL.out; rw [if_neg hj0] at this; exact this)
          clear hj0
          go_wp2_with (fail)
          rw [HW2.out]
          refine H2.out.mono ?_
          rintro e w3 ⟨⟨v3,rfl⟩,h31,h32,h33⟩
          have B1:=Lib.hid h31
          have B2:=Lib.hid (A2.out.trans h32)
          have B3:=Lib.hid (A3.out.trans h33)
          have B0:=Lib.hid (A0.out.trans h32)
          have hbo3:=h33.same wr.heap.size _ (by have:=J1.out.2; omega) BO.out rfl
          obtain ⟨q0,q1,q2,q3,q4,q5,q6,q7⟩:=C8.of_block hbo3
          clear h31 h32 h33 hbo3 u0 u1 u2 u3 u4 u5 u6 u7
          go_wp2_with (fail)
          refine (CL.out w3 _ B0.out B1.out (by have:=TL2.out; rw [List.length_append,List.length_append,List.length_append,← Lib.size_eq]; show _ + 1 + _ ≤ _; omega)).mono ?_
          rintro e w4 ⟨⟨v4,rfl⟩,h31,h32,h33⟩
          have C1:=Lib.hid h31
          have C2:=Lib.hid (B2.out.trans h32)
          have C3:=Lib.hid (B3.out.trans h33)
          clear h31 h32 h33
          go_wp2_with (fail)
          go_roundg (n - (j + 1))
          case measure=>omega
          case rel=>exact ⟨j + 1,by omega,rfl,by go_num,by rw [ET.out]; have:=C1.out; simp only [List.append_assoc] at this ⊢; exact this,C2.out,C3.out⟩
      · obtain rfl : j = n:=by omega
        go_wp2_with (fail)
        go_end0
        exact ⟨⟨_,rfl⟩,J1.out,J2.out,J3.out⟩
end LM
namespace LM
attribute [local go_sem] run_store_flt
def txI (lf : Hd → List UInt8) : Nat → Bool → Fr → List UInt8
  | 0,_,_=>[]
  | _ + 1,_,.nil=>[]
  | j + 1,fst,.cons h k r=>(if fst then [] else [32]) ++ txD lf h k ++ txI lf j false r
theorem txI_step (lf : Hd → List UInt8) : ∀ (j : Nat) (fst : Bool) (fr : Fr) (hh : Hd) (k r : Fr),fr.drop j = .cons hh k r → txI lf (j + 1) fst fr = txI lf j fst fr ++ ((if (j = 0∧fst = true) then [] else [32]) ++ txD lf hh k):=by
  intro j
  induction j with
  | zero =>
    intro fst fr hh k r hd
    cases fr with
    | nil=>cases hd
    | cons a b c =>
      obtain ⟨rfl,rfl,rfl⟩ : a = hh∧b = k∧c = r:=by cases hd; exact ⟨rfl,rfl,rfl⟩
      show (if fst then [] else [32]) ++ txD lf a b ++ [] = [] ++ _
      cases fst <;> simp
  | succ j ih =>
    intro fst fr hh k r hd
    cases fr with
    | nil=>cases hd
    | cons a b c =>
      have h1:=ih false c hh k r hd
      show (if fst then [] else [32]) ++ txD lf a b ++ txI lf (j + 1) false c = ((if fst then [] else [32]) ++ txD lf a b ++ txI lf j false c) ++ _
      rw [h1]
      simp
theorem txI_all (lf : Hd → List UInt8) : ∀ (fr : Fr) (fst : Bool),txI lf fr.len fst fr = txF lf false fst fr:=by
  intro fr
  induction fr with
  | nil=>intro fst; rfl
  | cons h k r _ ih =>
    intro fst
    show (if fst then [] else [32]) ++ txD lf h k ++ txI lf r.len false r = _
    rw [ih]
    unfold txD
    show _ = (if (false && r.isNil) then [32,46,32] else if fst then [] else [32]) ++ _ ++ txF lf false false r
    rw [Bool.false_and]
    cases fst <;> rfl
theorem txI_dot (lf : Hd → List UInt8) : ∀ (fr : Fr) (fst : Bool) (hh : Hd) (k : Fr),0 < fr.len → fr.drop (fr.len - 1) = .cons hh k .nil → txF lf true fst fr = txI lf (fr.len - 1) fst fr ++ [32,46,32] ++ txD lf hh k:=by
  intro fr
  induction fr with
  | nil=>intro fst hh k h; exact absurd h (by show ¬ 0 < 0; omega)
  | cons a b c _ ih =>
    intro fst hh k _ hd
    cases c with
    | nil =>
      obtain ⟨rfl,rfl⟩ : a = hh∧b = k:=by cases hd; exact ⟨rfl,rfl⟩
      show [32,46,32] ++ _ ++ [] = [] ++ [32,46,32] ++ txD lf a b
      unfold txD
      simp
    | cons a2 b2 c2 =>
      have hl : (Fr.cons a2 b2 c2).len = c2.len + 1:=rfl
      have hl2 : (Fr.cons a b (Fr.cons a2 b2 c2)).len - 1 = c2.len + 1:=by show c2.len + 1 + 1 - 1 = _; omega
      rw [hl2] at hd ⊢
      have h1:=ih false hh k (by rw [hl]; omega) (by rw [hl]; exact hd)
      rw [hl,Nat.add_sub_cancel] at h1
      show (if fst then [] else [32]) ++ _ ++ txF lf true false (Fr.cons a2 b2 c2) = ((if fst then [] else [32]) ++ txD lf a b ++ txI lf c2.len false (Fr.cons a2 b2 c2)) ++ _ ++ _
      rw [h1]
      unfold txD
      simp
end LM
namespace LM
attribute [local go_sem] run_store_flt
def WH (P : Hd → Prop) (h : Hd) (k : Fr) : Prop:=(leafK h.k → k = .nil∧P h)∧(h.k = 6 → 2 ≤ k.len)
def WOk (P : Hd → Prop) : Fr → Prop
  | .nil=>True
  | .cons h k r=>WH P h k∧WOk P k∧WOk P r
theorem WOk.drop {P : Hd → Prop} : ∀ (j : Nat) {fr : Fr},WOk P fr → WOk P (fr.drop j):=by
  intro j
  induction j with
  | zero=>intro fr h; exact h
  | succ j ih =>
    intro fr h
    cases fr with
    | nil=>exact trivial
    | cons hh k r=>exact ih h.2.2
theorem txI_mono (lf : Hd → List UInt8) : ∀ (j n : Nat) (fst : Bool) (fr : Fr),j ≤ n → (txI lf j fst fr).length ≤ (txI lf n fst fr).length:=by
  intro j
  induction j with
  | zero=>intro n fst fr _; show 0 ≤ _; omega
  | succ j ih =>
    intro n fst fr hn
    obtain ⟨m,rfl⟩ : ∃ m,n = m + 1:=⟨n - 1,by omega⟩
    cases fr with
    | nil=>exact Nat.le_refl _
    | cons a b c =>
      have:=ih m false c (by omega)
      show ((if fst then [] else [32]) ++ txD lf a b ++ txI lf j false c).length ≤ ((if fst then [] else [32]) ++ txD lf a b ++ txI lf m false c).length
      simp only [List.length_append]
      omega
abbrev WriteC (b : Nat) (w0 : World) (h : Hd) (n : Nat) (t : List UInt8) : Prop:=∀ W cs,Below b w0 W → WR b cs W → cs.length + t.length ≤ 100000000000 → Calls Tryz.prog 25 #[.pointer (some ⟨b,0,none⟩),datA h n] W (Wrote b cs t W)
theorem dwrite_row (b : Nat) (w0 : World) (h : Hd) (kids : Fr) (t : List UInt8) (o : ByteArray) (ho : (h.k = 5∧o = ⟨#[40]⟩) ∨ (h.k = 7∧o = ⟨#[35,40]⟩)) (W : World) (cs : List UInt8) (hb : Below b w0 W) (hr : WR b cs W)
    (hI : ∀ W,Below b w0 W → WR b cs W → Calls Tryz.prog 44 #[.pointer (some ⟨b,0,none⟩),.string o,.slice h.B kids.len h.cap] W (Wrote b cs (o.data.toList ++ t) W)) (hl : cs.length + (o.data.toList ++ t ++ [41]).length ≤ 100000000000) :
    Calls Tryz.prog 25 #[.pointer (some ⟨b,0,none⟩),datA h kids.len] W (Wrote b cs (o.data.toList ++ t ++ [41]) W):=by
  obtain ⟨W0,hW0,hb0,hO,hs0⟩:=dat_block W h kids.len
  have hbw:=hr.2
  have A1:=Lib.hid (hr.below hb0)
  have A2:=Lib.hid (hb0.mono (Nat.le_of_lt hbw))
  have A3:=Lib.hid (keeps8_below (B:=b + 1) hb0)
  have HI:=Lib.hid (hI W0 (hb.trans (hb0.mono (Nat.le_of_lt hbw))) (hr.below hb0))
  have HW0:=Lib.hid hW0
  have HL:=Lib.hid hl
  clear hW0 hb0 hO hI hb hr hl hs0
  rcases ho with ⟨hk,rfl⟩ | ⟨hk,rfl⟩
  all_goals
    have f0 : (h.k == 0) = false:=by rw [hk]; rfl
    have f1 : (h.k == 1) = false:=by rw [hk]; rfl
    have f2 : (h.k == 2) = false:=by rw [hk]; rfl
    have f3 : (h.k == 3) = false:=by rw [hk]; rfl
    have f4 : (h.k == 4) = false:=by rw [hk]; rfl
    have f5 : (h.k == 5) = decide (h.k = 5):=by rw [hk]; rfl
    have f6 : (h.k == 6) = false:=by rw [hk]; rfl
    have f7 : (h.k == 7) = decide (h.k = 7):=by rw [hk]; rfl
  · have g5 : decide (h.k = 5) = true:=decide_eq_true hk
    rw [g5] at f5
    clear hk g5 f7
    go_enter Tryz.func25,Tryz.ntmps25
    go_wp2_with (fail)
    rw [HW0.out]
    refine HI.out.mono ?_
    rintro e w1 ⟨⟨v,rfl⟩,h1,h2,h3⟩
    have H2:=Lib.hid (wrstr_any b _ ⟨#[41]⟩ w1 h1 (by have:=HL.out; simp only [List.length_append] at this ⊢; show _ + 1 ≤ _; omega))
    have B2:=Lib.hid (A2.out.trans h2)
    have B3:=Lib.hid (A3.out.trans h3)
    clear h1 h2 h3
    go_wp2_with (fail)
    refine H2.out.mono ?_
    rintro e w2 ⟨⟨v2,rfl⟩,h1,h2,h3⟩
    have C1:=Lib.hid h1
    have C2:=Lib.hid (B2.out.trans h2)
    have C3:=Lib.hid (B3.out.trans h3)
    clear h1 h2 h3
    go_wp2_with (fail)
    go_end0
    exact ⟨⟨_,rfl⟩,by have:=C1.out; rw [List.append_assoc] at this; exact this,C2.out,C3.out⟩
  · have g5 : decide (h.k = 5) = false:=decide_eq_false (by omega)
    have g7 : decide (h.k = 7) = true:=decide_eq_true hk
    rw [g5] at f5
    rw [g7] at f7
    clear hk g5 g7
    go_enter Tryz.func25,Tryz.ntmps25
    go_wp2_with (fail)
    rw [HW0.out]
    refine HI.out.mono ?_
    rintro e w1 ⟨⟨v,rfl⟩,h1,h2,h3⟩
    have H2:=Lib.hid (wrstr_any b _ ⟨#[41]⟩ w1 h1 (by have:=HL.out; simp only [List.length_append] at this ⊢; show _ + 1 ≤ _; omega))
    have B2:=Lib.hid (A2.out.trans h2)
    have B3:=Lib.hid (A3.out.trans h3)
    clear h1 h2 h3
    go_wp2_with (fail)
    refine H2.out.mono ?_
    rintro e w2 ⟨⟨v2,rfl⟩,h1,h2,h3⟩
    have C1:=Lib.hid h1
    have C2:=Lib.hid (B2.out.trans h2)
    have C3:=Lib.hid (B3.out.trans h3)
    clear h1 h2 h3
    go_wp2_with (fail)
    go_end0
    exact ⟨⟨_,rfl⟩,by have:=C1.out; rw [List.append_assoc] at this; exact this,C2.out,C3.out⟩
theorem dwrite_dot (b : Nat) (w0 : World) (h : Hd) (kids : Fr) (t : List UInt8) (bb off : Nat) (hk : h.k = 6) (hB : h.B = some ⟨bb,off,none⟩) (hn2 : 2 ≤ kids.len) (hcap : kids.len ≤ h.cap) (hcap2 : h.cap ≤ 9223372036854775807) (hh : Hd) (k : Fr) (hC : ∀ W,Below b w0 W → C8 W bb (off + (kids.len - 1) * 8) hh k.len)
    (tl : List UInt8) (W : World) (cs : List UInt8) (hb : Below b w0 W) (hr : WR b cs W)
    (hI : ∀ W,Below b w0 W → WR b cs W → Calls Tryz.prog 44 #[.pointer (some ⟨b,0,none⟩),.string ⟨#[40]⟩,.slice (some ⟨bb,off,none⟩) ((kids.len - 1 : Nat) : Nat) h.cap] W (Wrote b cs ([40] ++ t) W))
    (hw : WriteC b w0 hh k.len tl) (hl : cs.length + ([40] ++ (t ++ [32,46,32] ++ tl) ++ [41]).length ≤ 100000000000) :
    Calls Tryz.prog 25 #[.pointer (some ⟨b,0,none⟩),datA h kids.len] W (Wrote b cs ([40] ++ (t ++ [32,46,32] ++ tl) ++ [41]) W):=by
  obtain ⟨W0,hW0,hb0,hO,hs0⟩:=dat_block W h kids.len
  have hbw:=hr.2
  have A0:=Lib.hid (hb.trans (hb0.mono (Nat.le_of_lt hbw)))
  have A1:=Lib.hid (hr.below hb0)
  have A2:=Lib.hid (hb0.mono (Nat.le_of_lt hbw))
  have A3:=Lib.hid (keeps8_below (B:=b + 1) hb0)
  have HI:=Lib.hid (hI W0 (hb.trans (hb0.mono (Nat.le_of_lt hbw))) (hr.below hb0))
  have HC:=Lib.hid hC
  have HW:=Lib.hid hw
  have HO:=Lib.hid hO
  have HW0:=Lib.hid hW0
  have HL:=Lib.hid hl
  have HBW:=Lib.hid hbw
  have f0 : (h.k == 0) = false:=by rw [hk]; rfl
  have f1 : (h.k == 1) = false:=by rw [hk]; rfl
  have f2 : (h.k == 2) = false:=by rw [hk]; rfl
  have f3 : (h.k == 3) = false:=by rw [hk]; rfl
  have f4 : (h.k == 4) = false:=by rw [hk]; rfl
  have f5 : (h.k == 5) = false:=by rw [hk]; rfl
  have f6 : (h.k == 6) = true:=by rw [hk]; rfl
  have w1 : IntKind.i64.wrap ((kids.len : Int) - 1) = ((kids.len - 1 : Nat) : Int):=by rw [IntKind.wrap_i64]; omega
  obtain ⟨q,hq⟩ : ∃ q,kids.len - 1 = q:=⟨_,rfl⟩
  rw [hq] at w1 HI HC
  have hqn : q < kids.len:=by omega
  have hqc : q ≤ h.cap:=by omega
  obtain ⟨k0,n0,fl0,ff0,s0,AA0,xs0,c0,t0,B0,cap0⟩:=h
  dsimp only at hB hcap hcap2 hqc HI HO HW0 f0 f1 f2 f3 f4 f5 f6 ⊢
  subst hB
  obtain ⟨u0,u1,u2,u3,u4,u5,u6,u7⟩:=C8.of_block HO.out
  clear hW0 hb0 hO hI hb hr hl hs0 hC hw hk hbw hq hn2
  go_enter Tryz.func25,Tryz.ntmps25
  go_wp2_with (fail)
  rw [HW0.out]
  go_wp2_with (fail)
  refine HI.out.mono ?_
  rintro e w1 ⟨⟨v,rfl⟩,h1,h2,h3⟩
  have H2:=Lib.hid (wrstr_any b _ ⟨#[32,46,32]⟩ w1 h1 (by have:=HL.out; simp only [List.length_append] at this ⊢; have t3 : ([32,46,32] : List UInt8).length = 3:=rfl; show _ + 3 ≤ _; omega))
  have B0:=Lib.hid (A0.out.trans h2)
  have B2:=Lib.hid (A2.out.trans h2)
  have B3:=Lib.hid (A3.out.trans h3)
  have BO:=Lib.hid (h3.same W.heap.size _ (by have:=HBW.out; omega) HO.out rfl)
  clear h1 h2 h3 u0 u1 u2 u3 u4 u5 u6 u7
  go_wp2_with (fail)
  refine H2.out.mono ?_
  rintro e w2 ⟨⟨v2,rfl⟩,h1,h2,h3⟩
  have C0:=Lib.hid (B0.out.trans h2)
  have C1:=Lib.hid h1
  have C2:=Lib.hid (B2.out.trans h2)
  have C3:=Lib.hid (B3.out.trans h3)
  have H3:=Lib.hid (HW.out w2 _ C0.out h1 (by have:=HL.out; simp only [List.length_append] at this ⊢; have t3 : ([32,46,32] : List UInt8).length = 3:=rfl; omega))
  have hbo:=h3.same W.heap.size _ (by have:=HBW.out; omega) BO.out rfl
  obtain ⟨u0,u1,u2,u3,u4,u5,u6,u7⟩:=C8.of_block hbo
  obtain ⟨x0,x1,x2,x3,x4,x5,x6,x7⟩:=HC.out w2 C0.out
  clear h1 h2 h3 hbo
  go_wp2_with (fail)
  refine H3.out.mono ?_
  rintro e w3 ⟨⟨v3,rfl⟩,h1,h2,h3⟩
  have H4:=Lib.hid (wrstr_any b _ ⟨#[41]⟩ w3 h1 (by have:=HL.out; simp only [List.length_append] at this ⊢; have t3 : ([32,46,32] : List UInt8).length = 3:=rfl; show _ + 1 ≤ _; omega))
  have D2:=Lib.hid (C2.out.trans h2)
  have D3:=Lib.hid (C3.out.trans h3)
  clear h1 h2 h3 u0 u1 u2 u3 u4 u5 u6 u7 x0 x1 x2 x3 x4 x5 x6 x7
  go_wp2_with (fail)
  refine H4.out.mono ?_
  rintro e w4 ⟨⟨v4,rfl⟩,h1,h2,h3⟩
  have E1:=Lib.hid h1
  have E2:=Lib.hid (D2.out.trans h2)
  have E3:=Lib.hid (D3.out.trans h3)
  clear h1 h2 h3
  go_wp2_with (fail)
  go_end0
  exact ⟨⟨_,rfl⟩,by have:=E1.out; simp only [List.append_assoc] at this ⊢; exact this,E2.out,E3.out⟩
end LM
end Go.Proofs.YtnpmfailpgbggaaGreatDoor
namespace Go.Proofs.YtnpmfailpgbggaaGreatDoor
open Go Go.Shelf Go.RowKit Go.Sort Go.Lib
namespace LM
attribute [local go_sem] run_store_flt
theorem cutAtE_a (s : ByteArray) (w : World) (h : s.data.toList = [97]) :
    Calls Tryz.prog 178 #[.string s] w fun e w'=>e = .returned (.tuple #[.string s,.string ⟨#[]⟩,.bool false])∧Below w.heap.size w w':=by
  have hz : s.size = 1:=by rw [Lib.size_eq,h]; rfl
  have hI:=fun W=>Tryz.strings_IndexAny_short s ⟨#[101,69]⟩ W (by decide) (by omega) (fun j b hb=>by
    rw [h] at hb
    have:=List.mem_of_getElem? hb
    simp at this
    rcases this with rfl; decide)
  rw [show indexAny s.data.toList (⟨#[101,69]⟩ : ByteArray).data.toList = -1 from by rw [h]; decide] at hI
  have I1:=Lib.hid hI
  clear hI h
  go_enter Tryz.func178,Tryz.ntmps178
  go_wp2_with (fail)
  refine (I1.out _).mono ?_
  rintro e w' ⟨rfl,pos,rfl⟩
  have HB:=Lib.hid (below_iter w s pos)
  go_wp2_with (fail)
  go_returns
  exact ⟨rfl,HB.out⟩
theorem isNumeral_a (s : ByteArray) (w : World) (h : s.data.toList = [97]) :
    Calls Tryz.prog 143 #[.string s] w fun e w'=>e = .returned (.bool false)∧Below w.heap.size w w':=by
  have hz : s.size = 1:=by rw [Lib.size_eq,h]; rfl
  have U1:=Lib.hid fun W=>unsigned_any s W (by omega)
  have CE:=Lib.hid fun t W (ht : t.data.toList = [97])=>cutAtE_a t W ht
  have CU:=Lib.hid fun t W (ht : t.data.toList = [97])=>scut_no t 46 W (by rw [Lib.size_eq,ht]; decide) (by rw [ht]; decide)
  have HH:=Lib.hid h
  clear h hz
  go_enter Tryz.func143,Tryz.ntmps143
  go_wp2_with (fail)
  refine (U1.out _).mono ?_
  rintro e w1 ⟨⟨t,rfl,ht,_⟩,k1,rfl⟩
  have ht2:=ht.trans (show unsigB s.data.toList = [97] from by rw [HH.out]; decide)
  have CE2:=Lib.hid fun W=>CE.out t W ht2
  have CU2:=Lib.hid fun W=>CU.out t W ht2
  clear ht ht2
  go_wp2_with (fail)
  refine (CE2.out _).mono ?_
  rintro e w2 ⟨rfl,hb2⟩
  have HB2:=Lib.hid ((below_drewN (Below.refl _ w) k1).trans hb2)
  clear hb2
  go_wp2_with (fail)
  refine (CU2.out _).mono ?_
  rintro e w' ⟨rfl,rfl⟩
  go_wp2_with (fail)
  go_ret
  exact ⟨rfl,HB2.out⟩
theorem floparse_a (w : World) :
    Calls Tryz.prog 116 #[.string ⟨#[97]⟩] w fun e w'=>e = .returned (.tuple #[.float .f64 0,.int .i64 31])∧Below w.heap.size w w':=by
  obtain ⟨s,hs⟩ : ∃ s,(⟨#[97]⟩ : ByteArray) = s:=⟨_,rfl⟩
  have c1 : (s.toList == [43,110,97,110,46,48]) = false:=by rw [← hs,Go.ByteArray.toList_eq]; rfl
  have c2 : (s.toList == [43,105,110,102,46,48]) = false:=by rw [← hs,Go.ByteArray.toList_eq]; rfl
  have c3 : (s.toList == [45,105,110,102,46,48]) = false:=by rw [← hs,Go.ByteArray.toList_eq]; rfl
  have hl : s.data.toList = [97]:=by rw [← hs]
  have hz : s.size = 1:=by rw [Lib.size_eq,hl]; rfl
  rw [hs]
  have N1:=Lib.hid (isNumeral_a s w hl)
  clear hs hl
  go_enter Tryz.func116,Tryz.ntmps116
  go_wp2_with (fail)
  refine N1.out.mono ?_
  rintro e w1 ⟨rfl,hb1⟩
  go_wp2_with (fail)
  go_returns
  exact ⟨rfl,hb1⟩
theorem tparse_a (w : World) (hs : SynCell w) :
    Calls Tryz.prog 85 #[.string ⟨#[97]⟩] w fun e w'=>e = .returned (.tuple #[numA false 0 false none 0 0,.int .i64 13])∧Below w.heap.size w w':=by
  have hp:=fun W (hW : Below w.heap.size w W)=>eparse_any ⟨#[97]⟩ W (by decide) (fun W2 hW2 _=>(hs.below hW).below hW2)
  have hnd : ¬ OkText (signOf [97]).2:=by
    rintro ⟨_,_,h⟩
    have:=h 97 (by unfold signOf; decide)
    exact absurd this.2 (by decide)
  have EP : Hid (∀ W,Below w.heap.size w W → Calls Tryz.prog 115 #[.string ⟨#[97]⟩] W fun e w'=>(∃ s A n c,e = .returned (.tuple #[.agg #[.bool s,.slice A n c],.int .i64 13]))∧Below W.heap.size W w'):=Lib.hid fun W hW=>(hp W hW).mono (by
    rintro e w' ⟨s,A,n,c,er,z,rfl,-,hpo,hb⟩
    rcases hpo with ⟨_,_,rfl⟩ | ⟨h,_⟩ | ⟨h,_⟩
    · exact ⟨⟨s,A,n,c,rfl⟩,hb⟩
    · exact absurd h hnd
    · exact absurd h hnd)
  have FP:=Lib.hid floparse_a
  have hb0 : Below w.heap.size w (w.alloc (numO false 0 false none 0 0)):=(Below.refl _ w).alloc (Nat.le_refl _) _
  have Y0:=Nx.new w false 0 false none 0 0
  have HB0:=Lib.hid hb0
  have HY0:=Lib.hid Y0
  clear hp hs hb0 Y0
  go_enter Tryz.func85,Tryz.ntmps85
  go_wp2_with (fail)
  refine (EP.out _ HB0.out).mono ?_
  rintro e w1 ⟨⟨s,A,n,c,rfl⟩,hb1⟩
  have HY1:=Lib.hid (HY0.out.below hb1)
  have HB1:=Lib.hid (bel_trans (B:=w.heap.size) HB0.out hb1)
  clear hb1
  go_wp2_with (fail)
  refine (FP.out _).mono ?_
  rintro e w2 ⟨rfl,hb2⟩
  have hba : Below w1.heap.size w1 (w1.alloc (.cells #[.bool s,.slice A n c] 25)):=(Below.refl _ w1).alloc (Nat.le_refl _) _
  have HY2:=Lib.hid ((HY1.out.below hba).below hb2)
  have HB2:=Lib.hid (bel_trans (B:=w.heap.size) (bel_trans (B:=w.heap.size) HB1.out hba) hb2)
  obtain ⟨y0,y1,y2,y3,y4,y5,y6,y7,yl⟩:=HY2.out.facts
  obtain ⟨W,hW,ZR,hbW,-,-⟩:=stored_num HY2.out HB2.out (Nat.le_refl _) false 0 false none 0 0
  obtain ⟨z0,z1,z2,z3,-,-,-,-,zl⟩:=ZR.facts
  have HW:=Lib.hid hW
  have HBW:=Lib.hid hbW
  clear hb2 hba hW hbW ZR
  go_wp2_with (fail)
  rw [HW.out]
  refine bodyPost_ret (v:=.tuple #[numA false 0 false none 0 0,.int .i64 13]) (by simp [results,Tryz.results85,go_sem,z0,z1,z2,z3]) rfl ?_
  exact ⟨rfl,HBW.out⟩
theorem dnamebyte_a (w : World) : Calls Tryz.prog 84 #[.int .u8 97] w fun e w'=>e = .returned (.bool true)∧w' = w:=by
  go_enter Tryz.func84,Tryz.ntmps84
  go_wp2_with (fail)
  go_ret
  exact ⟨rfl,rfl⟩
theorem dname_a (w : World) (hs : SynCell w) :
    Calls Tryz.prog 53 #[.string ⟨#[97]⟩] w fun e w'=>e = .returned (.bool true)∧Below w.heap.size w w':=by
  have TP:=Lib.hid (tparse_a w hs)
  have NB:=Lib.hid dnamebyte_a
  obtain ⟨s,hse⟩ : ∃ s,(⟨#[97]⟩ : ByteArray) = s:=⟨_,rfl⟩
  have c1 : (s.toList == [46]) = false:=by rw [← hse,Go.ByteArray.toList_eq]; rfl
  have hl : s.data.toList = [97]:=by rw [← hse]
  have hz : s.size = 1:=by rw [Lib.size_eq,hl]; rfl
  have b0 : (s[0]'(by omega)).toNat = 97:=byte_at hl 0 (by omega) 97 rfl
  rw [hse] at TP ⊢
  clear hs hse hl
  go_enter Tryz.func53,Tryz.ntmps53
  go_wp2_with (fail)
  go_loopg [20] 1 (fun kk i wr=>wr = w∧((kk = 1∧i = .int .i64 0) ∨ (kk = 0∧i = .int .i64 1)))
  case atStart=>exact ⟨rfl,.inl ⟨rfl,rfl⟩⟩
  case round =>
    obtain ⟨rfl,⟨rfl,rfl⟩ | ⟨rfl,rfl⟩⟩:=hrel
    · go_wp2_with (fail)
      refine (NB.out _).mono ?_
      rintro e w1 ⟨rfl,rfl⟩
      go_wp2_with (fail)
      go_roundg 0
      case measure=>omega
      case rel=>exact ⟨rfl,.inr ⟨rfl,rfl⟩⟩
    · go_wp2_with (fail)
      refine TP.out.mono ?_
      rintro e w1 ⟨rfl,hb1⟩
      have HB1:=Lib.hid (hb1.alloc hb1.size (numO false 0 false none 0 0))
      clear hb1
      go_wp2_with (fail)
      go_ret
      exact ⟨rfl,HB1.out⟩
end LM
end Go.Proofs.YtnpmfailpgbggaaGreatDoor
namespace Go.Proofs.YtnpmfailpgbggaaGreatDoor
open Go Go.RowKit
namespace LM
attribute [local go_sem] run_store_flt
theorem dwrite_any (lf : Hd → List UInt8) (b : Nat) (w0 : World) (hw0 : b = w0.heap.size) (P : Hd → Prop) (hP : ∀ hh,P hh → WriteC b w0 hh 0 (lf hh)) :
    ∀ (m : Nat) (kids : Fr),kids.size < m → kids.Ok → WOk P kids → ∀ h : Hd,h.Ok kids.len → WH P h kids → DatV w0 h kids → WriteC b w0 h kids.len (txD lf h kids):=by
  intro m
  induction m with
  | zero=>intro kids h; omega
  | succ m ih =>
    intro kids hsz hok hwok h hho hwh hd W cs hb hr hl
    obtain ⟨bb,off,hB,hF⟩:=hd.items
    have rows : ∀ (n : Nat) (o : ByteArray),n ≤ kids.len → cs.length + o.size + (txI lf n true kids).length ≤ 100000000000 → ∀ W,Below b w0 W → WR b cs W → Calls Tryz.prog 44 #[.pointer (some ⟨b,0,none⟩),.string o,.slice h.B n h.cap] W (Wrote b cs (o.data.toList ++ txI lf n true kids) W):=fun n o hn hlo W hb hr =>
      dwitems_any lf kids n hn o h.B h.cap bb off b cs w0 W hb hw0 (fun hp=>hB (by omega)) hF (by have:=hho.cap.1; omega) hho.cap.2 (fun j=>txI lf j true kids) rfl (fun hh k j r _ e=>by
        have:=txI_step lf j true kids hh k r e
        simpa using this) (fun j hj=>txI_mono lf j n true kids hj) hr hlo (fun hh k j r hj e W2 cs2 hb2 hr2 hl2=>by
        have o1:=Fr.Ok.drop j hok
        have o2:=WOk.drop j hwok
        rw [e] at o1 o2
        exact ih k (by have:=size_item e; omega) o1.2.1 o2.2.1 hh o1.1 o2.1 (counted_item hF e).2.2 W2 cs2 hb2 hr2 hl2)
    by_cases hlk : leafK h.k
    · obtain ⟨rfl,hp⟩:=hwh.1 hlk
      have e : txD lf h .nil = lf h:=by unfold txD; rw [if_neg hlk.1,if_neg hlk.2.1,if_neg hlk.2.2]
      rw [e] at hl ⊢
      exact hP h hp W cs hb hr hl
    · by_cases h5 : h.k = 5
      · have e : txD lf h kids = [40] ++ txF lf false true kids ++ [41]:=by unfold txD; rw [if_pos h5]
        rw [e] at hl ⊢
        refine dwrite_row b w0 h kids (txF lf false true kids) ⟨#[40]⟩ (.inl ⟨h5,rfl⟩) W cs hb hr (fun W2 hb2 hr2=>?_) hl
        have:=rows kids.len ⟨#[40]⟩ (Nat.le_refl _) (by rw [txI_all]; simp only [List.length_append] at hl; show _ + 1 + _ ≤ _; have t1 : ([40] : List UInt8).length = 1:=rfl; omega) W2 hb2 hr2
        rw [txI_all] at this
        exact this
      · by_cases h7 : h.k = 7
        · have h6 : h.k ≠ 6:=by omega
          have e : txD lf h kids = [35,40] ++ txF lf false true kids ++ [41]:=by unfold txD; rw [if_neg h5,if_neg h6,if_pos h7]
          rw [e] at hl ⊢
          refine dwrite_row b w0 h kids (txF lf false true kids) ⟨#[35,40]⟩ (.inr ⟨h7,rfl⟩) W cs hb hr (fun W2 hb2 hr2=>?_) hl
          have:=rows kids.len ⟨#[35,40]⟩ (Nat.le_refl _) (by rw [txI_all]; simp only [List.length_append] at hl; show _ + 2 + _ ≤ _; have t1 : ([35,40] : List UInt8).length = 2:=rfl; omega) W2 hb2 hr2
          rw [txI_all] at this
          exact this
        · have h6 : h.k = 6:=by
            unfold leafK at hlk
            omega
          have hn2:=hwh.2 h6
          obtain ⟨hh,k,e1,e2⟩:=last_item kids (by omega)
          have e : txD lf h kids = [40] ++ (txI lf (kids.len - 1) true kids ++ [32,46,32] ++ txD lf hh k) ++ [41]:=by
            rw [← txI_dot lf kids true hh k (by omega) e1]
            unfold txD
            rw [if_neg h5,if_pos h6]
          rw [e] at hl ⊢
          have o1:=Fr.Ok.drop (kids.len - 1) hok
          have o2:=WOk.drop (kids.len - 1) hwok
          rw [e1] at o1 o2
          have hBs:=hB (by omega)
          refine dwrite_dot b w0 h kids _ bb off h6 hBs hn2 hho.cap.1 hho.cap.2 hh k (fun W2 hb2=>(counted_item (FAt.below (hw0 ▸ hb2) _ _ _ hF) e1).2.1) _ W cs hb hr (fun W2 hb2 hr2=>?_) (ih k (by have:=size_item e1; omega) o1.2.1 o2.2.1 hh o1.1 o2.1 (counted_item hF e1).2.2) hl
          have:=rows (kids.len - 1) ⟨#[40]⟩ (by omega) (by simp only [List.length_append] at hl; show _ + 1 + _ ≤ _; have t1 : ([40] : List UInt8).length = 1:=rfl; omega) W2 hb2 hr2
          rw [hBs] at this
          exact this
end LM
namespace LM
attribute [local go_sem] run_store_flt
theorem dwrite_sym (b : Nat) (w0 : World) (h : Hd) (hk : h.k = 4) (hs : h.t.size ≤ 281474976710656) : WriteC b w0 h 0 h.t.data.toList:=by
  intro W cs hb hr hl
  obtain ⟨W0,hW0,hb0,hO,hs0⟩:=dat_block W h 0
  have hbw:=hr.2
  have A2:=Lib.hid (hb0.mono (Nat.le_of_lt hbw))
  have A3:=Lib.hid (keeps8_below (B:=b + 1) hb0)
  have H1:=Lib.hid (wrstr_any b cs h.t W0 (hr.below hb0) (by rw [Lib.size_eq]; omega))
  have HW0:=Lib.hid hW0
  have f0 : (h.k == 0) = false:=by rw [hk]; rfl
  have f1 : (h.k == 1) = false:=by rw [hk]; rfl
  have f2 : (h.k == 2) = false:=by rw [hk]; rfl
  have f3 : (h.k == 3) = false:=by rw [hk]; rfl
  have f4 : (h.k == 4) = true:=by rw [hk]; rfl
  clear hW0 hb0 hO hb hr hl hs0 hk hbw
  go_enter Tryz.func25,Tryz.ntmps25
  go_wp2_with (fail)
  rw [HW0.out]
  refine H1.out.mono ?_
  rintro e w1 ⟨⟨v,rfl⟩,h1,h2,h3⟩
  have B1:=Lib.hid h1
  have B2:=Lib.hid (A2.out.trans h2)
  have B3:=Lib.hid (A3.out.trans h3)
  clear h1 h2 h3
  go_wp2_with (fail)
  go_end0
  exact ⟨⟨_,rfl⟩,B1.out,B2.out,B3.out⟩
theorem dwrite_num (b : Nat) (w0 : World) (h : Hd) (hk : h.k = 0) (t : ByteArray) (hT : ∀ W,Below b w0 W → Calls Tryz.prog 40 #[numA h.fl h.f h.s h.A h.xs.length h.c] W fun e w'=>e = .returned (.string t)∧Below W.heap.size W w') : WriteC b w0 h 0 t.data.toList:=by
  intro W cs hb hr hl
  obtain ⟨W0,hW0,hb0,hO,hs0⟩:=dat_block W h 0
  have hbw:=hr.2
  have A2:=Lib.hid (hb0.mono (Nat.le_of_lt hbw))
  have A3:=Lib.hid (keeps8_below (B:=b + 1) hb0)
  have AR:=Lib.hid (hr.below hb0)
  have HT:=Lib.hid (hT W0 (hb.trans (hb0.mono (Nat.le_of_lt hbw))))
  have HL:=Lib.hid hl
  have HW0:=Lib.hid hW0
  have HBW:=Lib.hid hbw
  have f0 : (h.k == 0) = true:=by rw [hk]; rfl
  clear hW0 hb0 hO hb hr hl hk hbw hT
  go_enter Tryz.func25,Tryz.ntmps25
  go_wp2_with (fail)
  rw [HW0.out]
  refine HT.out.mono ?_
  rintro e w1 ⟨rfl,hb1⟩
  have H1:=Lib.hid (wrstr_any b cs t w1 (AR.out.below hb1) (by have:=HL.out; rw [Lib.size_eq]; omega))
  have A22:=Lib.hid (bel_trans (B:=b) A2.out hb1 (by have:=HBW.out; omega))
  have A32:=Lib.hid (A3.out.trans (keeps8_below (B:=b + 1) hb1))
  clear hb1
  go_wp2_with (fail)
  refine H1.out.mono ?_
  rintro e w2 ⟨⟨v,rfl⟩,h1,h2,h3⟩
  have B1:=Lib.hid h1
  have B2:=Lib.hid (A22.out.trans h2)
  have B3:=Lib.hid (A32.out.trans h3)
  clear h1 h2 h3
  go_wp2_with (fail)
  go_end0
  exact ⟨⟨_,rfl⟩,B1.out,B2.out,B3.out⟩
theorem dsigntext_q (w : World) : Calls Tryz.prog 74 #[.int .i32 34] w fun e w'=>e = .returned (.string ⟨#[92,34]⟩)∧w' = w:=by
  go_enter Tryz.func74,Tryz.ntmps74
  go_wp2_with (fail)
  go_ret
  exact ⟨by rfl,rfl⟩
theorem dwtext_q (b : Nat) (cs : List UInt8) (w : World) (hr : WR b cs w) (hl : cs.length ≤ 100000000000) : Calls Tryz.prog 43 #[.pointer (some ⟨b,0,none⟩),.string ⟨#[34]⟩] w (Wrote b cs [34,92,34,34] w):=by
  have H1:=Lib.hid (wrstr_any b cs ⟨#[34]⟩ w hr (by show _ + 1 ≤ _; omega))
  have hbw:=hr.2
  clear hr
  go_enter Tryz.func43,Tryz.ntmps43
  go_wp2_with (fail)
  refine H1.out.mono ?_
  rintro e w1 ⟨⟨v,rfl⟩,h1,h2,h3⟩
  have B1:=Lib.hid h1
  have B2:=Lib.hid h2
  have B3:=Lib.hid h3
  clear h1 h2 h3
  obtain ⟨s,hse⟩ : ∃ s,(⟨#[34]⟩ : ByteArray) = s:=⟨_,rfl⟩
  have hdl : s.data.toList = [34]:=by rw [← hse]
  have hz : s.size = 1:=by rw [Lib.size_eq,hdl]; rfl
  have b0 : (s[0]'(by omega)).toNat = 34:=byte_at hdl 0 (by omega) 34 rfl
  have ST:=Lib.hid dsigntext_q
  have hlt:=B1.out.2
  have hws : w.heap.size ≤ w1.heap.size:=B2.out.size
  rw [hse]
  clear hse hdl
  go_wp2_with (fail)
  obtain ⟨WI,hWI⟩ : ∃ WI,w1.iter s 0 = WI:=⟨_,rfl⟩
  have hbi : Below w1.heap.size w1 WI:=by rw [← hWI]; exact below_iterD w1 s 0
  have hit : WI.heap[w1.heap.size]? = some (.stringIter s 0):=by rw [← hWI]; exact World.iter_heap w1 s 0
  have I1:=Lib.hid (B1.out.below hbi)
  have I2:=Lib.hid (bel_trans (B:=b) B2.out hbi (by omega))
  have I3:=Lib.hid (B3.out.trans (keeps8_below (B:=b + 1) hbi))
  have IT:=Lib.hid hit
  rw [hWI]
  clear hbi hit hWI
  go_loopg [] 1 (fun kk wr=>Below b w wr∧Keeps8 (b + 1) w wr∧((kk = 1∧wr.heap[w1.heap.size]? = some (.stringIter s 0)∧WR b (cs ++ [34]) wr) ∨ (kk = 0∧wr.heap[w1.heap.size]? = some (.stringIter s 1)∧WR b (cs ++ [34] ++ [92,34]) wr)))
  case atStart=>exact ⟨I2.out,I3.out,.inl ⟨rfl,IT.out,I1.out⟩⟩
  case round =>
    obtain ⟨r1,r2,⟨rfl,r3,r4⟩ | ⟨rfl,r3,r4⟩⟩:=hrel
    · have hnx : ∀ ty,(Instr.next (.pointer (some ⟨w1.heap.size,0,none⟩)) true ty).run Tryz.prog wr = .ok (.tuple #[.bool true,.int .i64 ((0 : Nat) : Int),.int .i32 ((34 : Nat) : Int)]) (wr.iterAt w1.heap.size s 1):=fun ty=>by
        rw [Lib.run_next_ascii_at wr w1.heap.size s 0 ty r3 (by omega) (by rw [b0]; decide),b0]
      have q4 : WR b (cs ++ [34]) (wr.iterAt w1.heap.size s 1):=⟨r4.1.iterAt r3 1,by rw [Lib.iterAt_size]; exact r4.2⟩
      have q3:=Lib.iterAt_heap wr w1.heap.size s 0 1 r3
      have q1:=Lib.below_iterAt r1 (k:=w1.heap.size) (by omega) s 1
      have q2 : Keeps8 (b + 1) w (wr.iterAt w1.heap.size s 1):=⟨by rw [Lib.iterAt_size]; exact r2.size,fun k o hB hk ho=>by
        have hkl:=heap_lt hk
        rw [Lib.iterAt_other _ _ _ _ _ (by omega)]
        exact r2.same k o hB hk ho⟩
      have H2:=Lib.hid (wrstr_any b _ ⟨#[92,34]⟩ _ q4 (by simp only [List.length_append]; show _ + 1 + 2 ≤ _; omega))
      have Q1:=Lib.hid q1
      have Q2:=Lib.hid q2
      have Q3:=Lib.hid q3
      clear q1 q2 q3 q4 r1 r2 r3 r4
      go_wp2_with (fail)
      refine (ST.out _).mono ?_
      rintro e w2 ⟨rfl,rfl⟩
      go_wp2_with (fail)
      refine H2.out.mono ?_
      rintro e w3 ⟨⟨v3,rfl⟩,h1,h2,h3⟩
      have C1:=Lib.hid h1
      have C2:=Lib.hid (Q1.out.trans h2)
      have C3:=Lib.hid (Q2.out.trans h3)
      have C4:=Lib.hid (h3.same w1.heap.size _ (by omega) Q3.out rfl)
      clear h1 h2 h3 hnx
      go_wp2_with (fail)
      go_roundg 0
      case measure=>omega
      case rel=>exact ⟨C2.out,C3.out,.inr ⟨rfl,C4.out,C1.out⟩⟩
    · have hnx : ∀ ty,(Instr.next (.pointer (some ⟨w1.heap.size,0,none⟩)) true ty).run Tryz.prog wr = .ok (.tuple #[.bool false]) wr:=fun ty=>Lib.run_next_end_at wr w1.heap.size s 1 ty r3 (by omega)
      have H2:=Lib.hid (wrstr_any b _ ⟨#[34]⟩ _ r4 (by simp only [List.length_append]; show _ + 1 + 2 + 1 ≤ _; omega))
      have R1:=Lib.hid r1
      have R2:=Lib.hid r2
      clear r1 r2 r3 r4
      go_wp2_with (fail)
      refine H2.out.mono ?_
      rintro e w3 ⟨⟨v3,rfl⟩,h1,h2,h3⟩
      have C1:=Lib.hid h1
      have C2:=Lib.hid (R1.out.trans h2)
      have C3:=Lib.hid (R2.out.trans h3)
      clear h1 h2 h3 hnx
      go_wp2_with (fail)
      go_end0
      exact ⟨⟨_,rfl⟩,by have:=C1.out; simp only [List.append_assoc] at this; exact this,C2.out,C3.out⟩
end LM
namespace LM
attribute [local go_sem] run_store_flt
theorem dwrite_str (b : Nat) (w0 : World) (h : Hd) (hk : h.k = 3) (t : List UInt8) (hT : ∀ W cs,WR b cs W → cs.length + t.length ≤ 100000000000 → Calls Tryz.prog 43 #[.pointer (some ⟨b,0,none⟩),.string h.t] W (Wrote b cs t W)) : WriteC b w0 h 0 t:=by
  intro W cs hb hr hl
  obtain ⟨W0,hW0,hb0,hO,hs0⟩:=dat_block W h 0
  have hbw:=hr.2
  have A2:=Lib.hid (hb0.mono (Nat.le_of_lt hbw))
  have A3:=Lib.hid (keeps8_below (B:=b + 1) hb0)
  have H1:=Lib.hid (hT W0 cs (hr.below hb0) hl)
  have HW0:=Lib.hid hW0
  have f0 : (h.k == 0) = false:=by rw [hk]; rfl
  have f1 : (h.k == 1) = false:=by rw [hk]; rfl
  have f2 : (h.k == 2) = false:=by rw [hk]; rfl
  have f3 : (h.k == 3) = true:=by rw [hk]; rfl
  clear hW0 hb0 hO hb hr hl hs0 hk hbw hT
  go_enter Tryz.func25,Tryz.ntmps25
  go_wp2_with (fail)
  rw [HW0.out]
  refine H1.out.mono ?_
  rintro e w1 ⟨⟨v,rfl⟩,h1,h2,h3⟩
  have B1:=Lib.hid h1
  have B2:=Lib.hid (A2.out.trans h2)
  have B3:=Lib.hid (A3.out.trans h3)
  clear h1 h2 h3
  go_wp2_with (fail)
  go_end0
  exact ⟨⟨_,rfl⟩,B1.out,B2.out,B3.out⟩
theorem new_builder (w : World) : ∃ W0,w.alloc (.cells #[.pointer none,.slice none 0 0] 50) = W0∧Below w.heap.size w W0∧WR w.heap.size [] W0 :=
  ⟨_,rfl,(Below.refl _ w).alloc (Nat.le_refl _) _,Lib.IsBuilderF.of (Lib.fresh_isBuilder _ _ w),by simp⟩
theorem dprint_not (nm : ByteArray → Bool) (kids : Fr) (hok : kids.Ok) (h : Hd) (w : World) (hd : DatV w h kids) (hho : h.Ok kids.len) (hu : UT w) (hnm : ∀ t,(h.k = 4∧t = h.t) ∨ SymIn t kids → CallB w 53 #[.string t] (.bool (nm t)))
    (hr : rightD nm h kids = false) :
    Calls Tryz.prog 8 #[datA h kids.len] w fun e w'=>e = .returned (.tuple #[.string ⟨#[]⟩,.int .i64 51])∧Below w.heap.size w w':=by
  obtain ⟨W0,hW0,hb0,ho,hs0⟩:=dat_block w h kids.len
  have HR:=Lib.hid (dRight_any nm kids hok h W0 (hd.below hb0) hho (hu.keep hb0) fun t ht=>callB_keep (hnm t ht) hb0)
  rw [hr] at HR
  have HB0:=Lib.hid hb0
  have HW0:=Lib.hid hW0
  obtain ⟨x0,x1,x2,x3,x4,x5,x6,x7⟩:=C8.of_block ho
  clear hW0 hb0 ho hd hho hu hnm hr hok hs0
  go_enter Tryz.func8,Tryz.ntmps8
  go_wp2_with (fail)
  rw [HW0.out]
  go_wp2_with (fail)
  refine HR.out.mono ?_
  rintro e w1 ⟨rfl,hb1⟩
  have HB1:=Lib.hid (bel_trans (B:=w.heap.size) HB0.out hb1)
  clear hb1
  go_wp2_with (fail)
  go_ret2
  exact ⟨by rfl,HB1.out⟩
theorem dprint_right (nm : ByteArray → Bool) (lf : Hd → List UInt8) (kids : Fr) (hok : kids.Ok) (h : Hd) (w : World) (hd : DatV w h kids) (hho : h.Ok kids.len) (hu : UT w) (hnm : ∀ t,(h.k = 4∧t = h.t) ∨ SymIn t kids → CallB w 53 #[.string t] (.bool (nm t)))
    (hr : rightD nm h kids = true) (P : Hd → Prop) (hP : ∀ b w0,b = w0.heap.size → Below w.heap.size w w0 → ∀ hh,P hh → WriteC b w0 hh 0 (lf hh)) (hw : WOk P kids) (hwh : WH P h kids) (hl : (txD lf h kids).length ≤ 100000000000) :
    Calls Tryz.prog 8 #[datA h kids.len] w fun e w'=>e = .returned (.tuple #[.string ⟨(txD lf h kids).toArray⟩,.int .i64 0])∧Below w.heap.size w w':=by
  obtain ⟨W0,hW0,hb0,ho,hs0⟩:=dat_block w h kids.len
  have HR:=Lib.hid (dRight_any nm kids hok h W0 (hd.below hb0) hho (hu.keep hb0) fun t ht=>callB_keep (hnm t ht) hb0)
  rw [hr] at HR
  obtain ⟨tx,htx⟩ : ∃ tx,txD lf h kids = tx:=⟨_,rfl⟩
  have HWR:=Lib.hid fun (w2 : World) (h2 : Below w.heap.size w w2)=>dwrite_any lf w2.heap.size w2 rfl P (fun hh hp=>hP _ _ rfl h2 hh hp) (kids.size + 1) kids (by omega) hok hw h hho hwh (hd.below h2)
  rw [htx] at HWR hl ⊢
  have HL:=Lib.hid hl
  have HB0:=Lib.hid hb0
  have HW0:=Lib.hid hW0
  have HO:=Lib.hid ho
  have HS:=Lib.hid hs0
  obtain ⟨x0,x1,x2,x3,x4,x5,x6,x7⟩:=C8.of_block ho
  clear hW0 hb0 ho hd hho hu hnm hr hok hs0 hw hwh hl hP htx
  go_enter Tryz.func8,Tryz.ntmps8
  go_wp2_with (fail)
  rw [HW0.out]
  go_wp2_with (fail)
  refine HR.out.mono ?_
  rintro e w1 ⟨rfl,hb1⟩
  have HB1:=Lib.hid (bel_trans (B:=w.heap.size) HB0.out hb1)
  obtain ⟨W1,hW1,hbb,hwr⟩:=new_builder w1
  obtain ⟨y0,y1,y2,y3,y4,y5,y6,y7⟩:=(C8.of_block HO.out).keep hb1 HS.out
  simp only [Nat.zero_add] at y0 y1 y2 y3 y4 y5 y6 y7
  clear x0 x1 x2 x3 x4 x5 x6 x7
  have hz1 : w.heap.size < w1.heap.size:=Nat.lt_of_lt_of_le HS.out hb1.size
  have HW1:=Lib.hid hW1
  have HBB:=Lib.hid hbb
  have HC:=Lib.hid (HWR.out w1 HB1.out W1 [] hbb hwr (by have:=HL.out; simpa using this))
  clear hb1 hW1 hbb hwr
  go_wp2_with (fail)
  rw [HW1.out]
  go_wp2_with (fail)
  refine HC.out.mono ?_
  rintro e w2 ⟨⟨v,rfl⟩,hr2,hb2,hk2⟩
  have HR2:=Lib.hid hr2
  have HK2:=Lib.hid (bel_trans (B:=w.heap.size) HB1.out (HBB.out.trans hb2))
  clear hr2 hb2 hk2
  go_wp2_with (fail)
  refine (Tryz.Builder_String_any_k _ _ _ _ HR2.out.1 (Nat.le_of_lt HR2.out.2)).mono ?_
  rintro e w3 ⟨rfl,_,hb3,_⟩
  have HK3:=Lib.hid (HK2.out.trans (hb3.mono HB1.out.size))
  clear hb3
  go_wp2_with (fail)
  go_ret2
  exact ⟨by rfl,HK3.out⟩
end LM
end Go.Proofs.YtnpmfailpgbggaaGreatDoor
namespace Go.Proofs.YtnpmfailpgbggaaGreatDoor
open Go Go.Shelf Go.RowKit Go.Sort Go.Lib
namespace LM
theorem ftoaF_pzero (b B : Nat) (W0 : World) (v : Value) (w : World) (hbe : b = 0) (hob : OB B W0 0 [] v [] w) :
    Calls Tryz.prog 153 #[v,.float .f64 b,.int .u8 102,.int .i64 (-1)] w fun r w' =>
      ∃ v' g ds,r = .returned v'∧OB B W0 g ds v' (fmtF false [] 0) w':=by
  obtain ⟨bq,hbq⟩ : ∃ q,b / 4503599627370496 = q:=⟨_,rfl⟩
  have hbqi : (b : Int) / 4503599627370496 = (bq : Int):=by omega
  have hbql : bq < 4096:=by omega
  have hex2 : bits .and .i64 (bq : Int) 2047 = 0:=by
    have h:=i64_and_nat bq 2047 (by omega) (by decide)
    have h2 : bq &&& 2047 = 0:=by rw [nat_mask11]; omega
    rw [h2] at h
    exact h
  have hfr2 : bits .and .u64 (b : Int) 4503599627370495 = 0:=by
    have h:=u64_and_nat b 4503599627370495 (by omega) (by decide)
    have h2 : b &&& 4503599627370495 = 0:=by
      rw [show b &&& 4503599627370495 = b % 2 ^ 52 from Nat.and_two_pow_sub_one_eq_mod b 52]
      omega
    rw [h2] at h
    exact h
  have hneg2 : ((b : Int) / 9223372036854775808 != 0) = false:=by
    rw [bne_eq_false_iff_eq]; omega
  have RB:=run_sbits b
  have FZ:=Lib.hid fun k=>fmtF_zero B W0 v [] (w.drewN k) false 0 (hob.drewN k) (by decide)
  clear hbe hbq hob
  go_enter Tryz.func153,Tryz.ntmps153
  go_wp2_with (fail)
  go_quiet (fail)
  go_wp2_with (fail)
  refine (FZ.out _).mono ?_
  rintro r w4 ⟨v4,rfl,hob4⟩
  go_wp2
  go_ret
  exact ⟨_,_,_,rfl,hob4⟩
theorem flotext_pinf (w : World) :
    Calls Tryz.prog 71 #[.float .f64 9218868437227405312] w fun e w'=>e = .returned (.string ⟨#[43,105,110,102,46,48]⟩)∧w = w':=by
  have A1:=Lib.hid fun W=>abs_any 9218868437227405312 W (by decide)
  have hN:=fun W=>isNaN_any 9218868437227405312 W (by decide)
  rw [decide_eq_false (show ¬ nanW 9218868437227405312 by unfold nanW; decide)] at hN
  have N1:=Lib.hid hN
  have P1:=Lib.hid fun W=>isInf_pos 9218868437227405312 W true (by decide +kernel)
  clear hN
  go_enter Tryz.func71,Tryz.ntmps71
  go_wp2_with (fail)
  refine (A1.out _).mono ?_
  rintro e w' ⟨rfl,rfl⟩
  go_wp2_with (fail)
  refine (N1.out _).mono ?_
  rintro e w' ⟨rfl,rfl⟩
  go_wp2_with (fail)
  refine (P1.out _).mono ?_
  rintro e w' ⟨rfl,rfl⟩
  go_wp2_with (fail)
  go_ret
  exact ⟨rfl,rfl⟩
theorem rtext_nan (b : Nat) (w : World) (hb : b < 18446744073709551616) (hn : canW b = 9221120237041090561) :
    Calls Tryz.prog 75 #[.float .f64 b] w fun e w'=>e = .returned (.string ⟨#[43,110,97,110,46,48]⟩)∧w = w':=by
  have hB:=fun W=>rbits_any b W hb
  rw [hn] at hB
  have B1:=Lib.hid hB
  clear hB hn
  go_enter Tryz.func75,Tryz.ntmps75
  go_wp2_with (fail)
  refine (B1.out _).mono ?_
  rintro e w' ⟨rfl,rfl⟩
  go_wp2_with (fail)
  go_ret
  exact ⟨rfl,rfl⟩
theorem rtext_pinf (b : Nat) (w : World) (hb : b < 18446744073709551616) (hn : canW b = 9218868437227405312) :
    Calls Tryz.prog 75 #[.float .f64 b] w fun e w'=>e = .returned (.string ⟨#[43,105,110,102,46,48]⟩)∧w = w':=by
  have hB:=fun W=>rbits_any b W hb
  rw [hn] at hB
  have B1:=Lib.hid hB
  clear hB hn
  go_enter Tryz.func75,Tryz.ntmps75
  go_wp2_with (fail)
  refine (B1.out _).mono ?_
  rintro e w' ⟨rfl,rfl⟩
  go_wp2_with (fail)
  go_ret
  exact ⟨rfl,rfl⟩
theorem rtext_minf (b : Nat) (w : World) (hb : b < 18446744073709551616) (hn : canW b = 18442240474082181120) :
    Calls Tryz.prog 75 #[.float .f64 b] w fun e w'=>e = .returned (.string ⟨#[45,105,110,102,46,48]⟩)∧w = w':=by
  have hB:=fun W=>rbits_any b W hb
  rw [hn] at hB
  have B1:=Lib.hid hB
  clear hB hn
  go_enter Tryz.func75,Tryz.ntmps75
  go_wp2_with (fail)
  refine (B1.out _).mono ?_
  rintro e w' ⟨rfl,rfl⟩
  go_wp2_with (fail)
  go_ret
  exact ⟨rfl,rfl⟩
end LM
namespace LM
end LM
namespace LM
theorem lsize (l : List UInt8) : (⟨l.toArray⟩ : ByteArray).size = l.length:=by
  show l.toArray.size = _
  rw [List.size_toArray]
theorem pointB_len (l : List UInt8) : (pointB l).length ≤ l.length + 2:=by
  unfold pointB
  split
  · omega
  · rw [List.length_append]
    exact Nat.le_refl _
def TextBoth2 (b : Nat) : Prop:=∃ t : ByteArray,t.size ≤ 2000∧(∀ W,FV W → Calls Tryz.prog 71 #[.float .f64 b] W fun e w'=>e = .returned (.string t)∧Below W.heap.size W w') ∧
  ∀ W,FV W → Calls Tryz.prog 75 #[.float .f64 b] W fun e w'=>e = .returned (.string t)∧Below W.heap.size W w'
theorem text_both2 (b : Nat) (hb : b < 18446744073709551616) : TextBoth2 b:=by
  have same : ∀ {f : FuncId} {args : Array Value} {t : ByteArray},(∀ W,Calls Tryz.prog f args W fun e w'=>e = .returned (.string t)∧W = w') → ∀ W,FV W → Calls Tryz.prog f args W fun e w'=>e = .returned (.string t)∧Below W.heap.size W w':=fun h W _=>(h W).mono fun e w' ⟨h1,h2⟩=>⟨h1,h2 ▸ Below.refl _ _⟩
  obtain ⟨a,ha⟩ : ∃ a,b % 9223372036854775808 = a:=⟨_,rfl⟩
  rcases Nat.lt_trichotomy a 9218868437227405312 with hlt | heq | hgt
  · have hn : ¬ nanW b:=by unfold nanW; omega
    have hcw : canW b = b:=by unfold canW; rw [if_neg hn]
    obtain ⟨f1,f2,f3,f4⟩:=fin_facts b a hb ha hlt
    by_cases h0 : a = 0
    · have hz : (FloatKind.f64.format.order a 0 == some .eq) = true:=by rw [f4,decide_eq_true h0]
      have hbb : b = 0 ∨ b = 9223372036854775808:=by omega
      rcases hbb with rfl | rfl
      · exact ⟨_,by decide +kernel,fun W hv=>flotext_f 0 a (fmtF false [] 0) W hb ha f1 f2 f3 (.inl hz) (by decide +kernel) (by decide +kernel) (fun v w1 hob=>ftoaF_pzero _ _ _ v w1 rfl hob),
          fun W hv=>rtext_f 0 a 0 (fmtF false [] 0) W hb ha hcw (by decide) (by decide) (by decide) (.inl hz) (by decide +kernel) (by decide +kernel) (fun v w1 hob=>ftoaF_pzero _ _ _ v w1 rfl hob)⟩
      · exact ⟨_,by decide +kernel,fun W hv=>flotext_f 9223372036854775808 a (fmtF true [] 0) W hb ha f1 f2 f3 (.inl hz) (by decide +kernel) (by decide +kernel) (fun v w1 hob=>ftoaF_mzero _ _ _ v w1 rfl hob),
          fun W hv=>rtext_f 9223372036854775808 a 9223372036854775808 (fmtF true [] 0) W hb ha hcw (by decide) (by decide) (by decide) (.inl hz) (by decide +kernel) (by decide +kernel) (fun v w1 hob=>ftoaF_mzero _ _ _ v w1 rfl hob)⟩
    · have hz : (FloatKind.f64.format.order a 0 == some .eq) = false:=by rw [f4,decide_eq_false h0]
      obtain ⟨neg,hneg⟩ : ∃ neg,decide (9223372036854775808 ≤ b) = neg:=⟨_,rfl⟩
      obtain ⟨D,dp,hf,hE,hF⟩:=ftoa_fin b neg hb hneg (by omega) (by omega)
      have hdp:=hf.dp
      rcases form_or a with hz1 | hz1
      · have h52 : 4503599627370496 ≤ b % 9223372036854775808:=by
          rcases Nat.lt_or_ge a 4503599627370496 with h | h
          · obtain ⟨hz2,-⟩:=hz1
            rw [small_facts a h] at hz2
            cases hz2
          · omega
        obtain ⟨p1,p2⟩:=fmtF_len (neg:=neg) hf
        exact ⟨_,by rw [lsize]; have:=pointB_len (fmtF neg D dp); omega,fun W hv=>ftext_f b a neg D dp hf hb ha hlt h0 hz1 (hF h52) W hv,
          fun W hv=>rtext_f b a b (fmtF neg D dp) W hb ha hcw (by omega) (by omega) (by omega) (.inr ⟨hz,hz1.1,hz1.2⟩) p1 p2 (hF h52 W hv)⟩
      · obtain ⟨sg,P,T,e1,e2,e3,e4,e5,e6⟩:=exp_itoa (x:=dp - 1) (by omega) (by omega)
        obtain ⟨p1,p2⟩:=pre_len (neg:=neg) hf
        have hil : (Lib.itoa (dp - 1)).length ≤ 4:=by
          have h3 : T.length ≤ P.length:=by
            rcases e3 with ⟨c,h1,h2⟩ | ⟨h1,_⟩
            · rw [h1,h2]; exact Nat.le_of_ble_eq_true rfl
            · rw [h1]; exact Nat.le_refl _
          rcases e2 with ⟨_,h⟩ | ⟨_,h⟩
          · rw [h]; omega
          · rw [h,List.length_cons]; omega
        exact ⟨_,by rw [lsize,List.length_append,List.length_cons]; have:=pointB_len (preE neg D); omega,fun W hv=>ftext_e b a neg D dp hf hb ha hlt h0 hz1 hE W hv,
          fun W hv=>rtext_e b a b (fmtE neg D dp) (preE neg D) (expB (dp - 1)) P T sg (dp - 1) W hb ha hcw (by omega) (by omega) (by omega) hz hz1 (fmtE_split _ _ _) (pre_e hf) p1 e1 e2 e3 e4 e5 e6 (hE W hv)⟩
  · have hn : ¬ nanW b:=by unfold nanW; omega
    have hcw : canW b = b:=by unfold canW; rw [if_neg hn]
    have hbb : b = 9218868437227405312 ∨ b = 18442240474082181120:=by omega
    rcases hbb with rfl | rfl
    · exact ⟨_,by decide,same flotext_pinf,same fun W=>rtext_pinf _ W hb hcw⟩
    · exact ⟨_,by decide,same flotext_minf,same fun W=>rtext_minf _ W hb hcw⟩
  · have hn : nanW b:=by unfold nanW; omega
    have hcw : canW b = 9221120237041090561:=by unfold canW; rw [if_pos hn]
    exact ⟨_,by decide,same fun W=>flotext_nan b W hb hn,same fun W=>rtext_nan b W hb hcw⟩
end LM
end Go.Proofs.YtnpmfailpgbggaaGreatDoor
namespace Go.Proofs.YtnpmfailpgbggaaGreatDoor
open Go Go.RowKit
namespace LM
def hexD (n : Nat) : UInt8:=UInt8.ofNat (if n < 10 then 48 + n else 87 + n)
def hexF : Nat → Nat → List UInt8
  | 0,_=>[]
  | f + 1,n=>if n < 16 then [hexD n] else hexF f (n / 16) ++ [hexD (n % 16)]
theorem hexF_len : ∀ f n,(hexF f n).length ≤ f:=by
  intro f
  induction f with
  | zero=>intro n; exact Nat.le_refl _
  | succ f ih =>
    intro n
    unfold hexF
    split
    · show 1 ≤ _; omega
    · rw [List.length_append]
      have:=ih (n / 16)
      show _ + 1 ≤ _
      omega
abbrev hexT : ByteArray:=⟨#[48,49,50,51,52,53,54,55,56,57,97,98,99,100,101,102]⟩
theorem hexT_part : ∀ n : Fin 16,(hexT.extract n.val (n.val + 1)).data.toList = [hexD n.val]:=by decide
theorem hexT_at (n : Nat) (h : n < 16) : hexT.extract n (n + 1) = ⟨#[hexD n]⟩:=by
  have:=hexT_part ⟨n,h⟩
  apply ByteArray.ext
  apply Array.toList_inj.1
  exact this
theorem rhex_any : ∀ (f n : Nat),n < 16 ^ (f + 1) → f ≤ 7 → ∀ w : World,Calls Tryz.prog 77 #[.int .i64 (n : Int)] w fun e w'=>e = .returned (.string ⟨(hexF (f + 1) n).toArray⟩)∧Below w.heap.size w w':=by
  intro f
  induction f with
  | zero =>
    intro n hn hf w
    have h16 : n < 16:=by simpa using hn
    obtain ⟨T,hT⟩ : ∃ T : ByteArray,(⟨#[48,49,50,51,52,53,54,55,56,57,97,98,99,100,101,102]⟩ : ByteArray) = T:=⟨_,rfl⟩
    have hTs : T.size = 16:=by rw [← hT]; rfl
    have d1 : decide ((n : Int) < 16) = true:=decide_eq_true (by omega)
    have d2 : decide (n < 16) = true:=decide_eq_true h16
    have w1 : IntKind.i64.wrap ((n : Int) + 1) = ((n + 1 : Nat) : Int):=by rw [IntKind.wrap_i64]; omega
    have hx : T.extract n (n + 1) = ⟨#[hexD n]⟩:=by rw [← hT]; exact hexT_at n h16
    have HE : Hid (hexF (0 + 1) n = [hexD n]):=Lib.hid (by unfold hexF; rw [if_pos h16])
    have l1 : n + 1 ≤ T.size:=by omega
    go_enter Tryz.func77,Tryz.ntmps77
    rw [hT]
    clear hT hn h16
    go_wp2_with (fail)
    go_ret
    exact ⟨by rw [HE.out]; rfl,Below.refl _ _⟩
  | succ f ih =>
    intro n hn hf w
    obtain ⟨T,hT⟩ : ∃ T : ByteArray,(⟨#[48,49,50,51,52,53,54,55,56,57,97,98,99,100,101,102]⟩ : ByteArray) = T:=⟨_,rfl⟩
    have hTs : T.size = 16:=by rw [← hT]; rfl
    by_cases h16 : n < 16
    · have d1 : decide ((n : Int) < 16) = true:=decide_eq_true (by omega)
      have d2 : decide (n < 16) = true:=decide_eq_true h16
      have w1 : IntKind.i64.wrap ((n : Int) + 1) = ((n + 1 : Nat) : Int):=by rw [IntKind.wrap_i64]; omega
      have hx : T.extract n (n + 1) = ⟨#[hexD n]⟩:=by rw [← hT]; exact hexT_at n h16
      have HE : Hid (hexF (f + 1 + 1) n = [hexD n]):=Lib.hid (by unfold hexF; rw [if_pos h16])
      have l1 : n + 1 ≤ T.size:=by omega
      go_enter Tryz.func77,Tryz.ntmps77
      rw [hT]
      clear hT hn h16 ih
      go_wp2_with (fail)
      go_ret
      exact ⟨by rw [HE.out]; rfl,Below.refl _ _⟩
    · have d1 : decide ((n : Int) < 16) = false:=decide_eq_false (by omega)
      have d2 : decide (n < 16) = false:=decide_eq_false h16
      have h1 : n / 16 < 16 ^ (f + 1):=by rw [Nat.div_lt_iff_lt_mul (by decide)]; rw [Nat.pow_succ] at hn; exact hn
      obtain ⟨q,hq⟩ : ∃ q,n / 16 = q:=⟨_,rfl⟩
      obtain ⟨r,hr⟩ : ∃ r,n % 16 = r:=⟨_,rfl⟩
      have hr16 : r < 16:=by omega
      have HE : Hid (hexF (f + 1 + 1) n = hexF (f + 1) q ++ [hexD r]):=Lib.hid (by rw [hexF,if_neg h16,hq,hr])
      obtain ⟨t,ht⟩ : ∃ t : ByteArray,(⟨(hexF (f + 1) q).toArray⟩ : ByteArray) = t:=⟨_,rfl⟩
      have hts : t.size ≤ 8:=by
        rw [← ht]
        have:=hexF_len (f + 1) q
        show (hexF (f + 1) q).toArray.size ≤ 8
        rw [List.size_toArray]
        omega
      have HX:=Lib.hid ht
      rw [hq] at h1
      have IH:=Lib.hid (ih q h1 (by omega))
      rw [ht] at IH
      have w1 : IntKind.i64.wrap ((r : Int) + 1) = ((r + 1 : Nat) : Int):=by rw [IntKind.wrap_i64]; omega
      have t1 : (n : Int).tdiv 16 = (q : Int):=by rw [← hq]; rfl
      have t2 : (n : Int).tmod 16 = (r : Int):=by rw [← hr]; rfl
      have w2 : IntKind.i64.wrap (q : Int) = (q : Int):=by
        have hq8 : q < 16 ^ 7:=Nat.lt_of_lt_of_le h1 (Nat.pow_le_pow_right (by decide) (by omega))
        rw [IntKind.wrap_i64]
        have : (16 : Nat) ^ 7 = 268435456:=by decide
        omega
      have w3 : IntKind.i64.wrap (r : Int) = (r : Int):=by rw [IntKind.wrap_i64]; omega
      have hx : T.extract r (r + 1) = ⟨#[hexD r]⟩:=by rw [← hT]; exact hexT_at r hr16
      have l1 : r + 1 ≤ T.size:=by omega
      go_enter Tryz.func77,Tryz.ntmps77
      rw [hT]
      clear hT hn h16 ih hq hr h1 ht
      go_wp2_with (fail)
      go_region_with (go_at_call 77; (first | refine (IH.out _).mono ?_); rintro e w3 ⟨rfl,hb3⟩; have HB3 : Hid (Below w.heap.size w w3):=Lib.hid (by first | exact hb3 | exact ((Below.refl _ w).drew).trans (hb3.mono (by simp))); clear hb3)
      all_goals
        go_wp2_with (fail)
        go_ret
        exact ⟨by rw [HE.out,← HX.out]; rfl,HB3.out⟩
theorem pow2_16 (w : World) : Calls Tryz.prog 213 #[.int .i64 16] w fun e w'=>e = .returned (.bool true)∧w' = w:=by
  have b1 : bits .and .i64 16 15 = 0:=by decide
  go_enter Tryz.func213,Tryz.ntmps213
  go_wp2_with (fail)
  go_ret
  exact ⟨rfl,rfl⟩
end LM
namespace LM
def DB (w : World) : Prop:=w.cell? ⟨12,15,none⟩ = some (.int .u8 4)∧12 < w.heap.size
theorem DB.below {w w' : World} (h : DB w) (hb : Below w.heap.size w w') : DB w':=⟨(hb.cell (p:=⟨12,15,none⟩) h.2).trans h.1,Nat.lt_of_lt_of_le h.2 hb.size⟩
theorem tz64_16 (w : World) (hd : DB w) : Calls Tryz.prog 244 #[.int .u64 16] w fun e w'=>e = .returned (.int .i64 4)∧w' = w:=by
  have hc:=hd.1
  have b1 : IntKind.u64.wrap (-16) = 18446744073709551600:=by decide
  have b2 : bits .and .u64 16 18446744073709551600 = 16:=by decide
  have b3 : IntKind.u64.wrap (16 * 285870213051353865) = 4573923408821661840:=by decide
  have b4 : (4573923408821661840 : Int) / 288230376151711744 = 15:=by decide
  go_enter Tryz.func244,Tryz.ntmps244
  go_wp2_with (fail)
  go_ret
  exact ⟨rfl,rfl⟩
theorem tz_16 (w : World) (hd : DB w) : Calls Tryz.prog 214 #[.int .u64 16] w fun e w'=>e = .returned (.int .i64 4)∧w' = w:=by
  have T1:=Lib.hid (tz64_16 w hd)
  clear hd
  go_enter Tryz.func214,Tryz.ntmps214
  go_wp2_with (fail)
  refine T1.out.mono ?_
  rintro e w1 ⟨rfl,rfl⟩
  go_wp2_with (fail)
  go_ret
  exact ⟨rfl,rfl⟩
abbrev digT : ByteArray:=⟨#[48,49,50,51,52,53,54,55,56,57,97,98,99,100,101,102,103,104,105,106,107,108,109,110,111,112,113,114,115,116,117,118,119,120,121,122]⟩
theorem digT_part : ∀ n : Fin 16,digT.data[n.val]? = some (hexD n.val):=by decide
theorem digT_at (T : ByteArray) (hT : digT = T) (r : Nat) (hr : r < 16) : ∀ h : r < T.size,(T[r]'h).toNat = (hexD r).toNat:=fun h=>by
  have h1:=digT_part ⟨r,hr⟩
  subst hT
  have h2 : digT.data[r]? = some (digT[r]'h):=by
    rw [Array.getElem?_eq_getElem (show r < digT.data.size from h)]
    rfl
  rw [h2] at h1
  injection h1 with h1
  rw [h1]
def HDig (w : World) (g : Nat) (acc : List UInt8) : Prop:=∃ cs,w.heap[g]? = some (.cells cs 214 (0,0))∧cs.size = 65∧∀ j (h : j < acc.length),cs[65 - acc.length + j]? = some (.int .u8 ((acc[j]'h).toNat : Int))
theorem HDig.cell {w : World} {g : Nat} {acc : List UInt8} (h : HDig w g acc) {i : Nat} (hi : i < 65) : (∃ v,w.cell? ⟨g,i,none⟩ = some v)∧w.frozen? ⟨g,i,none⟩ = false:=by
  obtain ⟨cs,h1,h2,-⟩:=h
  exact ⟨⟨cs[i]'(by omega),by simp only [World.cell?,h1]; exact Array.getElem?_eq_getElem (by omega)⟩,by simp [World.frozen?,h1]⟩
theorem HDig.push {w : World} {g : Nat} {acc : List UInt8} (h : HDig w g acc) (hl : acc.length ≤ 60) (d : UInt8) : HDig (w.setCell ⟨g,64 - acc.length,none⟩ (.int .u8 (d.toNat : Int))) g (d :: acc):=by
  obtain ⟨cs,h1,h2,h3⟩:=h
  refine ⟨cs.setIfInBounds (64 - acc.length) (.int .u8 (d.toNat : Int)),heap_setCell_same w g _ cs _ _ h1,by rw [Array.size_setIfInBounds]; exact h2,fun j hj=>?_⟩
  have hl1 : (d :: acc).length = acc.length + 1:=rfl
  rw [hl1] at hj ⊢
  cases j with
  | zero =>
    rw [show 65 - (acc.length + 1) + 0 = 64 - acc.length by omega,Array.getElem?_setIfInBounds_self_of_lt (by omega)]
    rfl
  | succ j =>
    rw [Array.getElem?_setIfInBounds_ne (by omega),show 65 - (acc.length + 1) + (j + 1) = 65 - acc.length + j by omega]
    exact h3 j (by omega)
theorem and15 (q : Nat) (hq : q < 18446744073709551616) : bits .and .u64 (q : Int) 15 = ((q % 16 : Nat) : Int):=by
  have h:=u64_and_nat q 15 hq (by decide)
  rw [Nat.and_two_pow_sub_one_eq_mod q 4] at h
  exact h
theorem fbits_16 (N : Nat) (hN : N < 4294967296) (w : World) (hd : DB w) : Calls Tryz.prog 171 #[.slice none 0 0,.int .u64 (N : Int),.int .i64 16,.bool false,.bool false] w fun e w'=>e = .returned (.tuple #[.slice none 0 0,.string ⟨(hexF 8 N).toArray⟩])∧Below w.heap.size w w':=by
  have P16:=Lib.hid pow2_16
  have hN8 : N < 16 ^ (7 + 1):=by
    have : (16 : Nat) ^ (7 + 1) = 4294967296:=by decide
    omega
  obtain ⟨T,hT⟩ : ∃ T : ByteArray,digT = T:=⟨_,rfl⟩
  have hTs : T.size = 36:=by rw [← hT]; rfl
  have TA:=Lib.hid (digT_at T hT)
  obtain ⟨W0,hW0⟩ : ∃ W0,w.alloc (.cells Tryz.zeroCells214 214) = W0:=⟨_,rfl⟩
  have hb0 : Below w.heap.size w W0:=by rw [← hW0]; exact (Below.refl _ w).alloc (Nat.le_refl _) _
  have TZ:=Lib.hid (tz_16 W0 (hd.below hb0))
  have hdg : HDig W0 w.heap.size []:=⟨_,by rw [← hW0]; exact heap_alloc_new w _,by rfl,fun j h=>absurd h (Nat.not_lt_zero j)⟩
  have HW0:=Lib.hid hW0
  have HB0:=Lib.hid hb0
  have HDG:=Lib.hid hdg
  clear hd hW0 hb0 hdg
  go_enter Tryz.func171,Tryz.ntmps171
  rw [show (⟨#[48,49,50,51,52,53,54,55,56,57,97,98,99,100,101,102,103,104,105,106,107,108,109,110,111,112,113,114,115,116,117,118,119,120,121,122]⟩ : ByteArray) = T from hT]
  clear hT
  go_wp2_with (fail)
  rw [HW0.out]
  refine (P16.out _).mono ?_
  rintro e w1 ⟨rfl,rfl⟩
  go_wp2_with (fail)
  refine TZ.out.mono ?_
  rintro e w1 ⟨rfl,rfl⟩
  go_wp2_with (fail)
  go_loopg [1,13] 8 (fun kk u i wr=>Below w.heap.size w wr∧∃ (q f : Nat) (acc : List UInt8),kk = f + 1∧u = .int .u64 (q : Int)∧i = .int .i64 ((65 - acc.length : Nat) : Int)∧hexF 8 N = hexF (f + 1) q ++ acc∧q < 16 ^ (f + 1)∧f + 1 + acc.length = 8∧HDig wr w.heap.size acc)
  case atStart=>exact ⟨HB0.out,N,7,[],rfl,rfl,rfl,by rw [List.append_nil],hN8,rfl,HDG.out⟩
  case round =>
    obtain ⟨hbr,q,f,acc,rfl,rfl,rfl,he,hq,hl,hdg⟩:=hrel
    have hq32 : q < 4294967296:=by
      have h1 : q < 16 ^ 8:=Nat.lt_of_lt_of_le hq (Nat.pow_le_pow_right (by decide) (by omega))
      have : (16 : Nat) ^ 8 = 4294967296:=by decide
      omega
    have hal : acc.length ≤ 60:=by omega
    obtain ⟨⟨cv,hcv⟩,hfz⟩:=hdg.cell (i:=64 - acc.length) (by omega)
    have w1 : IntKind.i64.wrap (((65 - acc.length : Nat) : Int) - 1) = ((64 - acc.length : Nat) : Int):=by rw [IntKind.wrap_i64]; omega
    obtain ⟨i0,hi0⟩ : ∃ i0,64 - acc.length = i0:=⟨_,rfl⟩
    have hi65 : i0 < 65:=by omega
    have PU:=Lib.hid (fun r=>hdg.push hal (hexD r))
    rw [hi0] at hcv hfz w1 PU
    have HBR:=Lib.hid hbr
    have HE:=Lib.hid he
    have HQ:=Lib.hid hq
    have HL:=Lib.hid hl
    have HI0:=Lib.hid hi0
    clear hbr he hq hdg hal hi0
    by_cases h16 : 16 ≤ q
    · obtain ⟨f',rfl⟩ : ∃ f',f = f' + 1:=by
        cases f with
        | zero=>have:=HQ.out; simp at this; omega
        | succ f'=>exact ⟨f',rfl⟩
      have d1 : decide ((16 : Int) ≤ (q : Int)) = true:=decide_eq_true (by omega)
      have d2 : decide (16 ≤ q) = true:=decide_eq_true h16
      have a1:=and15 q (by omega)
      obtain ⟨r,hr⟩ : ∃ r,q % 16 = r:=⟨_,rfl⟩
      have hr16 : r < 16:=by omega
      have hx:=TA.out r hr16
      have hrT : r < T.size:=by omega
      rw [hr] at a1
      obtain ⟨q',hq'⟩ : ∃ q',q / 16 = q':=⟨_,rfl⟩
      have s1 : (q : Int) / 16 = (q' : Int):=by omega
      have hlt : q' < 16 ^ (f' + 1):=by
        rw [← hq',Nat.div_lt_iff_lt_mul (by decide)]
        have:=HQ.out
        rw [Nat.pow_succ] at this
        exact this
      have NE : Hid (hexF 8 N = hexF (f' + 1) q' ++ (hexD r :: acc)):=Lib.hid (by
        rw [HE.out,hexF,if_neg (by omega),hq',hr,List.append_assoc]
        rfl)
      clear h16 hr hq' hl
      go_wp2_with (fail)
      go_roundg (f' + 1)
      case measure=>omega
      case rel=>exact ⟨HBR.out.setCell (Nat.le_refl _) _,q',f',hexD r :: acc,rfl,rfl,by
        have h1 : i0 = 65 - (acc.length + 1):=by have:=HI0.out; omega
        rw [h1]; rfl,NE.out,hlt,by have:=HL.out; show f' + 1 + (acc.length + 1) = 8; omega,PU.out r⟩
    · have d1 : decide ((16 : Int) ≤ (q : Int)) = false:=decide_eq_false (by omega)
      have d2 : decide (16 ≤ q) = false:=decide_eq_false h16
      have hx:=TA.out q (by omega)
      have hrT : q < T.size:=by omega
      obtain ⟨W5,hW5⟩ : ∃ W5,wr.setCell ⟨w.heap.size,i0,none⟩ (.int .u8 ((hexD q).toNat : Int)) = W5:=⟨_,rfl⟩
      have NE : Hid (hexF 8 N = hexD q :: acc):=Lib.hid (by
        rw [HE.out,hexF,if_pos (by omega)]
        rfl)
      have HB5:=Lib.hid (show Below w.heap.size w W5 from hW5 ▸ HBR.out.setCell (Nat.le_refl _) _)
      have hdg5:=PU.out q
      rw [hW5] at hdg5
      obtain ⟨cs,e1,e2,e3⟩:=hdg5
      have hcv:=run_convert_bytes_back (P:=Tryz.prog) W5 48 9 5 ⟨w.heap.size,i0,none⟩ (65 - i0) (hexD q :: acc) Tryz.underlying48 Tryz.underlying5 Tryz.underlying9 (fun j hj=>by
        have h4:=e3 j hj
        have ha : ((⟨w.heap.size,i0,none⟩ : Addr).add j) = ⟨w.heap.size,i0 + j,none⟩:=by
          unfold Addr.add
          split <;> simp_all
        have hi1 : 65 - (hexD q :: acc).length = i0:=by have:=HI0.out; show 65 - (acc.length + 1) = i0; omega
        rw [hi1] at h4
        rw [ha]
        simp only [World.cell?,e1]
        exact h4)
      have hlen : (hexD q :: acc).length = 65 - i0:=by have:=HI0.out; have:=HL.out; show acc.length + 1 = 65 - i0; omega
      rw [hlen,← NE.out] at hcv
      have hsl : (Instr.sliceAt 214 (.pointer (some ⟨w.heap.size,0,none⟩)) (some (.int .i64 (i0 : Int))) none none).run Tryz.prog W5 = .ok (.slice (some ⟨w.heap.size,i0,none⟩) (65 - i0) (65 - i0)) W5:=by
        have hal : Tryz.prog.arrayLen 214 = 65:=by kernel_rfl
        have h:=run_sliceAt_array_l (P:=Tryz.prog) W5 214 ⟨w.heap.size,0,none⟩ Tryz.underlying214 .i64 (i0 : Int) (by omega) (by rw [hal]; omega)
        have hel : Tryz.prog.elem 214 = 5:=by kernel_rfl
        have hne : ¬ 65 = i0:=by omega
        have had : ((⟨w.heap.size,0,none⟩ : Addr).add (i0 * 1)) = ⟨w.heap.size,i0,none⟩:=by
          unfold Addr.add
          split <;> simp_all
        rw [h,hal,hel]
        go_simp
      clear h16 hl e1 e2 e3 hlen
      go_wp2_with (fail)
      go_ret2
      exact ⟨rfl,HB5.out⟩
theorem fint_16 (N : Nat) (hN : N < 4294967296) (w : World) (hd : DB w) : Calls Tryz.prog 136 #[.int .i64 (N : Int),.int .i64 16] w fun e w'=>e = .returned (.string ⟨(hexF 8 N).toArray⟩)∧Below w.heap.size w w':=by
  have F1:=Lib.hid (fbits_16 N hN w hd)
  have w1 : IntKind.u64.wrap (N : Int) = (N : Int):=by rw [IntKind.wrap_u64]; omega
  have d1 : decide ((N : Int) < 0) = false:=decide_eq_false (by omega)
  clear hd hN
  go_enter Tryz.func136,Tryz.ntmps136
  go_wp2_with (fail)
  refine F1.out.mono ?_
  rintro e w1 ⟨rfl,hb1⟩
  go_wp2_with (fail)
  go_ret
  exact ⟨rfl,hb1⟩
theorem fint_pub (N : Nat) (hN : N < 4294967296) (w : World) (hd : DB w) : Calls Tryz.prog 112 #[.int .i64 (N : Int),.int .i64 16] w fun e w'=>e = .returned (.string ⟨(hexF 8 N).toArray⟩)∧Below w.heap.size w w':=by
  have F1:=Lib.hid (fint_16 N hN w hd)
  clear hd hN
  go_enter Tryz.func112,Tryz.ntmps112
  go_wp2_with (fail)
  refine F1.out.mono ?_
  rintro e w1 ⟨rfl,hb1⟩
  go_wp2_with (fail)
  go_ret
  exact ⟨rfl,hb1⟩
theorem dhex_any (N : Nat) (hN : N < 4294967296) (w : World) (hd : DB w) : Calls Tryz.prog 73 #[.int .i64 (N : Int)] w fun e w'=>e = .returned (.string ⟨(hexF 8 N).toArray⟩)∧Below w.heap.size w w':=by
  have F1:=Lib.hid (fint_pub N hN w hd)
  clear hd hN
  go_enter Tryz.func73,Tryz.ntmps73
  go_wp2_with (fail)
  refine F1.out.mono ?_
  rintro e w1 ⟨rfl,hb1⟩
  go_wp2_with (fail)
  go_ret
  exact ⟨rfl,hb1⟩
theorem rhex_8 (N : Nat) (hN : N < 4294967296) (w : World) : Calls Tryz.prog 77 #[.int .i64 (N : Int)] w fun e w'=>e = .returned (.string ⟨(hexF 8 N).toArray⟩)∧Below w.heap.size w w' :=
  rhex_any 7 N (by have : (16 : Nat) ^ (7 + 1) = 4294967296 := by decide
                   omega) (Nat.le_refl _) w
end LM
namespace LM
def nameL (n : Nat) : List UInt8 :=
  if n = 32 then [115,112,97,99,101] else if n = 10 then [110,101,119,108,105,110,101] else if n = 9 then [116,97,98] else if n = 0 then [110,117,108]
  else if 33 ≤ n∧n ≤ 126 then [UInt8.ofNat n] else 120 :: hexF 8 n
theorem nameL_len (n : Nat) : (nameL n).length ≤ 20:=by
  have:=hexF_len 8 n
  unfold nameL
  repeat' split
  all_goals simp only [List.length_cons,List.length_nil]
  all_goals omega
theorem enc_small (n : Nat) (h : n < 128) : Utf8.encode (n : Int) = ⟨#[UInt8.ofNat n]⟩:=by
  have h1:=encode_L n (.inl (by omega))
  rw [enc1 n h] at h1
  apply ByteArray.ext
  apply Array.toList_inj.1
  exact h1
theorem dsname_any (n : Nat) (hn : n ≤ 1114111) (w : World) (hd : DB w) : Calls Tryz.prog 42 #[.int .i64 (n : Int)] w fun e w'=>e = .returned (.string ⟨(nameL n).toArray⟩)∧Below w.heap.size w w':=by
  have HX:=Lib.hid (dhex_any n (by omega) w hd)
  have HB0:=Lib.hid (Below.refl w.heap.size w)
  clear hd
  obtain ⟨R,hR⟩ : ∃ R,nameL n = R:=⟨_,rfl⟩
  rw [hR]
  unfold nameL at hR
  by_cases h32 : n = 32
  · subst h32
    have HR : Hid (R = [115,112,97,99,101]):=Lib.hid (by rw [← hR]; rfl)
    clear hR
    go_enter Tryz.func42,Tryz.ntmps42
    go_wp2_with (fail)
    go_ret
    exact ⟨by rw [HR.out]; rfl,HB0.out⟩
  have k1 : ((n : Int) == 32) = false:=by rw [beq_eq_false_iff_ne]; omega
  by_cases h10 : n = 10
  · subst h10
    have HR : Hid (R = [110,101,119,108,105,110,101]):=Lib.hid (by rw [← hR]; rfl)
    clear hR
    go_enter Tryz.func42,Tryz.ntmps42
    go_wp2_with (fail)
    go_ret
    exact ⟨by rw [HR.out]; rfl,HB0.out⟩
  have k2 : ((n : Int) == 10) = false:=by rw [beq_eq_false_iff_ne]; omega
  by_cases h9 : n = 9
  · subst h9
    have HR : Hid (R = [116,97,98]):=Lib.hid (by rw [← hR]; rfl)
    clear hR
    go_enter Tryz.func42,Tryz.ntmps42
    go_wp2_with (fail)
    go_ret
    exact ⟨by rw [HR.out]; rfl,HB0.out⟩
  have k3 : ((n : Int) == 9) = false:=by rw [beq_eq_false_iff_ne]; omega
  by_cases h0 : n = 0
  · subst h0
    have HR : Hid (R = [110,117,108]):=Lib.hid (by rw [← hR]; rfl)
    clear hR
    go_enter Tryz.func42,Tryz.ntmps42
    go_wp2_with (fail)
    go_ret
    exact ⟨by rw [HR.out]; rfl,HB0.out⟩
  have k4 : ((n : Int) == 0) = false:=by rw [beq_eq_false_iff_ne]; omega
  rw [if_neg h32,if_neg h10,if_neg h9,if_neg h0] at hR
  by_cases hm : 33 ≤ n∧n ≤ 126
  · have HR : Hid (R = [UInt8.ofNat n]):=Lib.hid (by rw [← hR,if_pos hm])
    have d1 : decide ((33 : Int) ≤ (n : Int)) = true:=decide_eq_true (by omega)
    have d2 : decide ((n : Int) ≤ 126) = true:=decide_eq_true (by omega)
    have w1 : IntKind.i32.wrap (n : Int) = (n : Int):=by rw [IntKind.wrap_i32]; omega
    have hcv : ∀ W,(convert 21 9 (.int .i32 (n : Int))).run Tryz.prog W = .ok (.string ⟨#[UInt8.ofNat n]⟩) W:=fun W=>by
      rw [run_convert_int_string W 21 9 .i32 (n : Int) (by rw [Tryz.underlying21]; rfl) Tryz.underlying9,enc_small n (by omega)]
    clear hR h32 h10 h9 h0 hm
    go_enter Tryz.func42,Tryz.ntmps42
    go_wp2_with (fail)
    go_ret
    exact ⟨by rw [HR.out]; rfl,HB0.out⟩
  · have HR : Hid (R = 120 :: hexF 8 n):=Lib.hid (by rw [← hR,if_neg hm])
    have hl:=hexF_len 8 n
    obtain ⟨t,ht⟩ : ∃ t : ByteArray,(⟨(hexF 8 n).toArray⟩ : ByteArray) = t:=⟨_,rfl⟩
    have hts : t.size ≤ 8:=by
      rw [← ht]
      show (hexF 8 n).toArray.size ≤ 8
      rw [List.size_toArray]
      omega
    rw [ht] at HX
    have HT:=Lib.hid ht
    obtain ⟨q1,d1⟩ : ∃ q,decide ((33 : Int) ≤ (n : Int)) = q:=⟨_,rfl⟩
    obtain ⟨q2,d2⟩ : ∃ q,decide ((n : Int) ≤ 126) = q:=⟨_,rfl⟩
    have hq : q1 = false ∨ (q1 = true∧q2 = false):=by
      rw [← d1,← d2]
      by_cases h : 33 ≤ n
      · exact .inr ⟨decide_eq_true (by omega),decide_eq_false (by omega)⟩
      · exact .inl (decide_eq_false (by omega))
    clear hR hl ht h32 h10 h9 h0 hm
    rcases hq with rfl | ⟨rfl,rfl⟩
    all_goals
      go_enter Tryz.func42,Tryz.ntmps42
      go_wp2_with (fail)
      refine HX.out.mono ?_
      rintro e w1 ⟨rfl,hb1⟩
      go_wp2_with (fail)
      go_ret
      exact ⟨by rw [HR.out,← HT.out]; rfl,hb1⟩
theorem rchar_any (n : Nat) (hn : n ≤ 1114111) (w : World) : Calls Tryz.prog 46 #[.int .i64 (n : Int)] w fun e w'=>e = .returned (.string ⟨([35,92] ++ nameL n).toArray⟩)∧Below w.heap.size w w':=by
  have HX:=Lib.hid (rhex_8 n (by omega) w)
  have HB0:=Lib.hid (Below.refl w.heap.size w)
  obtain ⟨R,hR⟩ : ∃ R,nameL n = R:=⟨_,rfl⟩
  rw [hR]
  unfold nameL at hR
  by_cases h0 : n = 0
  · subst h0
    have HR : Hid (R = [110,117,108]):=Lib.hid (by rw [← hR]; rfl)
    clear hR
    go_enter Tryz.func46,Tryz.ntmps46
    go_wp2_with (fail)
    go_ret
    exact ⟨by rw [HR.out]; rfl,HB0.out⟩
  have k4 : ((n : Int) == 0) = false:=by rw [beq_eq_false_iff_ne]; omega
  by_cases h9 : n = 9
  · subst h9
    have HR : Hid (R = [116,97,98]):=Lib.hid (by rw [← hR]; rfl)
    clear hR
    go_enter Tryz.func46,Tryz.ntmps46
    go_wp2_with (fail)
    go_ret
    exact ⟨by rw [HR.out]; rfl,HB0.out⟩
  have k3 : ((n : Int) == 9) = false:=by rw [beq_eq_false_iff_ne]; omega
  by_cases h10 : n = 10
  · subst h10
    have HR : Hid (R = [110,101,119,108,105,110,101]):=Lib.hid (by rw [← hR]; rfl)
    clear hR
    go_enter Tryz.func46,Tryz.ntmps46
    go_wp2_with (fail)
    go_ret
    exact ⟨by rw [HR.out]; rfl,HB0.out⟩
  have k2 : ((n : Int) == 10) = false:=by rw [beq_eq_false_iff_ne]; omega
  by_cases h32 : n = 32
  · subst h32
    have HR : Hid (R = [115,112,97,99,101]):=Lib.hid (by rw [← hR]; rfl)
    clear hR
    go_enter Tryz.func46,Tryz.ntmps46
    go_wp2_with (fail)
    go_ret
    exact ⟨by rw [HR.out]; rfl,HB0.out⟩
  have k1 : ((n : Int) == 32) = false:=by rw [beq_eq_false_iff_ne]; omega
  rw [if_neg h32,if_neg h10,if_neg h9,if_neg h0] at hR
  by_cases hm : 33 ≤ n∧n ≤ 126
  · have HR : Hid (R = [UInt8.ofNat n]):=Lib.hid (by rw [← hR,if_pos hm])
    have d1 : decide ((32 : Int) < (n : Int)) = true:=decide_eq_true (by omega)
    have d2 : decide ((n : Int) < 127) = true:=decide_eq_true (by omega)
    have w1 : IntKind.u8.wrap (n : Int) = (n : Int):=by rw [IntKind.wrap_u8]; omega
    obtain ⟨W1,hW1⟩ : ∃ W1,w.alloc (.cells #[.int .u8 (n : Int)] 5) = W1:=⟨_,rfl⟩
    have hb1 : Below w.heap.size w W1:=by rw [← hW1]; exact (Below.refl _ w).alloc (Nat.le_refl _) _
    have hcv : (convert 48 9 (.slice (some ⟨w.heap.size,0,none⟩) 1 1)).run Tryz.prog (w.alloc (.cells #[.int .u8 (n : Int)] 5)) = .ok (.string ⟨#[UInt8.ofNat n]⟩) W1:=by
      rw [hW1]
      refine run_convert_bytes_back (P:=Tryz.prog) W1 48 9 5 ⟨w.heap.size,0,none⟩ 1 [UInt8.ofNat n] Tryz.underlying48 Tryz.underlying5 Tryz.underlying9 (fun j hj=>?_)
      have hj0 : j = 0:=by have : j < 1:=hj; omega
      subst hj0
      rw [← hW1]
      have hu : ((UInt8.ofNat n).toNat : Int) = (n : Int):=by simp; omega
      have hc:=cell_alloc_first w (.int .u8 (n : Int)) 5
      rw [← hu] at hc
      rw [← hu]
      exact hc
    have HB1:=Lib.hid hb1
    clear hR h32 h10 h9 h0 hm hW1 hb1
    go_enter Tryz.func46,Tryz.ntmps46
    go_wp2_with (fail)
    go_ret
    exact ⟨by rw [HR.out]; rfl,HB1.out⟩
  · have HR : Hid (R = 120 :: hexF 8 n):=Lib.hid (by rw [← hR,if_neg hm])
    have hl:=hexF_len 8 n
    obtain ⟨t,ht⟩ : ∃ t : ByteArray,(⟨(hexF 8 n).toArray⟩ : ByteArray) = t:=⟨_,rfl⟩
    have hts : t.size ≤ 8:=by
      rw [← ht]
      show (hexF 8 n).toArray.size ≤ 8
      rw [List.size_toArray]
      omega
    rw [ht] at HX
    have HT:=Lib.hid ht
    obtain ⟨q1,d1⟩ : ∃ q,decide ((32 : Int) < (n : Int)) = q:=⟨_,rfl⟩
    obtain ⟨q2,d2⟩ : ∃ q,decide ((n : Int) < 127) = q:=⟨_,rfl⟩
    have hq : q1 = false ∨ (q1 = true∧q2 = false):=by
      rw [← d1,← d2]
      by_cases h : 33 ≤ n
      · exact .inr ⟨decide_eq_true (by omega),decide_eq_false (by omega)⟩
      · exact .inl (decide_eq_false (by omega))
    clear hR hl ht h32 h10 h9 h0 hm
    rcases hq with rfl | ⟨rfl,rfl⟩
    all_goals
      go_enter Tryz.func46,Tryz.ntmps46
      go_wp2_with (fail)
      refine HX.out.mono ?_
      rintro e w1 ⟨rfl,hb1⟩
      go_wp2_with (fail)
      go_ret
      exact ⟨by rw [HR.out,← HT.out]; rfl,hb1⟩
end LM
namespace LM
def signT (r : Nat) : List UInt8 :=
  if r = 34 ∨ r = 92 then 92 :: encL r else if r = 10 then [92,110] else if r = 9 then [92,116] else if r = 13 then [92,114]
  else if r < 32 ∨ r = 127 then [92,120] ++ hexF 8 r ++ [59] else encL r
def quoteF : Nat → List UInt8 → List UInt8
  | 0,_=>[]
  | n + 1,l=>if l = [] then [] else signT (Lib.decodeL l).1 ++ quoteF n (l.drop (Lib.decodeL l).2)
theorem encL_len (r : Nat) : (encL r).length ≤ 4:=by
  unfold encL
  repeat' split
  all_goals exact Nat.le_of_ble_eq_true rfl
theorem signT_len (r : Nat) : (signT r).length ≤ 11:=by
  have h1:=encL_len r
  have h2:=hexF_len 8 r
  unfold signT
  repeat' split
  all_goals try simp only [List.length_cons,List.length_append,List.length_nil]
  all_goals omega
theorem quoteF_len : ∀ (n : Nat) (l : List UInt8),(quoteF n l).length ≤ 11 * n:=by
  intro n
  induction n with
  | zero=>intro l; exact Nat.zero_le _
  | succ n ih =>
    intro l
    unfold quoteF
    split
    · simp
    · rw [List.length_append]
      have h1:=signT_len (Lib.decodeL l).1
      have h2:=ih (l.drop (Lib.decodeL l).2)
      omega
theorem quoteF_nil (n : Nat) : quoteF n [] = []:=by
  cases n with
  | zero=>rfl
  | succ n=>unfold quoteF; rw [if_pos rfl]
theorem encode_B (r : Nat) (h : r < 55296 ∨ (57344 ≤ r∧r ≤ 1114111)) : Utf8.encode (r : Int) = ⟨(encL r).toArray⟩:=by
  apply ByteArray.ext
  apply Array.toList_inj.1
  exact encode_L r h
theorem dsignin_any (r : Nat) (hr : r < 55296 ∨ (57344 ≤ r∧r ≤ 1114111)) (w : World) (hd : DB w) : Calls Tryz.prog 74 #[.int .i32 (r : Int)] w fun e w'=>e = .returned (.string ⟨(signT r).toArray⟩)∧Below w.heap.size w w':=by
  have HX:=Lib.hid (dhex_any r (by omega) w hd)
  have HB0:=Lib.hid (Below.refl w.heap.size w)
  clear hd
  obtain ⟨R,hR⟩ : ∃ R,signT r = R:=⟨_,rfl⟩
  rw [hR]
  unfold signT at hR
  obtain ⟨own,how⟩ : ∃ own : ByteArray,(⟨(encL r).toArray⟩ : ByteArray) = own:=⟨_,rfl⟩
  have hcv : ∀ W,(convert 21 9 (.int .i32 (r : Int))).run Tryz.prog W = .ok (.string own) W:=fun W=>by
    rw [run_convert_int_string W 21 9 .i32 (r : Int) (by rw [Tryz.underlying21]; rfl) Tryz.underlying9,encode_B r hr,how]
  have hos : own.size ≤ 4:=by
    rw [← how]
    show (encL r).toArray.size ≤ 4
    rw [List.size_toArray]
    exact encL_len r
  have HO:=Lib.hid how
  clear how
  obtain ⟨b1,e1⟩ : ∃ b,((r : Int) == 34) = b:=⟨_,rfl⟩
  obtain ⟨b2,e2⟩ : ∃ b,((r : Int) == 92) = b:=⟨_,rfl⟩
  by_cases hq : r = 34 ∨ r = 92
  · have HR : Hid (R = 92 :: encL r):=Lib.hid (by rw [← hR,if_pos hq])
    have hb : b1 = true ∨ (b1 = false∧b2 = true):=by
      rw [← e1,← e2]
      rcases hq with rfl | rfl
      · exact .inl rfl
      · exact .inr ⟨rfl,rfl⟩
    clear hR hq hr
    rcases hb with rfl | ⟨rfl,rfl⟩
    all_goals
      go_enter Tryz.func74,Tryz.ntmps74
      go_wp2_with (fail)
      go_ret
      exact ⟨by rw [HR.out,← HO.out]; rfl,HB0.out⟩
  have hb1 : b1 = false:=by rw [← e1,beq_eq_false_iff_ne]; omega
  have hb2 : b2 = false:=by rw [← e2,beq_eq_false_iff_ne]; omega
  subst hb1 hb2
  rw [if_neg hq] at hR
  obtain ⟨b3,e3⟩ : ∃ b,((r : Int) == 10) = b:=⟨_,rfl⟩
  by_cases h10 : r = 10
  · have HR : Hid (R = [92,110]):=Lib.hid (by rw [← hR,if_pos h10])
    have hb3 : b3 = true:=by rw [← e3,beq_iff_eq]; omega
    subst hb3
    clear hR h10 hr hq
    go_enter Tryz.func74,Tryz.ntmps74
    go_wp2_with (fail)
    go_ret
    exact ⟨by rw [HR.out]; rfl,HB0.out⟩
  have hb3 : b3 = false:=by rw [← e3,beq_eq_false_iff_ne]; omega
  subst hb3
  rw [if_neg h10] at hR
  obtain ⟨b4,e4⟩ : ∃ b,((r : Int) == 9) = b:=⟨_,rfl⟩
  by_cases h9 : r = 9
  · have HR : Hid (R = [92,116]):=Lib.hid (by rw [← hR,if_pos h9])
    have hb4 : b4 = true:=by rw [← e4,beq_iff_eq]; omega
    subst hb4
    clear hR h9 h10 hr hq
    go_enter Tryz.func74,Tryz.ntmps74
    go_wp2_with (fail)
    go_ret
    exact ⟨by rw [HR.out]; rfl,HB0.out⟩
  have hb4 : b4 = false:=by rw [← e4,beq_eq_false_iff_ne]; omega
  subst hb4
  rw [if_neg h9] at hR
  obtain ⟨b5,e5⟩ : ∃ b,((r : Int) == 13) = b:=⟨_,rfl⟩
  by_cases h13 : r = 13
  · have HR : Hid (R = [92,114]):=Lib.hid (by rw [← hR,if_pos h13])
    have hb5 : b5 = true:=by rw [← e5,beq_iff_eq]; omega
    subst hb5
    clear hR h9 h10 h13 hr hq
    go_enter Tryz.func74,Tryz.ntmps74
    go_wp2_with (fail)
    go_ret
    exact ⟨by rw [HR.out]; rfl,HB0.out⟩
  have hb5 : b5 = false:=by rw [← e5,beq_eq_false_iff_ne]; omega
  subst hb5
  rw [if_neg h13] at hR
  obtain ⟨b6,e6⟩ : ∃ b,decide ((r : Int) < 32) = b:=⟨_,rfl⟩
  obtain ⟨b7,e7⟩ : ∃ b,((r : Int) == 127) = b:=⟨_,rfl⟩
  by_cases hc : r < 32 ∨ r = 127
  · have HR : Hid (R = [92,120] ++ hexF 8 r ++ [59]):=Lib.hid (by rw [← hR,if_pos hc])
    have hl:=hexF_len 8 r
    obtain ⟨t,ht⟩ : ∃ t : ByteArray,(⟨(hexF 8 r).toArray⟩ : ByteArray) = t:=⟨_,rfl⟩
    have hts : t.size ≤ 8:=by
      rw [← ht]
      show (hexF 8 r).toArray.size ≤ 8
      rw [List.size_toArray]
      omega
    rw [ht] at HX
    have HT:=Lib.hid ht
    have w1 : IntKind.i64.wrap (r : Int) = (r : Int):=by rw [IntKind.wrap_i64]; omega
    have hb : b6 = true ∨ (b6 = false∧b7 = true):=by
      rw [← e6,← e7]
      by_cases h : r < 32
      · exact .inl (decide_eq_true (by omega))
      · exact .inr ⟨decide_eq_false (by omega),by rw [beq_iff_eq]; omega⟩
    clear hR h9 h10 h13 hr hq hc hl ht
    rcases hb with rfl | ⟨rfl,rfl⟩
    all_goals
      go_enter Tryz.func74,Tryz.ntmps74
      go_wp2_with (fail)
      refine HX.out.mono ?_
      rintro e w1 ⟨rfl,hb1⟩
      go_wp2_with (fail)
      go_ret
      exact ⟨by rw [HR.out,← HT.out]; rfl,hb1⟩
  · have HR : Hid (R = encL r):=Lib.hid (by rw [← hR,if_neg hc])
    have hb6 : b6 = false:=by rw [← e6]; exact decide_eq_false (by omega)
    have hb7 : b7 = false:=by rw [← e7,beq_eq_false_iff_ne]; omega
    subst hb6 hb7
    clear hR h9 h10 h13 hr hq hc
    go_enter Tryz.func74,Tryz.ntmps74
    go_wp2_with (fail)
    go_ret
    exact ⟨by rw [HR.out,← HO.out]; rfl,HB0.out⟩
end LM
namespace LM
attribute [local go_sem] run_store_flt
abbrev quoteL (s : ByteArray) : List UInt8:=[34] ++ quoteF s.size s.data.toList ++ [34]
theorem dwtext_any (b : Nat) (cs : List UInt8) (s : ByteArray) (w : World) (hr : WR b cs w) (hdb : ∀ W,Below b w W → DB W) (hs : s.size ≤ 1000000) (hl : cs.length ≤ 100000000000) :
    Calls Tryz.prog 43 #[.pointer (some ⟨b,0,none⟩),.string s] w (Wrote b cs (quoteL s) w):=by
  have H1:=Lib.hid (wrstr_any b cs ⟨#[34]⟩ w hr (by show _ + 1 ≤ _; omega))
  have hbw:=hr.2
  have HDB:=Lib.hid hdb
  obtain ⟨ALL,hALL⟩ : ∃ ALL,quoteF s.size s.data.toList = ALL:=⟨_,rfl⟩
  have hAL : ALL.length ≤ 11000000:=by
    have:=quoteF_len s.size s.data.toList
    rw [hALL] at this
    omega
  have HQ : Hid (quoteL s = [34] ++ ALL ++ [34]):=Lib.hid (by unfold quoteL; rw [hALL])
  have HALL:=Lib.hid hALL
  clear hr hdb hALL
  go_enter Tryz.func43,Tryz.ntmps43
  go_wp2_with (fail)
  refine H1.out.mono ?_
  rintro e w1 ⟨⟨v,rfl⟩,h1,h2,h3⟩
  have B1:=Lib.hid h1
  have B2:=Lib.hid h2
  have B3:=Lib.hid h3
  clear h1 h2 h3
  have hlt:=B1.out.2
  have hws : w.heap.size ≤ w1.heap.size:=B2.out.size
  go_wp2_with (fail)
  obtain ⟨WI,hWI⟩ : ∃ WI,w1.iter s 0 = WI:=⟨_,rfl⟩
  have hbi : Below w1.heap.size w1 WI:=by rw [← hWI]; exact below_iterD w1 s 0
  have hit : WI.heap[w1.heap.size]? = some (.stringIter s 0):=by rw [← hWI]; exact World.iter_heap w1 s 0
  have I1:=Lib.hid (B1.out.below hbi)
  have I2:=Lib.hid (bel_trans (B:=b) B2.out hbi (by omega))
  have I3:=Lib.hid (B3.out.trans (keeps8_below (B:=b + 1) hbi))
  have IT:=Lib.hid hit
  rw [hWI]
  clear hbi hit hWI
  go_loopg [5] (s.size + 1) (fun kk _ wr=>Below b w wr∧Keeps8 (b + 1) w wr∧∃ (pos : Nat) (done : List UInt8),s.size ≤ pos + kk - 1∧1 ≤ kk∧wr.heap[w1.heap.size]? = some (.stringIter s pos)∧WR b (cs ++ [34] ++ done) wr∧ALL = done ++ quoteF (kk - 1) (s.data.toList.drop pos))
  case atStart=>exact ⟨I2.out,I3.out,0,[],by omega,by omega,IT.out,by rw [List.append_nil]; exact I1.out,by rw [List.drop_zero,Nat.add_sub_cancel,List.nil_append]; exact HALL.out.symm⟩
  case round =>
    obtain ⟨r1,r2,pos,done,hfu,hk1,r3,r4,r5⟩:=hrel
    obtain ⟨kq,rfl⟩ : ∃ kq,gk = kq + 1:=⟨gk - 1,by omega⟩
    rw [Nat.add_sub_cancel] at r5
    have hdl2 : done.length ≤ 11000000:=by
      have:=congrArg List.length r5
      rw [List.length_append] at this
      omega
    by_cases hp : pos < s.size
    · have hne : s.data.toList.drop pos ≠ []:=by
        intro h0
        have:=congrArg List.length h0
        rw [List.length_drop,← Lib.size_eq] at this
        simp at this
        omega
      obtain ⟨kp,rfl⟩ : ∃ kp,kq = kp + 1:=⟨kq - 1,by omega⟩
      have hdl:=Lib.decodeL_drop s pos
      have hval:=dec_valid (s.data.toList.drop pos)
      have hwid:=Lib.decodeL_width (s.data.toList.drop pos)
      rw [quoteF,if_neg hne,hdl] at r5
      rw [hdl] at hval hwid
      obtain ⟨⟨r,d⟩,hrd⟩ : ∃ x,Utf8.decode s pos = x:=⟨_,rfl⟩
      rw [hrd] at r5 hval hwid
      simp only at r5 hval hwid
      rw [List.drop_drop] at r5
      obtain ⟨W2,hW2⟩ : ∃ W2,wr.iterAt w1.heap.size s (pos + d) = W2:=⟨_,rfl⟩
      have hnx : ∀ ty,(Instr.next (.pointer (some ⟨w1.heap.size,0,none⟩)) true ty).run Tryz.prog wr = .ok (.tuple #[.bool true,.int .i64 (pos : Int),.int .i32 (r : Int)]) W2:=fun ty=>by
        rw [Lib.run_next_any_at wr w1.heap.size s pos ty r3 hp,hrd,hW2]
      have q4 : WR b (cs ++ [34] ++ done) W2:=by rw [← hW2]; exact ⟨r4.1.iterAt r3 _,by rw [Lib.iterAt_size]; exact r4.2⟩
      have q3 : W2.heap[w1.heap.size]? = some (.stringIter s (pos + d)):=by rw [← hW2]; exact Lib.iterAt_heap wr w1.heap.size s pos (pos + d) r3
      have q1 : Below b w W2:=by rw [← hW2]; exact Lib.below_iterAt r1 (k:=w1.heap.size) (by omega) s (pos + d)
      have q2 : Keeps8 (b + 1) w W2:=by
        rw [← hW2]
        exact ⟨by rw [Lib.iterAt_size]; exact r2.size,fun k o hB hk ho=>by
          have hkl:=heap_lt hk
          rw [Lib.iterAt_other _ _ _ _ _ (by omega)]
          exact r2.same k o hB hk ho⟩
      have SI:=Lib.hid (dsignin_any r hval W2 (HDB.out _ q1))
      obtain ⟨st,hst⟩ : ∃ st,signT r = st:=⟨_,rfl⟩
      have hsl:=signT_len r
      rw [hst] at SI r5 hsl
      have Q1:=Lib.hid q1
      have Q2:=Lib.hid q2
      have Q3:=Lib.hid q3
      have Q4:=Lib.hid q4
      have R5:=Lib.hid r5
      have HWD:=Lib.hid hwid
      have FU:=Lib.hid hfu
      clear q1 q2 q3 q4 r1 r2 r3 r4 r5 hwid hval hrd hdl hne hst hW2 hfu
      go_wp2_with (fail)
      refine SI.out.mono ?_
      rintro e w2 ⟨rfl,hb2⟩
      have hbw2:=Q4.out.2
      have H2:=Lib.hid (wrstr_any b _ ⟨st.toArray⟩ _ (Q4.out.below hb2) (by
        simp only [List.length_append]
        have t1 : ([34] : List UInt8).length = 1:=rfl
        have t2 : (⟨st.toArray⟩ : ByteArray).size = st.length:=by show st.toArray.size = _; rw [List.size_toArray]
        omega))
      have C0:=Lib.hid (bel_trans (B:=b) Q1.out hb2 (by omega))
      have C2:=Lib.hid (Q2.out.trans (keeps8_below (B:=b + 1) hb2))
      have C3:=Lib.hid ((hb2.block _ (heap_lt Q3.out)).trans Q3.out)
      clear hb2
      go_wp2_with (fail)
      refine H2.out.mono ?_
      rintro e w3 ⟨⟨v3,rfl⟩,h1,h2,h3⟩
      have E1:=Lib.hid h1
      have E2:=Lib.hid (C0.out.trans h2)
      have E3:=Lib.hid (C2.out.trans h3)
      have E4:=Lib.hid (h3.same w1.heap.size _ (by omega) C3.out rfl)
      clear h1 h2 h3 hnx
      go_wp2_with (fail)
      go_roundg (kp + 1)
      case measure=>omega
      case rel=>exact ⟨E2.out,E3.out,pos + d,done ++ st,by have:=FU.out; have:=HWD.out; omega,by omega,E4.out,by have:=E1.out; rw [← List.append_assoc]; exact this,by rw [Nat.add_sub_cancel,List.append_assoc]; exact R5.out⟩
    · have hnx : ∀ ty,(Instr.next (.pointer (some ⟨w1.heap.size,0,none⟩)) true ty).run Tryz.prog wr = .ok (.tuple #[.bool false]) wr:=fun ty=>Lib.run_next_end_at wr w1.heap.size s pos ty r3 hp
      have hdn : ALL = done:=by
        have : s.data.toList.drop pos = []:=List.drop_eq_nil_of_le (by rw [← Lib.size_eq]; omega)
        rw [this,quoteF_nil,List.append_nil] at r5
        exact r5
      have H2:=Lib.hid (wrstr_any b _ ⟨#[34]⟩ _ r4 (by
        simp only [List.length_append]
        have t1 : ([34] : List UInt8).length = 1:=rfl
        show _ + 1 ≤ _
        omega))
      have R1:=Lib.hid r1
      have R2:=Lib.hid r2
      have HDN:=Lib.hid hdn
      clear r1 r2 r3 r4 r5 hdn hfu
      go_wp2_with (fail)
      refine H2.out.mono ?_
      rintro e w3 ⟨⟨v3,rfl⟩,h1,h2,h3⟩
      have C1:=Lib.hid h1
      have C2:=Lib.hid (R1.out.trans h2)
      have C3:=Lib.hid (R2.out.trans h3)
      clear h1 h2 h3 hnx
      go_wp2_with (fail)
      go_end0
      exact ⟨⟨_,rfl⟩,by rw [HQ.out,HDN.out]; have:=C1.out; simp only [List.append_assoc] at this ⊢; exact this,C2.out,C3.out⟩
end LM
namespace LM
theorem str_cat (a b : List UInt8) : (⟨a.toArray⟩ : ByteArray) ++ ⟨b.toArray⟩ = ⟨(a ++ b).toArray⟩:=by
  apply ByteArray.ext
  apply Array.toList_inj.1
  simp
theorem rquote_any (s : ByteArray) (hs : s.size ≤ 1000000) (w : World) :
    Calls Tryz.prog 47 #[.string s] w fun e w'=>e = .returned (.string ⟨(quoteL s).toArray⟩)∧Below w.heap.size w w':=by
  obtain ⟨ALL,hALL⟩ : ∃ ALL,quoteF s.size s.data.toList = ALL:=⟨_,rfl⟩
  have hAL : ALL.length ≤ 11000000:=by
    have:=quoteF_len s.size s.data.toList
    rw [hALL] at this
    omega
  have HQ : Hid (quoteL s = [34] ++ ALL ++ [34]):=Lib.hid (by unfold quoteL; rw [hALL])
  have HALL:=Lib.hid hALL
  clear hALL
  obtain ⟨WI,hWI⟩ : ∃ WI,w.iter s 0 = WI:=⟨_,rfl⟩
  have hbi : Below w.heap.size w WI:=by rw [← hWI]; exact below_iterD w s 0
  have hit : WI.heap[w.heap.size]? = some (.stringIter s 0):=by rw [← hWI]; exact World.iter_heap w s 0
  have I2:=Lib.hid hbi
  have IT:=Lib.hid hit
  have HWI:=Lib.hid hWI
  have RH:=Lib.hid rhex_8
  clear hbi hit hWI
  go_enter Tryz.func47,Tryz.ntmps47
  go_wp2_with (fail)
  rw [HWI.out]
  go_loopg [3,5,6,7] (s.size + 1) (fun kk l _ _ _ wr=>Below w.heap.size w wr∧∃ (t : ByteArray) (pos : Nat) (done : List UInt8),.string t = l∧(⟨([34] ++ done).toArray⟩ : ByteArray) = t∧s.size ≤ pos + kk - 1∧1 ≤ kk∧wr.heap[w.heap.size]? = some (.stringIter s pos)∧ALL = done ++ quoteF (kk - 1) (s.data.toList.drop pos))
  case atStart=>exact ⟨I2.out,_,0,[],rfl,rfl,by omega,by omega,IT.out,by rw [List.drop_zero,Nat.add_sub_cancel,List.nil_append]; exact HALL.out.symm⟩
  case round =>
    obtain ⟨r1,t,pos,done,rfl,rt,hfu,hk1,r3,r5⟩:=hrel
    obtain ⟨kq,rfl⟩ : ∃ kq,gk = kq + 1:=⟨gk - 1,by omega⟩
    rw [Nat.add_sub_cancel] at r5
    have hdl2 : done.length ≤ 11000000:=by
      have:=congrArg List.length r5
      rw [List.length_append] at this
      omega
    have hts : t.size ≤ 11000001:=by
      rw [← rt]
      show ([34] ++ done).toArray.size ≤ _
      rw [List.size_toArray,List.length_append]
      have t1 : ([34] : List UInt8).length = 1:=rfl
      omega
    have RT:=Lib.hid rt
    clear rt
    by_cases hp : pos < s.size
    · have hne : s.data.toList.drop pos ≠ []:=by
        intro h0
        have:=congrArg List.length h0
        rw [List.length_drop,← Lib.size_eq] at this
        simp at this
        omega
      obtain ⟨kp,rfl⟩ : ∃ kp,kq = kp + 1:=⟨kq - 1,by omega⟩
      have hdl:=Lib.decodeL_drop s pos
      have hval:=dec_valid (s.data.toList.drop pos)
      have hwid:=Lib.decodeL_width (s.data.toList.drop pos)
      rw [quoteF,if_neg hne,hdl] at r5
      rw [hdl] at hval hwid
      obtain ⟨⟨r,d⟩,hrd⟩ : ∃ x,Utf8.decode s pos = x:=⟨_,rfl⟩
      rw [hrd] at r5 hval hwid
      simp only at r5 hval hwid
      rw [List.drop_drop] at r5
      obtain ⟨W2,hW2⟩ : ∃ W2,wr.iterAt w.heap.size s (pos + d) = W2:=⟨_,rfl⟩
      have hnx : ∀ ty,(Instr.next (.pointer (some ⟨w.heap.size,0,none⟩)) true ty).run Tryz.prog wr = .ok (.tuple #[.bool true,.int .i64 (pos : Int),.int .i32 (r : Int)]) W2:=fun ty=>by
        rw [Lib.run_next_any_at wr w.heap.size s pos ty r3 hp,hrd,hW2]
      have q3 : W2.heap[w.heap.size]? = some (.stringIter s (pos + d)):=by rw [← hW2]; exact Lib.iterAt_heap wr w.heap.size s pos (pos + d) r3
      have q1 : Below w.heap.size w W2:=by rw [← hW2]; exact Lib.below_iterAt r1 (k:=w.heap.size) (Nat.le_refl _) s (pos + d)
      have hb2 : Below W2.heap.size W2 (W2.alloc (.cells #[.int .i32 (r : Int)] 21)):=(Below.refl _ W2).alloc (Nat.le_refl _) _
      obtain ⟨W3,hW3⟩ : ∃ W3,W2.alloc (.cells #[.int .i32 (r : Int)] 21) = W3:=⟨_,rfl⟩
      rw [hW3] at hb2
      obtain ⟨own,how⟩ : ∃ own : ByteArray,(⟨(encL r).toArray⟩ : ByteArray) = own:=⟨_,rfl⟩
      have hcv2 : (convert 87 9 (.slice (some ⟨W2.heap.size,0,none⟩) 1 1)).run Tryz.prog (W2.alloc (.cells #[.int .i32 (r : Int)] 21)) = .ok (.string own) W3:=by
        rw [hW3,run_convert_runes W3 _ _ 21 ⟨W2.heap.size,0,none⟩ 1 1 [(r : Int)] (Nat.le_refl _) Tryz.underlying87 Tryz.underlying21 Tryz.underlying9 (fun j hj=>by
          have hj0 : j = 0:=by have : j < 1:=hj; omega
          subst hj0
          rw [← hW3]
          exact cell_alloc_first W2 _ _)]
        have he : runesBytes [(r : Int)] = own:=by
          show ByteArray.empty ++ Utf8.encode (r : Int) = own
          rw [ByteArray.empty_append,encode_B r hval,how]
        rw [← he]
        rfl
      have hos : own.size ≤ 4:=by
        rw [← how]
        show (encL r).toArray.size ≤ 4
        rw [List.size_toArray]
        exact encL_len r
      have w0 : IntKind.i64.wrap (r : Int) = (r : Int):=by rw [IntKind.wrap_i64]; omega
      obtain ⟨st,hst⟩ : ∃ st,signT r = st:=⟨_,rfl⟩
      rw [hst] at r5
      unfold signT at hst
      have HO:=Lib.hid how
      have B3:=Lib.hid (bel_trans (B:=w.heap.size) q1 hb2)
      have I3:=Lib.hid ((hb2.block _ (heap_lt q3)).trans q3)
      have R5:=Lib.hid r5
      have HWD:=Lib.hid hwid
      have FU:=Lib.hid hfu
      clear q1 q3 hb2 r1 r3 r5 hwid hrd hdl hne how hW2 hW3 hfu
      obtain ⟨b1,e1⟩ : ∃ b,((r : Int) == 34) = b:=⟨_,rfl⟩
      obtain ⟨b2,e2⟩ : ∃ b,((r : Int) == 92) = b:=⟨_,rfl⟩
      by_cases hq : r = 34 ∨ r = 92
      · have HR:=Lib.hid (show st = 92 :: encL r by rw [← hst,if_pos hq])
        have hb : b1 = true ∨ (b1 = false∧b2 = true):=by
          rw [← e1,← e2]
          rcases hq with rfl | rfl
          · exact .inl rfl
          · exact .inr ⟨rfl,rfl⟩
        clear hst hq hval
        rcases hb with rfl | ⟨rfl,rfl⟩
        all_goals
          go_wp2_with (fail)
          go_roundg (kp + 1)
          case measure=>omega
          case rel=>exact ⟨B3.out,_,pos + d,done ++ st,rfl,by rw [HR.out,← RT.out,← HO.out]; simp only [str_cat,List.append_assoc]; try rfl,by have:=FU.out; have:=HWD.out; omega,by omega,I3.out,by rw [Nat.add_sub_cancel,List.append_assoc]; exact R5.out⟩
      have hb1 : b1 = false:=by rw [← e1,beq_eq_false_iff_ne]; omega
      have hb2 : b2 = false:=by rw [← e2,beq_eq_false_iff_ne]; omega
      subst hb1 hb2
      rw [if_neg hq] at hst
      obtain ⟨b3,e3⟩ : ∃ b,((r : Int) == 10) = b:=⟨_,rfl⟩
      by_cases h10 : r = 10
      · have HR:=Lib.hid (show st = [92,110] by rw [← hst,if_pos h10])
        have hbb : b3 = true:=by rw [← e3,beq_iff_eq]; omega
        subst hbb
        clear hst hq hval h10
        go_wp2_with (fail)
        go_roundg (kp + 1)
        case measure=>omega
        case rel=>exact ⟨B3.out,_,pos + d,done ++ st,rfl,by rw [HR.out,← RT.out]; simp only [str_cat,List.append_assoc]; try rfl,by have:=FU.out; have:=HWD.out; omega,by omega,I3.out,by rw [Nat.add_sub_cancel,List.append_assoc]; exact R5.out⟩
      have hbb : b3 = false:=by rw [← e3,beq_eq_false_iff_ne]; omega
      subst hbb
      rw [if_neg h10] at hst
      obtain ⟨b4,e4⟩ : ∃ b,((r : Int) == 9) = b:=⟨_,rfl⟩
      by_cases h9 : r = 9
      · have HR:=Lib.hid (show st = [92,116] by rw [← hst,if_pos h9])
        have hbb : b4 = true:=by rw [← e4,beq_iff_eq]; omega
        subst hbb
        clear hst hq hval h9
        go_wp2_with (fail)
        go_roundg (kp + 1)
        case measure=>omega
        case rel=>exact ⟨B3.out,_,pos + d,done ++ st,rfl,by rw [HR.out,← RT.out]; simp only [str_cat,List.append_assoc]; try rfl,by have:=FU.out; have:=HWD.out; omega,by omega,I3.out,by rw [Nat.add_sub_cancel,List.append_assoc]; exact R5.out⟩
      have hbb : b4 = false:=by rw [← e4,beq_eq_false_iff_ne]; omega
      subst hbb
      rw [if_neg h9] at hst
      obtain ⟨b5,e5⟩ : ∃ b,((r : Int) == 13) = b:=⟨_,rfl⟩
      by_cases h13 : r = 13
      · have HR:=Lib.hid (show st = [92,114] by rw [← hst,if_pos h13])
        have hbb : b5 = true:=by rw [← e5,beq_iff_eq]; omega
        subst hbb
        clear hst hq hval h13
        go_wp2_with (fail)
        go_roundg (kp + 1)
        case measure=>omega
        case rel=>exact ⟨B3.out,_,pos + d,done ++ st,rfl,by rw [HR.out,← RT.out]; simp only [str_cat,List.append_assoc]; try rfl,by have:=FU.out; have:=HWD.out; omega,by omega,I3.out,by rw [Nat.add_sub_cancel,List.append_assoc]; exact R5.out⟩
      have hbb : b5 = false:=by rw [← e5,beq_eq_false_iff_ne]; omega
      subst hbb
      rw [if_neg h13] at hst
      obtain ⟨b6,e6⟩ : ∃ b,decide ((r : Int) < 32) = b:=⟨_,rfl⟩
      obtain ⟨b7,e7⟩ : ∃ b,((r : Int) == 127) = b:=⟨_,rfl⟩
      by_cases hc : r < 32 ∨ r = 127
      · have HR:=Lib.hid (show st = [92,120] ++ hexF 8 r ++ [59] by rw [← hst,if_pos hc])
        have HX:=Lib.hid (RH.out r (by omega) W3)
        have hl:=hexF_len 8 r
        obtain ⟨x,hx⟩ : ∃ x : ByteArray,(⟨(hexF 8 r).toArray⟩ : ByteArray) = x:=⟨_,rfl⟩
        have hxs : x.size ≤ 8:=by
          rw [← hx]
          show (hexF 8 r).toArray.size ≤ 8
          rw [List.size_toArray]
          omega
        rw [hx] at HX
        have HT:=Lib.hid hx
        have hb : b6 = true ∨ (b6 = false∧b7 = true):=by
          rw [← e6,← e7]
          by_cases h : r < 32
          · exact .inl (decide_eq_true (by omega))
          · exact .inr ⟨decide_eq_false (by omega),by rw [beq_iff_eq]; omega⟩
        clear hst hq hval hc h10 h9 h13 hl hx
        rcases hb with rfl | ⟨rfl,rfl⟩
        all_goals
          go_wp2_with (fail)
          refine HX.out.mono ?_
          rintro e w5 ⟨rfl,hb5⟩
          have B5:=Lib.hid (bel_trans (B:=w.heap.size) B3.out hb5)
          have I5:=Lib.hid ((hb5.block _ (heap_lt I3.out)).trans I3.out)
          clear hb5
          go_wp2_with (fail)
          go_roundg (kp + 1)
          case measure=>omega
          case rel=>exact ⟨B5.out,_,pos + d,done ++ st,rfl,by rw [HR.out,← RT.out,← HT.out]; simp only [str_cat,List.append_assoc]; try rfl,by have:=FU.out; have:=HWD.out; omega,by omega,I5.out,by rw [Nat.add_sub_cancel,List.append_assoc]; exact R5.out⟩
      · have HR:=Lib.hid (show st = encL r by rw [← hst,if_neg hc])
        have hb6 : b6 = false:=by rw [← e6]; exact decide_eq_false (by omega)
        have hb7 : b7 = false:=by rw [← e7,beq_eq_false_iff_ne]; omega
        subst hb6 hb7
        clear hst hq hval hc h10 h9 h13
        go_wp2_with (fail)
        go_roundg (kp + 1)
        case measure=>omega
        case rel=>exact ⟨B3.out,_,pos + d,done ++ st,rfl,by rw [HR.out,← RT.out,← HO.out]; simp only [str_cat,List.append_assoc]; try rfl,by have:=FU.out; have:=HWD.out; omega,by omega,I3.out,by rw [Nat.add_sub_cancel,List.append_assoc]; exact R5.out⟩
    · have hnx : ∀ ty,(Instr.next (.pointer (some ⟨w.heap.size,0,none⟩)) true ty).run Tryz.prog wr = .ok (.tuple #[.bool false]) wr:=fun ty=>Lib.run_next_end_at wr w.heap.size s pos ty r3 hp
      have hdn : ALL = done:=by
        have : s.data.toList.drop pos = []:=List.drop_eq_nil_of_le (by rw [← Lib.size_eq]; omega)
        rw [this,quoteF_nil,List.append_nil] at r5
        exact r5
      have R1:=Lib.hid r1
      have HDN:=Lib.hid hdn
      clear r1 r3 r5 hdn hfu
      go_wp2_with (fail)
      go_ret
      exact ⟨by rw [HQ.out,HDN.out,← RT.out]; rfl,R1.out⟩
end LM
end Go.Proofs.YtnpmfailpgbggaaGreatDoor
