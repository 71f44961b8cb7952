import Derived.Sort.AtCallIn
import Derived.Sort.QuietIn
import Derived.Test.YtihbgghlnppkiaaGreatDoorR05
import Derived.Test.YtihbgghlnppkiaaGreatDoorR06
import Derived.Test.YtihbgghlnppkiaaGreatDoorR04
import Derived.Laws.Rows
import Derived.Test.YtihbgghlnppkiaaGreatDoorR01
set_option linter.unusedVariables false
set_option linter.unusedSimpArgs false
set_option maxRecDepth 100000
set_option maxHeartbeats 16000000
namespace Go.Proofs.YtihbgghlnppkiaaGreatDoor
open Go.RowKit Go.Shelf
attribute [local go_sem] Oper.semAt_some
namespace LM
attribute [local go_sem] round_fn wide_fn
theorem Rd.trim {w : World} {A : Option Addr} {xs : List Nat} (h : Rd w A xs) : Rd w A (trim xs):=by
  rw [trim_take]; exact h.take _
end LM
end Go.Proofs.YtihbgghlnppkiaaGreatDoor
namespace Go.Proofs.YtihbgghlnppkiaaGreatDoor
open Go.RowKit
namespace LM
def BIG (n : Nat) : Prop:=4294967296 ^ 64 ≤ n
theorem big_iff {xs : List Nat} (h : Can xs) : 64 < xs.length ↔ BIG (val xs):=can_len h 64
theorem big_trim {xs : List Nat} (h : Lm xs) : 64 < (trim xs).length ↔ BIG (val xs):=by rw [big_iff (can_trim h),val_trim]
end LM
namespace LM
end LM
namespace LM
theorem trimUp_any (A : Option Addr) (ca : Nat) (xs : List Nat) (w : World) (ha : Rd w A xs) (hx : Lm xs) (hca : xs.length ≤ ca) (hcam : ca ≤ 9223372036854775807) (hxl : xs.length ≤ 1000) :
    Calls Tryz.prog 148 #[.slice A xs.length ca] w fun e w'=>∃ r,e = .returned (.slice (some ⟨w.heap.size,0,none⟩) (List.length r) r.length)∧Blk w' w.heap.size (U r)∧Can r∧val r = val xs∧r.length ≤ xs.length∧Below w.heap.size w w':=by
  have hta:=ha.trim
  have hcx:=can_trim hx
  have hvx:=val_trim xs
  have hlx:=trim_length_le xs
  have H1:=Lib.hid (trimmed_any A ca xs w ha hca (by unfold maxLen; omega))
  generalize trim xs = xt at *
  have HV:=Lib.hid hvx
  clear hvx ha
  go_enter Tryz.func148,Tryz.ntmps148
  go_wp2_with fail
  refine H1.out.mono ?_; rintro e w' ⟨rfl,rfl⟩
  go_wp2_with fail
  refine (widened_any A ca xt.length xt _ hta (Nat.le_refl _) (by omega)).mono ?_; rintro e w1 ⟨rfl,hB1,hb1⟩
  go_wp2
  go_ret
  exact ⟨xt,rfl,by simpa using hB1,hcx,HV.out,hlx,hb1⟩
end LM
namespace LM
end LM
namespace LM
def sg (neg : Bool) (n : Nat) : Int:=if neg = true then -(n : Int) else (n : Int)
theorem sg_abs (neg : Bool) (n : Nat) : (sg neg n).natAbs = n:=by cases neg <;> simp [sg]
theorem sg_neg (neg : Bool) (n : Nat) : decide (sg neg n < 0) = (neg && decide (0 < n)):=by
  cases neg <;> simp [sg]
theorem sg_zero (neg : Bool) : sg neg 0 = 0:=by cases neg <;> rfl
def IntV (w : World) (v : Value) (z : Int) : Prop:=∃ A c r,v = .agg #[.bool (decide (z < 0)),.slice A (List.length r) c]∧r.length ≤ c∧c ≤ 9223372036854775807∧Rd w A r∧Can r∧val r = z.natAbs
def IntR (w : World) (v : Value) (z : Int) : Prop:=∃ A c r,v = .agg #[.bool (decide (z < 0)),.slice A (List.length r) c]∧Rd w A r∧Can r∧val r = z.natAbs
theorem IntV.keep {w w' : World} {v : Value} {z : Int} (h : IntV w v z) (hb : Below w.heap.size w w') : IntV w' v z:=by
  obtain ⟨A,c,r,e,h1,h2,h3,h4,h5⟩:=h
  exact ⟨A,c,r,e,h1,h2,h3.below hb,h4,h5⟩
theorem can_pos {r : List Nat} (h : Can r) : 0 < r.length ↔ 0 < val r:=by
  rw [can_len h 0,Nat.pow_zero]
  exact Iff.rfl
theorem not_big_len {r : List Nat} (h : Can r) (hl : r.length ≤ 64) : ¬ BIG (val r):=fun hb=>by
  have:=(big_iff h).2 hb
  omega
theorem len_not_big {r : List Nat} (h : Can r) (hb : ¬ BIG (val r)) : r.length ≤ 64:=by
  rcases Nat.lt_or_ge 64 r.length with h1 | h1
  · exact absurd ((big_iff h).1 h1) hb
  · exact h1
def BigI (z : Int) : Prop:=BIG z.natAbs
theorem bigI_sg (neg : Bool) (n : Nat) : BigI (sg neg n) ↔ BIG n:=by unfold BigI; rw [sg_abs]
/-! ### Sums,products,quotients,by sign and size -/
instance : DecidablePred BigI:=fun z=>inferInstanceAs (Decidable (4294967296 ^ 64 ≤ z.natAbs))
/-! ### A struct's block -/
def Bx (w : World) (g : Nat) (b : Bool) (A : Option Addr) (n c : Nat) : Prop:=w.heap[g]? = some (.cells #[.bool b,.slice A n c] 61 (0,0))
theorem Bx.lt {w : World} {g : Nat} {b : Bool} {A : Option Addr} {n c : Nat} (h : Bx w g b A n c) : g < w.heap.size:=by
  rcases Nat.lt_or_ge g w.heap.size with hlt | hge
  · exact hlt
  · unfold Bx at h; rw [Array.getElem?_eq_none hge] at h; cases h
theorem Bx.facts {w : World} {g : Nat} {b : Bool} {A : Option Addr} {n c : Nat} (h : Bx w g b A n c) :
    w.cell? ⟨g,0,none⟩ = some (.bool b)∧w.cell? ⟨g,1,none⟩ = some (.slice A n c)∧w.frozen? ⟨g,0,none⟩ = false∧w.frozen? ⟨g,1,none⟩ = false∧g < w.heap.size:=by
  have hl:=h.lt
  unfold Bx at h
  exact ⟨by simp [World.cell?,h],by simp [World.cell?,h],by simp [World.frozen?,h],by simp [World.frozen?,h],hl⟩
theorem Bx.keep {w w' : World} {g B : Nat} {b : Bool} {A : Option Addr} {n c : Nat} (h : Bx w g b A n c) (hb : Below B w w') (hg : g < B) : Bx w' g b A n c:=(hb.block _ hg).trans h
theorem Bx.below {w w' : World} {g : Nat} {b : Bool} {A : Option Addr} {n c : Nat} (h : Bx w g b A n c) (hb : Below w.heap.size w w') : Bx w' g b A n c:=h.keep hb h.lt
theorem Bx.new (w : World) (b : Bool) (A : Option Addr) (n c : Nat) : Bx (w.alloc (.cells #[.bool b,.slice A n c] 61)) w.heap.size b A n c:=by
  unfold Bx World.alloc
  simp
theorem Bx.set {w : World} {g : Nat} {b : Bool} {A : Option Addr} {n c : Nat} (h : Bx w g b A n c) {p : Addr} (v : Value) (hp : g ≠ p.block) : Bx (w.setCell p v) g b A n c:=(heap_setCell_other w p g v hp).trans h
theorem Bx.stored {w : World} {g : Nat} {b b' : Bool} {A A' : Option Addr} {n c n' c' : Nat} (h : Bx w g b A n c) : Bx ((w.setCell ⟨g,0,none⟩ (.bool b')).setCell ⟨g,1,none⟩ (.slice A' n' c')) g b' A' n' c':=by
  have h1:=heap_setCell_same w g 0 _ _ (.bool b') h
  have h2:=heap_setCell_same _ g 1 _ _ (.slice A' n' c') h1
  exact h2.trans rfl
theorem Rd.offBx {w : World} {g : Nat} {b : Bool} {A A' : Option Addr} {n c : Nat} {xs : List Nat} (h : Rd w A' xs) (hb : Bx w g b A n c) (hx : 0 < xs.length) : Off A' g:=by
  intro ad e e2
  obtain ⟨k,off,e3,hlt,hc⟩:=h hx
  rw [e3] at e
  injection e with e
  subst e
  obtain rfl : k = g:=e2
  have h0:=hc 0 hx
  unfold Bx at hb
  simp only [World.cell?,hb] at h0
  have : off = 0 ∨ off = 1 ∨ 2 ≤ off:=by omega
  rcases this with rfl | rfl | h2
  · simp at h0
  · simp at h0
  · rw [Array.getElem?_eq_none (by simp; omega)] at h0
    simp at h0
theorem Rd.stored {w : World} {g : Nat} {b : Bool} {A A' : Option Addr} {n c : Nat} {xs : List Nat} (h : Rd w A' xs) (hb : Bx w g b A n c) (u v : Value) : Rd ((w.setCell ⟨g,0,none⟩ u).setCell ⟨g,1,none⟩ v) A' xs:=fun hx =>
  ((h.setCell (p:=⟨g,0,none⟩) (h.offBx hb hx) u).setCell (p:=⟨g,1,none⟩) (h.offBx hb hx) v) hx
theorem IntV.stored {w : World} {v : Value} {z : Int} (h : IntV w v z) {g : Nat} {b : Bool} {A : Option Addr} {n c : Nat} (hb : Bx w g b A n c) (u u' : Value) : IntV ((w.setCell ⟨g,0,none⟩ u).setCell ⟨g,1,none⟩ u') v z:=by
  obtain ⟨A,c,r,e,h1,h2,h3,h4,h5⟩:=h
  exact ⟨A,c,r,e,h1,h2,h3.stored hb u u',h4,h5⟩
theorem IntR.stored {w : World} {v : Value} {z : Int} (h : IntR w v z) {g : Nat} {b : Bool} {A : Option Addr} {n c : Nat} (hb : Bx w g b A n c) (u u' : Value) : IntR ((w.setCell ⟨g,0,none⟩ u).setCell ⟨g,1,none⟩ u') v z:=by
  obtain ⟨A,c,r,e,h3,h4,h5⟩:=h
  exact ⟨A,c,r,e,h3.stored hb u u',h4,h5⟩
theorem below_stored {w w2 : World} {B : Nat} (h : Below B w w2) {g : Nat} (hg : B ≤ g) (u u' : Value) : Below B w ((w2.setCell ⟨g,0,none⟩ u).setCell ⟨g,1,none⟩ u'):=(h.setCell (p:=⟨g,0,none⟩) hg u).setCell (p:=⟨g,1,none⟩) hg u'
theorem stored_world {w w2 : World} {g B : Nat} {b : Bool} {A : Option Addr} {n c : Nat} (Y : Bx w2 g b A n c) (hb : Below B w w2) (hg : B ≤ g) (s : Bool) (A' : Option Addr) (n' c' : Nat) :
    ∃ W,(w2.setCell ⟨g,0,none⟩ (.bool s)).setCell ⟨g,1,none⟩ (.slice A' n' c') = W∧Bx W g s A' n' c'∧Below B w W∧(∀ v z,IntV w2 v z → IntV W v z)∧(∀ v z,IntR w2 v z → IntR W v z) ∧
      (∀ k b1 A1 n1 c1,k ≠ g → Bx w2 k b1 A1 n1 c1 → Bx W k b1 A1 n1 c1)∧(∀ A1 xs,Rd w2 A1 xs → Rd W A1 xs) :=
  ⟨_,rfl,Y.stored,below_stored hb hg _ _,fun _ _ h=>h.stored Y _ _,fun _ _ h=>h.stored Y _ _,fun _ _ _ _ _ hk h=>(h.set (p:=⟨g,0,none⟩) _ hk).set (p:=⟨g,1,none⟩) _ hk,fun _ _ h=>h.stored Y _ _⟩
end LM
end Go.Proofs.YtihbgghlnppkiaaGreatDoor
namespace Go.Proofs.YtihbgghlnppkiaaGreatDoor
open Go.RowKit Go.Shelf
attribute [local go_sem] Oper.semAt_some
namespace LM
attribute [local go_sem] round_fn wide_fn
theorem div_lt {h l n : Nat} (hn : h < n) (hl : l < 4294967296) : (h * 4294967296 + l) / n < 4294967296:=by
  rw [Nat.div_lt_iff_lt_mul (by omega),Nat.mul_comm]
  have:=Nat.mul_le_mul_right 4294967296 (show h + 1 ≤ n from hn)
  omega
def quoOf (h l n : Nat) : Nat:=(h * 4294967296 + l) / n
def remOf (h l n : Nat) : Nat:=(h * 4294967296 + l) % n
theorem div32_any (h l n : Nat) (w : World) (hn : h < n) (hl : l < 4294967296) (hnn : n < 4294967296) :
    Calls Tryz.prog 189 #[.int .u32 (h : Int),.int .u32 (l : Int),.int .u32 (n : Int)] w fun e w'=>e = .returned (.tuple #[.int .u32 ((quoOf h l n : Nat) : Int),.int .u32 ((remOf h l n : Nat) : Int)])∧∃ q,w' = w.drewN q:=by
  have hq:=div_lt hn hl
  have hr : (h * 4294967296 + l) % n < n:=Nat.mod_lt _ (by omega)
  have hoh:=or_high (x:=h) (y:=l) (by omega) hl
  have e1 : ((h : Int) * 4294967296 + (l : Int)) / (n : Int) = (((h * 4294967296 + l) / n : Nat) : Int):=by simp
  have e2 : ((h : Int) * 4294967296 + (l : Int)) % (n : Int) = (((h * 4294967296 + l) % n : Nat) : Int):=by simp
  have e3 : ((h * 4294967296 + l : Nat) : Int) = (h : Int) * 4294967296 + (l : Int):=by simp
  rw [e3] at hoh
  have HQ : Hid (quoOf h l n = (h * 4294967296 + l) / n):=Lib.hid rfl
  have HR : Hid (remOf h l n = (h * 4294967296 + l) % n):=Lib.hid rfl
  generalize (h * 4294967296 + l) / n = q at *
  generalize (h * 4294967296 + l) % n = r at *
  clear e3
  have hn0 : ((n : Int) != 0) = true:=by simp; omega
  go_enter Tryz.func189,Tryz.ntmps189
  go_wp2_with fail
  go_quiet (fail)
  go_wp2
  go_ret2
  refine ⟨?_,_,rfl⟩
  rw [HQ.out,HR.out]
  rfl
theorem Blk.kept {W W' : World} {g : Nat} {cs : List Value} {row : Option Nat} (h : Blk W g cs) (hg : W.grownBy W' row) (hr : ∀ r,row = some r → ∃ o : Obj,W.heap[r]? = some o∧o.isCells = false) : Blk W' g cs :=
  h.grown hg fun e=>by
    obtain ⟨o,ho,hc⟩:=hr g e.symm
    unfold Blk at h; rw [h] at ho; injection ho with ho; subst ho; cases hc
theorem only_row {w W W' : World} {g : Nat} {row : Option Nat} (h : w.grownBy W (some g)) (hg : W.grownBy W' row) (hr : ∀ r,row = some r → w.heap.size ≤ r) : w.grownBy W' (some g) :=
  ⟨hg.os.trans h.os,hg.tape.trans h.tape,hg.output.trans h.output,Nat.le_trans h.size hg.size,fun i hi hne=>(hg.block i (Nat.lt_of_lt_of_le hi h.size) (fun e=>by have:=hr i e.symm; omega)).trans (h.block i hi hne)⟩
theorem U_set (xs post : List Nat) (j y : Nat) (hj : j < xs.length) : (U (xs ++ post)).set j (.int .u32 (y : Int)) = U (xs.set j y ++ post):=by
  simp only [U,List.map_append]
  rw [List.set_append_left _ _ (by simpa using hj),List.map_set]
theorem set_at {xs qs : List Nat} {j q : Nat} (hj : j < xs.length) : (xs.take (j + 1) ++ qs).set j q = xs.take j ++ q :: qs:=by
  rw [List.take_succ_eq_append_getElem hj,List.append_assoc,List.set_append_right _ _ (by simp; omega)]
  simp [Nat.min_eq_left (Nat.le_of_lt hj)]
theorem Lm.set_ {xs : List Nat} (h : Lm xs) {j y : Nat} (hy : y < 4294967296) : Lm (xs.set j y):=by
  intro z hz
  rcases List.mem_or_eq_of_mem_set hz with h1 | rfl
  · exact h z h1
  · exact hy
theorem db_val {xs qs : List Nat} {j h n : Nat} (hj : j < xs.length) (hv : val (xs.drop (j + 1)) = val qs * n + h) :
    val (xs.drop j) = val (quoOf h (xs[j]?.getD 0) n :: qs) * n + remOf h (xs[j]?.getD 0) n:=by
  rw [drop_cons_get xs j hj,val,val,hv]
  generalize xs[j]?.getD 0 = x
  have e:=Nat.div_add_mod (h * 4294967296 + x) n
  unfold quoOf remOf
  generalize (h * 4294967296 + x) / n = q at *
  generalize (h * 4294967296 + x) % n = r at *
  grind
def DbI (w : World) (g cap : Nat) (xs post : List Nat) (n : Nat) (pre : List (Plc xs.length fun _ _=>True)) (W : World) : Prop :=
  ∃ (cur : List Nat) (h : Nat),cur.length = xs.length∧Lm cur∧h < n∧Blk W g (U (cur ++ post))∧W.cell? ⟨w.heap.size,0,none⟩ = some (.slice (some ⟨g,0,none⟩) xs.length cap) ∧
    W.cell? ⟨w.heap.size + 1,0,none⟩ = some (.int .u32 (n : Int))∧W.cell? ⟨w.heap.size + 1 + 1,0,none⟩ = some (.int .u32 (h : Int))∧W.frozen? ⟨w.heap.size + 1 + 1,0,none⟩ = false∧w.grownBy W (some g) ∧
    (pre.map plc = downs xs.length pre.length → pre.length ≤ xs.length → ∃ qs,cur = xs.take (xs.length - pre.length) ++ qs∧val (xs.drop (xs.length - pre.length)) = val qs * n + h)
theorem DbI.own {w : World} {g cap : Nat} {xs post : List Nat} {n B : Nat} (hB : w.heap.size ≤ B) : OwnFrom B (DbI w g cap xs post n):=fun _ _ _ _ hs hg hr=>by
  obtain ⟨cur,h,a1,a2,a3,a4,a5,a6,a7,a8,a9,a10⟩:=hs
  have hr2:=fun r e=>(hr r e).2
  exact ⟨cur,h,a1,a2,a3,a4.kept hg hr2,cell_kept a5 hg hr2,cell_kept a6 hg hr2,cell_kept a7 hg hr2,(frozen_kept a7 hg hr2).trans a8,only_row a9 hg (fun r e=>Nat.le_trans hB (hr r e).1),a10⟩
theorem db_next {xs cur : List Nat} {n h : Nat} {pre : List (Plc xs.length fun _ _=>True)} {x : Plc xs.length fun _ _=>True}
    (ho : pre.map plc = downs xs.length pre.length → pre.length ≤ xs.length → ∃ qs,cur = xs.take (xs.length - pre.length) ++ qs∧val (xs.drop (xs.length - pre.length)) = val qs * n + h) :
    (pre ++ [x]).map plc = downs xs.length (pre ++ [x]).length → (pre ++ [x]).length ≤ xs.length →
      ∃ qs,cur.set x.1.1 (quoOf h (cur[x.1.1]?.getD 0) n) = xs.take (xs.length - (pre ++ [x]).length) ++ qs∧val (xs.drop (xs.length - (pre ++ [x]).length)) = val qs * n + remOf h (cur[x.1.1]?.getD 0) n:=by
  intro hd hl
  rw [List.length_append,List.length_singleton] at hd hl ⊢
  rw [downs_succ,List.map_append] at hd
  obtain ⟨e1,e2⟩:=List.append_inj' hd rfl
  have e3 : x.1.1 = xs.length - 1 - pre.length:=by simpa [plc] using e2
  obtain ⟨qs,e4,e5⟩:=ho e1 (by omega)
  have hj : x.1.1 < xs.length:=x.2.1
  have hm : xs.length - pre.length = x.1.1 + 1:=by omega
  have hm2 : xs.length - (pre.length + 1) = x.1.1:=by omega
  rw [hm] at e4 e5
  rw [hm2]
  have hc : cur[x.1.1]?.getD 0 = xs[x.1.1]?.getD 0:=by
    rw [e4,List.getElem?_append_left (by simp; omega),List.getElem?_take,if_pos (by omega)]
  rw [hc]
  exact ⟨quoOf h (xs[x.1.1]?.getD 0) n :: qs,by rw [e4,set_at hj],db_val hj e5⟩
theorem divideBy_any (g cap : Nat) (xs post : List Nat) (n : Nat) (w : World) (hg : Blk w g (U (xs ++ post))) (hx : Lm xs) (hn : 0 < n) (hnn : n < 4294967296) (hxl : xs.length ≤ 1000) :
    Calls Tryz.prog 149 #[.slice (some ⟨g,0,none⟩) xs.length cap,.int .u32 (n : Int)] w fun e w' =>
      ∃ (zs : List Nat) (r : Nat),e = .returned (.int .u32 (r : Int))∧r < n∧zs.length = xs.length∧Lm zs∧val xs = val zs * n + r∧Blk w' g (U (zs ++ post))∧w.grownBy w' (some g):=by
  refine (callsIn_wide (n:=3)).1 ?_
  refine callsIn_of_wp_marks Tryz.func149 rfl trivial ?_ rfl
  simp only [Tryz.ntmps149,List.size_toArray,List.length_cons,List.length_nil,Nat.reduceAdd,Nat.reduceSub,Array.replicate_succ,Array.replicate_zero,List.push_toArray,List.append_toArray,List.nil_append,List.cons_append]
  gi_wp2_with (gi_at_call 150; refine (backward_in _ _ _ _ _).mono ?_; rintro e w' ⟨rfl,rfl⟩)
  generalize hWL : World.alloc _ _ = WL
  have q0:=(((Boxed.new w 59 (.slice (some ⟨g,0,none⟩) xs.length cap)).alloc (.cells #[.int .u32 (n : Int)] 92)).alloc (.cells #[.int .u32 0] 92)).alloc (.cells #[.slice (some ⟨g,0,none⟩) xs.length cap] 59)
  have q1:=((Boxed.new (w.alloc (.cells #[.slice (some ⟨g,0,none⟩) xs.length cap] 59)) 92 (.int .u32 (n : Int))).alloc (.cells #[.int .u32 0] 92)).alloc (.cells #[.slice (some ⟨g,0,none⟩) xs.length cap] 59)
  have q2:=(Boxed.new ((w.alloc (.cells #[.slice (some ⟨g,0,none⟩) xs.length cap] 59)).alloc (.cells #[.int .u32 (n : Int)] 92)) 92 (.int .u32 0)).alloc (.cells #[.slice (some ⟨g,0,none⟩) xs.length cap] 59)
  have q3:=Boxed.new (((w.alloc (.cells #[.slice (some ⟨g,0,none⟩) xs.length cap] 59)).alloc (.cells #[.int .u32 (n : Int)] 92)).alloc (.cells #[.int .u32 0] 92)) 59 (.slice (some ⟨g,0,none⟩) xs.length cap)
  simp only [World.size_alloc] at q1 q2 q3
  have hgl:=hg.lt
  have f0 : WL.heap.size = w.heap.size + 4:=by rw [← hWL]; simp
  have f1 : w.grownBy WL (some g):=by
    rw [← hWL]; exact only_alloc (only_alloc (only_alloc (only_alloc (only_refl _ _) _) _) _) _
  have fB : Blk WL g (U (xs ++ post)):=by rw [← hWL]; exact (((hg.alloc _).alloc _).alloc _).alloc _
  have f2 : DbI w g cap xs post n [] WL:=by
    refine ⟨xs,0,rfl,hx,hn,fB,?_,?_,?_,?_,f1,fun _ _=>⟨[],by simp,by simp [val]⟩⟩
    · rw [← hWL]; exact q0.cell
    · rw [← hWL]; exact q1.cell
    · rw [← hWL]; exact q2.cell
    · rw [← hWL]; exact q2.frozen
  have f3 : WL.cell? ⟨w.heap.size + 1 + 1 + 1,0,none⟩ = some (.slice (some ⟨g,0,none⟩) xs.length cap):=by rw [← hWL]; exact q3.cell
  clear q0 q1 q2 q3 hWL
  have hrd : ∀ (W : World) (cur : List Nat),cur.length = xs.length → Blk W g (U (cur ++ post)) → ∀ k,k < xs.length → ∃ v : Nat,True∧W.cell? ⟨g,0 + k,none⟩ = some (.int .u32 (v : Int)):=fun W cur hl h k hk=>by
    rw [Nat.zero_add,h.cell,U_get _ _ (by simp; omega)]; exact ⟨_,trivial,rfl⟩
  have HRD:=Lib.hid hrd
  have f4 : BwOk (w.heap.size + 1 + 1 + 1) (some ⟨g,0,none⟩) xs.length cap (fun _ _=>True) WL:=⟨f3,fun _=>⟨g,0,rfl,hrd WL xs rfl fB⟩⟩
  clear hrd f3
  refine wpIn_rangeFunc_ownG rfl (by decide) (gf:=190) (lb:=#[.pointer (some ⟨w.heap.size + 1 + 1 + 1,0,none⟩)]) rfl trivial (enters_of Tryz.func190 (by kernel_rfl) rfl)
    (backward_stops _ (by decide) (w.heap.size + 1 + 1 + 1) (some ⟨g,0,none⟩) xs.length cap (by omega) (fun _ _=>True) (fun W W'=>BwOk (w.heap.size + 1 + 1 + 1) (some ⟨g,0,none⟩) xs.length cap (fun _ _=>True) W → BwOk (w.heap.size + 1 + 1 + 1) (some ⟨g,0,none⟩) xs.length cap (fun _ _=>True) W') (fun _ _ h=>h) WL (by omega) (fun _ ad e=>by injection e with e; subst e; show g < _; omega) f4)
    (fun h k x=>k (h x)) (fun W l o o' _ h hc _ hk=>hk.kept (grownBy_putObj' W l o') (fun r e=>by cases e; exact ⟨o,h,hc⟩)) (Below.refl _ _) (fun _=>rfl)
    (fun pre W=>DbI w g cap xs post n pre W) (fun _ _ _=>False) (DbI.own (by omega)) (fun _ _ _ _ _ hs _ _=>hs) f2
    (fun x=>{ tmps:=#[.slice (some ⟨g,0,none⟩) xs.length cap,.int .u32 (n : Int),.pointer (some ⟨w.heap.size,0,none⟩),.pointer (some ⟨w.heap.size + 1,0,none⟩),.int .u32 0,.pointer (some ⟨w.heap.size + 1 + 1,0,none⟩),.int .i64 (x.1.1 : Int),.slice (some ⟨g,0,none⟩) xs.length cap,.func (.func 190) #[] #[.pointer (some ⟨w.heap.size + 1 + 1 + 1,0,none⟩)],.int .i64 (x.1.1 : Int),.int .u32 (x.1.2 : Int),undef,undef,undef,undef,undef,undef,undef,undef,undef,undef,undef,undef,undef,undef],defers:=[] }) ?assign ?body ?done ?stop
  case assign =>
    intro l x W K hK
    gi_wp2
    exact hK
  case body =>
    rintro l pre x W ⟨cur,h,a1,a2,a3,a4,a5,a6,a7,a8,a9,a10⟩ _
    have hj : x.1.1 < cur.length:=by have:=x.2.1; omega
    have hnx:=db_next (x:=x) a10
    have hcell : W.cell? ⟨g,x.1.1,none⟩ = some (.int .u32 ((cur[x.1.1]?.getD 0 : Nat) : Int)):=by
      rw [a4.cell,U_get _ _ (by simp; omega),List.getElem?_append_left hj]
    have hfz:=a4.frozen x.1.1
    have hcl:=a2.get x.1.1
    have hj2 : x.1.1 < xs.length:=by omega
    generalize hjx : x.1.1 = j at *
    generalize hcv : cur[j]?.getD 0 = cv at *
    have HNX:=Lib.hid hnx
    have HA10:=Lib.hid a10
    have HA1:=Lib.hid a1
    clear hnx a10 hjx hcv a1
    gi_wp2_with fail
    have hC : (fun W : World=>W.cell? ⟨w.heap.size,0,none⟩ = some (.slice (some ⟨g,0,none⟩) xs.length cap)∧W.cell? ⟨w.heap.size + 1,0,none⟩ = some (.int .u32 (n : Int))∧W.cell? ⟨w.heap.size + 1 + 1,0,none⟩ = some (.int .u32 (h : Int))) W.drew:=⟨a5,a6,a7⟩
    refine wpIn_region_C (fun j=>j == 14) _ (by kernel_rfl) (?_ : wpC _ _ _ _ _ _ (fun W : World=>W.cell? ⟨w.heap.size,0,none⟩ = some (.slice (some ⟨g,0,none⟩) xs.length cap)∧W.cell? ⟨w.heap.size + 1,0,none⟩ = some (.int .u32 (n : Int))∧W.cell? ⟨w.heap.size + 1 + 1,0,none⟩ = some (.int .u32 (h : Int))) _ _ _ _ _)
    refine wpC_take 0 (v:=.slice (some ⟨g,0,none⟩) xs.length cap) (fun _=>trivial) (by kernel_rfl) rfl (by kernel_rfl) (by kernel_rfl) (by kernel_rfl) (by kernel_rfl) (fun _ _ _ h=>h) hC ⟨rfl,fun w hw=>?_⟩ ?_
    · obtain ⟨h0,h1,h2⟩:=hw; go_simp
    refine wpC_take 1 (v:=.int .i64 (j : Int)) (fun _=>trivial) (by kernel_rfl) rfl (by kernel_rfl) (by kernel_rfl) (by kernel_rfl) (by kernel_rfl) (fun _ _ _ h=>h) hC ⟨rfl,fun w hw=>?_⟩ ?_
    · obtain ⟨h0,h1,h2⟩:=hw; go_simp
    refine wpC_take 2 (v:=.int .u32 (h : Int)) (fun _=>trivial) (by kernel_rfl) rfl (by kernel_rfl) (by kernel_rfl) (by kernel_rfl) (by kernel_rfl) (fun _ _ _ h=>h) hC ⟨rfl,fun w hw=>?_⟩ ?_
    · obtain ⟨h0,h1,h2⟩:=hw; go_simp
    refine wpC_take 3 (v:=.slice (some ⟨g,0,none⟩) xs.length cap) (fun _=>trivial) (by kernel_rfl) rfl (by kernel_rfl) (by kernel_rfl) (by kernel_rfl) (by kernel_rfl) (fun _ _ _ h=>h) hC ⟨rfl,fun w hw=>?_⟩ ?_
    · obtain ⟨h0,h1,h2⟩:=hw; go_simp
    refine wpC_take 4 (v:=.int .i64 (j : Int)) (fun _=>trivial) (by kernel_rfl) rfl (by kernel_rfl) (by kernel_rfl) (by kernel_rfl) (by kernel_rfl) (fun _ _ _ h=>h) hC ⟨rfl,fun w hw=>?_⟩ ?_
    · obtain ⟨h0,h1,h2⟩:=hw; go_simp
    refine wpC_take 7 (v:=.int .u32 (n : Int)) (fun _=>trivial) (by kernel_rfl) rfl (by kernel_rfl) (by kernel_rfl) (by kernel_rfl) (by kernel_rfl) (fun _ _ _ h=>h) hC ⟨rfl,fun w hw=>?_⟩ ?_
    · obtain ⟨h0,h1,h2⟩:=hw; go_simp
    refine wpC_take 5 (v:=.pointer (some ⟨g,j,none⟩)) (fun _=>trivial) (by kernel_rfl) rfl (by kernel_rfl) (by kernel_rfl) (by kernel_rfl) (by kernel_rfl) (fun _ _ _ h=>h) hC ⟨rfl,fun w hw=>?_⟩ ?_
    · obtain ⟨h0,h1,h2⟩:=hw; go_simp
    refine wpC_only 6 (by kernel_rfl) (wpOpIn_step rfl (fun K hK=>?_))
    go_simp
    refine hK _ _ ⟨fun _=>hC,?_⟩
    clear hK K
    refine wpC_only 8 (by kernel_rfl) (wpOpIn_step rfl (fun K hK=>?_))
    go_simp
    refine (CallsIn.inRound l (callsIn_wide.2 (div32_any h cv n _ a3 hcl hnn))).mono ?_
    rintro e w' ⟨rfl,nq,rfl⟩
    refine hK _ _ ⟨fun _=>hC,?_⟩
    clear hK K
    refine wpC_take 9 (v:=.tuple #[.int .u32 ((quoOf h cv n : Nat) : Int),.int .u32 ((remOf h cv n : Nat) : Int)]) (fun _=>trivial) (by kernel_rfl) rfl (by kernel_rfl) (by kernel_rfl) (by kernel_rfl) (by kernel_rfl) (fun _ _ _ h=>h) hC ⟨rfl,fun w hw=>?_⟩ ?_
    · go_simp
    refine wpC_take 10 (v:=.int .u32 ((quoOf h cv n : Nat) : Int)) (fun _=>trivial) (by kernel_rfl) rfl (by kernel_rfl) (by kernel_rfl) (by kernel_rfl) (by kernel_rfl) (fun _ _ _ h=>h) hC ⟨rfl,fun w hw=>?_⟩ ?_
    · go_simp
    refine wpC_take 11 (v:=.int .u32 ((remOf h cv n : Nat) : Int)) (fun _=>trivial) (by kernel_rfl) rfl (by kernel_rfl) (by kernel_rfl) (by kernel_rfl) (by kernel_rfl) (fun _ _ _ h=>h) hC ⟨rfl,fun w hw=>?_⟩ ?_
    · go_simp
    refine wpC_take 12 (v:=.pointer (some ⟨g,j,none⟩)) (fun _=>trivial) (by kernel_rfl) rfl (by kernel_rfl) (by kernel_rfl) (by kernel_rfl) (by kernel_rfl) (fun _ _ _ h=>h) hC ⟨rfl,fun w hw=>?_⟩ ?_
    · go_simp
    generalize hW2 : W.drew.drewN nq = W2
    have hcell2 : W2.cell? ⟨g,j,none⟩ = some (.int .u32 (cv : Int)):=by rw [← hW2]; exact hcell
    have hfz2 : W2.frozen? ⟨g,j,none⟩ = false:=by rw [← hW2]; exact hfz
    have hbx2 : W2.cell? ⟨w.heap.size + 1 + 1,0,none⟩ = some (.int .u32 (h : Int)):=by rw [← hW2]; exact a7
    have hbf2 : W2.frozen? ⟨w.heap.size + 1 + 1,0,none⟩ = false:=by rw [← hW2]; exact a8
    have HW2:=Lib.hid hW2
    clear hW2
    refine wpC_only 13 (by kernel_rfl) (wpOpIn_step rfl (fun K hK=>?_))
    go_simp
    refine hK _ _ ⟨fun _=>?_,?_⟩
    · have e : ∀ b,g ≠ b → (W2.setCell ⟨g,j,none⟩ (.int .u32 ((quoOf h cv n : Nat) : Int))).cell? ⟨b,0,none⟩ = W2.cell? ⟨b,0,none⟩:=fun b hb=>World.cell?_setCell_other _ _ _ _ (fun e=>hb (by cases e; rfl))
      exact ⟨(e _ (by omega)).trans (by rw [← HW2.out]; exact a5),(e _ (by omega)).trans (by rw [← HW2.out]; exact a6),(e _ (by omega)).trans hbx2⟩
    clear hK K
    refine wpC_only 14 (by kernel_rfl) (wpOpIn_step rfl (fun K hK=>?_))
    go_simp
    refine hK _ _ ⟨fun h=>(by cases h),?_⟩
    clear hK K
    refine wpC_done (by kernel_rfl) ?_
    gi_wp2
    have hB2 : Blk W2 g (U (cur ++ post)):=by rw [← HW2.out]; exact a4
    have hG2 : w.grownBy W2 (some g):=by rw [← HW2.out]; exact only_drewN (only_drew a9) _
    have hk2 : KeepsFrom WL.heap.size W W2:=by rw [← HW2.out]; exact ⟨Nat.le_refl _,fun k o _ hk _=>hk⟩
    have hq:=div_lt a3 hcl
    have hB3:=hB2.set_ j (.int .u32 ((quoOf h cv n : Nat) : Int))
    rw [U_set _ _ _ _ hj] at hB3
    have hB4:=hB3.far (p:=⟨w.heap.size + 1 + 1,0,none⟩) (fun e=>by have e2 : g = w.heap.size + 1 + 1:=e; omega) (.int .u32 ((remOf h cv n : Nat) : Int))
    have hlen : (cur.set j (quoOf h cv n)).length = xs.length:=by rw [List.length_set]; exact HA1.out
    have e1 : ∀ (V : World) b u,g ≠ b → (V.setCell ⟨g,j,none⟩ u).cell? ⟨b,0,none⟩ = V.cell? ⟨b,0,none⟩:=fun V b u hb=>World.cell?_setCell_other _ _ _ _ (fun e=>hb (by cases e; rfl))
    have e2 : ∀ (V : World) b u,w.heap.size + 1 + 1 ≠ b → (V.setCell ⟨w.heap.size + 1 + 1,0,none⟩ u).cell? ⟨b,0,none⟩ = V.cell? ⟨b,0,none⟩:=fun V b u hb=>World.cell?_setCell_other _ _ _ _ (fun e=>hb (by cases e; rfl))
    have k1:=hk2.trans ((KeepsOthers.setCell W2 ⟨g,j,none⟩ (.int .u32 ((quoOf h cv n : Nat) : Int))).from _)
    have k2:=k1.trans ((KeepsOthers.setCell (W2.setCell ⟨g,j,none⟩ (.int .u32 ((quoOf h cv n : Nat) : Int))) ⟨w.heap.size + 1 + 1,0,none⟩ (.int .u32 ((remOf h cv n : Nat) : Int))).from _)
    rw [f0] at k2
    refine ⟨⟨k2.size,k2.same⟩,fun hok=>⟨?_,fun _=>⟨g,0,rfl,HRD.out _ _ hlen hB4⟩⟩,cur.set j (quoOf h cv n),remOf h cv n,hlen,a2.set_ hq,Nat.mod_lt _ hn,hB4,?_,?_,?_,?_,?_,HNX.out⟩
    · exact (e2 _ _ _ (by omega)).trans ((e1 _ _ _ (by omega)).trans (by rw [← HW2.out]; exact hok.1))
    · exact (e2 _ _ _ (by omega)).trans ((e1 _ _ _ (by omega)).trans (by rw [← HW2.out]; exact a5))
    · exact (e2 _ _ _ (by omega)).trans ((e1 _ _ _ (by omega)).trans (by rw [← HW2.out]; exact a6))
    · exact World.cell?_setCell_same' _ _ _ (by rw [e1 _ _ _ (by omega),hbx2]; rfl)
    · rw [World.frozen?_setCell,World.frozen?_setCell]; exact hbf2
    · exact only_setCell (only_setCell hG2 (.inl rfl) _) (.inr (by show _ ≤ w.heap.size + 1 + 1; omega)) _
  case done =>
    rintro D ys W hD hds ⟨cur,h,a1,a2,a3,a4,a5,a6,a7,a8,a9,a10⟩ hK
    have HDS:=Lib.hid hds
    have HA10:=Lib.hid a10
    have HA1:=Lib.hid a1
    clear hds a10 a1
    gi_wp2
    refine ⟨by simp,.inl ⟨_,_,rfl,run_takeDeferred hK,?_⟩⟩
    have hlen : ys.length = xs.length:=by
      have h:=congrArg List.length HDS.out
      rwa [List.length_map,downs_len] at h
    obtain ⟨qs,e1,e2⟩:=HA10.out (by rw [hlen]; exact HDS.out) (by omega)
    rw [hlen,Nat.sub_self] at e1 e2
    simp only [List.take_zero,List.nil_append,List.drop_zero] at e1 e2
    subst e1
    exact ⟨_,results_tmp rfl _ _ _,cur,h,rfl,a3,HA1.out,a2,e2,a4.kept (grownBy_putObj' W D _) (fun r e=>by cases e; exact ⟨_,hK,rfl⟩),only_row a9 (grownBy_putObj' W D _) (fun r e=>by cases e; omega)⟩
  case stop =>
    rintro D c pre W _ _ h _
    exact h.elim
end LM
end Go.Proofs.YtihbgghlnppkiaaGreatDoor
namespace Go.Proofs.YtihbgghlnppkiaaGreatDoor
open Go Go.RowKit
namespace LM
section
variable {F : Fence} {n : Nat} {P : Program} {ops : Array Oper} {C : World → Prop} {md : Region.Mode} {Q : Exit → Act → World → Prop} {E : Nat → Bool}
end
def SBox (w : World) (p : Nat) (v : Value) : Prop:=w.heap[p]? = some (.cells #[v] 59 (0,0))
section
variable {w w' : World} {p g : Nat} {v u : Value} {cs : List Value}
theorem SBox.lt (h : SBox w p v) : p < w.heap.size:=by
  rcases Nat.lt_or_ge p w.heap.size with hlt | hge
  · exact hlt
  · unfold SBox at h; rw [Array.getElem?_eq_none hge] at h; cases h
theorem SBox.cell (h : SBox w p v) : w.cell? ⟨p,0,none⟩ = some v:=by rw [cell_of_row w p 0 #[v] 59 (0,0) h]; rfl
theorem SBox.new (w : World) (v : Value) : SBox (w.alloc (.cells #[v] 59)) w.heap.size v:=heap_alloc_new w _
theorem SBox.alloc (h : SBox w p v) (o : Obj) : SBox (w.alloc o) p v:=(Below.heap_alloc w o p h.lt).trans h
theorem SBox.below {B : Nat} (h : SBox w p v) (hb : Below B w w') (hp : p < B) : SBox w' p v:=(hb.block p hp).trans h
theorem SBox.grown {row : Option Nat} (h : SBox w p v) (hb : w.grownBy w' row) (hp : some p ≠ row) : SBox w' p v:=(hb.block p h.lt hp).trans h
theorem SBox.kept {row : Option Nat} (h : SBox w p v) (hg : w.grownBy w' row) (hr : ∀ r,row = some r → ∃ o : Obj,w.heap[r]? = some o∧o.isCells = false) : SBox w' p v :=
  h.grown hg fun e=>by
    obtain ⟨o,ho,hc⟩:=hr p e.symm
    unfold SBox at h; rw [h] at ho; injection ho with ho; subst ho; cases hc
end
section
variable {w0 W W' : World} {xs ys : List Nat} {s k : Nat} {b7 b8 : Bool} {v8 v9 v44 v47 v48 : Value}
end
end LM
namespace LM
end LM
end Go.Proofs.YtihbgghlnppkiaaGreatDoor
namespace Go.Proofs.YtihbgghlnppkiaaGreatDoor
open Go.RowKit
namespace LM
end LM
namespace LM
end LM
end Go.Proofs.YtihbgghlnppkiaaGreatDoor
