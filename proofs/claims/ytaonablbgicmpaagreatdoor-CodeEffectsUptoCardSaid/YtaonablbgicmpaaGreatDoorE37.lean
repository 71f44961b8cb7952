import Derived.Test.YtaonablbgicmpaaGreatDoorE35
import Derived.Test.YtaonablbgicmpaaGreatDoorE34
import Derived.Test.YtaonablbgicmpaaGreatDoorE32
import Derived.Deep.Strs
import Derived.Laws.IdiomStrings
import Derived.Laws.Runes
import Derived.Test.YtaonablbgicmpaaGreatDoorE20
import Derived.Lib.SliceRun
import Derived.Deep.RegionHeld3
import Derived.Test.YtaonablbgicmpaaGreatDoorE10
import Derived.Test.YtaonablbgicmpaaGreatDoorE31
import Derived.Test.YtaonablbgicmpaaGreatDoorE16
set_option linter.unusedVariables false
set_option linter.unusedSimpArgs false
set_option maxRecDepth 100000
set_option maxHeartbeats 16000000
namespace Go.Proofs.YtaonablbgicmpaaGreatDoor
open Go Go.RowKit
namespace LM
structure Out8 (g o : Nat) (W W' : World) : Prop where
 size : W'.heap.size = W.heap.size
 cell : ∀ c i,(c ≠ g ∨ i < o ∨ o + 8 ≤ i) → W'.cell? ⟨c,i,none⟩ = W.cell? ⟨c,i,none⟩
abbrev set8 (w : World) (g o : Nat) (h : Hd) (n : Nat) : World :=
 (((((((w.setCell ⟨g,o,none⟩ (.int .i64 h.k)).setCell ⟨g,o + 1,none⟩ (.int .i64 h.n)).setCell ⟨g,o + 2,none⟩ (.bool h.fl)).setCell ⟨g,o + 3,none⟩ (.float .f64 h.f)).setCell ⟨g,o + 4,none⟩ (.bool h.s)).setCell ⟨g,o + 5,none⟩ (.slice h.A h.xs.length h.c)).setCell ⟨g,o + 6,none⟩ (.string h.t)).setCell ⟨g,o + 7,none⟩ (.slice h.B n h.cap)
theorem cell_set_ne {w : World} {b i c j : Nat} {u : Value} (h : b ≠ c ∨ i ≠ j) : (w.setCell ⟨c,j,none⟩ u).cell? ⟨b,i,none⟩ = w.cell? ⟨b,i,none⟩:=by
 by_cases hb : b = c
 ·subst hb
  have ho : i ≠ j:=h.resolve_left (fun e=>e rfl)
  unfold World.cell? World.setCell
  simp only [Array.getElem?_modify,if_pos]
  cases w.heap[b]? with
  | none=>rfl
  | some o =>
   cases o <;> simp
   exact Array.getElem?_setIfInBounds_ne (fun e=>ho e.symm)
 ·exact World.cell?_of_block (Below.heap_setCell w _ u _ hb)
theorem cell_set_eq {w : World} {b i : Nat} {u v : Value} (h : w.cell? ⟨b,i,none⟩ = some v) : (w.setCell ⟨b,i,none⟩ u).cell? ⟨b,i,none⟩ = some u:=by
 unfold World.cell? at h ⊢
 unfold World.setCell
 simp only [Array.getElem?_modify,if_pos]
 cases hb : w.heap[b]? with
 | none=>rw [hb] at h; cases h
 | some o =>
  rw [hb] at h
  cases o <;> simp_all
  rename_i cs _ _
  rcases Nat.lt_or_ge i cs.size with h1 | h1
  ·simp [h1]
  ·rw [Array.getElem?_eq_none h1] at h; cases h
theorem set8_out (w : World) (g o : Nat) (h : Hd) (n : Nat) : Out8 g o w (set8 w g o h n):=by
 refine ⟨by simp [World.setCell],fun c i hc=>?_⟩
 unfold set8
 rw [cell_set_ne (by omega),cell_set_ne (by omega),cell_set_ne (by omega),cell_set_ne (by omega),cell_set_ne (by omega),cell_set_ne (by omega),cell_set_ne (by omega),cell_set_ne (by omega)]
theorem set8_c8 {w : World} {g o m : Nat} {h0 : Hd} (hc : C8 w g o h0 m) (h : Hd) (n : Nat) : C8 (set8 w g o h n) g o h n:=by
 have k : ∀ (W : World) (i j : Nat) (u : Value),i ≠ j → (W.setCell ⟨g,o + j,none⟩ u).cell? ⟨g,o + i,none⟩ = W.cell? ⟨g,o + i,none⟩:=fun W i j u hij=>cell_set_ne (.inr (by omega))
 have k0 : ∀ (W : World) (i : Nat) (u : Value),i ≠ 0 → (W.setCell ⟨g,o,none⟩ u).cell? ⟨g,o + i,none⟩ = W.cell? ⟨g,o + i,none⟩:=fun W i u hij=>cell_set_ne (.inr (by omega))
 have k1 : ∀ (W : World) (j : Nat) (u : Value),j ≠ 0 → (W.setCell ⟨g,o + j,none⟩ u).cell? ⟨g,o,none⟩ = W.cell? ⟨g,o,none⟩:=fun W j u hij=>cell_set_ne (.inr (by omega))
 obtain ⟨c0,c1,c2,c3,c4,c5,c6,c7⟩:=hc
 unfold set8
 refine ⟨?_,?_,?_,?_,?_,?_,?_,?_⟩
 ·rw [k1 _ 7 _ (by decide),k1 _ 6 _ (by decide),k1 _ 5 _ (by decide),k1 _ 4 _ (by decide),k1 _ 3 _ (by decide),k1 _ 2 _ (by decide),k1 _ 1 _ (by decide)]
  exact cell_set_eq c0
 ·rw [k _ 1 7 _ (by decide),k _ 1 6 _ (by decide),k _ 1 5 _ (by decide),k _ 1 4 _ (by decide),k _ 1 3 _ (by decide),k _ 1 2 _ (by decide)]
  exact cell_set_eq (v:=.int .i64 h0.n) (by rw [k0 _ 1 _ (by decide)]; exact c1)
 ·rw [k _ 2 7 _ (by decide),k _ 2 6 _ (by decide),k _ 2 5 _ (by decide),k _ 2 4 _ (by decide),k _ 2 3 _ (by decide)]
  exact cell_set_eq (v:=.bool h0.fl) (by rw [k _ 2 1 _ (by decide),k0 _ 2 _ (by decide)]; exact c2)
 ·rw [k _ 3 7 _ (by decide),k _ 3 6 _ (by decide),k _ 3 5 _ (by decide),k _ 3 4 _ (by decide)]
  exact cell_set_eq (v:=.float .f64 h0.f) (by rw [k _ 3 2 _ (by decide),k _ 3 1 _ (by decide),k0 _ 3 _ (by decide)]; exact c3)
 ·rw [k _ 4 7 _ (by decide),k _ 4 6 _ (by decide),k _ 4 5 _ (by decide)]
  exact cell_set_eq (v:=.bool h0.s) (by rw [k _ 4 3 _ (by decide),k _ 4 2 _ (by decide),k _ 4 1 _ (by decide),k0 _ 4 _ (by decide)]; exact c4)
 ·rw [k _ 5 7 _ (by decide),k _ 5 6 _ (by decide)]
  exact cell_set_eq (v:=.slice h0.A h0.xs.length h0.c) (by rw [k _ 5 4 _ (by decide),k _ 5 3 _ (by decide),k _ 5 2 _ (by decide),k _ 5 1 _ (by decide),k0 _ 5 _ (by decide)]; exact c5)
 ·rw [k _ 6 7 _ (by decide)]
  exact cell_set_eq (v:=.string h0.t) (by rw [k _ 6 5 _ (by decide),k _ 6 4 _ (by decide),k _ 6 3 _ (by decide),k _ 6 2 _ (by decide),k _ 6 1 _ (by decide),k0 _ 6 _ (by decide)]; exact c6)
 ·exact cell_set_eq (v:=.slice h0.B m h0.cap) (by rw [k _ 7 6 _ (by decide),k _ 7 5 _ (by decide),k _ 7 4 _ (by decide),k _ 7 3 _ (by decide),k _ 7 2 _ (by decide),k _ 7 1 _ (by decide),k0 _ 7 _ (by decide)]; exact c7)
end LM
namespace LM
def head8 (h : Hd) (n : Nat) : List Value:=[.int .i64 h.k,.int .i64 h.n,.bool h.fl,.float .f64 h.f,.bool h.s,.slice h.A h.xs.length h.c,.string h.t,.slice h.B n h.cap]
end LM
end Go.Proofs.YtaonablbgicmpaaGreatDoor
namespace Go.Proofs.YtaonablbgicmpaaGreatDoor
open Go Go.RowKit Go.ChangeShapes Go.WideShapes
namespace LM
section
variable {H : Type} {enc : TypeId × Value → H} {w : World} {base : Nat} {held : Bool}
theorem open_num4 {fuel : Nat} {c0 c1 c2 c3 : Value} {y : DataW H × List MemPlace} (hf : DataW.trod enc Tryz.prog w base (fun _=>true) held fuel 42 [c0,c1,c2,c3] = some y) :
  ∃ fl f s A c xs,c0 = .bool fl∧c1 = .float .f64 f∧c2 = .bool s∧c3 = .slice A (List.length xs) c∧f < 18446744073709551616∧Lm xs∧Rd w A xs∧xs.length ≤ c∧c ≤ 9223372036854775807∧(A = none → xs.length = 0∧c = 0)∧∀ ad,A = some ad → 0 < c → ad.spot = none:=by
 obtain ⟨y0,y1,y2,n,hx,_,h0,h1,h2⟩:=Go.Deep.trod_struct3 Tryz.underlying42 hf
 have g0 : DataW.trod enc Tryz.prog w base (fun _=>true) held n 4 [c0] = some y0:=h0
 have g1 : DataW.trod enc Tryz.prog w base (fun _=>true) held n 37 [c1] = some y1:=h1
 have g2 : DataW.trod enc Tryz.prog w base (fun _=>true) held n 40 [c2,c3] = some y2:=h2
 obtain ⟨fl,hb,-⟩:=DataW.trod_bool Tryz.underlying4 g0
 obtain ⟨f,hff,hfl⟩:=trod_flt Tryz.underlying37 g1
 obtain ⟨z0,z1,n',-,-,k0,k1⟩:=trod_struct2 Tryz.underlying40 g2
 have e0 : DataW.trod enc Tryz.prog w base (fun _=>true) held n' 4 [c2] = some z0:=k0
 have e1 : DataW.trod enc Tryz.prog w base (fun _=>true) held n' 38 [c3] = some z1:=k1
 obtain ⟨s,hs,-⟩:=DataW.trod_bool Tryz.underlying4 e0
 obtain rfl : c0 = .bool fl:=by simpa using hb
 obtain rfl : c1 = .float .f64 f:=by simpa using hff
 obtain rfl : c2 = .bool s:=by simpa using hs
 rcases open_ints Tryz.underlying38 Tryz.underlying159 (by kernel_rfl) e1 with ⟨hcs,_⟩ | ⟨x,l,c,zs,hcs,_,hl,hm,hz,_,hcell,hwz⟩
 ·obtain rfl : c3 = .slice none 0 0:=by simpa using hcs
  exact ⟨fl,f,s,none,0,[],rfl,rfl,rfl,rfl,hfl,Lm.nil,Rd.nil,Nat.le_refl _,by decide,fun _=>⟨rfl,rfl⟩,fun ad e=>by cases e⟩
 ·obtain rfl : c3 = .slice (some x) l c:=by simpa using hcs
  obtain ⟨xs,rfl,hx,ha,hca,hcm,hn⟩:=open_row (w:=w) (a:=some x) (len:=l) (cap:=c) (zs:=zs) (.inr ⟨_,rfl,hl,hm,by simpa using hz,hcell,hwz⟩)
  refine ⟨fl,f,s,some x,c,xs,rfl,rfl,rfl,rfl,hfl,hx,ha,hca,hcm,hn,fun ad e h0=>?_⟩
  injection e with e
  subst e
  have hzl : zs.length = c:=by simpa using hz
  have hc0:=hcell 0 (by omega)
  have hx0 : x.add 0 = x:=by simp [Addr.add]
  rw [hx0] at hc0
  have:=(spot_none hc0).1
  rw [this]
structure Hd.Raw (h : Hd) (m : Nat) : Prop where
 k : -9223372036854775808 ≤ h.k∧h.k ≤ 9223372036854775807
 n : -9223372036854775808 ≤ h.n∧h.n ≤ 9223372036854775807
 f : h.f < 18446744073709551616
 lm : Lm h.xs
 c : h.xs.length ≤ h.c∧h.c ≤ 9223372036854775807
 nA : h.A = none → h.xs.length = 0∧h.c = 0
 t : h.t.size ≤ maxLen
 cap : m ≤ h.cap∧h.cap ≤ 9223372036854775807
 nB : h.B = none → m = 0∧h.cap = 0
 sA : ∀ ad,h.A = some ad → 0 < h.c → ad.spot = none
 sB : ∀ ad,h.B = some ad → 0 < h.cap → ad.spot = none
def Fr.Raw : Fr → Prop
 | .nil=>True
 | .cons h kids rest=>h.Raw kids.len∧kids.Raw∧rest.Raw
theorem int_range {z : Int} (h : (Lit.int .i64 z).wf = true) : -9223372036854775808 ≤ z∧z ≤ 9223372036854775807:=by
 simp [Lit.wf,IntKind.min,IntKind.max,IntKind.signed,IntKind.bits] at h
 omega
end
end LM
end Go.Proofs.YtaonablbgicmpaaGreatDoor
namespace Go.Proofs.YtaonablbgicmpaaGreatDoor
open Go Go.RowKit
namespace LM
attribute [local go_sem] run_store_flt
theorem Fr.Raw.drop : ∀ (i : Nat) {fr : Fr},fr.Raw → (fr.drop i).Raw:=by
 intro i
 induction i with
 | zero=>intro fr h; exact h
 | succ i ih =>
  intro fr h
  cases fr with
  | nil=>exact trivial
  | cons hh k r=>exact ih h.2.2
end LM
namespace LM
theorem rsigns2_any (s : ByteArray) (hs : s.size ≤ 1048576) (w : World) :
  Calls Tryz.prog 86 #[.string s] w fun e w'=>(∃ A c,e = .returned (.tuple #[.slice A ((signsL s.size s.data.toList).getD 0) c,.bool (signsL s.size s.data.toList).isSome]))∧Below w.heap.size w w':=by
 obtain ⟨RES,hRES⟩ : ∃ RES,signsL s.size s.data.toList = RES:=⟨_,rfl⟩
 rw [hRES]
 obtain ⟨W1,hW1⟩ : ∃ W1,w.alloc (.cells #[] 3) = W1:=⟨_,rfl⟩
 have hb1 : Below w.heap.size w W1:=by rw [← hW1]; exact (Below.refl _ w).alloc (Nat.le_refl _) _
 have hs1 : W1.heap.size = w.heap.size + 1:=by rw [← hW1]; simp
 have hown : W1.ownsRow w.heap.size 3 1 (.slice (some ⟨w.heap.size,0,none⟩) 0 0) 0 []:=by
  have hm:=World.ownsRow_made w (e:=3) (size:=1) (base:=w.heap.size) #[] 0 (by omega) (Nat.zero_le _) (by simp)
  rw [hW1] at hm
  exact hm
 have hi:=int_info
 cases hinf : Tryz.prog.info? 3 with
 | none=>rw [hinf] at hi; cases hi
 | some i0 =>
 rw [hinf] at hi
 simp only [Option.map_some,Option.some.injEq,Prod.mk.injEq,decide_eq_true_eq] at hi
 have HB1:=Lib.hid hb1
 have HW1:=Lib.hid hW1
 have HS1:=Lib.hid hs1
 have HRES:=Lib.hid hRES
 have HOWN:=Lib.hid hown
 clear hb1 hW1 hs1 hRES hown
 go_enter Tryz.func86,Tryz.ntmps86
 go_wp2_with (fail)
 rw [HW1.out]
 obtain ⟨WI,hWI⟩ : ∃ WI,W1.iter s 0 = WI:=⟨_,rfl⟩
 have hbi : Below W1.heap.size W1 WI:=by rw [← hWI]; exact below_iterD W1 s 0
 have hit : WI.heap[w.heap.size + 1]? = some (.stringIter s 0):=by rw [← hWI,← HS1.out]; exact World.iter_heap W1 s 0
 have BI:=Lib.hid (bel_trans (B:=w.heap.size) HB1.out hbi)
 have IT:=Lib.hid hit
 have OI:=Lib.hid (owns_at HOWN.out hbi)
 rw [hWI]
 clear hbi hit hWI
 go_loopg [4,5,6,7,8] (s.size + 1) (fun kk l _ _ _ _ wr=>Below w.heap.size w wr∧∃ (lv : Value) (pos n : Nat),lv = l∧n ≤ pos∧s.size ≤ pos + kk - 1∧1 ≤ kk∧wr.heap[w.heap.size + 1]? = some (.stringIter s pos)∧(∃ xs,wr.ownsRow w.heap.size 3 1 lv n xs)∧lv.ownBlock ≠ some (w.heap.size + 1) ∧
  RES = (signsL (kk - 1) (s.data.toList.drop pos)).map (· + n))
 case atStart=>exact ⟨BI.out,_,0,0,rfl,Nat.le_refl _,by omega,by omega,IT.out,⟨_,OI.out⟩,by simp [Value.ownBlock],by rw [List.drop_zero,Nat.add_sub_cancel,HRES.out]; cases RES <;> simp⟩
 case round =>
  obtain ⟨r1,lv,pos,n,rfl,hnp,hfu,hk1,r2,⟨xs,r3⟩,r4,r5⟩:=hrel
  obtain ⟨kq,rfl⟩ : ∃ kq,gk = kq + 1:=⟨gk - 1,by omega⟩
  rw [Nat.add_sub_cancel] at r5
  by_cases hp : pos < s.size
  ·have hne : s.data.toList.drop pos ≠ []:=by
    intro h0
    have:=congrArg List.length h0
    rw [List.length_drop,← Lib.size_eq] at this
    simp at this
    omega
   obtain ⟨kp,rfl⟩ : ∃ kp,kq = kp + 1:=⟨kq - 1,by omega⟩
   have hdl:=Lib.decodeL_drop s pos
   have hval:=dec_valid (s.data.toList.drop pos)
   have hwid:=Lib.decodeL_width (s.data.toList.drop pos)
   rw [signsL,if_neg hne,hdl] at r5
   rw [hdl] at hval hwid
   obtain ⟨⟨r,d⟩,hrd⟩ : ∃ x,Utf8.decode s pos = x:=⟨_,rfl⟩
   rw [hrd] at r5 hval hwid
   simp only at r5 hval hwid
   obtain ⟨W2,hW2⟩ : ∃ W2,wr.iterAt (w.heap.size + 1) s (pos + d) = W2:=⟨_,rfl⟩
   have hnx : ∀ ty,(Instr.next (.pointer (some ⟨w.heap.size + 1,0,none⟩)) true ty).run Tryz.prog wr = .ok (.tuple #[.bool true,.int .i64 (pos : Int),.int .i32 (r : Int)]) W2:=fun ty=>by
    rw [Lib.run_next_any_at wr (w.heap.size + 1) s pos ty r2 hp,hrd,hW2]
   have hz2 : W2.heap.size = wr.heap.size:=by rw [← hW2,Lib.iterAt_size]
   have q2 : W2.heap[w.heap.size + 1]? = some (.stringIter s (pos + d)):=by rw [← hW2]; exact Lib.iterAt_heap wr (w.heap.size + 1) s pos (pos + d) r2
   have q1 : Below w.heap.size w W2:=by rw [← hW2]; exact Lib.below_iterAt r1 (by omega) s (pos + d)
   have hlt2:=(Array.getElem?_eq_some_iff.1 r2).1
   have q3 : W2.ownsRow w.heap.size 3 1 lv n xs:=r3.kept (row:=some (w.heap.size + 1)) ⟨by rw [← hW2]; rfl,by rw [← hW2]; rfl,by rw [← hW2]; rfl,by omega,fun k hk hkn=>by rw [← hW2]; exact Lib.iterAt_other _ _ _ _ _ (fun e=>hkn (by rw [e]))⟩ (.inr r4)
   have hb2 : Below W2.heap.size W2 (W2.alloc (.cells #[.int .i32 (r : Int)] 21)):=(Below.refl _ W2).alloc (Nat.le_refl _) _
   obtain ⟨W3,hW3⟩ : ∃ W3,W2.alloc (.cells #[.int .i32 (r : Int)] 21) = W3:=⟨_,rfl⟩
   rw [hW3] at hb2
   obtain ⟨own,hown⟩ : ∃ o,runesBytes [(r : Int)] = o:=⟨_,rfl⟩
   have hcell : W3.cell? ⟨W2.heap.size,0,none⟩ = some (.int .i32 (r : Int)):=by rw [← hW3]; exact cell_alloc_first W2 _ _
   have hcv : (convert 95 9 (.slice (some ⟨W2.heap.size,0,none⟩) 1 1)).run Tryz.prog W3 = .ok (.string own) W3:=by
    rw [run_convert_runes W3 _ _ 21 ⟨W2.heap.size,0,none⟩ 1 1 [(r : Int)] (Nat.le_refl _) Tryz.underlying95 Tryz.underlying21 Tryz.underlying9 (fun j hj=>by
     have hj0 : j = 0:=by have : j < 1:=hj; omega
     subst hj0
     exact hcell),← hown]
    rfl
   rw [← hW3] at hcv
   have hcv2 : (convert 95 9 (.slice (some ⟨W2.heap.size,0,none⟩) 1 1)).run Tryz.prog (W2.alloc (.cells #[.int .i32 (r : Int)] 21)) = .ok (.string own) W3:=by rw [hcv,hW3]
   clear hcv
   have hol : own.data.toList = encL r:=by
    rw [← hown,← encode_L r hval]
    show (ByteArray.empty ++ Utf8.encode (r : Int)).data.toList = _
    rw [ByteArray.empty_append]
   have hoz : own.size = (encL r).length:=by rw [Lib.size_eq,hol]
   have hox : own.size ≤ 4:=by rw [← hown]; exact runesBytes_size_le [(r : Int)]
   have w0 : IntKind.i64.wrap (r : Int) = (r : Int):=by rw [IntKind.wrap_i64]; omega
   have w1 : IntKind.i64.wrap ((s.size : Int) - (pos : Int)) = ((s.size - pos : Nat) : Int):=by rw [IntKind.wrap_i64]; omega
   have w2 : IntKind.i64.wrap ((pos : Int) + (own.size : Int)) = ((pos + own.size : Nat) : Int):=by rw [IntKind.wrap_i64]; omega
   have hr5 : RES = (if (s.data.toList.drop pos).take own.size = own.data.toList then (signsL kp ((s.data.toList.drop pos).drop d)).map (· + 1) else none).map (· + n):=by rw [hoz,hol]; exact r5
   have hb3:=bel_trans (B:=w.heap.size) q1 hb2
   have hz3 : W3.heap.size = W2.heap.size + 1:=by rw [← hW3]; simp
   have HB3:=Lib.hid hb3
   have IT3:=Lib.hid ((hb2.block _ (by omega)).trans q2)
   have OW3:=Lib.hid (owns_at q3 hb2)
   have R5:=Lib.hid hr5
   have R4:=Lib.hid r4
   have HW3:=Lib.hid hW3
   have hlt3 : w.heap.size + 1 < W3.heap.size:=by omega
   have FU:=Lib.hid hfu
   by_cases hq1 : s.size - pos < own.size
   ·have d1 : decide (((s.size - pos : Nat) : Int) < (own.size : Int)) = true:=decide_eq_true (by omega)
    have d2 : decide (s.size - pos < own.size) = true:=decide_eq_true hq1
    have RN : Hid (RES = none):=Lib.hid (by
     rw [R5.out,if_neg]
     ·rfl
     ·intro h
      have:=congrArg List.length h
      rw [List.length_take,List.length_drop,← Lib.size_eq,← Lib.size_eq] at this
      omega)
    clear hr5 hol hoz hown hW2 hW3 hcell q1 q2 q3 hb2 hb3 r1 r2 r3 r5 r4 hval hwid hrd hdl hne hz2 hz3 hlt2 hq1 hfu
    go_wp2_with (fail)
    go_ret2
    exact ⟨⟨none,0,by rw [RN.out]; rfl⟩,HB3.out⟩
   ·have d1 : decide (((s.size - pos : Nat) : Int) < (own.size : Int)) = false:=decide_eq_false (by omega)
    have d2 : decide (s.size - pos < own.size) = false:=decide_eq_false hq1
    have l1 : pos + own.size ≤ s.size:=by omega
    have l2 : pos ≤ pos + own.size:=by omega
    have hext:=extract_take s pos own.size
    by_cases hq2 : (s.data.toList.drop pos).take own.size = own.data.toList
    ·have f1 : ((s.extract pos (pos + own.size)).toList == own.toList) = true:=by
      rw [Go.ByteArray.toList_eq,Go.ByteArray.toList_eq,hext,hq2]
      simp
     have RN : Hid (RES = (signsL kp (s.data.toList.drop (pos + d))).map (· + (n + 1))):=Lib.hid (by
      rw [R5.out,if_pos hq2,List.drop_drop,Option.map_map]
      congr 1
      funext x
      show x + 1 + n = x + (n + 1)
      omega)
     have HHN:=Lib.hid hnp
     have HWD:=Lib.hid hwid
     clear hr5 hol hoz hown hW2 hW3 hcell q1 q2 q3 hb2 hb3 r1 r2 r3 r5 r4 hval hwid hrd hdl hne hz2 hz3 hq1 hq2 hext hfu hnp
     go_wp2_with (at_builtin; refine wpList_append_own_at _ rfl _ _ 124 rfl w.heap.size 3 i0 _ 1 i0.bytes Tryz.underlying124 hinf hi.1 hi.2.1 rfl rfl (by decide) _ _ _ rfl (OW3.out.alloc _) ⟨W3.heap.size,0,none⟩ 1 1 [.int .i64 (r : Int)] rfl ?qc1 ?qc2 ?qc3 ?qc4 ?qc5 ?qc6 ?_)
     case qc1=>rfl
     case qc2 =>
      intro j u hu
      have hj0 : j = 0:=by
       have:=(List.getElem?_eq_some_iff.1 hu).1
       have h1 : j < 1:=this
       omega
      subst hj0
      have hu2 : u = .int .i64 (r : Int):=by simpa using hu.symm
      subst hu2
      exact cell_alloc_first W3 _ _
     case qc3=>intro u hu; simp at hu; subst hu; rfl
     case qc4=>unfold maxLen; have:=HHN.out; omega
     case qc5 => have h1 : n + 1 ≤ 1048577 := by have := HHN.out; omega
                 exact Nat.le_trans (Nat.mul_le_mul h1 hi.2.2) (by decide)
     case qc6=>simp; omega
     intro v' w3 hown3 hgrow3 _ hnw3
     have hba : Below W3.heap.size W3 (W3.alloc (.cells #[.int .i64 (r : Int)] 3)):=(Below.refl _ W3).alloc (Nat.le_refl _) _
     have hob : ∀ k,lv.ownBlock = some k → w.heap.size ≤ k:=fun k hk=>by
      obtain ⟨-,⟨rfl,-⟩ | ⟨g,cap,cur,rfl,hg,-⟩⟩:=OW3.out
      ·cases hk
      ·injection hk with hk
       subst hk
       exact hg
     have NB:=Lib.hid ((bel_trans (B:=w.heap.size) HB3.out hba).grown hgrow3 (by have:=hba.size; omega) (fun k hk=>hob k hk))
     have NI:=Lib.hid (show w3.heap[w.heap.size + 1]? = some (.stringIter s (pos + d)) by
      have hs3:=hba.size
      rw [hgrow3.block _ (by omega) (fun e=>R4.out e.symm),hba.block _ (by omega)]
      exact IT3.out)
     have NO:=Lib.hid hown3
     have NX:=Lib.hid (show v'.ownBlock ≠ some (w.heap.size + 1) by
      rcases hnw3 with e | e
      ·rw [e]; exact R4.out
      ·rw [e]
       intro h
       injection h with h
       try rw [World.size_alloc] at h
       omega)
     clear hown3 hgrow3 hnw3 hba hob
     go_wp2_with (fail)
     go_roundg (kp + 1)
     case measure=>omega
     case rel=>exact ⟨NB.out,v',pos + d,n + 1,rfl,by have:=HHN.out; have:=HWD.out; omega,by have:=FU.out; have:=HWD.out; omega,by omega,NI.out,⟨_,NO.out⟩,NX.out,by rw [Nat.add_sub_cancel]; exact RN.out⟩
    ·have f1 : ((s.extract pos (pos + own.size)).toList == own.toList) = false:=by
      rw [Go.ByteArray.toList_eq,Go.ByteArray.toList_eq,hext]
      exact beq_eq_false_iff_ne.2 hq2
     have RN : Hid (RES = none):=Lib.hid (by rw [R5.out,if_neg hq2]; rfl)
     clear hr5 hol hoz hown hW2 hW3 hcell q1 q2 q3 hb2 hb3 r1 r2 r3 r5 r4 hval hwid hrd hdl hne hz2 hz3 hlt2 hq1 hq2 hext hfu
     go_wp2_with (fail)
     go_ret2
     exact ⟨⟨none,0,by rw [RN.out]; rfl⟩,HB3.out⟩
  ·have hnx : ∀ ty,(Instr.next (.pointer (some ⟨w.heap.size + 1,0,none⟩)) true ty).run Tryz.prog wr = .ok (.tuple #[.bool false]) wr:=fun ty=>Lib.run_next_end_at wr (w.heap.size + 1) s pos ty r2 hp
   have RN : Hid (RES = some n):=Lib.hid (by
    have : s.data.toList.drop pos = []:=List.drop_eq_nil_of_le (by rw [← Lib.size_eq]; omega)
    rw [r5,this,signs_nil]
    show some (0 + n) = some n
    rw [Nat.zero_add])
   obtain ⟨A,c,rfl⟩ : ∃ A c,lv = .slice A n c:=by
    obtain ⟨-,⟨rfl,h1⟩ | ⟨g,cap,cur,rfl,-⟩⟩:=r3
    ·exact ⟨none,0,by rw [h1]⟩
    ·exact ⟨_,_,rfl⟩
   have HR1:=Lib.hid r1
   clear r1 r2 r3 r4 r5 hfu hp hnp
   go_wp2_with (fail)
   go_ret2
   exact ⟨⟨A,c,by rw [RN.out]; rfl⟩,HR1.out⟩
attribute [local go_sem] run_store_flt
def TxG : Fr → Prop
 | .nil=>True
 | .cons h k r=>h.t.size ≤ 1048576∧TxG k∧TxG r
theorem TxG.drop : ∀ (j : Nat) {fr : Fr},TxG fr → TxG (fr.drop j):=by
 intro j
 induction j with
 | zero=>intro fr h; exact h
 | succ j ih =>
  intro fr h
  cases fr with
  | nil=>exact h
  | cons hh k r=>exact ih h.2.2
theorem LmF.of_raw : ∀ {fr : Fr},fr.Raw → LmF fr:=by
 intro fr
 induction fr with
 | nil=>intro _; exact trivial
 | cons h k r ihk ihr=>intro hok; exact ⟨hok.1.lm,ihk hok.2.1,ihr hok.2.2⟩
theorem rkind2_any (nm : ByteArray → Bool) (h : Hd) (n b off : Nat) (hl : Hd) (m : Nat) (w : World) (hn : n ≤ 9223372036854775807)
  (hR : CallB w 52 #[numA h.fl h.f h.s h.A h.xs.length h.c] (.bool (rightN h.fl h.f h.s h.xs)))
  (hN : h.k = 4 → CallB w 87 #[.string h.t] (.bool (nm h.t))) (ht : h.t.size ≤ 1048576)
  (hB : 0 < n → h.B = some ⟨b,off,none⟩) (hc : 0 < n → C8 w b (off + (n - 1) * 8) hl m) :
  Calls Tryz.prog 54 #[datA h n] w fun e w'=>e = .returned (.bool (rkindB nm h n hl.k))∧Below w.heap.size w w':=by
 obtain ⟨W0,hW0,hb0,ho,hs0⟩:=dat_block w h n
 obtain ⟨q,hq⟩ : ∃ q,rkindB nm h n hl.k = q:=⟨_,rfl⟩
 rw [hq]
 unfold rkindB at hq
 have HQ:=Lib.hid hq
 have HR:=Lib.hid (hR W0 hb0)
 have HW0:=Lib.hid hW0
 have HB0:=Lib.hid hb0
 obtain ⟨x0,x1,x2,x3,x4,x5,x6,x7⟩:=C8.of_block ho
 have HC:=Lib.hid fun (h : 0 < n)=>(hc h).keep hb0 (spot_none (hc h).c0).2
 have HN:=Lib.hid fun (e : h.k = 4)=>hN e W0 hb0
 clear hW0 hb0 ho hs0 hR hq hN hc
 rcases kinds h.k with e | e | e | e | e | e | e | e | ⟨k0,k1,k2,k3,k4,k5,k6,k7⟩
 ·have k0 : (h.k == 0) = true:=by rw [e]; rfl
  rw [e] at HQ
  clear e
  go_enter Tryz.func54,Tryz.ntmps54
  go_wp2_with (fail)
  rw [HW0.out]
  go_wp2_with (fail)
  refine HR.out.mono ?_
  rintro e9 w1 ⟨rfl,hb1⟩
  have HB1:=Lib.hid (bel_trans (B:=w.heap.size) HB0.out hb1)
  clear hb1
  go_wp2_with (fail)
  go_ret
  exact ⟨by rw [← HQ.out]; rfl,HB1.out⟩
 ·have k0 : (h.k == 0) = false:=by rw [e]; rfl
  have k1 : (h.k == 1) = true:=by rw [e]; rfl
  rw [e] at HQ
  clear e
  obtain ⟨b1,hb1⟩ : ∃ b,(h.n == 0) = b:=⟨_,rfl⟩
  obtain ⟨b2,hb2⟩ : ∃ b,(h.n == 1) = b:=⟨_,rfl⟩
  rw [hb1,hb2] at HQ
  cases b1 <;> cases b2
  all_goals
   go_enter Tryz.func54,Tryz.ntmps54
   go_wp2_with (fail)
   rw [HW0.out]
   go_wp2_with (fail)
   go_ret
   exact ⟨by rw [← HQ.out]; rfl,HB0.out⟩
 ·have k0 : (h.k == 0) = false:=by rw [e]; rfl
  have k1 : (h.k == 1) = false:=by rw [e]; rfl
  have k2 : (h.k == 2) = true:=by rw [e]; rfl
  rw [e] at HQ
  clear e
  have S1:=Lib.hid fun W=>rsign_any h.n W
  go_enter Tryz.func54,Tryz.ntmps54
  go_wp2_with (fail)
  rw [HW0.out]
  go_wp2_with (fail)
  refine (S1.out _).mono ?_
  rintro e9 w1 ⟨rfl,rfl⟩
  go_wp2_with (fail)
  go_ret
  exact ⟨by rw [← HQ.out]; rfl,HB0.out⟩
 ·have k0 : (h.k == 0) = false:=by rw [e]; rfl
  have k1 : (h.k == 1) = false:=by rw [e]; rfl
  have k2 : (h.k == 2) = false:=by rw [e]; rfl
  have k3 : (h.k == 3) = true:=by rw [e]; rfl
  rw [e] at HQ
  clear e
  have hsg:=rsigns2_any h.t ht W0
  rw [signs_all] at hsg
  have hts : Lib.runeCount h.t ≤ 1048576:=Nat.le_trans (Lib.runeCountFrom_le _ _ _) ht
  obtain ⟨rc,hrc⟩ : ∃ rc,Lib.runeCount h.t = rc:=⟨_,rfl⟩
  obtain ⟨vd,hvd⟩ : ∃ vd,Lib.validD h.t.data.toList = vd:=⟨_,rfl⟩
  have HT : Hid (q = (vd && decide (rc ≤ 400))):=Lib.hid (by rw [← HQ.out,← hvd,← hrc]; rfl)
  rw [hrc,hvd] at hsg
  rw [hrc] at hts
  obtain ⟨p,hp⟩ : ∃ p,decide (rc ≤ 400) = p:=⟨_,rfl⟩
  have hpi : decide ((rc : Int) ≤ 400) = p:=by rw [← hp,decide_eq_decide]; omega
  rw [hp] at HT
  cases vd
  ·have SG:=Lib.hid hsg
   simp only [Bool.false_eq_true,if_false,Option.getD_none,Option.isSome_none] at SG
   clear hsg hvd hrc
   go_enter Tryz.func54,Tryz.ntmps54
   go_wp2_with (fail)
   rw [HW0.out]
   go_wp2_with (fail)
   refine SG.out.mono ?_
   rintro e9 w1 ⟨⟨A,c,rfl⟩,hb1⟩
   have HB1:=Lib.hid (bel_trans (B:=w.heap.size) HB0.out hb1)
   clear hb1
   go_wp2_with (fail)
   go_ret
   exact ⟨by rw [HT.out]; rfl,HB1.out⟩
  ·have SG:=Lib.hid hsg
   simp only [if_true,Option.getD_some,Option.isSome_some] at SG
   clear hsg hvd hrc
   cases p
   all_goals
    go_enter Tryz.func54,Tryz.ntmps54
    go_wp2_with (fail)
    rw [HW0.out]
    go_wp2_with (fail)
    refine SG.out.mono ?_
    rintro e9 w1 ⟨⟨A,c,rfl⟩,hb1⟩
    have HB1:=Lib.hid (bel_trans (B:=w.heap.size) HB0.out hb1)
    clear hb1
    go_wp2_with (fail)
    go_ret
    exact ⟨by rw [HT.out]; rfl,HB1.out⟩
 ·have k0 : (h.k == 0) = false:=by rw [e]; rfl
  have k1 : (h.k == 1) = false:=by rw [e]; rfl
  have k2 : (h.k == 2) = false:=by rw [e]; rfl
  have k3 : (h.k == 3) = false:=by rw [e]; rfl
  have k4 : (h.k == 4) = true:=by rw [e]; rfl
  have N1:=Lib.hid (HN.out e)
  rw [e] at HQ
  clear e
  go_enter Tryz.func54,Tryz.ntmps54
  go_wp2_with (fail)
  rw [HW0.out]
  go_wp2_with (fail)
  refine N1.out.mono ?_
  rintro e9 w1 ⟨rfl,hb1⟩
  have HB1:=Lib.hid (bel_trans (B:=w.heap.size) HB0.out hb1)
  clear hb1
  go_wp2_with (fail)
  go_ret
  exact ⟨by rw [← HQ.out]; rfl,HB1.out⟩
 ·have k0 : (h.k == 0) = false:=by rw [e]; rfl
  have k1 : (h.k == 1) = false:=by rw [e]; rfl
  have k2 : (h.k == 2) = false:=by rw [e]; rfl
  have k3 : (h.k == 3) = false:=by rw [e]; rfl
  have k4 : (h.k == 4) = false:=by rw [e]; rfl
  have k5 : (h.k == 5) = true:=by rw [e]; rfl
  rw [e] at HQ
  clear e
  go_enter Tryz.func54,Tryz.ntmps54
  go_wp2_with (fail)
  rw [HW0.out]
  go_wp2_with (fail)
  go_ret
  exact ⟨by rw [← HQ.out]; rfl,HB0.out⟩
 ·have k0 : (h.k == 0) = false:=by rw [e]; rfl
  have k1 : (h.k == 1) = false:=by rw [e]; rfl
  have k2 : (h.k == 2) = false:=by rw [e]; rfl
  have k3 : (h.k == 3) = false:=by rw [e]; rfl
  have k4 : (h.k == 4) = false:=by rw [e]; rfl
  have k5 : (h.k == 5) = false:=by rw [e]; rfl
  have k6 : (h.k == 6) = true:=by rw [e]; rfl
  rw [e] at HQ
  clear e
  by_cases h2 : 2 ≤ n
  ·have hBe:=hB (by omega)
   obtain ⟨y0,y1,y2,y3,y4,y5,y6,y7⟩:=HC.out (by omega)
   have d1 : decide (2 ≤ (n : Int)) = true:=decide_eq_true (by omega)
   have d3 : decide (2 ≤ n) = true:=decide_eq_true h2
   have w1 : IntKind.i64.wrap ((n : Int) - 1) = ((n - 1 : Nat) : Int):=by rw [IntKind.wrap_i64]; omega
   have d2 : decide (((n - 1 : Nat) : Int) < n) = true:=decide_eq_true (by omega)
   have hnm : n - 1 < n:=by omega
   have HT : Hid (q = (hl.k != 5 && hl.k != 6)):=Lib.hid (by rw [← HQ.out,d3]; rfl)
   obtain ⟨p,hp⟩ : ∃ p,n - 1 = p:=⟨_,rfl⟩
   rw [hp] at w1 y0 y1 y2 y3 y4 y5 y6 y7 d2 hnm
   have y9:=y0
   rw [← HW0.out] at y9
   dsimp only [datO] at y9
   rw [hBe] at y9
   clear hB hp x0 x1 x2 x3 x4 x5 x6 x7 y0 y1 y2 y3 y4 y5 y6 y7
   have HBW : Hid (Below w.heap.size w (w.alloc (datO h n))):=Lib.hid ((Below.refl _ w).alloc (Nat.le_refl _) _)
   dsimp only [datO] at HBW
   rw [hBe] at HBW
   go_enter Tryz.func54,Tryz.ntmps54
   go_wp2_with (fail)
   all_goals
    go_ret
    exact ⟨by rw [HT.out]; first | rfl | simp [*],HBW.out⟩
  ·have d1 : decide (2 ≤ (n : Int)) = false:=decide_eq_false (by omega)
   have d3 : decide (2 ≤ n) = false:=decide_eq_false h2
   rw [d3] at HQ
   clear hB
   go_enter Tryz.func54,Tryz.ntmps54
   go_wp2_with (fail)
   rw [HW0.out]
   go_wp2_with (fail)
   go_ret
   exact ⟨by rw [← HQ.out]; rfl,HB0.out⟩
 ·have k0 : (h.k == 0) = false:=by rw [e]; rfl
  have k1 : (h.k == 1) = false:=by rw [e]; rfl
  have k2 : (h.k == 2) = false:=by rw [e]; rfl
  have k3 : (h.k == 3) = false:=by rw [e]; rfl
  have k4 : (h.k == 4) = false:=by rw [e]; rfl
  have k5 : (h.k == 5) = false:=by rw [e]; rfl
  have k6 : (h.k == 6) = false:=by rw [e]; rfl
  have k7 : (h.k == 7) = true:=by rw [e]; rfl
  rw [e] at HQ
  clear e
  obtain ⟨p,hp⟩ : ∃ p,decide (n ≤ 200) = p:=⟨_,rfl⟩
  have hpi : decide ((n : Int) ≤ 200) = p:=by rw [← hp,decide_eq_decide]; omega
  rw [hp] at HQ
  go_enter Tryz.func54,Tryz.ntmps54
  go_wp2_with (fail)
  rw [HW0.out]
  go_wp2_with (fail)
  go_ret
  exact ⟨by rw [← HQ.out]; rfl,HB0.out⟩
 ·have HF : Hid (q = false):=Lib.hid (by
   have j0:=k0; have j1:=k1; have j2:=k2; have j3:=k3; have j4:=k4; have j5:=k5; have j6:=k6; have j7:=k7
   rw [beq_eq_false_iff_ne] at j0 j1 j2 j3 j4 j5 j6 j7
   rw [← HQ.out,if_neg j0,if_neg j1,if_neg j2,if_neg j3,if_neg j4,if_neg j5,if_neg j6,if_neg j7])
  go_enter Tryz.func54,Tryz.ntmps54
  go_wp2_with (fail)
  rw [HW0.out]
  go_wp2_with (fail)
  go_ret
  exact ⟨by rw [HF.out]; rfl,HB0.out⟩
theorem rgood2_any (nm : ByteArray → Bool) : ∀ (m : Nat) (kids : Fr),kids.size < m → kids.Raw → TxG kids → ∀ (h : Hd) (left deep : Int) (w : World),DatV w h kids → h.Raw kids.len → h.t.size ≤ 1048576 →
  (∀ t,(h.k = 4∧t = h.t) ∨ SymIn t kids → CallB w 87 #[.string t] (.bool (nm t))) → -1 ≤ left → left ≤ 3000 → 0 ≤ deep → deep ≤ 1000 →
  Calls Tryz.prog 30 #[datA h kids.len,.int .i64 left,.int .i64 deep] w fun e w'=>e = .returned (.int .i64 (rrD nm left deep h kids))∧Below w.heap.size w w':=by
 intro m
 induction m with
 | zero=>intro kids h; omega
 | succ m ih =>
  intro kids hsz hok htx h left deep w hd hho hht hnm hl0 hl1 hd0 hd1
  obtain ⟨W0,hW0,hb0,ho,hs0⟩:=dat_block w h kids.len
  obtain ⟨b,off,hB,hF⟩:=(hd.below hb0).items
  obtain ⟨RES,hRES⟩ : ∃ RES,rrD nm left deep h kids = RES:=⟨_,rfl⟩
  rw [hRES]
  obtain ⟨rn,hrn⟩ : ∃ q,rightN h.fl h.f h.s h.xs = q:=⟨_,rfl⟩
  obtain ⟨on,hon⟩ : ∃ q,ronlyB h kids.len (zeroN h) = q:=⟨_,rfl⟩
  obtain ⟨kn,hkn⟩ : ∃ q,rkindB nm h kids.len (lastK kids) = q:=⟨_,rfl⟩
  have hdoc : docB nm h kids.len (lastK kids) = (rn && on && kn):=by unfold docB; rw [hrn,hon,hkn]
  unfold rrD at hRES
  rw [hdoc] at hRES
  have HRES:=Lib.hid hRES
  have RC:=Lib.hid fun W (hW : Below w.heap.size w W)=>rnright_any h.fl h.f h.s h.A h.c h.xs W (hd.xs.below hW) hho.lm hho.c.1 hho.c.2 hho.nA
  rw [hrn] at RC
  have OC : Hid (rn = true → ∀ W,Below w.heap.size w W → Calls Tryz.prog 53 #[datA h kids.len] W fun e w'=>e = .returned (.bool on)∧Below W.heap.size W w'):=Lib.hid fun hr W hW=>by
   have hr2 : rightN h.fl h.f h.s h.xs = true:=by rw [hrn]; exact hr
   have hz : rightN zHd.fl zHd.f zHd.s zHd.xs = true:=by decide
   have ht:=rtsame_any (w:=W) (h:=h) (h':=zHd) (numOk_of hr2 hho.f (hd.xs.below hW) hho.lm hho.c.1 hho.c.2) (numOk_of hz (by decide) Rd.nil Lm.nil (Nat.le_refl _) (by decide)) hr2 hz (hd.xs.below hW) Rd.nil hho.lm Lm.nil hho.c ⟨Nat.le_refl _,by decide⟩
   rw [numS_zero] at ht
   rw [← hon]
   exact ronly_any h kids.len (zeroN h) W ht
  have KC : Hid (∀ W,Below w.heap.size w W → Calls Tryz.prog 54 #[datA h kids.len] W fun e w'=>e = .returned (.bool kn)∧Below W.heap.size W w'):=Lib.hid fun W hW=>by
   obtain ⟨b',off',hB',hF'⟩:=(hd.below hW).items
   rw [← hkn]
   rcases Nat.eq_zero_or_pos kids.len with h0 | hp
   ·have hk0 : kids = .nil:=by
     cases kids with
     | nil=>rfl
     | cons x y z=>have h3 : z.len + 1 = 0:=h0; omega
    have hx:=rkind2_any nm h kids.len b' off' h 0 W (Nat.le_trans hho.cap.1 hho.cap.2) (fun V hV=>rnright_any h.fl h.f h.s h.A h.c h.xs V ((hd.xs.below hW).below hV) hho.lm hho.c.1 hho.c.2 hho.nA) (fun e=>callB_keep (hnm _ (.inl ⟨e,rfl⟩)) hW) hht hB' (fun hp=>by omega)
    have he : rkindB nm h kids.len (lastK kids) = rkindB nm h kids.len h.k:=by
     unfold rkindB
     rw [h0]
     simp
    rw [he]
    exact hx
   ·obtain ⟨hh,k,e1,e2⟩:=last_item kids hp
    rw [← e2]
    exact rkind2_any nm h kids.len b' off' hh k.len W (Nat.le_trans hho.cap.1 hho.cap.2) (fun V hV=>rnright_any h.fl h.f h.s h.A h.c h.xs V ((hd.xs.below hW).below hV) hho.lm hho.c.1 hho.c.2 hho.nA) (fun e=>callB_keep (hnm _ (.inl ⟨e,rfl⟩)) hW) hht hB' (fun _=>(counted_item hF' e1).2.1)
  have hkl : kids.len ≤ 9223372036854775807:=Nat.le_trans hho.cap.1 hho.cap.2
  have HW0:=Lib.hid hW0
  have HB0:=Lib.hid hb0
  have HF:=Lib.hid hF
  have HB:=Lib.hid hB
  have HOK:=Lib.hid hok
  have HTX:=Lib.hid htx
  have HNM:=Lib.hid hnm
  have IH:=Lib.hid ih
  have HSZ:=Lib.hid hsz
  have BLK : Hid (∀ W,Below W0.heap.size W0 W → C8 W w.heap.size 0 h kids.len):=Lib.hid fun W hW=>C8.of_block ((hW.block _ hs0).trans ho)
  obtain ⟨x0,x1,x2,x3,x4,x5,x6,x7⟩:=C8.of_block ho
  clear hW0 hb0 hF hB hok htx hnm ih hsz hd ho hRES hrn hon hkn hdoc hht hs0
  have hc : (left < 1) ∨ (¬ left < 1∧60 < deep) ∨ (¬ left < 1∧¬ 60 < deep∧4 < h.k∧59 < deep) ∨ (¬ left < 1∧¬ 60 < deep∧¬ (4 < h.k∧59 < deep)):=by omega
  rcases hc with c1 | ⟨c1,c2⟩ | ⟨c1,c2,c3,c4⟩ | ⟨c1,c2,c34⟩
  ·have d1 : decide (left < 1) = true:=decide_eq_true c1
   have HR : Hid (RES = -1):=Lib.hid (by rw [← HRES.out,if_pos (.inl (.inl c1))])
   go_enter Tryz.func30,Tryz.ntmps30
   go_wp2_with (fail)
   rw [HW0.out]
   go_wp2_with (fail)
   go_ret
   exact ⟨by rw [HR.out]; rfl,HB0.out⟩
  ·have d1 : decide (left < 1) = false:=decide_eq_false c1
   have d2 : decide (60 < deep) = true:=decide_eq_true c2
   have HR : Hid (RES = -1):=Lib.hid (by rw [← HRES.out,if_pos (.inl (.inr (.inl c2)))])
   go_enter Tryz.func30,Tryz.ntmps30
   go_wp2_with (fail)
   rw [HW0.out]
   go_wp2_with (fail)
   go_ret
   exact ⟨by rw [HR.out]; rfl,HB0.out⟩
  ·have d1 : decide (left < 1) = false:=decide_eq_false c1
   have d2 : decide (60 < deep) = false:=decide_eq_false c2
   have d3 : decide (4 < h.k) = true:=decide_eq_true c3
   have d4 : decide (59 < deep) = true:=decide_eq_true c4
   have HR : Hid (RES = -1):=Lib.hid (by rw [← HRES.out,if_pos (.inl (.inr (.inr ⟨c3,c4⟩)))])
   go_enter Tryz.func30,Tryz.ntmps30
   go_wp2_with (fail)
   rw [HW0.out]
   go_wp2_with (fail)
   go_ret
   exact ⟨by rw [HR.out]; rfl,HB0.out⟩
  ·have d1 : decide (left < 1) = false:=decide_eq_false c1
   have d2 : decide (60 < deep) = false:=decide_eq_false c2
   obtain ⟨q3,d3⟩ : ∃ q,decide (4 < h.k) = q:=⟨_,rfl⟩
   obtain ⟨q4,d4⟩ : ∃ q,decide (59 < deep) = q:=⟨_,rfl⟩
   have h34 : (q3 = false) ∨ (q3 = true∧q4 = false):=by
    cases q3
    ·exact .inl rfl
    ·refine .inr ⟨rfl,?_⟩
     rw [← d4]
     exact decide_eq_false fun h=>c34 ⟨of_decide_eq_true d3,h⟩
   have HN : Hid ((rn && on && kn) = false → RES = -1):=Lib.hid fun e=>by rw [← HRES.out,if_pos (.inr e)]
   have HY : Hid ((rn && on && kn) = true → RES = if rrF nm (left - 1) (deep + 1) kids < 0 then -1 else rrF nm (left - 1) (deep + 1) kids):=Lib.hid fun e=>by
    rw [← HRES.out,if_neg]
    rintro (h1 | h1)
    ·omega
    ·rw [e] at h1; cases h1
   have w1 : IntKind.i64.wrap (left - 1) = left - 1:=by rw [IntKind.wrap_i64]; omega
   have w2 : IntKind.i64.wrap (deep + 1) = deep + 1:=by rw [IntKind.wrap_i64]; omega
   clear c34 HRES
   rcases h34 with rfl | ⟨rfl,rfl⟩
   all_goals
    go_enter Tryz.func30,Tryz.ntmps30
    go_wp2_with (fail)
    rw [HW0.out]
    go_wp2_with (fail)
    refine (RC.out _ HB0.out).mono ?_
    rintro e9 v1 ⟨rfl,hb1⟩
    have HB1:=Lib.hid hb1
    clear x0 x1 x2 x3 x4 x5 x6 x7
    obtain ⟨x0,x1,x2,x3,x4,x5,x6,x7⟩:=BLK.out _ hb1
    clear hb1
    cases rn
    ·have HN2:=Lib.hid (HN.out rfl)
     go_wp2_with (fail)
     go_ret
     exact ⟨by rw [HN2.out]; rfl,bel_trans (B:=w.heap.size) HB0.out HB1.out⟩
    have OC2:=Lib.hid (OC.out rfl)
    clear OC
    go_wp2_with (fail)
    refine (OC2.out _ (bel_trans (B:=w.heap.size) HB0.out HB1.out)).mono ?_
    rintro e9 v2 ⟨rfl,hb2⟩
    have HB2:=Lib.hid (bel_trans (B:=W0.heap.size) HB1.out hb2)
    clear x0 x1 x2 x3 x4 x5 x6 x7
    obtain ⟨x0,x1,x2,x3,x4,x5,x6,x7⟩:=BLK.out _ HB2.out
    clear hb2
    cases on
    ·have HN2:=Lib.hid (HN.out rfl)
     go_wp2_with (fail)
     go_ret
     exact ⟨by rw [HN2.out]; rfl,bel_trans (B:=w.heap.size) HB0.out HB2.out⟩
    go_wp2_with (fail)
    refine (KC.out _ (bel_trans (B:=w.heap.size) HB0.out HB2.out)).mono ?_
    rintro e9 v3 ⟨rfl,hb3⟩
    have HB3:=Lib.hid (bel_trans (B:=W0.heap.size) HB2.out hb3)
    clear x0 x1 x2 x3 x4 x5 x6 x7
    obtain ⟨x0,x1,x2,x3,x4,x5,x6,x7⟩:=BLK.out _ HB3.out
    clear hb3
    cases kn
    ·have HN2:=Lib.hid (HN.out rfl)
     go_wp2_with (fail)
     go_ret
     exact ⟨by rw [HN2.out]; rfl,bel_trans (B:=w.heap.size) HB0.out HB3.out⟩
    have HR2:=Lib.hid (HY.out rfl)
    clear HN HY
    go_wp2_with (fail)
    go_loopg [1,8,45] kids.len (fun kk n _ i wr=>Below W0.heap.size W0 wr∧∃ j : Nat,j ≤ kids.len∧kk = kids.len - j∧i = .int .i64 (j : Int)∧∃ a : Int,n = .int .i64 a∧rrF nm a (deep + 1) (kids.drop j) = rrF nm (left - 1) (deep + 1) kids∧0 ≤ a∧a ≤ 3000)
    case atStart=>exact ⟨HB3.out,0,Nat.zero_le _,rfl,rfl,left - 1,rfl,rfl,by omega,by omega⟩
    case round =>
     obtain ⟨hbr,j,hj,rfl,rfl,a,rfl,hcn,ha1,ha2⟩:=hrel
     have HBR:=Lib.hid hbr
     have HCN:=Lib.hid hcn
     clear hbr hcn x0 x1 x2 x3 x4 x5 x6 x7
     by_cases hjl : j < kids.len
     ·obtain ⟨hh,k,r,hdr,hdr1⟩:=Fr.cons_of_lt hjl
      have hBe:=HB.out (by omega)
      rw [hBe]
      obtain ⟨hbl,C,D⟩:=counted_item (FAt.below HBR.out _ _ _ HF.out) hdr
      have hks:=size_item hdr
      have hko:=Fr.Raw.drop j HOK.out
      have hkt:=TxG.drop j HTX.out
      rw [hdr] at hko hkt
      have hcn:=HCN.out
      rw [hdr,rr_cons] at hcn
      obtain ⟨v,hv⟩ : ∃ v,rrD nm a (deep + 1) hh k = v:=⟨_,rfl⟩
      have hvb:=rrD_bd nm hh k a (deep + 1) (by omega)
      rw [hv] at hcn hvb
      have CK:=Lib.hid fun W (hW : Below wr.heap.size wr W)=>IH.out k (by have:=HSZ.out; omega) hko.2.1 hkt.2.1 hh a (deep + 1) W (D.below hW) hko.1 hkt.1 (fun t ht=>callB_keep (HNM.out t (.inr (SymIn.drop j (by rw [hdr]; rcases ht with h1 | h1; exact .inl h1; exact .inr (.inl h1))))) (bel_trans (B:=w.heap.size) HB0.out (bel_trans (B:=W0.heap.size) HBR.out hW))) (by omega) (by omega) (by omega) (by omega)
      rw [hv] at CK
      have HCN2:=Lib.hid hcn
      have HDR:=Lib.hid hdr1
      obtain ⟨x0,x1,x2,x3,x4,x5,x6,x7⟩:=C
      have hba : Below wr.heap.size wr (wr.alloc (.cells #[.int .i64 hh.k,.int .i64 hh.n,.bool hh.fl,.float .f64 hh.f,.bool hh.s,.slice hh.A hh.xs.length hh.c,.string hh.t,.slice hh.B k.len hh.cap] 44)):=(Below.refl _ wr).alloc (Nat.le_refl _) _
      have HBA:=Lib.hid hba
      clear hcn hdr hdr1 hks hko hkt D hv hba
      go_wp2_with (fail)
      refine (CK.out _ HBA.out).mono ?_
      rintro e9 v4 ⟨rfl,hb2⟩
      have HB4:=Lib.hid (bel_trans (B:=W0.heap.size) HBR.out (bel_trans (B:=wr.heap.size) HBA.out hb2))
      clear hb2 x0 x1 x2 x3 x4 x5 x6 x7
      by_cases hv0 : v < 0
      ·have d9 : decide (v < 0) = true:=decide_eq_true hv0
       have HRR:=Lib.hid (show rrF nm (left - 1) (deep + 1) kids = -1 by rw [← HCN2.out,if_pos hv0])
       clear hv0
       go_wp2_with (fail)
       go_ret
       refine ⟨?_,bel_trans (B:=w.heap.size) HB0.out HB4.out⟩
       have h9 : RES = -1:=by rw [HR2.out,HRR.out]; rfl
       rw [h9]
       rfl
      ·have d9 : decide (v < 0) = false:=decide_eq_false hv0
       have HRR:=Lib.hid (show rrF nm v (deep + 1) (kids.drop (j + 1)) = rrF nm (left - 1) (deep + 1) kids by rw [HDR.out,← HCN2.out,if_neg hv0])
       go_wp2_with (fail)
       rw [← hBe]
       go_roundg (kids.len - (j + 1))
       case measure=>omega
       case rel=>exact ⟨HB4.out,j + 1,by omega,rfl,by go_num,v,rfl,HRR.out,by omega,by omega⟩
     ·have hje : j = kids.len:=by omega
      subst hje
      have hcn:=HCN.out
      have hnil : kids.drop kids.len = .nil:=by
       have h1:=Fr.len_drop kids.len kids
       cases h2 : kids.drop kids.len with
       | nil=>rfl
       | cons x y z=>rw [h2] at h1; have h3 : z.len + 1 = kids.len - kids.len:=h1; omega
      rw [hnil] at hcn
      have HRR:=Lib.hid (show rrF nm (left - 1) (deep + 1) kids = a from hcn.symm)
      clear hcn hnil
      go_wp2_with (fail)
      go_ret
      refine ⟨?_,bel_trans (B:=w.heap.size) HB0.out HBR.out⟩
      have h9 : RES = a:=by rw [HR2.out,HRR.out,if_neg (by omega)]
      rw [h9]
      rfl
theorem rdRight2_any (nm : ByteArray → Bool) (kids : Fr) (hok : kids.Raw) (htx : TxG kids) (h : Hd) (w : World) (hd : DatV w h kids) (hho : h.Raw kids.len) (hht : h.t.size ≤ 1048576)
  (hnm : ∀ t,(h.k = 4∧t = h.t) ∨ SymIn t kids → CallB w 87 #[.string t] (.bool (nm t))) :
  Calls Tryz.prog 13 #[datA h kids.len] w fun e w'=>e = .returned (.bool (rightD nm h kids))∧Below w.heap.size w w':=by
 obtain ⟨W0,hW0,hb0,ho,hs0⟩:=dat_block w h kids.len
 have R1:=Lib.hid (rgood2_any nm (kids.size + 1) kids (by omega) hok htx h 3000 0 W0 (hd.below hb0) hho hht (fun t ht=>callB_keep (hnm t ht) hb0) (by decide) (by decide) (by decide) (by decide))
 rw [← rrD_right nm h kids hho.lm (LmF.of_raw hok)]
 obtain ⟨v,hv⟩ : ∃ v,rrD nm 3000 0 h kids = v:=⟨_,rfl⟩
 rw [hv] at R1 ⊢
 obtain ⟨q,hq⟩ : ∃ q,decide (0 ≤ v) = q:=⟨_,rfl⟩
 rw [hq]
 have HW0:=Lib.hid hW0
 have HB0:=Lib.hid hb0
 obtain ⟨x0,x1,x2,x3,x4,x5,x6,x7⟩:=C8.of_block ho
 clear hW0 hb0 ho hs0 hv hd hho hht hnm hok htx
 go_enter Tryz.func13,Tryz.ntmps13
 go_wp2_with (fail)
 rw [HW0.out]
 go_wp2_with (fail)
 refine R1.out.mono ?_
 rintro e9 w1 ⟨rfl,hb1⟩
 have HB1:=Lib.hid (bel_trans (B:=w.heap.size) HB0.out hb1)
 clear hb1
 go_wp2_with (fail)
 go_ret
 exact ⟨rfl,HB1.out⟩
end LM
namespace LM
def DB (w : World) : Prop:=w.cell? ⟨13,15,none⟩ = some (.int .u8 4)∧13 < w.heap.size
theorem DB.below {w w' : World} (h : DB w) (hb : Below w.heap.size w w') : DB w':=⟨(hb.cell (p:=⟨13,15,none⟩) h.2).trans h.1,Nat.lt_of_lt_of_le h.2 hb.size⟩
theorem tz64_16 (w : World) (hd : DB w) : Calls Tryz.prog 318 #[.int .u64 16] w fun e w'=>e = .returned (.int .i64 4)∧w' = w:=by
 have hc:=hd.1
 have b1 : IntKind.u64.wrap (-16) = 18446744073709551600:=by decide
 have b2 : bits .and .u64 16 18446744073709551600 = 16:=by decide
 have b3 : IntKind.u64.wrap (16 * 285870213051353865) = 4573923408821661840:=by decide
 have b4 : (4573923408821661840 : Int) / 288230376151711744 = 15:=by decide
 go_enter Tryz.func318,Tryz.ntmps318
 go_wp2_with (fail)
 go_ret
 exact ⟨rfl,rfl⟩
theorem tz_16 (w : World) (hd : DB w) : Calls Tryz.prog 303 #[.int .u64 16] w fun e w'=>e = .returned (.int .i64 4)∧w' = w:=by
 have T1:=Lib.hid (tz64_16 w hd)
 clear hd
 go_enter Tryz.func303,Tryz.ntmps303
 go_wp2_with (fail)
 refine T1.out.mono ?_
 rintro e w1 ⟨rfl,rfl⟩
 go_wp2_with (fail)
 go_ret
 exact ⟨rfl,rfl⟩
abbrev digT : ByteArray:=⟨#[48,49,50,51,52,53,54,55,56,57,97,98,99,100,101,102,103,104,105,106,107,108,109,110,111,112,113,114,115,116,117,118,119,120,121,122]⟩
theorem digT_part : ∀ n : Fin 16,digT.data[n.val]? = some (hexD n.val):=by decide
theorem digT_at (T : ByteArray) (hT : digT = T) (r : Nat) (hr : r < 16) : ∀ h : r < T.size,(T[r]'h).toNat = (hexD r).toNat:=fun h=>by
 have h1:=digT_part ⟨r,hr⟩
 subst hT
 have h2 : digT.data[r]? = some (digT[r]'h):=by
  rw [Array.getElem?_eq_getElem (show r < digT.data.size from h)]
  rfl
 rw [h2] at h1
 injection h1 with h1
 rw [h1]
def HDig (w : World) (g : Nat) (acc : List UInt8) : Prop:=∃ cs,w.heap[g]? = some (.cells cs 311 (0,0))∧cs.size = 65∧∀ j (h : j < acc.length),cs[65 - acc.length + j]? = some (.int .u8 ((acc[j]'h).toNat : Int))
theorem HDig.cell {w : World} {g : Nat} {acc : List UInt8} (h : HDig w g acc) {i : Nat} (hi : i < 65) : (∃ v,w.cell? ⟨g,i,none⟩ = some v)∧w.frozen? ⟨g,i,none⟩ = false:=by
 obtain ⟨cs,h1,h2,-⟩:=h
 exact ⟨⟨cs[i]'(by omega),by simp only [World.cell?,h1]; exact Array.getElem?_eq_getElem (by omega)⟩,by simp [World.frozen?,h1]⟩
theorem HDig.push {w : World} {g : Nat} {acc : List UInt8} (h : HDig w g acc) (hl : acc.length ≤ 60) (d : UInt8) : HDig (w.setCell ⟨g,64 - acc.length,none⟩ (.int .u8 (d.toNat : Int))) g (d :: acc):=by
 obtain ⟨cs,h1,h2,h3⟩:=h
 refine ⟨cs.setIfInBounds (64 - acc.length) (.int .u8 (d.toNat : Int)),heap_setCell_same w g _ cs _ _ h1,by rw [Array.size_setIfInBounds]; exact h2,fun j hj=>?_⟩
 have hl1 : (d :: acc).length = acc.length + 1:=rfl
 rw [hl1] at hj ⊢
 cases j with
 | zero =>
  rw [show 65 - (acc.length + 1) + 0 = 64 - acc.length by omega,Array.getElem?_setIfInBounds_self_of_lt (by omega)]
  rfl
 | succ j =>
  rw [Array.getElem?_setIfInBounds_ne (by omega),show 65 - (acc.length + 1) + (j + 1) = 65 - acc.length + j by omega]
  exact h3 j (by omega)
theorem and15 (q : Nat) (hq : q < 18446744073709551616) : bits .and .u64 (q : Int) 15 = ((q % 16 : Nat) : Int):=by
 have h:=u64_and_nat q 15 hq (by decide)
 rw [Nat.and_two_pow_sub_one_eq_mod q 4] at h
 exact h
theorem fbits_16 (N : Nat) (hN : N < 4294967296) (w : World) (hd : DB w) : Calls Tryz.prog 244 #[.slice none 0 0,.int .u64 (N : Int),.int .i64 16,.bool false,.bool false] w fun e w'=>e = .returned (.tuple #[.slice none 0 0,.string ⟨(hexF 8 N).toArray⟩])∧Below w.heap.size w w':=by
 have P16:=Lib.hid pow2_16
 have hN8 : N < 16 ^ (7 + 1):=by
  have : (16 : Nat) ^ (7 + 1) = 4294967296:=by decide
  omega
 obtain ⟨T,hT⟩ : ∃ T : ByteArray,digT = T:=⟨_,rfl⟩
 have hTs : T.size = 36:=by rw [← hT]; rfl
 have TA:=Lib.hid (digT_at T hT)
 obtain ⟨W0,hW0⟩ : ∃ W0,w.alloc (.cells Tryz.zeroCells311 311) = W0:=⟨_,rfl⟩
 have hb0 : Below w.heap.size w W0:=by rw [← hW0]; exact (Below.refl _ w).alloc (Nat.le_refl _) _
 have TZ:=Lib.hid (tz_16 W0 (hd.below hb0))
 have hdg : HDig W0 w.heap.size []:=⟨_,by rw [← hW0]; exact heap_alloc_new w _,by rfl,fun j h=>absurd h (Nat.not_lt_zero j)⟩
 have HW0:=Lib.hid hW0
 have HB0:=Lib.hid hb0
 have HDG:=Lib.hid hdg
 clear hd hW0 hb0 hdg
 go_enter Tryz.func244,Tryz.ntmps244
 rw [show (⟨#[48,49,50,51,52,53,54,55,56,57,97,98,99,100,101,102,103,104,105,106,107,108,109,110,111,112,113,114,115,116,117,118,119,120,121,122]⟩ : ByteArray) = T from hT]
 clear hT
 go_wp2_with (fail)
 rw [HW0.out]
 refine (P16.out _).mono ?_
 rintro e w1 ⟨rfl,rfl⟩
 go_wp2_with (fail)
 refine TZ.out.mono ?_
 rintro e w1 ⟨rfl,rfl⟩
 go_wp2_with (fail)
 go_loopg [1,13] 8 (fun kk u i wr=>Below w.heap.size w wr∧∃ (q f : Nat) (acc : List UInt8),kk = f + 1∧u = .int .u64 (q : Int)∧i = .int .i64 ((65 - acc.length : Nat) : Int)∧hexF 8 N = hexF (f + 1) q ++ acc∧q < 16 ^ (f + 1)∧f + 1 + acc.length = 8∧HDig wr w.heap.size acc)
 case atStart=>exact ⟨HB0.out,N,7,[],rfl,rfl,rfl,by rw [List.append_nil],hN8,rfl,HDG.out⟩
 case round =>
  obtain ⟨hbr,q,f,acc,rfl,rfl,rfl,he,hq,hl,hdg⟩:=hrel
  have hq32 : q < 4294967296:=by
   have h1 : q < 16 ^ 8:=Nat.lt_of_lt_of_le hq (Nat.pow_le_pow_right (by decide) (by omega))
   have : (16 : Nat) ^ 8 = 4294967296:=by decide
   omega
  have hal : acc.length ≤ 60:=by omega
  obtain ⟨⟨cv,hcv⟩,hfz⟩:=hdg.cell (i:=64 - acc.length) (by omega)
  have w1 : IntKind.i64.wrap (((65 - acc.length : Nat) : Int) - 1) = ((64 - acc.length : Nat) : Int):=by rw [IntKind.wrap_i64]; omega
  obtain ⟨i0,hi0⟩ : ∃ i0,64 - acc.length = i0:=⟨_,rfl⟩
  have hi65 : i0 < 65:=by omega
  have PU:=Lib.hid (fun r=>hdg.push hal (hexD r))
  rw [hi0] at hcv hfz w1 PU
  have HBR:=Lib.hid hbr
  have HE:=Lib.hid he
  have HQ:=Lib.hid hq
  have HL:=Lib.hid hl
  have HI0:=Lib.hid hi0
  clear hbr he hq hdg hal hi0
  by_cases h16 : 16 ≤ q
  ·obtain ⟨f',rfl⟩ : ∃ f',f = f' + 1:=by
    cases f with
    | zero=>have:=HQ.out; simp at this; omega
    | succ f'=>exact ⟨f',rfl⟩
   have d1 : decide ((16 : Int) ≤ (q : Int)) = true:=decide_eq_true (by omega)
   have d2 : decide (16 ≤ q) = true:=decide_eq_true h16
   have a1:=and15 q (by omega)
   obtain ⟨r,hr⟩ : ∃ r,q % 16 = r:=⟨_,rfl⟩
   have hr16 : r < 16:=by omega
   have hx:=TA.out r hr16
   have hrT : r < T.size:=by omega
   rw [hr] at a1
   obtain ⟨q',hq'⟩ : ∃ q',q / 16 = q':=⟨_,rfl⟩
   have s1 : (q : Int) / 16 = (q' : Int):=by omega
   have hlt : q' < 16 ^ (f' + 1):=by
    rw [← hq',Nat.div_lt_iff_lt_mul (by decide)]
    have:=HQ.out
    rw [Nat.pow_succ] at this
    exact this
   have NE : Hid (hexF 8 N = hexF (f' + 1) q' ++ (hexD r :: acc)):=Lib.hid (by
    rw [HE.out,hexF,if_neg (by omega),hq',hr,List.append_assoc]
    rfl)
   clear h16 hr hq' hl
   go_wp2_with (fail)
   go_roundg (f' + 1)
   case measure=>omega
   case rel=>exact ⟨HBR.out.setCell (Nat.le_refl _) _,q',f',hexD r :: acc,rfl,rfl,by
    have h1 : i0 = 65 - (acc.length + 1):=by have:=HI0.out; omega
    rw [h1]; rfl,NE.out,hlt,by have:=HL.out; show f' + 1 + (acc.length + 1) = 8; omega,PU.out r⟩
  ·have d1 : decide ((16 : Int) ≤ (q : Int)) = false:=decide_eq_false (by omega)
   have d2 : decide (16 ≤ q) = false:=decide_eq_false h16
   have hx:=TA.out q (by omega)
   have hrT : q < T.size:=by omega
   obtain ⟨W5,hW5⟩ : ∃ W5,wr.setCell ⟨w.heap.size,i0,none⟩ (.int .u8 ((hexD q).toNat : Int)) = W5:=⟨_,rfl⟩
   have NE : Hid (hexF 8 N = hexD q :: acc):=Lib.hid (by
    rw [HE.out,hexF,if_pos (by omega)]
    rfl)
   have HB5:=Lib.hid (show Below w.heap.size w W5 from hW5 ▸ HBR.out.setCell (Nat.le_refl _) _)
   have hdg5:=PU.out q
   rw [hW5] at hdg5
   obtain ⟨cs,e1,e2,e3⟩:=hdg5
   have hcv:=run_convert_bytes_back (P:=Tryz.prog) W5 45 9 5 ⟨w.heap.size,i0,none⟩ (65 - i0) (hexD q :: acc) Tryz.underlying45 Tryz.underlying5 Tryz.underlying9 (fun j hj=>by
    have h4:=e3 j hj
    have ha : ((⟨w.heap.size,i0,none⟩ : Addr).add j) = ⟨w.heap.size,i0 + j,none⟩:=by
     unfold Addr.add
     split <;> simp_all
    have hi1 : 65 - (hexD q :: acc).length = i0:=by have:=HI0.out; show 65 - (acc.length + 1) = i0; omega
    rw [hi1] at h4
    rw [ha]
    simp only [World.cell?,e1]
    exact h4)
   have hlen : (hexD q :: acc).length = 65 - i0:=by have:=HI0.out; have:=HL.out; show acc.length + 1 = 65 - i0; omega
   rw [hlen,← NE.out] at hcv
   have hsl : (Instr.sliceAt 311 (.pointer (some ⟨w.heap.size,0,none⟩)) (some (.int .i64 (i0 : Int))) none none).run Tryz.prog W5 = .ok (.slice (some ⟨w.heap.size,i0,none⟩) (65 - i0) (65 - i0)) W5:=by
    have hal : Tryz.prog.arrayLen 311 = 65:=by kernel_rfl
    have h:=run_sliceAt_array_l (P:=Tryz.prog) W5 311 ⟨w.heap.size,0,none⟩ Tryz.underlying311 .i64 (i0 : Int) (by omega) (by rw [hal]; omega)
    have hel : Tryz.prog.elem 311 = 5:=by kernel_rfl
    have hne : ¬ 65 = i0:=by omega
    have had : ((⟨w.heap.size,0,none⟩ : Addr).add (i0 * 1)) = ⟨w.heap.size,i0,none⟩:=by
     unfold Addr.add
     split <;> simp_all
    rw [h,hal,hel]
    go_simp
   clear h16 hl e1 e2 e3 hlen
   go_wp2_with (fail)
   go_ret2
   exact ⟨rfl,HB5.out⟩
theorem fint_16 (N : Nat) (hN : N < 4294967296) (w : World) (hd : DB w) : Calls Tryz.prog 182 #[.int .i64 (N : Int),.int .i64 16] w fun e w'=>e = .returned (.string ⟨(hexF 8 N).toArray⟩)∧Below w.heap.size w w':=by
 have F1:=Lib.hid (fbits_16 N hN w hd)
 have w1 : IntKind.u64.wrap (N : Int) = (N : Int):=by rw [IntKind.wrap_u64]; omega
 have d1 : decide ((N : Int) < 0) = false:=decide_eq_false (by omega)
 clear hd hN
 go_enter Tryz.func182,Tryz.ntmps182
 go_wp2_with (fail)
 refine F1.out.mono ?_
 rintro e w1 ⟨rfl,hb1⟩
 go_wp2_with (fail)
 go_ret
 exact ⟨rfl,hb1⟩
theorem fint_pub (N : Nat) (hN : N < 4294967296) (w : World) (hd : DB w) : Calls Tryz.prog 147 #[.int .i64 (N : Int),.int .i64 16] w fun e w'=>e = .returned (.string ⟨(hexF 8 N).toArray⟩)∧Below w.heap.size w w':=by
 have F1:=Lib.hid (fint_16 N hN w hd)
 clear hd hN
 go_enter Tryz.func147,Tryz.ntmps147
 go_wp2_with (fail)
 refine F1.out.mono ?_
 rintro e w1 ⟨rfl,hb1⟩
 go_wp2_with (fail)
 go_ret
 exact ⟨rfl,hb1⟩
theorem dhex_any (N : Nat) (hN : N < 4294967296) (w : World) (hd : DB w) : Calls Tryz.prog 110 #[.int .i64 (N : Int)] w fun e w'=>e = .returned (.string ⟨(hexF 8 N).toArray⟩)∧Below w.heap.size w w':=by
 have F1:=Lib.hid (fint_pub N hN w hd)
 clear hd hN
 go_enter Tryz.func110,Tryz.ntmps110
 go_wp2_with (fail)
 refine F1.out.mono ?_
 rintro e w1 ⟨rfl,hb1⟩
 go_wp2_with (fail)
 go_ret
 exact ⟨rfl,hb1⟩
theorem rhex_8 (N : Nat) (hN : N < 4294967296) (w : World) : Calls Tryz.prog 57 #[.int .i64 (N : Int)] w fun e w'=>e = .returned (.string ⟨(hexF 8 N).toArray⟩)∧Below w.heap.size w w' :=
 rhex_any 7 N (by have : (16 : Nat) ^ (7 + 1) = 4294967296 := by decide
                  omega) (Nat.le_refl _) w
end LM
namespace LM
def nameL (n : Nat) : List UInt8 :=
 if n = 32 then [115,112,97,99,101] else if n = 10 then [110,101,119,108,105,110,101] else if n = 9 then [116,97,98] else if n = 0 then [110,117,108]
 else if 33 ≤ n∧n ≤ 126 then [UInt8.ofNat n] else 120 :: hexF 8 n
theorem nameL_len (n : Nat) : (nameL n).length ≤ 20:=by
 have:=hexF_len 8 n
 unfold nameL
 repeat' split
 all_goals simp only [List.length_cons,List.length_nil]
 all_goals omega
theorem rchar_any (n : Nat) (hn : n ≤ 1114111) (w : World) : Calls Tryz.prog 32 #[.int .i64 (n : Int)] w fun e w'=>e = .returned (.string ⟨([35,92] ++ nameL n).toArray⟩)∧Below w.heap.size w w':=by
 have HX:=Lib.hid (rhex_8 n (by omega) w)
 have HB0:=Lib.hid (Below.refl w.heap.size w)
 obtain ⟨R,hR⟩ : ∃ R,nameL n = R:=⟨_,rfl⟩
 rw [hR]
 unfold nameL at hR
 by_cases h0 : n = 0
 ·subst h0
  have HR : Hid (R = [110,117,108]):=Lib.hid (by rw [← hR]; rfl)
  clear hR
  go_enter Tryz.func32,Tryz.ntmps32
  go_wp2_with (fail)
  go_ret
  exact ⟨by rw [HR.out]; rfl,HB0.out⟩
 have k4 : ((n : Int) == 0) = false:=by rw [beq_eq_false_iff_ne]; omega
 by_cases h9 : n = 9
 ·subst h9
  have HR : Hid (R = [116,97,98]):=Lib.hid (by rw [← hR]; rfl)
  clear hR
  go_enter Tryz.func32,Tryz.ntmps32
  go_wp2_with (fail)
  go_ret
  exact ⟨by rw [HR.out]; rfl,HB0.out⟩
 have k3 : ((n : Int) == 9) = false:=by rw [beq_eq_false_iff_ne]; omega
 by_cases h10 : n = 10
 ·subst h10
  have HR : Hid (R = [110,101,119,108,105,110,101]):=Lib.hid (by rw [← hR]; rfl)
  clear hR
  go_enter Tryz.func32,Tryz.ntmps32
  go_wp2_with (fail)
  go_ret
  exact ⟨by rw [HR.out]; rfl,HB0.out⟩
 have k2 : ((n : Int) == 10) = false:=by rw [beq_eq_false_iff_ne]; omega
 by_cases h32 : n = 32
 ·subst h32
  have HR : Hid (R = [115,112,97,99,101]):=Lib.hid (by rw [← hR]; rfl)
  clear hR
  go_enter Tryz.func32,Tryz.ntmps32
  go_wp2_with (fail)
  go_ret
  exact ⟨by rw [HR.out]; rfl,HB0.out⟩
 have k1 : ((n : Int) == 32) = false:=by rw [beq_eq_false_iff_ne]; omega
 rw [if_neg h32,if_neg h10,if_neg h9,if_neg h0] at hR
 by_cases hm : 33 ≤ n∧n ≤ 126
 ·have HR : Hid (R = [UInt8.ofNat n]):=Lib.hid (by rw [← hR,if_pos hm])
  have d1 : decide ((32 : Int) < (n : Int)) = true:=decide_eq_true (by omega)
  have d2 : decide ((n : Int) < 127) = true:=decide_eq_true (by omega)
  have w1 : IntKind.u8.wrap (n : Int) = (n : Int):=by rw [IntKind.wrap_u8]; omega
  obtain ⟨W1,hW1⟩ : ∃ W1,w.alloc (.cells #[.int .u8 (n : Int)] 5) = W1:=⟨_,rfl⟩
  have hb1 : Below w.heap.size w W1:=by rw [← hW1]; exact (Below.refl _ w).alloc (Nat.le_refl _) _
  have hcv : (convert 45 9 (.slice (some ⟨w.heap.size,0,none⟩) 1 1)).run Tryz.prog (w.alloc (.cells #[.int .u8 (n : Int)] 5)) = .ok (.string ⟨#[UInt8.ofNat n]⟩) W1:=by
   rw [hW1]
   refine run_convert_bytes_back (P:=Tryz.prog) W1 45 9 5 ⟨w.heap.size,0,none⟩ 1 [UInt8.ofNat n] Tryz.underlying45 Tryz.underlying5 Tryz.underlying9 (fun j hj=>?_)
   have hj0 : j = 0:=by have : j < 1:=hj; omega
   subst hj0
   rw [← hW1]
   have hu : ((UInt8.ofNat n).toNat : Int) = (n : Int):=by simp; omega
   have hc:=cell_alloc_first w (.int .u8 (n : Int)) 5
   rw [← hu] at hc
   rw [← hu]
   exact hc
  have HB1:=Lib.hid hb1
  clear hR h32 h10 h9 h0 hm hW1 hb1
  go_enter Tryz.func32,Tryz.ntmps32
  go_wp2_with (fail)
  go_ret
  exact ⟨by rw [HR.out]; rfl,HB1.out⟩
 ·have HR : Hid (R = 120 :: hexF 8 n):=Lib.hid (by rw [← hR,if_neg hm])
  have hl:=hexF_len 8 n
  obtain ⟨t,ht⟩ : ∃ t : ByteArray,(⟨(hexF 8 n).toArray⟩ : ByteArray) = t:=⟨_,rfl⟩
  have hts : t.size ≤ 8:=by
   rw [← ht]
   show (hexF 8 n).toArray.size ≤ 8
   rw [List.size_toArray]
   omega
  rw [ht] at HX
  have HT:=Lib.hid ht
  obtain ⟨q1,d1⟩ : ∃ q,decide ((32 : Int) < (n : Int)) = q:=⟨_,rfl⟩
  obtain ⟨q2,d2⟩ : ∃ q,decide ((n : Int) < 127) = q:=⟨_,rfl⟩
  have hq : q1 = false ∨ (q1 = true∧q2 = false):=by
   rw [← d1,← d2]
   by_cases h : 33 ≤ n
   ·exact .inr ⟨decide_eq_true (by omega),decide_eq_false (by omega)⟩
   ·exact .inl (decide_eq_false (by omega))
  clear hR hl ht h32 h10 h9 h0 hm
  rcases hq with rfl | ⟨rfl,rfl⟩
  all_goals
   go_enter Tryz.func32,Tryz.ntmps32
   go_wp2_with (fail)
   refine HX.out.mono ?_
   rintro e w1 ⟨rfl,hb1⟩
   go_wp2_with (fail)
   go_ret
   exact ⟨by rw [HR.out,← HT.out]; rfl,hb1⟩
end LM
namespace LM
end LM
namespace LM
attribute [local go_sem] run_store_flt
abbrev zeroO : Obj:=.cells #[.int .i64 0,.int .i64 0,.bool false,.float .f64 0,.bool false,.slice none 0 0,.string ⟨#[]⟩,.slice none 0 0] 44 (0,0)
structure Still (W W' : World) : Prop where
 size : W.heap.size ≤ W'.heap.size
 frz : ∀ b,b < W.heap.size → ∀ i,W'.frozen? ⟨b,i,none⟩ = W.frozen? ⟨b,i,none⟩
theorem heap_lt {W : World} {g : Nat} {o : Obj} (h : W.heap[g]? = some o) : g < W.heap.size:=by
 rcases Nat.lt_or_ge g W.heap.size with h2 | h2
 ·exact h2
 ·rw [Array.getElem?_eq_none h2] at h; cases h
theorem frozen_set {W : World} {p q : Addr} {u : Value} : (W.setCell p u).frozen? q = W.frozen? q:=by
 by_cases hb : q.block = p.block
 ·unfold World.frozen? World.setCell
  simp only [Array.getElem?_modify,hb,if_pos]
  cases W.heap[p.block]? with
  | none=>rfl
  | some o=>cases o <;> rfl
 ·exact World.frozen?_of_block (Below.heap_setCell W p u _ hb)
theorem set8_frozen {g o n : Nat} {W : World} {h : Hd} {q : Addr} : (set8 W g o h n).frozen? q = W.frozen? q:=by
 unfold set8
 rw [frozen_set,frozen_set,frozen_set,frozen_set,frozen_set,frozen_set,frozen_set,frozen_set]
theorem set8_still {g o n : Nat} {W : World} {h : Hd} : Still W (set8 W g o h n):=⟨by rw [(set8_out W g o h n).size]; exact Nat.le_refl _,fun b _ i=>set8_frozen⟩
abbrev zeroHd : Hd:=⟨0,0,false,0,false,none,[],0,⟨#[]⟩,none,0⟩
abbrev set8z (w : World) (g : Nat) (h : Hd) (n : Nat) : World :=
 (((((((w.setCell ⟨g,0,none⟩ (.int .i64 h.k)).setCell ⟨g,1,none⟩ (.int .i64 h.n)).setCell ⟨g,2,none⟩ (.bool h.fl)).setCell ⟨g,3,none⟩ (.float .f64 h.f)).setCell ⟨g,4,none⟩ (.bool h.s)).setCell ⟨g,5,none⟩ (.slice h.A h.xs.length h.c)).setCell ⟨g,6,none⟩ (.string h.t)).setCell ⟨g,7,none⟩ (.slice h.B n h.cap)
theorem result_dat {w W : World} {g B : Nat} {h : Hd} {n : Nat} (hz : W.heap[g]? = some zeroO) (hb : Below B w W) (hg : B ≤ g) : ∃ WF,set8z W g h n = WF∧C8 WF g 0 h n∧Out8 g 0 W WF∧Below B w WF∧Still W WF:=by
 have hc : C8 W g 0 zeroHd 0:=C8.of_block hz
 refine ⟨set8 W g 0 h n,rfl,set8_c8 hc h n,set8_out W g 0 h n,?_,set8_still⟩
 exact (((((((hb.setCell hg _).setCell hg _).setCell hg _).setCell hg _).setCell hg _).setCell hg _).setCell hg _).setCell hg _
theorem zero_facts {W : World} {g : Nat} (hz : W.heap[g]? = some zeroO) :
  W.cell? ⟨g,0,none⟩ = some (.int .i64 0)∧W.cell? ⟨g,1,none⟩ = some (.int .i64 0)∧W.cell? ⟨g,2,none⟩ = some (.bool false)∧W.cell? ⟨g,3,none⟩ = some (.float .f64 0)∧W.cell? ⟨g,4,none⟩ = some (.bool false)∧W.cell? ⟨g,5,none⟩ = some (.slice none 0 0)∧W.cell? ⟨g,6,none⟩ = some (.string ⟨#[]⟩)∧W.cell? ⟨g,7,none⟩ = some (.slice none 0 0) ∧
  W.frozen? ⟨g,0,none⟩ = false∧W.frozen? ⟨g,1,none⟩ = false∧W.frozen? ⟨g,2,none⟩ = false∧W.frozen? ⟨g,3,none⟩ = false∧W.frozen? ⟨g,4,none⟩ = false∧W.frozen? ⟨g,5,none⟩ = false∧W.frozen? ⟨g,6,none⟩ = false∧W.frozen? ⟨g,7,none⟩ = false∧g < W.heap.size:=by
 refine ⟨ob_cell hz 0,ob_cell hz 1,ob_cell hz 2,ob_cell hz 3,ob_cell hz 4,ob_cell hz 5,ob_cell hz 6,ob_cell hz 7,ob_free hz 0 (by decide),ob_free hz 1 (by decide),ob_free hz 2 (by decide),ob_free hz 3 (by decide),ob_free hz 4 (by decide),ob_free hz 5 (by decide),ob_free hz 6 (by decide),ob_free hz 7 (by decide),?_⟩
 rcases Nat.lt_or_ge g W.heap.size with h2 | h2
 ·exact h2
 ·rw [Array.getElem?_eq_none h2] at hz; cases hz
theorem drop_all (fr : Fr) : fr.drop fr.len = .nil:=by
 have h1:=Fr.len_drop fr.len fr
 cases h2 : fr.drop fr.len with
 | nil=>rfl
 | cons x y z=>rw [h2] at h1; have h3 : z.len + 1 = fr.len - fr.len:=h1; omega
end LM
namespace LM
attribute [local go_sem] run_store_flt
theorem dbounded_any (kids : Fr) (hok : kids.Ok) (h : Hd) (w : World) (hd : DatV w h kids) (hho : h.Ok kids.len) :
  Calls Tryz.prog 50 #[datA h kids.len] w fun e w'=>e = .returned (.bool (decide (cnt 65536 1 kids < 65536)))∧Below w.heap.size w w':=by
 obtain ⟨W0,hW0,hb0,ho,hs0⟩:=dat_block w h kids.len
 have HC:=Lib.hid (counted_any (kids.size + 1) kids (by omega) hok h 65536 W0 (hd.below hb0) hho.cap.1 hho.cap.2 (by decide) (by decide))
 have HW0:=Lib.hid hW0
 have HB0:=Lib.hid hb0
 clear hW0 hb0 ho hd hho hok hs0
 go_enter Tryz.func50,Tryz.ntmps50
 go_wp2_with (fail)
 rw [HW0.out]
 refine HC.out.mono ?_
 rintro e w1 ⟨rfl,hb1⟩
 have HB1:=Lib.hid (bel_trans (B:=w.heap.size) HB0.out hb1)
 clear hb1
 go_wp2_with (fail)
 go_ret
 exact ⟨rfl,HB1.out⟩
theorem dSame_any (kids kids' : Fr) (hok : kids.Ok) (hok' : kids'.Ok) (hn : NumsR kids) (hn' : NumsR kids') (hbd : cnt 65536 1 kids < 65536) (h h' : Hd) (w : World) (hd : DatV w h kids) (hd' : DatV w h' kids') (hho : h.Ok kids.len) (hho' : h'.Ok kids'.len) (hr : rightN h.fl h.f h.s h.xs = true) (hr' : rightN h'.fl h'.f h'.s h'.xs = true) :
  Calls Tryz.prog 29 #[datA h kids.len,datA h' kids'.len] w fun e w'=>e = .returned (.bool (headS h h' && sameF kids kids'))∧Below w.heap.size w w':=by
 obtain ⟨W0,hW0⟩ : ∃ W0,(w.alloc (datO h kids.len)).alloc (datO h' kids'.len) = W0:=⟨_,rfl⟩
 have hb0 : Below w.heap.size w W0:=by rw [← hW0]; exact ((Below.refl _ w).alloc (Nat.le_refl _) _).alloc (by simp) _
 have hO : Obs W0 [(w.heap.size + 1,datO h' kids'.len),(w.heap.size,datO h kids.len)]:=by
  rw [← hW0]
  have h1:=(Obs.nil.new (w:=w) (datO h kids.len)).new (datO h' kids'.len)
  simp only [World.size_alloc] at h1
  exact h1
 have HC:=Lib.hid (dbounded_any kids hok h W0 (hd.below hb0) hho)
 rw [decide_eq_true hbd] at HC
 have HS:=Lib.hid fun W (hW : Below w.heap.size w W)=>dsame_any (kids.size + 1) kids kids' (by omega) hok hok' hn hn' h h' W (hd.below hW) (hd'.below hW) hho hho' hr hr'
 have HW0:=Lib.hid hW0
 have HB0:=Lib.hid hb0
 have O0:=Lib.hid hO
 clear hW0 hb0 hO hd hd' hho hho' hok hok' hn hn' hbd hr hr'
 go_enter Tryz.func29,Tryz.ntmps29
 go_wp2_with (fail)
 rw [HW0.out]
 refine HC.out.mono ?_
 rintro e w1 ⟨rfl,hb1⟩
 have HB1:=Lib.hid (bel_trans (B:=w.heap.size) HB0.out hb1)
 obtain ⟨x0,x1,x2,x3,x4,x5,x6,x7⟩:=C8.of_block (O0.out.below hb1).tl.hd
 obtain ⟨y0,y1,y2,y3,y4,y5,y6,y7⟩:=C8.of_block (O0.out.below hb1).hd
 clear hb1
 go_wp2_with (fail)
 refine (HS.out _ HB1.out).mono ?_
 rintro e w2 ⟨rfl,hb2⟩
 have HB2:=Lib.hid (bel_trans (B:=w.heap.size) HB1.out hb2)
 clear hb2
 go_wp2_with (fail)
 go_ret
 exact ⟨rfl,HB2.out⟩
end LM
namespace LM
attribute [local go_sem] run_store_flt
def WR (b : Nat) (bs : List UInt8) (W : World) : Prop:=Lib.IsBuilderF 86 5 b b (Lib.byteCells bs) W∧b < W.heap.size
def Wrote (b : Nat) (bs add : List UInt8) (W : World) (e : Ending) (W' : World) : Prop:=(∃ v,e = .returned v)∧WR b (bs ++ add) W'∧Below b W W'∧Keeps8 (b + 1) W W'
theorem strCells_eq (s : ByteArray) : Lib.strCells s = Lib.byteCells s.data.toList:=rfl
theorem wrstr_any (b : Nat) (bs : List UInt8) (s : ByteArray) (w : World) (h : WR b bs w) (hl : bs.length + s.size ≤ 140737488355328) :
  Calls Tryz.prog 69 #[.pointer (some ⟨b,0,none⟩),.string s] w (Wrote b bs s.data.toList w):=by
 refine (wstr_any b b (Lib.byteCells bs) s w h.1 (by rw [Lib.byteCells_length]; exact hl) (Nat.le_of_lt h.2)).mono ?_
 rintro e w' ⟨rfl,h1,h2,h3⟩
 refine ⟨⟨_,rfl⟩,⟨?_,Nat.lt_of_lt_of_le h.2 h2.size⟩,h2,keeps8_others h3 h2.size (Nat.lt_succ_self _)⟩
 rw [Lib.byteCells_append]
 rw [strCells_eq] at h1
 exact .inr h1
theorem WR.below {b : Nat} {bs : List UInt8} {w w' : World} (h : WR b bs w) (hb : Below w.heap.size w w') : WR b bs w':=⟨builder_below h.1 hb,Nat.lt_of_lt_of_le h.2 hb.size⟩
def leafK (k : Int) : Prop:=k ≠ 5∧k ≠ 6∧k ≠ 7
instance (k : Int) : Decidable (leafK k):=by unfold leafK; infer_instance
def Fr.isNil : Fr → Bool
 | .nil=>true
 | .cons _ _ _=>false
def txF (lf : Hd → List UInt8) : Bool → Bool → Fr → List UInt8
 | _,_,.nil=>[]
 | dot,fst,.cons h k r=>(if dot && r.isNil then [32,46,32] else if fst then [] else [32]) ++
   (if h.k = 5 then [40] ++ txF lf false true k ++ [41] else if h.k = 6 then [40] ++ txF lf true true k ++ [41] else if h.k = 7 then [35,40] ++ txF lf false true k ++ [41] else lf h) ++ txF lf dot false r
def txD (lf : Hd → List UInt8) (h : Hd) (k : Fr) : List UInt8 :=
 if h.k = 5 then [40] ++ txF lf false true k ++ [41] else if h.k = 6 then [40] ++ txF lf true true k ++ [41] else if h.k = 7 then [35,40] ++ txF lf false true k ++ [41] else lf h
theorem dwitems_any (lf : Hd → List UInt8) (kids : Fr) (n : Nat) (hn : n ≤ kids.len) (o : ByteArray) (B : Option Addr) (cap bb off b : Nat) (bs : List UInt8) (w0 w : World) (h0 : Below b w0 w) (hw0 : b = w0.heap.size) (hB : 0 < n → B = some ⟨bb,off,none⟩) (hF : FAt w0 bb off kids) (hc1 : n ≤ cap) (hc2 : cap ≤ 9223372036854775807)
  (tx : Nat → List UInt8) (ht0 : tx 0 = []) (hts : ∀ hh k j r,j < n → kids.drop j = .cons hh k r → tx (j + 1) = tx j ++ ((if j = 0 then [] else [32]) ++ txD lf hh k)) (htl : ∀ j,j ≤ n → (tx j).length ≤ (tx n).length)
  (hW : WR b bs w) (hl : bs.length + o.size + (tx n).length ≤ 100000000000)
  (hcl : ∀ hh k j r,j < n → kids.drop j = .cons hh k r → ∀ W cs,Below b w0 W → WR b cs W → cs.length + (txD lf hh k).length ≤ 100000000000 → Calls Tryz.prog 42 #[.pointer (some ⟨b,0,none⟩),datA hh k.len] W (Wrote b cs (txD lf hh k) W)) :
  Calls Tryz.prog 74 #[.pointer (some ⟨b,0,none⟩),.string o,.slice B n cap] w (Wrote b bs (o.data.toList ++ tx n) w):=by
 rcases Nat.eq_zero_or_pos n with hn0 | hpos
 ·subst hn0
  have H1:=Lib.hid (wrstr_any b bs o w hW (by omega))
  have HT:=Lib.hid ht0
  clear hw0 hcl hts htl h0 hF hB ht0 hW
  go_enter Tryz.func74,Tryz.ntmps74
  go_wp2_with (fail)
  refine H1.out.mono ?_
  rintro e w1 ⟨⟨v,rfl⟩,hr⟩
  have HR:=Lib.hid hr
  clear hr
  go_wp2_with (fail)
  go_loopg [13] 0 (fun kk i wr=>wr = w1∧i = .int .i64 0)
  case atStart=>exact ⟨rfl,rfl⟩
  case round =>
   obtain ⟨rfl,rfl⟩:=hrel
   go_wp2_with (fail)
   go_end0
   refine ⟨⟨_,rfl⟩,?_,HR.out.2.1,HR.out.2.2⟩
   show WR b (bs ++ (o.data.toList ++ tx 0)) _
   rw [HT.out,List.append_nil]
   exact HR.out.1
 ·obtain rfl:=hB hpos
  have H1:=Lib.hid (wrstr_any b bs o w hW (by omega))
  have HF:=Lib.hid hF
  have HCL:=Lib.hid hcl
  have HTS:=Lib.hid hts
  have HTL:=Lib.hid htl
  have H0:=Lib.hid h0
  have HT:=Lib.hid ht0
  have HWB:=Lib.hid hW.2
  have HW0:=Lib.hid hw0
  clear hw0 hcl hts htl h0 hF hB ht0 hW
  go_enter Tryz.func74,Tryz.ntmps74
  go_wp2_with (fail)
  refine H1.out.mono ?_
  rintro e w1 ⟨⟨v,rfl⟩,hr⟩
  have HR:=Lib.hid hr
  clear hr
  go_wp2_with (fail)
  go_loopg [13] n (fun kk i wr=>∃ j : Nat,j ≤ n∧kk = n - j∧i = .int .i64 (j : Int)∧WR b (bs ++ (o.data.toList ++ tx j)) wr∧Below b w wr∧Keeps8 (b + 1) w wr)
  case atStart=>exact ⟨0,Nat.zero_le _,rfl,rfl,by rw [HT.out,List.append_nil]; exact HR.out.1,HR.out.2.1,HR.out.2.2⟩
  case round =>
   obtain ⟨j,hj,rfl,rfl,hI1,hI2,hI3⟩:=hrel
   have J1:=Lib.hid hI1
   have J2:=Lib.hid hI2
   have J3:=Lib.hid hI3
   clear hI1 hI2 hI3
   by_cases hjl : j < n
   ·obtain ⟨hh,k,r,hdr,hdr1⟩:=Fr.cons_of_lt (show j < kids.len by omega)
    have hbel : Below b w0 wr:=H0.out.trans J2.out
    obtain ⟨hbl,⟨x0,x1,x2,x3,x4,x5,x6,x7⟩,-⟩:=counted_item (FAt.below (HW0.out ▸ hbel) _ _ _ HF.out) hdr
    obtain ⟨W2,hW2⟩ : ∃ W2,wr.alloc (datO hh k.len) = W2:=⟨_,rfl⟩
    have hba : Below wr.heap.size wr W2:=by rw [← hW2]; exact (Below.refl _ wr).alloc (Nat.le_refl _) _
    have hbo : W2.heap[wr.heap.size]? = some (datO hh k.len):=by rw [← hW2]; unfold World.alloc; simp
    have hwb:=J1.out.2
    have A1:=Lib.hid (J1.out.below hba)
    have A2:=Lib.hid (bel_trans (B:=b) J2.out hba (by have:=HWB.out; omega))
    have A3:=Lib.hid (J3.out.trans (keeps8_below hba))
    have A0:=Lib.hid (bel_trans (B:=b) hbel hba (by have:=HW0.out; omega))
    have BO:=Lib.hid hbo
    have HW2:=Lib.hid hW2
    have ts:=HTS.out hh k j r hjl hdr
    have tl:=HTL.out (j + 1) (by omega)
    rw [ts,List.length_append,List.length_append] at tl
    obtain ⟨u0,u1,u2,u3,u4,u5,u6,u7⟩:=C8.of_block hbo
    have CL:=Lib.hid fun (W : World) (cs : List UInt8) (h1 : Below b w0 W) (h2 : WR b cs W) (h3 : cs.length + (txD lf hh k).length ≤ 100000000000)=>HCL.out hh k j r hjl hdr W cs h1 h2 h3
    have TS:=Lib.hid ts
    have TL:=Lib.hid tl
    have HJ:=Lib.hid hjl
    clear hdr hdr1 ts tl hbel hba hbo hW2 hwb
    by_cases hj0 : j = 0
    ·have dj : decide (0 < j) = false:=decide_eq_false (by omega)
     have HJ0:=Lib.hid hj0
     have ET:=Lib.hid (show tx (j + 1) = tx j ++ txD lf hh k by rw [TS.out,if_pos hj0,List.nil_append])
     clear hj0
     go_wp2_with (fail)
     rw [HW2.out]
     refine (CL.out W2 _ A0.out A1.out (by have:=TL.out; rw [List.length_append,List.length_append,← Lib.size_eq]; omega)).mono ?_
     rintro e w3 ⟨⟨v3,rfl⟩,h31,h32,h33⟩
     have B1:=Lib.hid h31
     have B2:=Lib.hid (A2.out.trans h32)
     have B3:=Lib.hid (A3.out.trans h33)
     clear h31 h32 h33
     go_wp2_with (fail)
     go_roundg (n - (j + 1))
     case measure=>omega
     case rel=>exact ⟨j + 1,by omega,rfl,by go_num,by rw [ET.out]; have:=B1.out; rw [List.append_assoc,List.append_assoc] at this; exact this,B2.out,B3.out⟩
    ·have dj : decide (0 < j) = true:=decide_eq_true (by omega)
     have ET:=Lib.hid (show tx (j + 1) = tx j ++ ([32] ++ txD lf hh k) by rw [TS.out,if_neg hj0])
     have H2:=Lib.hid (wrstr_any b _ ⟨#[32]⟩ W2 A1.out (by have:=TL.out; rw [if_neg hj0] at this; have t2 : ([32] : List UInt8).length = 1:=rfl; rw [List.length_append,List.length_append,← Lib.size_eq]; show _ + 1 ≤ _; omega))
     have TL2:=Lib.hid (show (tx j).length + (1 + (txD lf hh k).length) ≤ (tx n).length by have:=TL.out; rw [if_neg hj0] at this; exact this)
     clear hj0
     go_wp2_with (fail)
     rw [HW2.out]
     refine H2.out.mono ?_
     rintro e w3 ⟨⟨v3,rfl⟩,h31,h32,h33⟩
     have B1:=Lib.hid h31
     have B2:=Lib.hid (A2.out.trans h32)
     have B3:=Lib.hid (A3.out.trans h33)
     have B0:=Lib.hid (A0.out.trans h32)
     have hbo3:=h33.same wr.heap.size _ (by have:=J1.out.2; omega) BO.out rfl
     obtain ⟨q0,q1,q2,q3,q4,q5,q6,q7⟩:=C8.of_block hbo3
     clear h31 h32 h33 hbo3 u0 u1 u2 u3 u4 u5 u6 u7
     go_wp2_with (fail)
     refine (CL.out w3 _ B0.out B1.out (by have:=TL2.out; rw [List.length_append,List.length_append,List.length_append,← Lib.size_eq]; show _ + 1 + _ ≤ _; omega)).mono ?_
     rintro e w4 ⟨⟨v4,rfl⟩,h31,h32,h33⟩
     have C1:=Lib.hid h31
     have C2:=Lib.hid (B2.out.trans h32)
     have C3:=Lib.hid (B3.out.trans h33)
     clear h31 h32 h33
     go_wp2_with (fail)
     go_roundg (n - (j + 1))
     case measure=>omega
     case rel=>exact ⟨j + 1,by omega,rfl,by go_num,by rw [ET.out]; have:=C1.out; simp only [List.append_assoc] at this ⊢; exact this,C2.out,C3.out⟩
   ·obtain rfl : j = n:=by omega
    go_wp2_with (fail)
    go_end0
    exact ⟨⟨_,rfl⟩,J1.out,J2.out,J3.out⟩
end LM
namespace LM
attribute [local go_sem] run_store_flt
def txI (lf : Hd → List UInt8) : Nat → Bool → Fr → List UInt8
 | 0,_,_=>[]
 | _ + 1,_,.nil=>[]
 | j + 1,fst,.cons h k r=>(if fst then [] else [32]) ++ txD lf h k ++ txI lf j false r
theorem txI_step (lf : Hd → List UInt8) : ∀ (j : Nat) (fst : Bool) (fr : Fr) (hh : Hd) (k r : Fr),fr.drop j = .cons hh k r → txI lf (j + 1) fst fr = txI lf j fst fr ++ ((if (j = 0∧fst = true) then [] else [32]) ++ txD lf hh k):=by
 intro j
 induction j with
 | zero =>
  intro fst fr hh k r hd
  cases fr with
  | nil=>cases hd
  | cons a b c =>
   obtain ⟨rfl,rfl,rfl⟩ : a = hh∧b = k∧c = r:=by cases hd; exact ⟨rfl,rfl,rfl⟩
   show (if fst then [] else [32]) ++ txD lf a b ++ [] = [] ++ _
   cases fst <;> simp
 | succ j ih =>
  intro fst fr hh k r hd
  cases fr with
  | nil=>cases hd
  | cons a b c =>
   have h1:=ih false c hh k r hd
   show (if fst then [] else [32]) ++ txD lf a b ++ txI lf (j + 1) false c = ((if fst then [] else [32]) ++ txD lf a b ++ txI lf j false c) ++ _
   rw [h1]
   simp
theorem txI_all (lf : Hd → List UInt8) : ∀ (fr : Fr) (fst : Bool),txI lf fr.len fst fr = txF lf false fst fr:=by
 intro fr
 induction fr with
 | nil=>intro fst; rfl
 | cons h k r _ ih =>
  intro fst
  show (if fst then [] else [32]) ++ txD lf h k ++ txI lf r.len false r = _
  rw [ih]
  unfold txD
  show _ = (if (false && r.isNil) then [32,46,32] else if fst then [] else [32]) ++ _ ++ txF lf false false r
  rw [Bool.false_and]
  cases fst <;> rfl
theorem txI_dot (lf : Hd → List UInt8) : ∀ (fr : Fr) (fst : Bool) (hh : Hd) (k : Fr),0 < fr.len → fr.drop (fr.len - 1) = .cons hh k .nil → txF lf true fst fr = txI lf (fr.len - 1) fst fr ++ [32,46,32] ++ txD lf hh k:=by
 intro fr
 induction fr with
 | nil=>intro fst hh k h; exact absurd h (by show ¬ 0 < 0; omega)
 | cons a b c _ ih =>
  intro fst hh k _ hd
  cases c with
  | nil =>
   obtain ⟨rfl,rfl⟩ : a = hh∧b = k:=by cases hd; exact ⟨rfl,rfl⟩
   show [32,46,32] ++ _ ++ [] = [] ++ [32,46,32] ++ txD lf a b
   unfold txD
   simp
  | cons a2 b2 c2 =>
   have hl : (Fr.cons a2 b2 c2).len = c2.len + 1:=rfl
   have hl2 : (Fr.cons a b (Fr.cons a2 b2 c2)).len - 1 = c2.len + 1:=by show c2.len + 1 + 1 - 1 = _; omega
   rw [hl2] at hd ⊢
   have h1:=ih false hh k (by rw [hl]; omega) (by rw [hl]; exact hd)
   rw [hl,Nat.add_sub_cancel] at h1
   show (if fst then [] else [32]) ++ _ ++ txF lf true false (Fr.cons a2 b2 c2) = ((if fst then [] else [32]) ++ txD lf a b ++ txI lf c2.len false (Fr.cons a2 b2 c2)) ++ _ ++ _
   rw [h1]
   unfold txD
   simp
end LM
end Go.Proofs.YtaonablbgicmpaaGreatDoor
namespace Go.Proofs.YtaonablbgicmpaaGreatDoor
open Go Go.Shelf Go.RowKit Go.Sort Go.Lib
namespace LM
attribute [local go_sem] run_store_flt
end LM
end Go.Proofs.YtaonablbgicmpaaGreatDoor
