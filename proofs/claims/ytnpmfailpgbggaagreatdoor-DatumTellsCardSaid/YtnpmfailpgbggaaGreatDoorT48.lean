import Derived.Test.YtnpmfailpgbggaaGreatDoorT39
import Derived.Test.YtnpmfailpgbggaaGreatDoorT34
import Derived.Deep.Strs
import Derived.Test.YtnpmfailpgbggaaGreatDoorT38
import Derived.Test.YtnpmfailpgbggaaGreatDoorT47
import Derived.Deep.RegionHeld3
import Derived.BigQuiet
import Derived.Test.YtnpmfailpgbggaaGreatDoorT51
set_option linter.unusedVariables false
set_option linter.unusedSimpArgs false
set_option maxRecDepth 100000
set_option maxHeartbeats 16000000
namespace Go.Proofs.YtnpmfailpgbggaaGreatDoor
open Go Go.RowKit Go.ChangeShapes Go.WideShapes
namespace LM
section
variable {H : Type} {enc : TypeId × Value → H} {w : World} {base : Nat} {held : Bool}
theorem trod_struct5 {P : Program} {spare : Nat → Bool} {t : TypeId} {f0 f1 f2 f3 f4 : Field} {fuel : Nat} {cs : List Value} {x : DataW H × List MemPlace} (ht : P.underlying t = some (.struct #[f0,f1,f2,f3,f4])) (h : DataW.trod enc P w base spare held fuel t cs = some x) :
    ∃ y0 y1 y2 y3 y4 n,fuel = n + 1∧cs.length = P.cellsOf t∧DataW.trod enc P w base spare held n f0.type ((cs.drop f0.offset).take (P.cellsOf f0.type)) = some y0 ∧
      DataW.trod enc P w base spare held n f1.type ((cs.drop f1.offset).take (P.cellsOf f1.type)) = some y1∧DataW.trod enc P w base spare held n f2.type ((cs.drop f2.offset).take (P.cellsOf f2.type)) = some y2 ∧
      DataW.trod enc P w base spare held n f3.type ((cs.drop f3.offset).take (P.cellsOf f3.type)) = some y3∧DataW.trod enc P w base spare held n f4.type ((cs.drop f4.offset).take (P.cellsOf f4.type)) = some y4:=by
  obtain ⟨xs,n,hn,rfl,hl,hlen,hf⟩:=DataW.trod_struct ht h
  match xs,hlen with
  | [y0,y1,y2,y3,y4],_=>exact ⟨y0,y1,y2,y3,y4,n,hn,hl,by simpa using hf 0 f0 rfl,by simpa using hf 1 f1 rfl,by simpa using hf 2 f2 rfl,by simpa using hf 3 f3 rfl,by simpa using hf 4 f4 rfl⟩
theorem open_num4 {fuel : Nat} {c0 c1 c2 c3 : Value} {y : DataW H × List MemPlace} (hf : DataW.trod enc Tryz.prog w base (fun _=>true) held fuel 27 [c0,c1,c2,c3] = some y) :
    ∃ fl f s A c xs,c0 = .bool fl∧c1 = .float .f64 f∧c2 = .bool s∧c3 = .slice A (List.length xs) c∧f < 18446744073709551616∧Lm xs∧Rd w A xs∧xs.length ≤ c∧c ≤ 9223372036854775807∧(A = none → xs.length = 0∧c = 0)∧∀ ad,A = some ad → 0 < c → ad.spot = none:=by
  obtain ⟨y0,y1,y2,n,hx,_,h0,h1,h2⟩:=Go.Deep.trod_struct3 Tryz.underlying27 hf
  have g0 : DataW.trod enc Tryz.prog w base (fun _=>true) held n 4 [c0] = some y0:=h0
  have g1 : DataW.trod enc Tryz.prog w base (fun _=>true) held n 22 [c1] = some y1:=h1
  have g2 : DataW.trod enc Tryz.prog w base (fun _=>true) held n 25 [c2,c3] = some y2:=h2
  obtain ⟨fl,hb,-⟩:=DataW.trod_bool Tryz.underlying4 g0
  obtain ⟨f,hff,hfl⟩:=trod_flt Tryz.underlying22 g1
  obtain ⟨z0,z1,n',-,-,k0,k1⟩:=trod_struct2 Tryz.underlying25 g2
  have e0 : DataW.trod enc Tryz.prog w base (fun _=>true) held n' 4 [c2] = some z0:=k0
  have e1 : DataW.trod enc Tryz.prog w base (fun _=>true) held n' 23 [c3] = some z1:=k1
  obtain ⟨s,hs,-⟩:=DataW.trod_bool Tryz.underlying4 e0
  obtain rfl : c0 = .bool fl:=by simpa using hb
  obtain rfl : c1 = .float .f64 f:=by simpa using hff
  obtain rfl : c2 = .bool s:=by simpa using hs
  rcases open_ints Tryz.underlying23 Tryz.underlying60 (by kernel_rfl) e1 with ⟨hcs,_⟩ | ⟨x,l,c,zs,hcs,_,hl,hm,hz,_,hcell,hwz⟩
  · obtain rfl : c3 = .slice none 0 0:=by simpa using hcs
    exact ⟨fl,f,s,none,0,[],rfl,rfl,rfl,rfl,hfl,Lm.nil,Rd.nil,Nat.le_refl _,by decide,fun _=>⟨rfl,rfl⟩,fun ad e=>by cases e⟩
  · obtain rfl : c3 = .slice (some x) l c:=by simpa using hcs
    obtain ⟨xs,rfl,hx,ha,hca,hcm,hn⟩:=open_row (w:=w) (a:=some x) (len:=l) (cap:=c) (zs:=zs) (.inr ⟨_,rfl,hl,hm,by simpa using hz,hcell,hwz⟩)
    refine ⟨fl,f,s,some x,c,xs,rfl,rfl,rfl,rfl,hfl,hx,ha,hca,hcm,hn,fun ad e h0=>?_⟩
    injection e with e
    subst e
    have hzl : zs.length = c:=by simpa using hz
    have hc0:=hcell 0 (by omega)
    have hx0 : x.add 0 = x:=by simp [Addr.add]
    rw [hx0] at hc0
    have:=(spot_none hc0).1
    rw [this]
structure Hd.Raw (h : Hd) (m : Nat) : Prop where
  k : -9223372036854775808 ≤ h.k∧h.k ≤ 9223372036854775807
  n : -9223372036854775808 ≤ h.n∧h.n ≤ 9223372036854775807
  f : h.f < 18446744073709551616
  lm : Lm h.xs
  c : h.xs.length ≤ h.c∧h.c ≤ 9223372036854775807
  nA : h.A = none → h.xs.length = 0∧h.c = 0
  t : h.t.size ≤ maxLen
  cap : m ≤ h.cap∧h.cap ≤ 9223372036854775807
  nB : h.B = none → m = 0∧h.cap = 0
  sA : ∀ ad,h.A = some ad → 0 < h.c → ad.spot = none
  sB : ∀ ad,h.B = some ad → 0 < h.cap → ad.spot = none
def Fr.Raw : Fr → Prop
  | .nil=>True
  | .cons h kids rest=>h.Raw kids.len∧kids.Raw∧rest.Raw
theorem int_range {z : Int} (h : (Lit.int .i64 z).wf = true) : -9223372036854775808 ≤ z∧z ≤ 9223372036854775807:=by
  simp [Lit.wf,IntKind.min,IntKind.max,IntKind.signed,IntKind.bits] at h
  omega
theorem open_dat : ∀ (fuel : Nat) (cs : List Value) (x : DataW H × List MemPlace),DataW.trod enc Tryz.prog w 0 (fun _=>true) held fuel 30 cs = some x →
    ∃ h kids,cs = head8 h kids.len∧DatV w h kids∧h.Raw kids.len∧kids.Raw:=by
  intro fuel
  induction fuel using Nat.strongRecOn with
  | ind fuel ih =>
    intro cs x hf
    obtain ⟨y0,y1,y2,y3,y4,n,rfl,hl,h0,h1,h2,h3,h4⟩:=trod_struct5 Tryz.underlying30 hf
    have hl8 : cs.length = 8:=hl.trans (by kernel_rfl)
    match cs,hl8 with
    | [c0,c1,c2,c3,c4,c5,c6,c7],_ =>
      have g0 : DataW.trod enc Tryz.prog w 0 (fun _=>true) held n 3 [c0] = some y0:=h0
      have g1 : DataW.trod enc Tryz.prog w 0 (fun _=>true) held n 3 [c1] = some y1:=h1
      have g2 : DataW.trod enc Tryz.prog w 0 (fun _=>true) held n 27 [c2,c3,c4,c5] = some y2:=h2
      have g3 : DataW.trod enc Tryz.prog w 0 (fun _=>true) held n 9 [c6] = some y3:=h3
      have g4 : DataW.trod enc Tryz.prog w 0 (fun _=>true) held n 28 [c7] = some y4:=h4
      obtain ⟨k,hk,-,hkw⟩:=DataW.trod_int Tryz.underlying3 g0
      obtain ⟨nn,hn,-,hnw⟩:=DataW.trod_int Tryz.underlying3 g1
      obtain ⟨fl,f,s,A,c,xs,rfl,rfl,rfl,rfl,hff,hlm,hrd,hxc,hcm,hnA,hsA⟩:=open_num4 g2
      obtain ⟨t,ht,-,htm⟩:=DataW.trod_string Tryz.underlying9 g3
      obtain rfl : c0 = .int .i64 k:=by simpa using hk
      obtain rfl : c1 = .int .i64 nn:=by simpa using hn
      obtain rfl : c6 = .string t:=by simpa using ht
      rcases DataW.trod_slice Tryz.underlying28 g4 with ⟨hcs,_⟩ | ⟨a,len,cap,elems,rest,n2,hn2,hcs,_,_,hlc,hcapm,hel,hall,hsp,_⟩
      · obtain rfl : c7 = .slice none 0 0:=by simpa using hcs
        exact ⟨⟨k,nn,fl,f,s,A,xs,c,t,none,0⟩,.nil,rfl,⟨hrd,0,0,fun h=>absurd h (Nat.lt_irrefl 0),trivial⟩,
          ⟨int_range hkw,int_range hnw,hff,hlm,⟨hxc,hcm⟩,hnA,htm,⟨Nat.le_refl _,by show (0 : Nat) ≤ 9223372036854775807; decide⟩,fun _=>⟨rfl,rfl⟩,hsA,fun ad e=>(by cases e)⟩,trivial⟩
      · obtain rfl : c7 = .slice (some a) len cap:=by simpa using hcs
        have hce : Tryz.prog.cellsOf 30 = 8:=by kernel_rfl
        rw [hce] at hall hsp
        have hel1 : ∀ i,i < len → ∃ cl e,w.cells? 0 (a.add (i * 8)) 8 = some cl∧DataW.trod enc Tryz.prog w 0 (fun _=>true) held n2 30 cl = some e:=fun i hi=>by
          have h5:=hall i hi
          have h6 : i < elems.length:=by omega
          rw [List.getElem?_eq_getElem h6] at h5
          obtain ⟨cl,h7,h8⟩:=Option.bind_eq_some_iff.1 h5
          exact ⟨cl,_,h7,h8⟩
        have hx0 : a.add 0 = a:=by simp [Addr.add]
        have hspot : 0 < cap → a.spot = none:=fun h=>by
          have hc : ∃ cl,w.cells? 0 a 8 = some cl∧cl.length = 8:=by
            rcases Nat.eq_zero_or_pos len with h9 | h9
            · obtain ⟨hr,hr2⟩:=hsp rfl
              have h5:=hr2 0 (by omega)
              have h6 : 0 < rest.length:=by omega
              rw [List.getElem?_eq_getElem h6,h9,Nat.add_zero,Nat.zero_mul,hx0] at h5
              obtain ⟨cl,h7,h8⟩:=Option.bind_eq_some_iff.1 h5
              exact ⟨cl,h7,(World.cells?_some h7).2.1⟩
            · obtain ⟨cl,e,h7,h8⟩:=hel1 0 h9
              rw [Nat.zero_mul,hx0] at h7
              exact ⟨cl,h7,(World.cells?_some h7).2.1⟩
          obtain ⟨cl,h7,h8⟩:=hc
          have h9:=(World.cells?_some h7).2.2 0 (by decide)
          rw [hx0,List.getElem?_eq_getElem (by omega)] at h9
          have:=(spot_none h9).1
          rw [this]
        have F : ∀ j,j ≤ len → ∃ fr : Fr,fr.len = j∧fr.Raw∧(0 < len → FAt w a.block (a.off + (len - j) * 8) fr):=by
          intro j
          induction j with
          | zero=>intro _; exact ⟨.nil,rfl,trivial,fun _=>trivial⟩
          | succ j ihj =>
            intro hj
            obtain ⟨fr,hf1,hf2,hf3⟩:=ihj (by omega)
            obtain ⟨cl,e,hcl,he⟩:=hel1 (len - (j + 1)) (by omega)
            obtain ⟨h',kids',rfl,hv,hr1,hr2⟩:=ih n2 (by omega) cl e he
            have hsp0:=hspot (by omega)
            have hadd : ∀ i,(a.add ((len - (j + 1)) * 8)).add i = ⟨a.block,a.off + (len - (j + 1)) * 8 + i,none⟩:=fun i=>by
              obtain ⟨ab,ao,asp⟩:=a
              dsimp only at hsp0
              subst hsp0
              rw [Lib.add_plain,Lib.add_plain]
            have hcell : ∀ i u,(head8 h' kids'.len)[i]? = some u → w.cell? ⟨a.block,a.off + (len - (j + 1)) * 8 + i,none⟩ = some u:=fun i u hu=>by
              have hi : i < 8:=(List.getElem?_eq_some_iff.1 hu).1
              have h9:=(World.cells?_some hcl).2.2 i hi
              rw [hadd,hu] at h9
              exact h9
            refine ⟨.cons h' kids' fr,by show fr.len + 1 = j + 1; rw [hf1],⟨hr1,hr2,hf2⟩,fun h10=>?_⟩
            have hc0:=hcell 0 _ rfl
            refine ⟨(spot_none hc0).2,⟨hcell 0 _ rfl,hcell 1 _ rfl,hcell 2 _ rfl,hcell 3 _ rfl,hcell 4 _ rfl,hcell 5 _ rfl,hcell 6 _ rfl,hcell 7 _ rfl⟩,hv.xs,hv.items,?_⟩
            have h11:=hf3 h10
            rw [show a.off + (len - (j + 1)) * 8 + 8 = a.off + (len - j) * 8 from by omega]
            exact h11
        obtain ⟨fr,hf1,hf2,hf3⟩:=F len (Nat.le_refl _)
        rw [Nat.sub_self,Nat.zero_mul,Nat.add_zero] at hf3
        refine ⟨⟨k,nn,fl,f,s,A,xs,c,t,some a,cap⟩,fr,by rw [hf1]; rfl,⟨hrd,a.block,a.off,fun h=>?_,?_⟩,
          ⟨int_range hkw,int_range hnw,hff,hlm,⟨hxc,hcm⟩,hnA,htm,⟨by rw [hf1]; exact hlc,by unfold maxLen at hcapm; exact Nat.le_trans hcapm (by decide)⟩,fun e=>(by cases e),hsA,fun ad e h=>?_⟩,hf2⟩
        · have:=hspot (by omega)
          obtain ⟨ab,ao,asp⟩:=a
          dsimp only at this
          subst this
          rfl
        · rcases Nat.eq_zero_or_pos len with h9 | h9
          · cases fr with
            | nil=>exact trivial
            | cons x y z=>exact absurd hf1 (by show ¬ z.len + 1 = len; omega)
          · exact hf3 h9
        · injection e with e
          subst e
          exact hspot h
end
end LM
end Go.Proofs.YtnpmfailpgbggaaGreatDoor
namespace Go.Proofs.YtnpmfailpgbggaaGreatDoor
open Go Go.RowKit
namespace LM
attribute [local go_sem] run_store_flt
def bigB (deep most : Int) (h : Hd) (n : Nat) : Bool:=decide (70 < deep) || decide (most < 0) || decide (most < (n : Int)) || decide (5000 < h.t.size) || decide (200 < h.xs.length)
def smallF : Int → Int → Fr → Int
  | _,most,.nil=>most
  | deep,most,.cons h k r=>if bigB deep most h k.len then -1 else if smallF (deep + 1) (most - 1) k < 0 then -1 else smallF deep (smallF (deep + 1) (most - 1) k) r
def smallD (deep most : Int) (h : Hd) (k : Fr) : Int:=if bigB deep most h k.len then -1 else if smallF (deep + 1) (most - 1) k < 0 then -1 else smallF (deep + 1) (most - 1) k
theorem dsmall_bd : ∀ (fr : Fr) (deep most : Int),-1 ≤ most → -1 ≤ smallF deep most fr∧smallF deep most fr ≤ max most (-1):=by
  intro fr
  induction fr with
  | nil=>intro deep most h; exact ⟨h,by show most ≤ _; omega⟩
  | cons h k r ihk ihr =>
    intro deep most hm
    unfold smallF
    split
    · omega
    · rename_i hb
      split
      · omega
      · rename_i h0
        have hm0 : 0 ≤ most:=by
          unfold bigB at hb
          simp only [Bool.or_eq_true,decide_eq_true_eq,not_or] at hb
          omega
        have h1:=ihk (deep + 1) (most - 1) (by omega)
        have h2:=ihr deep (smallF (deep + 1) (most - 1) k) (by omega)
        omega
theorem Fr.Raw.drop : ∀ (i : Nat) {fr : Fr},fr.Raw → (fr.drop i).Raw:=by
  intro i
  induction i with
  | zero=>intro fr h; exact h
  | succ i ih =>
    intro fr h
    cases fr with
    | nil=>exact trivial
    | cons hh k r=>exact ih h.2.2
theorem small_cons (deep most : Int) (h : Hd) (k r : Fr) : smallF deep most (.cons h k r) = if smallD deep most h k < 0 then -1 else smallF deep (smallD deep most h k) r:=by
  rw [smallF]
  unfold smallD
  by_cases h1 : bigB deep most h k.len = true
  · rw [if_pos h1,if_pos h1,if_pos (by decide)]
  · rw [if_neg h1,if_neg h1]
    by_cases h2 : smallF (deep + 1) (most - 1) k < 0
    · rw [if_pos h2,if_pos h2,if_pos (by decide)]
    · rw [if_neg h2,if_neg h2,if_neg h2]
theorem dsmallD_bd (h : Hd) (k : Fr) (deep most : Int) (hm : -1 ≤ most) : -1 ≤ smallD deep most h k∧smallD deep most h k ≤ max most (-1):=by
  unfold smallD
  split
  · omega
  · rename_i hb
    split
    · omega
    · rename_i h0
      have hm0 : 0 ≤ most:=by
        unfold bigB at hb
        simp only [Bool.or_eq_true,decide_eq_true_eq,not_or] at hb
        omega
      have h1:=dsmall_bd k (deep + 1) (most - 1) (by omega)
      omega
theorem dsmall_any : ∀ (m : Nat) (kids : Fr),kids.size < m → kids.Raw → ∀ (h : Hd) (deep most : Int) (w : World),DatV w h kids → h.Raw kids.len → 0 ≤ deep → deep ≤ 1000 → -1 ≤ most → most ≤ 4000 →
    Calls Tryz.prog 7 #[datA h kids.len,.int .i64 deep,.int .i64 most] w fun e w'=>e = .returned (.int .i64 (smallD deep most h kids))∧Below w.heap.size w w':=by
  intro m
  induction m with
  | zero=>intro kids h; omega
  | succ m ih =>
    intro kids hsz hok h deep most w hd hho hd0 hd1 hm0 hm1
    obtain ⟨W0,hW0⟩ : ∃ W0,w.alloc (datO h kids.len) = W0:=⟨_,rfl⟩
    have hb0 : Below w.heap.size w W0:=by rw [← hW0]; exact (Below.refl _ w).alloc (Nat.le_refl _) _
    have ho : W0.heap[w.heap.size]? = some (datO h kids.len):=by rw [← hW0]; unfold World.alloc; simp
    have hs0 : w.heap.size < W0.heap.size:=by rw [← hW0]; simp
    have c5 : W0.cell? ⟨w.heap.size,5,none⟩ = some (.slice h.A h.xs.length h.c):=(C8.of_block ho).c5
    have c6 : W0.cell? ⟨w.heap.size,6,none⟩ = some (.string h.t):=(C8.of_block ho).c6
    have c7 : W0.cell? ⟨w.heap.size,7,none⟩ = some (.slice h.B kids.len h.cap):=(C8.of_block ho).c7
    obtain ⟨b,off,hB,hF⟩:=(hd.below hb0).items
    have hxl : h.xs.length ≤ 9223372036854775807:=Nat.le_trans hho.c.1 hho.c.2
    have hkl : kids.len ≤ 9223372036854775807:=Nat.le_trans hho.cap.1 hho.cap.2
    have htl : h.t.size ≤ 9223372036854775807:=Nat.le_trans hho.t (by decide)
    have e1 : decide (70 < deep) = decide (70 < deep):=rfl
    obtain ⟨q1,hq1⟩ : ∃ q,decide (70 < deep) = q:=⟨_,rfl⟩
    obtain ⟨q2,hq2⟩ : ∃ q,decide (most < 0) = q:=⟨_,rfl⟩
    obtain ⟨q3,hq3⟩ : ∃ q,decide (most < (kids.len : Int)) = q:=⟨_,rfl⟩
    obtain ⟨q4,hq4⟩ : ∃ q,decide (5000 < h.t.size) = q:=⟨_,rfl⟩
    obtain ⟨q5,hq5⟩ : ∃ q,decide (200 < h.xs.length) = q:=⟨_,rfl⟩
    have hq4i : decide ((5000 : Int) < (h.t.size : Int)) = q4:=by rw [← hq4,decide_eq_decide]; omega
    have hq5i : decide ((200 : Int) < (h.xs.length : Int)) = q5:=by rw [← hq5,decide_eq_decide]; omega
    have HR : Hid (smallD deep most h kids = if (q1 || q2 || q3 || q4 || q5) = true then -1 else if smallF (deep + 1) (most - 1) kids < 0 then -1 else smallF (deep + 1) (most - 1) kids):=Lib.hid (by
      unfold smallD bigB
      rw [hq1,hq2,hq3,hq4,hq5])
    have HW0:=Lib.hid hW0
    have HB0:=Lib.hid hb0
    have HF:=Lib.hid hF
    have HB:=Lib.hid hB
    have HOK:=Lib.hid hok
    have IH:=Lib.hid ih
    have HSZ:=Lib.hid hsz
    have HKL:=Lib.hid hkl
    have HM0:=Lib.hid hm0
    have HQ2:=Lib.hid hq2
    have HQ1:=Lib.hid hq1
    clear hW0 hb0 hF hB hok ih hsz hd ho e1
    obtain ⟨RES,hRES⟩ : ∃ RES,smallD deep most h kids = RES:=⟨_,rfl⟩
    rw [hRES] at HR ⊢
    clear hRES
    cases q1
    all_goals cases q2
    all_goals cases q3
    all_goals cases q4
    all_goals cases q5
    any_goals
      go_enter Tryz.func7,Tryz.ntmps7
      go_wp2_with (fail)
      rw [HW0.out]
      go_wp2_with (fail)
      go_ret
      exact ⟨by rw [HR.out]; rfl,HB0.out⟩
    go_enter Tryz.func7,Tryz.ntmps7
    go_wp2_with (fail)
    rw [HW0.out]
    go_wp2_with (fail)
    go_loopg [2,8,41] kids.len (fun kk n _ i wr=>Below W0.heap.size W0 wr∧∃ j : Nat,j ≤ kids.len∧kk = kids.len - j∧i = .int .i64 (j : Int)∧∃ a : Int,n = .int .i64 a∧smallF (deep + 1) a (kids.drop j) = smallF (deep + 1) (most - 1) kids∧-1 ≤ a∧a ≤ 4000∧(0 < j → 0 ≤ a))
    case atStart=>exact ⟨Below.refl _ _,0,Nat.zero_le _,rfl,rfl,most - 1,rfl,rfl,by have:=of_decide_eq_false HQ2.out; omega,by omega,fun h=>absurd h (Nat.lt_irrefl 0)⟩
    case round =>
      obtain ⟨hbr,j,hj,rfl,rfl,a,rfl,hcn,ha1,ha2,ha3⟩:=hrel
      have HBR:=Lib.hid hbr
      have HCN:=Lib.hid hcn
      have hdp : deep ≤ 70:=by have:=of_decide_eq_false HQ1.out; omega
      clear hbr hcn
      by_cases hjl : j < kids.len
      · obtain ⟨hh,k,r,hdr,hdr1⟩:=Fr.cons_of_lt hjl
        have hBe:=HB.out (by omega)
        rw [hBe]
        obtain ⟨hbl,C,D⟩:=counted_item (FAt.below HBR.out _ _ _ HF.out) hdr
        have hks:=size_item hdr
        have hko:=HOK.out.drop j
        rw [hdr] at hko
        have hcn:=HCN.out
        rw [hdr,small_cons] at hcn
        obtain ⟨v,hv⟩ : ∃ v,smallD (deep + 1) a hh k = v:=⟨_,rfl⟩
        have hvb:=dsmallD_bd hh k (deep + 1) a (by omega)
        rw [hv] at hcn hvb
        have CK:=Lib.hid fun W (hW : Below wr.heap.size wr W)=>IH.out k (by have:=HSZ.out; omega) hko.2.1 hh (deep + 1) a W (D.below hW) hko.1 (by omega) (by omega) (by omega) (by omega)
        rw [hv] at CK
        have HCN2:=Lib.hid hcn
        have HDR:=Lib.hid hdr1
        have w1 : IntKind.i64.wrap (deep + 1) = deep + 1:=by rw [IntKind.wrap_i64]; omega
        obtain ⟨x0,x1,x2,x3,x4,x5,x6,x7⟩:=C
        have hba : Below wr.heap.size wr (wr.alloc (.cells #[.int .i64 hh.k,.int .i64 hh.n,.bool hh.fl,.float .f64 hh.f,.bool hh.s,.slice hh.A hh.xs.length hh.c,.string hh.t,.slice hh.B k.len hh.cap] 30)):=(Below.refl _ wr).alloc (Nat.le_refl _) _
        have HBA:=Lib.hid hba
        clear hcn hdr hdr1 hks hko D hv hba
        go_wp2_with (fail)
        refine (CK.out _ HBA.out).mono ?_
        rintro e w2 ⟨rfl,hb2⟩
        have HB2:=Lib.hid (bel_trans (B:=W0.heap.size) HBR.out (bel_trans (B:=wr.heap.size) HBA.out hb2))
        clear hb2 x0 x1 x2 x3 x4 x5 x6 x7
        by_cases hv0 : v < 0
        · have d9 : decide (v < 0) = true:=decide_eq_true hv0
          have HRR:=Lib.hid (show smallF (deep + 1) (most - 1) kids = -1 by rw [← HCN2.out,if_pos hv0])
          clear hv0
          go_wp2_with (fail)
          go_ret
          refine ⟨?_,bel_trans (B:=w.heap.size) HB0.out HB2.out⟩
          have h9 : RES = -1:=by rw [HR.out,HRR.out]; rfl
          rw [h9]
          rfl
        · have d9 : decide (v < 0) = false:=decide_eq_false hv0
          have HRR:=Lib.hid (show smallF (deep + 1) v (kids.drop (j + 1)) = smallF (deep + 1) (most - 1) kids by rw [HDR.out,← HCN2.out,if_neg hv0])
          go_wp2_with (fail)
          rw [← hBe]
          go_roundg (kids.len - (j + 1))
          case measure=>omega
          case rel=>exact ⟨HB2.out,j + 1,by omega,rfl,by go_num,v,rfl,HRR.out,by omega,by omega,fun _=>by omega⟩
      · have hje : j = kids.len:=by omega
        subst hje
        have hcn:=HCN.out
        have hnil : kids.drop kids.len = .nil:=by
          have h1:=Fr.len_drop kids.len kids
          cases h2 : kids.drop kids.len with
          | nil=>rfl
          | cons x y z=>rw [h2] at h1; have h3 : z.len + 1 = kids.len - kids.len:=h1; omega
        rw [hnil] at hcn
        have HRR:=Lib.hid (show smallF (deep + 1) (most - 1) kids = a from hcn.symm)
        clear hcn hnil
        go_wp2_with (fail)
        go_ret
        refine ⟨?_,bel_trans (B:=w.heap.size) HB0.out HBR.out⟩
        have h9 : RES = a:=by
          rw [HR.out,HRR.out,if_neg (by decide)]
          by_cases h9 : a < 0
          · rw [if_pos h9]; omega
          · rw [if_neg h9]
        rw [h9]
        rfl
end LM
namespace LM
theorem raw_ok {h : Hd} {n : Nat} (hr : h.Raw n) (hx : h.xs.length ≤ 200) (ht : h.t.size ≤ 5000) : h.Ok n :=
  ⟨hr.k,hr.n,hr.f,hr.lm,hr.c,hr.nA,by omega,by omega,hr.cap,hr.nB,hr.sA,hr.sB⟩
theorem not_big5 {deep most : Int} {h : Hd} {n : Nat} (hb : ¬ bigB deep most h n = true) : 0 ≤ most∧(n : Int) ≤ most∧h.t.size ≤ 5000∧h.xs.length ≤ 200:=by
  unfold bigB at hb
  simp only [Bool.or_eq_true,decide_eq_true_eq,not_or] at hb
  omega
theorem small_ok : ∀ (fr : Fr) (deep most : Int),fr.Raw → most ≤ 4000 → 0 ≤ smallF deep most fr → fr.Ok∧FewF fr∧SmF fr:=by
  intro fr
  induction fr with
  | nil=>intro deep most _ _ _; exact ⟨trivial,trivial,trivial⟩
  | cons h k r ihk ihr =>
    intro deep most hr hm hs
    unfold smallF at hs
    split at hs
    · omega
    · rename_i hb
      split at hs
      · omega
      · rename_i h0
        obtain ⟨b1,b2,b3,b4⟩:=not_big5 hb
        have hbd:=dsmall_bd k (deep + 1) (most - 1) (by omega)
        obtain ⟨k1,k2,k3⟩:=ihk (deep + 1) (most - 1) hr.2.1 (by omega) (by omega)
        obtain ⟨r1,r2,r3⟩:=ihr deep _ hr.2.2 (by omega) hs
        exact ⟨⟨raw_ok hr.1 b4 b3,k1,r1⟩,⟨by omega,k2,r2⟩,⟨by omega,by omega,k3,r3⟩⟩
theorem smallD_ok {deep most : Int} {h : Hd} {k : Fr} (hr : h.Raw k.len) (hk : k.Raw) (hm : most ≤ 4000) (hs : ¬ smallD deep most h k < 0) : h.Ok k.len∧k.Ok∧FewF k∧SmF k∧k.len ≤ 4000∧h.xs.length ≤ 200:=by
  unfold smallD at hs
  split at hs
  · exact absurd (by decide) hs
  · rename_i hb
    split at hs
    · exact absurd (by decide) hs
    · rename_i h0
      obtain ⟨b1,b2,b3,b4⟩:=not_big5 hb
      obtain ⟨k1,k2,k3⟩:=small_ok k (deep + 1) (most - 1) hk (by omega) (by omega)
      exact ⟨raw_ok hr b4 b3,k1,k2,k3,by omega,b4⟩
theorem cnt_more5 : ∀ (fr : Fr) (m M n : Int),cnt m n fr < m → m ≤ M → cnt M n fr = cnt m n fr:=by
  intro fr
  induction fr with
  | nil=>intro m M n _ _; rfl
  | cons h k r ihk ihr =>
    intro m M n hc hM
    unfold cnt at hc ⊢
    split at hc
    · omega
    · rename_i hn
      rw [if_neg (by omega),if_neg (by omega)]
      have h1:=(cnt_bd r m (n + cnt (m - n) 1 k)).1
      have h2:=ihk (m - n) (M - n) 1 (by omega) (by omega)
      rw [h2]
      exact ihr m M _ hc hM
theorem rightD_cnt {nm : ByteArray → Bool} {h : Hd} {kids : Fr} (hr : rightD nm h kids = true) : cnt 65536 1 kids < 65536:=by
  unfold rightD at hr
  rw [Bool.and_eq_true,decide_eq_true_eq] at hr
  rw [cnt_more5 kids 3001 65536 1 (by omega) (by decide)]
  omega
theorem rightK_num {nm : ByteArray → Bool} {d : Int} {h : Hd} {kids : Fr} {sub : Bool} (hr : rightK nm d h kids sub = true) : rightN h.fl h.f h.s h.xs = true:=by
  unfold rightK elseB nothB at hr
  by_cases h0 : h.k = 0
  · simp [h0] at hr
    exact hr.2
  · simp [h0] at hr
    exact hr.1.1.1.2.2
theorem rightK_sub {nm : ByteArray → Bool} {d : Int} {h : Hd} {kids : Fr} {sub : Bool} (hr : rightK nm d h kids sub = true) : kids = .nil ∨ sub = true:=by
  cases kids with
  | nil=>exact .inl rfl
  | cons x y z =>
    refine .inr ?_
    unfold rightK elseB at hr
    rw [Bool.and_eq_true] at hr
    obtain ⟨h1,h2⟩:=hr
    have hl : (((Fr.cons x y z).len : Nat) : Int) ≠ 0:=by show ((z.len + 1 : Nat) : Int) ≠ 0; omega
    have hb : ((((Fr.cons x y z).len : Nat) : Int) == 0) = false:=by simpa using hl
    rw [hb] at h1
    rw [Bool.and_eq_true] at h1
    have hk : 5 ≤ h.k∧h.k ≤ 7:=by simpa using h1.2
    rw [if_neg (by omega),if_neg (by omega),if_neg (by omega),if_neg (by omega),if_neg (by omega)] at h2
    rw [Bool.and_eq_true] at h2
    exact h2.2
theorem rightF_nums {nm : ByteArray → Bool} : ∀ (fr : Fr) (d : Int),rightF nm d fr = true → NumsR fr:=by
  intro fr
  induction fr with
  | nil=>intro _ _; exact trivial
  | cons h k r ihk ihr =>
    intro d hr
    unfold rightF at hr
    rw [Bool.and_eq_true] at hr
    refine ⟨rightK_num hr.1,?_,ihr d hr.2⟩
    rcases rightK_sub hr.1 with rfl | h1
    · exact trivial
    · exact ihk _ h1
theorem rightD_nums {nm : ByteArray → Bool} {h : Hd} {kids : Fr} (hr : rightD nm h kids = true) : rightN h.fl h.f h.s h.xs = true∧NumsR kids:=by
  unfold rightD at hr
  rw [Bool.and_eq_true] at hr
  refine ⟨rightK_num hr.2,?_⟩
  rcases rightK_sub hr.2 with rfl | h1
  · exact trivial
  · exact rightF_nums _ _ h1
end LM
namespace LM
attribute [local go_sem] run_store_flt
end LM
namespace LM
attribute [local go_sem] run_store_flt
abbrev symHd (s : ByteArray) : Hd:=⟨4,0,false,0,false,none,[],0,s,none,0⟩
abbrev numHd (s : Bool) (A : Option Addr) (xs : List Nat) (c : Nat) : Hd:=⟨0,0,false,0,s,A,xs,c,⟨#[]⟩,none,0⟩
theorem zero_block (w : World) : ∃ W0,w.alloc zeroO = W0∧Below w.heap.size w W0∧W0.heap[w.heap.size]? = some zeroO∧w.heap.size < W0.heap.size :=
  ⟨_,rfl,(Below.refl _ w).alloc (Nat.le_refl _) _,by unfold World.alloc; simp,by simp⟩
theorem limb_off {W : World} {g : Nat} {A : Option Addr} {xs : List Nat} (hz : W.heap[g]? = some zeroO) (hr : Rd W A xs) (hx : 0 < xs.length) : Off A g:=by
  obtain ⟨b,off,rfl,hb,hc⟩:=hr hx
  intro ad e hg
  injection e with e
  subst e
  have h:=hc 0 hx
  have hg : b = g:=hg
  subst hg
  rw [ob_cell hz] at h
  rcases off with _ | _ | _ | _ | _ | _ | _ | _ | off <;> simp at h
theorem dsym_any (s : ByteArray) (hs : s.size ≤ 281474976710656) (w : World) :
    Calls Tryz.prog 19 #[.string s] w fun e w'=>e = .returned (datA (symHd s) 0)∧Below w.heap.size w w':=by
  obtain ⟨W0,hW0,hb0,hO,hs0⟩:=zero_block w
  have H1:=Lib.hid (dclone_any s W0 hs)
  have HW0:=Lib.hid hW0
  have O0:=Lib.hid hO
  have HB0:=Lib.hid hb0
  have HS0:=Lib.hid hs0
  clear hW0 hb0 hO hs hs0
  go_enter Tryz.func19,Tryz.ntmps19
  go_wp2_with (fail)
  rw [HW0.out]
  refine H1.out.mono ?_
  rintro e w2 ⟨rfl,bc⟩
  have iz:=(bc.block _ HS0.out).trans O0.out
  have hlz:=heap_lt iz
  have ib:=bel_trans (B:=w.heap.size) HB0.out bc
  obtain ⟨WF,hWF,CF,OF,hbF,-⟩:=result_dat (h:=symHd s) (n:=0) iz ib (Nat.le_refl _)
  dsimp only [set8z,List.length_nil] at hWF
  have HWF:=Lib.hid hWF
  have HBF:=Lib.hid hbF
  obtain ⟨q0,q1,q2,q3,q4,q5,q6,q7⟩:=CF
  try dsimp only [Nat.zero_add,List.length_nil] at q0 q1 q2 q3 q4 q5 q6 q7
  obtain ⟨z0,z1,z2,z3,z4,z5,z6,z7,e0,e1,e2,e3,e4,e5,e6,e7,el⟩:=zero_facts iz
  clear hWF OF hbF bc iz ib hlz
  go_wp2_with (fail)
  rw [HWF.out]
  refine bodyPost_ret (v:=datA (symHd s) 0) (by simp [results,Tryz.results19,go_sem,q0,q1,q2,q3,q4,q5,q6,q7]) rfl ?_
  exact ⟨rfl,HBF.out⟩
theorem dnum_any (z : Int) (h1 : -9223372036854775808 ≤ z) (h2 : z ≤ 9223372036854775807) (w : World) :
    Calls Tryz.prog 17 #[.int .i64 z] w fun e w'=>∃ A xs c,e = .returned (datA (numHd (decide (z < 0)) A xs c) 0)∧xs.length ≤ c∧c ≤ 9223372036854775807∧Rd w' A xs∧Can xs∧val xs = z.natAbs∧Below w.heap.size w w':=by
  obtain ⟨W0,hW0,hb0,hO,hs0⟩:=zero_block w
  have H1:=Lib.hid (tint_any z h1 h2 W0)
  have HW0:=Lib.hid hW0
  have O0:=Lib.hid hO
  have HB0:=Lib.hid hb0
  have HS0:=Lib.hid hs0
  clear hW0 hb0 hO h1 h2 hs0
  go_enter Tryz.func17,Tryz.ntmps17
  go_wp2_with (fail)
  rw [HW0.out]
  refine H1.out.mono ?_
  rintro e w2 ⟨s1,A1,n1,c1,rfl,⟨A,c,xs,ev,g1,g2,g3,g4,g5⟩,bc⟩
  injection ev with ev
  injection ev with ev
  simp only [List.cons.injEq,Value.bool.injEq,Value.slice.injEq,and_true] at ev
  obtain ⟨rfl,rfl,rfl,rfl⟩:=ev
  have iz:=(bc.block _ HS0.out).trans O0.out
  have hlz:=heap_lt iz
  have ib:=bel_trans (B:=w.heap.size) HB0.out bc
  obtain ⟨WF,hWF,CF,OF,hbF,-⟩:=result_dat (h:=numHd (decide (z < 0)) A1 xs c1) (n:=0) iz ib (Nat.le_refl _)
  dsimp only [set8z,List.length_nil] at hWF
  have HWF:=Lib.hid hWF
  have HBF:=Lib.hid hbF
  have G1:=Lib.hid g1
  have G2:=Lib.hid g2
  have G3:=Lib.hid g3
  have G4:=Lib.hid g4
  have G5:=Lib.hid g5
  obtain ⟨q0,q1,q2,q3,q4,q5,q6,q7⟩:=CF
  try dsimp only [Nat.zero_add,List.length_nil] at q0 q1 q2 q3 q4 q5 q6 q7
  obtain ⟨z0,z1,z2,z3,z4,z5,z6,z7,e0,e1,e2,e3,e4,e5,e6,e7,el⟩:=zero_facts iz
  have GR:=Lib.hid (OF.rd g3 fun hx=>limb_off iz g3 hx)
  clear hWF OF hbF bc iz ib hlz g1 g2 g3 g4 g5
  go_wp2_with (fail)
  rw [HWF.out]
  refine bodyPost_ret (v:=datA (numHd (decide (z < 0)) A1 xs c1) 0) (by simp [results,Tryz.results17,go_sem,q0,q1,q2,q3,q4,q5,q6,q7]) rfl ?_
  exact ⟨A1,xs,c1,rfl,G1.out,G2.out,GR.out,G4.out,G5.out,HBF.out⟩
end LM
namespace LM
abbrev strHd : Hd:=⟨3,0,false,0,false,none,[],0,⟨#[34]⟩,none,0⟩
abbrev smpF (A : Option Addr) (c : Nat) : Fr:=.cons (symHd ⟨#[97]⟩) .nil (.cons strHd .nil (.cons (numHd false A [1] c) .nil .nil))
abbrev smpH (b : Nat) : Hd:=⟨6,0,false,0,false,none,[],0,⟨#[]⟩,some ⟨b,0,none⟩,3⟩
def smpL (h : Hd) : List UInt8:=if h.k = 4 then [97] else if h.k = 3 then [34,92,34,34] else [49]
def smpP (A : Option Addr) (c : Nat) (h : Hd) : Prop:=h = symHd ⟨#[97]⟩ ∨ h = strHd ∨ h = numHd false A [1] c
theorem smp_cnt (A : Option Addr) (c : Nat) : cnt 65536 1 (smpF A c) = 4:=by rfl
theorem smp_cnt3 (A : Option Addr) (c : Nat) : cnt 3001 1 (smpF A c) = 4:=by rfl
theorem smp_few (A : Option Addr) (c : Nat) : FewF (smpF A c):=by simp [FewF,Fr.len]
theorem smp_text (A : Option Addr) (b c : Nat) : txD smpL (smpH b) (smpF A c) = [40,97,32,34,92,34,34,32,46,32,49,41]:=by rfl
theorem smp_wok (A : Option Addr) (c : Nat) : WOk (smpP A c) (smpF A c):=by
  simp [WOk,WH,smpP,leafK]
theorem smp_wh (A : Option Addr) (b c : Nat) : WH (smpP A c) (smpH b) (smpF A c):=by
  simp [WH,leafK,Fr.len]
theorem leaf_ok (h : Hd) (e : h = symHd ⟨#[97]⟩ ∨ h = strHd) : h.Ok 0:=by
  rcases e with rfl | rfl
  · exact ⟨by decide,by decide,by decide,by simp [Lm],by decide,fun _=>by decide,by decide,by decide,by decide,fun _=>by decide,fun ad e=>(by cases e),fun ad e=>(by cases e)⟩
  · exact ⟨by decide,by decide,by decide,by simp [Lm],by decide,fun _=>by decide,by decide,by decide,by decide,fun _=>by decide,fun ad e=>(by cases e),fun ad e=>(by cases e)⟩
theorem smp_numok (b off c : Nat) (h1 : 1 ≤ c) (h2 : c ≤ 9223372036854775807) : (numHd false (some ⟨b,off,none⟩) [1] c).Ok 0 :=
  ⟨(by dsimp only [numHd]; decide),(by dsimp only [numHd]; decide),(by dsimp only [numHd]; decide),by simp [Lm],⟨h1,h2⟩,fun e=>(by cases e),(by dsimp only [numHd]; decide),(by dsimp only [numHd]; decide),(by dsimp only [numHd]; decide),fun _=>(by dsimp only [numHd]; decide),fun ad e _=>(by injection e with e; rw [← e]),fun ad e=>(by cases e)⟩
theorem smp_ok (b off c : Nat) (h1 : 1 ≤ c) (h2 : c ≤ 9223372036854775807) : (smpF (some ⟨b,off,none⟩) c).Ok :=
  ⟨leaf_ok _ (.inl rfl),trivial,leaf_ok _ (.inr rfl),trivial,smp_numok b off c h1 h2,trivial,trivial⟩
theorem smp_hok (b : Nat) : (smpH b).Ok 3 :=
  ⟨(by dsimp only [smpH]; decide),(by dsimp only [smpH]; decide),(by dsimp only [smpH]; decide),by simp [Lm],(by dsimp only [smpH]; decide),fun _=>(by dsimp only [smpH]; decide),(by dsimp only [smpH]; decide),(by dsimp only [smpH]; decide),(by dsimp only [smpH]; decide),fun e=>(by cases e),fun ad e=>(by cases e),fun ad e _=>(by injection e with e; rw [← e])⟩
theorem rightN_nil : rightN false 0 false [] = true:=by decide
theorem rightN_one : rightN false 0 false [1] = true:=by decide
theorem textB_q : textB ⟨#[34]⟩ = true:=by decide
theorem smp_right (A : Option Addr) (b c : Nat) : rightD (fun _=>true) (smpH b) (smpF A c) = true:=by
  unfold rightD
  rw [smp_cnt3]
  simp [rightF,rightK,elseB,nothB,areB,lastK,Fr.len,textB_q,rightN_nil,rightN_one]
theorem smp_nums (A : Option Addr) (c : Nat) : NumsR (smpF A c):=by simp [NumsR,rightN_nil,rightN_one]
theorem symin (t : ByteArray) (A : Option Addr) (b c : Nat) (h : ((smpH b).k = 4∧t = (smpH b).t) ∨ SymIn t (smpF A c)) : t = ⟨#[97]⟩:=by
  simpa [SymIn] using h
theorem alike_num {h h' : Hd} (e : AlikeH h h') : rightN h'.fl h'.f h'.s h'.xs = rightN h.fl h.f h.s h.xs:=by
  obtain ⟨_,_,e1,e2,e3,e4,_⟩:=e
  rw [e1,e2,e3,e4]
theorem alike_nums : ∀ {a b : Fr},AlikeF a b → NumsR a → NumsR b:=by
  intro a
  induction a with
  | nil=>intro b h _; cases b with
    | nil=>exact trivial
    | cons=>exact h.elim
  | cons h k r ihk ihr=>intro b e n; cases b with
    | nil=>exact e.elim
    | cons h' k' r'=>exact ⟨(alike_num e.1).trans n.1,ihk e.2.1 n.2.1,ihr e.2.2 n.2.2⟩
theorem alike_head {h h' : Hd} (e : AlikeH h h') : headS h h' = true:=by
  obtain ⟨e1,e2,e3,e4,e5,e6,e7⟩:=e
  unfold headS numS
  rw [e1,e2,e3,e4,e5,e6,e7]
  cases h.fl <;> simp
theorem alike_same : ∀ {a b : Fr},AlikeF a b → sameF a b = true:=by
  intro a
  induction a with
  | nil=>intro b h; cases b with
    | nil=>rfl
    | cons=>exact h.elim
  | cons h k r ihk ihr=>intro b e; cases b with
    | nil=>exact e.elim
    | cons h' k' r'=>simp [sameF,alike_head e.1,ihk e.2.1,ihr e.2.2]
abbrev smpO (A : Option Addr) (c : Nat) : Obj:=.cells #[.int .i64 4,.int .i64 0,.bool false,.float .f64 0,.bool false,.slice none 0 0,.string ⟨#[97]⟩,.slice none 0 0,.int .i64 3,.int .i64 0,.bool false,.float .f64 0,.bool false,.slice none 0 0,.string ⟨#[34]⟩,.slice none 0 0,.int .i64 0,.int .i64 0,.bool false,.float .f64 0,.bool false,.slice A 1 c,.string ⟨#[]⟩,.slice none 0 0] 30
theorem smp_dat (w : World) (A : Option Addr) (c : Nat) (hA : Rd w A [1]) : ∃ W,(w.alloc (smpO A c)).alloc (datO (smpH w.heap.size) 3) = W∧DatV W (smpH w.heap.size) (smpF A c)∧W.heap[w.heap.size + 1]? = some (datO (smpH w.heap.size) 3)∧Below w.heap.size w W∧W.heap.size = w.heap.size + 2:=by
  refine ⟨_,rfl,?_,?_,((Below.refl _ w).alloc (Nat.le_refl _) _).alloc (by simp) _,by simp⟩
  · have hb : Below w.heap.size w ((w.alloc (smpO A c)).alloc (datO (smpH w.heap.size) 3)):=((Below.refl _ w).alloc (Nat.le_refl _) _).alloc (by simp) _
    generalize hW : (w.alloc (smpO A c)).alloc (datO (smpH w.heap.size) 3) = W at hb ⊢
    have hz : W.heap[w.heap.size]? = some (smpO A c):=by
      rw [← hW]; unfold World.alloc; simp [Array.getElem?_push]
    have hl : w.heap.size < W.heap.size:=heap_lt hz
    have nA : Rd W none []:=fun h=>absurd h (by decide)
    refine ⟨fun h=>absurd h (Nat.lt_irrefl 0),w.heap.size,0,fun _=>rfl,hl,?_,nA,⟨0,0,fun h=>absurd h (by decide),trivial⟩,hl,?_,nA,⟨0,0,fun h=>absurd h (by decide),trivial⟩,hl,?_,hA.below hb,⟨0,0,fun h=>absurd h (by decide),trivial⟩,trivial⟩
    all_goals exact ⟨(ob_cell hz _).trans rfl,(ob_cell hz _).trans rfl,(ob_cell hz _).trans rfl,(ob_cell hz _).trans rfl,(ob_cell hz _).trans rfl,(ob_cell hz _).trans rfl,(ob_cell hz _).trans rfl,(ob_cell hz _).trans rfl⟩
  · have e : w.heap.size + 1 = (w.alloc (smpO A c)).heap.size:=by simp
    rw [e]
    unfold World.alloc
    simp only [Array.getElem?_push_size]
end LM
namespace LM
attribute [local go_sem] run_store_flt
theorem one_can {xs : List Nat} (h : Can xs) (hv : val xs = 1) : xs = [1]:=can_ext h ⟨by simp [Lm],by decide⟩ (by rw [hv]; rfl)
theorem big_one : ¬ BigI 1:=by unfold BigI BIG; show ¬ _ ≤ 1; exact Nat.not_le.2 (Nat.one_lt_pow (by decide) (by decide))
theorem dalive_any (w : World) (hs : SynCell w) (hu : UT w) (ht : Lib.TabIs Tryz.prog w "internal/strconv.uint64pow10" .u64 Lib.pow10Tab) :
    Calls Tryz.prog 6 #[] w fun e w'=>e = .returned (.bool true)∧Below w.heap.size w w':=by
  have S1:=Lib.hid (dsym_any ⟨#[97]⟩ (by decide))
  have N1:=Lib.hid (dnum_any 1 (by decide) (by decide))
  have HSY:=Lib.hid hs
  have HUT:=Lib.hid hu
  have HTB:=Lib.hid ht
  clear hs hu ht
  go_enter Tryz.func6,Tryz.ntmps6
  go_wp2_with (fail)
  refine (S1.out _).mono ?_
  rintro e w1 ⟨rfl,hb1⟩
  have HB1:=Lib.hid hb1
  clear hb1
  go_wp2_with (fail)
  refine (N1.out _).mono ?_
  rintro e w2 ⟨A,xs,c,rfl,g1,g2,g3,g4,g5,hb2⟩
  have hxs : xs = [1]:=one_can g4 g5
  subst hxs
  have d0 : decide ((1 : Int) < 0) = false:=by decide
  rw [d0]
  obtain ⟨ab,ao,rfl,gl,gc⟩:=g3 (by decide)
  have HB2:=Lib.hid (bel_trans (B:=w.heap.size) HB1.out hb2)
  obtain ⟨W,hW,hd,hz,hbW,hsz⟩:=smp_dat w2 (some ⟨ab,ao,none⟩) c g3
  dsimp only [smpO,datO,smpH,List.length_nil] at hW
  have HW:=Lib.hid hW
  have HBW:=Lib.hid (bel_trans (B:=w.heap.size) HB2.out hbW)
  have HZ:=Lib.hid hz
  have HD:=Lib.hid hd
  have hg1 : 1 ≤ c:=g1
  have KOK:=Lib.hid (smp_ok ab ao c hg1 g2)
  have HOK:=Lib.hid (smp_hok w2.heap.size)
  have HN : Hid (∀ W',Below w.heap.size w W' → ∀ t,((smpH w2.heap.size).k = 4∧t = (smpH w2.heap.size).t) ∨ SymIn t (smpF (some ⟨ab,ao,none⟩) c) → CallB W' 53 #[.string t] (.bool true)):=Lib.hid fun W' hW' t ht W'' hW''=>by
    rw [symin t _ _ _ ht]
    exact dname_a W'' ((HSY.out.below hW').below hW'')
  have HP : Hid (∀ b w0,b = w0.heap.size → Below W.heap.size W w0 → ∀ hh,smpP (some ⟨ab,ao,none⟩) c hh → WriteC b w0 hh 0 (smpL hh)):=Lib.hid fun b w0 hb hw0 hh hp=>by
    rcases hp with rfl | rfl | rfl
    · exact dwrite_sym b w0 (symHd ⟨#[97]⟩) rfl (by decide)
    · exact dwrite_str b w0 strHd rfl [34,92,34,34] fun W cs hr hl=>dwtext_q b cs W hr (by omega)
    · refine dwrite_num b w0 (numHd false (some ⟨ab,ao,none⟩) [1] c) rfl ⟨#[49]⟩ fun W3 hW3=>?_
      have hbb : Below w2.heap.size w2 W3:=hbW.trans ((hw0.mono hbW.size).trans (hW3.mono (by have:=hbW.size; have:=hw0.size; omega)))
      have hv : IntV W3 (.agg #[.bool false,.slice (some ⟨ab,ao,none⟩) [1].length c]) 1:=⟨_,_,[1],rfl,g1,g2,g3.below hbb,⟨by simp [Lm],by decide⟩,rfl⟩
      have ed : (decI 1).toArray = #[49]:=by
        rw [show decI 1 = [49] from by unfold decI; rw [if_neg (by decide),show (1 : Int).natAbs = 1 from rfl,dec_small (by decide)]; rfl]
      have:=ttext_i 0 1 false (some ⟨ab,ao,none⟩) [1].length c W3 hv big_one (tab_below HTB.out (bel_trans (B:=w.heap.size) HB2.out hbb))
      rw [ed] at this
      exact this
  clear hd hz hbW g1 g2 g3 g4 g5 gl gc d0 hb2 hW hg1 hsz
  go_wp2_with (fail)
  rw [HW.out]
  have HPR:=Lib.hid (dprint_right (fun _=>true) smpL _ KOK.out _ W HD.out HOK.out (HUT.out.keep HBW.out) (HN.out W HBW.out) (smp_right _ _ _) _ HP.out (smp_wok _ _) (smp_wh _ _ _) (by rw [smp_text]; decide))
  rw [smp_text] at HPR
  refine HPR.out.mono ?_
  rintro e w3 ⟨rfl,hb3⟩
  have O3 : Hid (Obs w3.drew [(w2.heap.size + 1,datO (smpH w2.heap.size) 3)]):=Lib.hid ((Obs.nil.cons HZ.out).below hb3).drew
  have HB3:=Lib.hid (bel_trans (B:=w.heap.size) HBW.out hb3).drew
  have DK3:=Lib.hid (HD.out.below hb3.drew)
  have c1 : ((⟨#[40,97,32,34,92,34,34,32,46,32,49,41]⟩ : ByteArray).toList == [40,97,32,34,92,34,34,32,46,32,49,41]) = true:=by rw [Go.ByteArray.toList_eq]; rfl
  have D1:=Lib.hid (dRight_any (fun _=>true) _ KOK.out _ w3.drew DK3.out HOK.out (HUT.out.keep HB3.out) (HN.out _ HB3.out))
  have D2:=Lib.hid fun W h=>dnodes_any _ KOK.out _ W h HOK.out
  have D3:=Lib.hid fun W h=>dCopy_any _ KOK.out (smp_few _ _) (show (3 : Nat) ≤ 1000000 by decide) (by rw [smp_cnt]; decide) _ W h HOK.out
  have D4:=Lib.hid fun h' k' W hd hd' (ha : AlikeH (smpH w2.heap.size) h') (haf : AlikeF (smpF (some ⟨ab,ao,none⟩) c) k') ho' hk'=>dSame_any _ k' KOK.out hk' (smp_nums _ _) (alike_nums haf (smp_nums _ _)) (by rw [smp_cnt]; decide) (smpH w2.heap.size) h' W hd hd' HOK.out ho' rightN_nil ((alike_num ha).trans rightN_nil)
  rw [smp_right] at D1
  rw [smp_cnt] at D2
  have KS : Hid (∀ W,Obs W [(w2.heap.size + 1,datO (smpH w2.heap.size) 3)] → W.cell? ⟨w2.heap.size + 1,0,none⟩ = some (.int .i64 6)∧W.cell? ⟨w2.heap.size + 1,1,none⟩ = some (.int .i64 0)∧W.cell? ⟨w2.heap.size + 1,2,none⟩ = some (.bool false)∧W.cell? ⟨w2.heap.size + 1,3,none⟩ = some (.float .f64 0)∧W.cell? ⟨w2.heap.size + 1,4,none⟩ = some (.bool false)∧W.cell? ⟨w2.heap.size + 1,5,none⟩ = some (.slice none 0 0)∧W.cell? ⟨w2.heap.size + 1,6,none⟩ = some (.string ⟨#[]⟩)∧W.cell? ⟨w2.heap.size + 1,7,none⟩ = some (.slice (some ⟨w2.heap.size,0,none⟩) 3 3)):=Lib.hid fun W h=>by
    have h1:=ob_cell h.hd
    exact ⟨h1 0,h1 1,h1 2,h1 3,h1 4,h1 5,h1 6,h1 7⟩
  clear hb3
  go_wp2
  go_region_held3 (fun W=>W.cell? ⟨w2.heap.size + 1,0,none⟩ = some (.int .i64 6)∧W.cell? ⟨w2.heap.size + 1,1,none⟩ = some (.int .i64 0)∧W.cell? ⟨w2.heap.size + 1,2,none⟩ = some (.bool false)∧W.cell? ⟨w2.heap.size + 1,3,none⟩ = some (.float .f64 0)∧W.cell? ⟨w2.heap.size + 1,4,none⟩ = some (.bool false)∧W.cell? ⟨w2.heap.size + 1,5,none⟩ = some (.slice none 0 0)∧W.cell? ⟨w2.heap.size + 1,6,none⟩ = some (.string ⟨#[]⟩)∧W.cell? ⟨w2.heap.size + 1,7,none⟩ = some (.slice (some ⟨w2.heap.size,0,none⟩) 3 3))
    ((exact KS.out _ (Hid.out (by assumption))))
    (first
      | (go_at_call 10; (refine D1.out.mono ?_); rintro e v1 ⟨rfl,hbz⟩; have O4:=Lib.hid (O3.out.below hbz); have HB4:=Lib.hid (bel_trans (B:=w.heap.size) HB3.out hbz); have DK4:=Lib.hid (DK3.out.below hbz); clear hbz)
      | (go_at_call 14; (refine (D2.out _ DK4.out).mono ?_); rintro e v2 ⟨rfl,hbz⟩; have O5:=Lib.hid (O4.out.below hbz); have HB5:=Lib.hid (bel_trans (B:=w.heap.size) HB4.out hbz); have DK5:=Lib.hid (DK4.out.below hbz); clear hbz)
      | (go_at_call 23; (refine (D3.out _ DK5.out).mono ?_); rintro e v3 ⟨hc,kc,rfl,dc,ac,afc,okc,okf,_,_,hbz,_,_⟩; have O6:=Lib.hid (O5.out.below hbz); have HB6:=Lib.hid (bel_trans (B:=w.heap.size) HB5.out hbz); have D5:=Lib.hid (D4.out _ _ v3 (DK5.out.below hbz) dc ac afc okc okf); rw [alike_head ac,alike_same afc] at D5; clear hbz dc ac afc okc okf)
      | (go_at_call 12; (refine D5.out.mono ?_); rintro e v4 ⟨rfl,hbz⟩; have O7:=Lib.hid (O6.out.below hbz); have HB7:=Lib.hid (bel_trans (B:=w.heap.size) HB6.out hbz); clear hbz))
  all_goals
    go_wp2
    go_ret
    exact ⟨rfl,HB7.out⟩
end LM
namespace LM
attribute [local go_sem] run_store_flt
end LM
namespace LM
attribute [local go_sem] run_store_flt
theorem rttext_f (f : Nat) (t : ByteArray) (s : Bool) (A : Option Addr) (n c : Nat) (w : World)
    (hT : ∀ W,Below w.heap.size w W → Calls Tryz.prog 75 #[.float .f64 f] W fun e w'=>e = .returned (.string t)∧Below W.heap.size W w') :
    Calls Tryz.prog 45 #[numA true f s A n c] w fun e w'=>e = .returned (.string t)∧Below w.heap.size w w':=by
  have Y0:=Nx.new w true f s A n c
  have hb0 : Below w.heap.size w (w.alloc (numO true f s A n c)):=(Below.refl _ w).alloc (Nat.le_refl _) _
  obtain ⟨y0,y1,y2,y3,-,-,-,-,yl⟩:=Y0.facts
  have HB0:=Lib.hid hb0
  have HT:=Lib.hid (hT _ hb0)
  clear hb0 Y0 hT
  go_enter Tryz.func45,Tryz.ntmps45
  go_wp2_with (fail)
  refine HT.out.mono ?_
  rintro e w1 ⟨rfl,hb1⟩
  go_wp2_with (fail)
  go_ret
  exact ⟨rfl,bel_trans (B:=w.heap.size) HB0.out hb1⟩
theorem rttext_i (f : Nat) (t : ByteArray) (s : Bool) (A : Option Addr) (n c : Nat) (w : World)
    (hT : ∀ W,Below w.heap.size w W → Calls Tryz.prog 76 #[.agg #[.bool s,.slice A n c]] W fun e w'=>e = .returned (.string t)∧Below W.heap.size W w') :
    Calls Tryz.prog 45 #[numA false f s A n c] w fun e w'=>e = .returned (.string t)∧Below w.heap.size w w':=by
  have Y0:=Nx.new w false f s A n c
  have hb0 : Below w.heap.size w (w.alloc (numO false f s A n c)):=(Below.refl _ w).alloc (Nat.le_refl _) _
  obtain ⟨y0,y1,y2,y3,-,-,-,-,yl⟩:=Y0.facts
  have HB0:=Lib.hid hb0
  have HT:=Lib.hid (hT _ hb0)
  clear hb0 Y0 hT
  go_enter Tryz.func45,Tryz.ntmps45
  go_wp2_with (fail)
  refine HT.out.mono ?_
  rintro e w1 ⟨rfl,hb1⟩
  go_wp2_with (fail)
  go_ret
  exact ⟨rfl,bel_trans (B:=w.heap.size) HB0.out hb1⟩
end LM
namespace LM
theorem deci_len2 {x : Int} (hx : ¬ BigI x) : (decI x).length ≤ 618:=by
  have h:=(dec_fits (u:=x.natAbs) hx).2
  unfold decI
  split
  · rw [List.length_cons]; omega
  · omega
theorem ttext_both2 (fl : Bool) (f : Nat) (s : Bool) (A : Option Addr) (c : Nat) (xs : List Nat) (hr : rightN fl f s xs = true) (hf : f < 18446744073709551616) (hx : Lm xs) (hca : xs.length ≤ c) (hcm : c ≤ 9223372036854775807) (hnil : A = none → xs.length = 0∧c = 0) :
    ∃ t : ByteArray,t.size ≤ 2000∧(∀ W,FV W → Rd W A xs → Calls Tryz.prog 40 #[numA fl f s A xs.length c] W fun e w'=>e = .returned (.string t)∧Below W.heap.size W w') ∧
      ∀ W,FV W → Rd W A xs → Calls Tryz.prog 45 #[numA fl f s A xs.length c] W fun e w'=>e = .returned (.string t)∧Below W.heap.size W w':=by
  cases fl
  · unfold rightN at hr
    rw [if_neg (by decide),Bool.and_eq_true,decide_eq_true_eq] at hr
    obtain ⟨rfl,rx⟩:=hr
    refine ⟨⟨(decI (sg s (val xs))).toArray⟩,by rw [lsize]; have:=deci_len2 (right_parts rx hx).2.2.2.2; omega,fun W hv ha=>?_,fun W hv ha=>?_⟩
    · obtain ⟨h1,h2⟩:=intV_of rx ha hx hca hcm
      exact ttext_i 0 _ s A xs.length c W h1 h2 hv.tab
    · exact rttext_i 0 _ s A xs.length c W fun W2 hW2=>rtext2_right s A c xs W2 (ha.below hW2) hx rx hnil
  · obtain ⟨t,hz,h1,h2⟩:=text_both2 f hf
    exact ⟨t,hz,fun W hv _=>ttext_f f t s A xs.length c W fun W2 hW2=>h1 W2 (hv.below hW2),fun W hv _=>rttext_f f t s A xs.length c W fun W2 hW2=>h2 W2 (hv.below hW2)⟩
end LM
end Go.Proofs.YtnpmfailpgbggaaGreatDoor
namespace Go.Proofs.YtnpmfailpgbggaaGreatDoor
open Go Go.RowKit Go.ChangeShapes Go.WideShapes
namespace LM
section
variable {H : Type} {enc : TypeId × Value → H} {w : World} {base : Nat} {held : Bool}
theorem open_datum {b0 : Nat} {r : Reach} {v : Value} {d : DataW H} {p : List MemPlace}
    (hv : Value.okWide Tryz.prog w r b0 30 v) (h : DataW.Trod enc Tryz.prog w 0 (fun _=>true) held 30 v d p) :
    ∃ hh kids,v = datA hh (Fr.len kids)∧DatV w hh kids∧hh.Raw (Fr.len kids)∧kids.Raw:=by
  obtain ⟨cs,rfl,hsz⟩:=okWide_struct Tryz.underlying30 hv
  obtain ⟨fuel,hf⟩:=h
  have hf2 : DataW.trod enc Tryz.prog w 0 (fun _=>true) held fuel 30 cs.toList = some (d,p):=hf
  obtain ⟨hh,kids,e,h1,h2,h3⟩:=open_dat fuel cs.toList _ hf2
  refine ⟨hh,kids,?_,h1,h2,h3⟩
  have e2 : cs = (head8 hh kids.len).toArray:=by rw [← e]
  rw [e2]
  rfl
end
end LM
end Go.Proofs.YtnpmfailpgbggaaGreatDoor
