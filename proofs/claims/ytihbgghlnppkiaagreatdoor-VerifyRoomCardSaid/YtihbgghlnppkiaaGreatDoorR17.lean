import Derived.Test.YtihbgghlnppkiaaGreatDoorR08
import Derived.Test.YtihbgghlnppkiaaGreatDoorR14
import Derived.Test.YtihbgghlnppkiaaGreatDoorR07
import Derived.Test.YtihbgghlnppkiaaGreatDoorR10
import Derived.Lib.SmallJoins
import Derived.Test.YtihbgghlnppkiaaGreatDoorR09
set_option linter.unusedVariables false
set_option linter.unusedSimpArgs false
set_option maxRecDepth 100000
set_option maxHeartbeats 16000000
namespace Go.Proofs.YtihbgghlnppkiaaGreatDoor
open Go.RowKit
namespace LM
theorem str_cons (a : UInt8) (l : List UInt8) : (⟨#[a]⟩ ++ ⟨l.toArray⟩ : ByteArray) = ⟨(a :: l).toArray⟩:=by
  apply ByteArray.ext
  apply Array.ext'
  rw [Joins.data_append]
  rfl
theorem new1 (w : World) : Below w.heap.size w (w.alloc (.cells #[.bool false,.slice none 0 0] 61))∧Bx (w.alloc (.cells #[.bool false,.slice none 0 0] 61)) w.heap.size false none 0 0 :=
  ⟨(Below.refl _ w).alloc (Nat.le_refl _) _,Bx.new w false none 0 0⟩
def decI (z : Int) : List UInt8:=if z < 0 then 45 :: Lib.decDigits z.natAbs else Lib.decDigits z.natAbs
theorem etext_pos (A : Option Addr) (ca : Nat) (xs : List Nat) (w : World) (ha : Rd w A xs) (hx : Can xs) (hca : xs.length ≤ ca) (hcam : ca ≤ 9223372036854775807) (hxl : xs.length ≤ 64) (htab : Lib.TabIs Tryz.prog w "internal/strconv.uint64pow10" .u64 Lib.pow10Tab) :
    Calls Tryz.prog 87 #[.agg #[.bool false,.slice A xs.length ca]] w fun e w'=>e = .returned (.string ⟨(Lib.decDigits (val xs)).toArray⟩)∧Below w.heap.size w w':=by
  have hb0 : Below w.heap.size w (w.alloc (.cells #[.bool false,.slice A xs.length ca] 61)):=(Below.refl _ w).alloc (Nat.le_refl _) _
  have HB0:=Lib.hid hb0
  have H1:=Lib.hid (text_row A ca xs _ (ha.below hb0) hx.1 hca hcam (tab_below htab hb0))
  have NX:=Lib.hid (not_big_len hx hxl)
  clear hb0 ha hx htab
  go_enter Tryz.func87,Tryz.ntmps87
  go_wp2_with fail
  refine H1.out.mono ?_
  rintro e w1 ⟨⟨l,rfl,hl⟩,hb1⟩
  obtain rfl : l = _:=hl.elim (fun h=>absurd h.1 NX.out) fun h=>h.2
  have HB1:=Lib.hid (HB0.out.trans (hb1.mono HB0.out.size))
  clear hl hb1
  go_wp2
  go_ret
  exact ⟨rfl,HB1.out⟩
theorem etext_neg (A : Option Addr) (ca : Nat) (xs : List Nat) (w : World) (ha : Rd w A xs) (hx : Can xs) (hca : xs.length ≤ ca) (hcam : ca ≤ 9223372036854775807) (hxl : xs.length ≤ 64) (htab : Lib.TabIs Tryz.prog w "internal/strconv.uint64pow10" .u64 Lib.pow10Tab) :
    Calls Tryz.prog 87 #[.agg #[.bool true,.slice A xs.length ca]] w fun e w'=>e = .returned (.string ⟨(45 :: Lib.decDigits (val xs)).toArray⟩)∧Below w.heap.size w w':=by
  have hb0 : Below w.heap.size w (w.alloc (.cells #[.bool true,.slice A xs.length ca] 61)):=(Below.refl _ w).alloc (Nat.le_refl _) _
  have HB0:=Lib.hid hb0
  have H1:=Lib.hid (text_row A ca xs _ (ha.below hb0) hx.1 hca hcam (tab_below htab hb0))
  have NX:=Lib.hid (not_big_len hx hxl)
  clear hb0 ha hx htab
  go_enter Tryz.func87,Tryz.ntmps87
  go_wp2_with fail
  refine H1.out.mono ?_
  rintro e w1 ⟨⟨l,rfl,hl⟩,hb1⟩
  obtain rfl : l = _:=hl.elim (fun h=>absurd h.1 NX.out) fun h=>h.2
  have HB1:=Lib.hid (HB0.out.trans (hb1.mono HB0.out.size))
  have hsz : ¬ 9223372036854775807 < 1 + (Lib.decDigits (val xs)).length:=by
    have:=(dec_fits NX.out).2
    omega
  have HSC:=Lib.hid (str_cons 45 (Lib.decDigits (val xs)))
  clear hl hb1
  go_wp2
  go_ret
  exact ⟨congrArg (fun t=>Ending.returned (.string t)) HSC.out,HB1.out⟩
theorem etext_int {va : Value} {x : Int} {w : World} (ha : IntV w va x) (hx : ¬ BigI x) (htab : Lib.TabIs Tryz.prog w "internal/strconv.uint64pow10" .u64 Lib.pow10Tab) :
    Calls Tryz.prog 87 #[va] w fun e w'=>e = .returned (.string ⟨(decI x).toArray⟩)∧Below w.heap.size w w':=by
  obtain ⟨A,ca,xs,rfl,h1,h2,h3,h4,h5⟩:=ha
  have l1 : xs.length ≤ 64:=len_not_big h4 (by rw [h5]; exact hx)
  unfold decI
  rw [← h5]
  by_cases hn : x < 0
  · rw [decide_eq_true hn,if_pos hn]
    exact etext_neg A ca xs w h3 h4 h1 h2 l1 htab
  · rw [decide_eq_false hn,if_neg hn]
    exact etext_pos A ca xs w h3 h4 h1 h2 l1 htab
theorem IntV.alloc {w : World} {v : Value} {z : Int} (h : IntV w v z) (o : Obj) : IntV (w.alloc o) v z:=h.keep ((Below.refl _ _).alloc (Nat.le_refl _) _)
end LM
namespace LM
end LM
namespace LM
theorem RetI.gen {w w' : World} {z : Int} {e : Ending} (h : RetI w z e w') : ∃ s A n c,e = .returned (.agg #[.bool s,.slice A n c])∧IntV w' (.agg #[.bool s,.slice A n c]) z∧Below w.heap.size w w':=by
  obtain ⟨A,n,c,h1,h2,h3⟩:=h
  exact ⟨_,A,n,c,h1,h2,h3⟩
end LM
namespace LM
def signOf (l : List UInt8) : Bool × List UInt8:=if Lib.hasPrefix l [45] then (true,Lib.trimPrefix l [45]) else (false,Lib.trimPrefix l [43])
def POut (l : List UInt8) (z er : Int) : Prop:=(¬ OkText (signOf l).2∧z = 0∧er = 13) ∨ (OkText (signOf l).2∧BIG (dval 0 (signOf l).2)∧z = 0∧er = 11) ∨ (OkText (signOf l).2∧¬ BIG (dval 0 (signOf l).2)∧z = sg (signOf l).1 (dval 0 (signOf l).2)∧er = 0)
def RetP (w : World) (l : List UInt8) (e : Ending) (w' : World) : Prop:=∃ s A n c er z,e = .returned (.tuple #[.agg #[.bool s,.slice A n c],.int .i64 er])∧IntV w' (.agg #[.bool s,.slice A n c]) z∧POut l z er∧Below w.heap.size w w'
theorem parse_open {l : List UInt8} {e : Ending} {w' : World} (h : ParseE l e w') : ∃ A c r er,e = .returned (.tuple #[.slice A (List.length r) c,.int .i64 er])∧r.length ≤ c∧c ≤ 9223372036854775807∧Rd w' A r∧Can r ∧
    ((¬ OkText l∧val r = 0∧er = 13) ∨ (OkText l∧BIG (dval 0 l)∧val r = 0∧er = 11) ∨ (OkText l∧¬ BIG (dval 0 l)∧val r = dval 0 l∧er = 0)):=by
  obtain ⟨v,er,rfl,⟨h1,rfl,rfl⟩ | ⟨h1,h2,rfl,rfl⟩ | ⟨h1,h2,rfl,A,c,r,rfl,h3,h4,h5,h6,h7⟩⟩:=h
  · exact ⟨none,0,[],13,rfl,Nat.le_refl _,by decide,Rd.nil,can_nil,.inl ⟨h1,rfl,rfl⟩⟩
  · exact ⟨none,0,[],11,rfl,Nat.le_refl _,by decide,Rd.nil,can_nil,.inr (.inl ⟨h1,h2,rfl,rfl⟩)⟩
  · exact ⟨A,c,r,0,rfl,h3,h4,h5,h6,.inr (.inr ⟨h1,h2,h7,rfl⟩)⟩
theorem trim_le (l p : List UInt8) : (Lib.trimPrefix l p).length ≤ l.length:=by
  unfold Lib.trimPrefix
  split
  · simp
  · exact Nat.le_refl _
theorem eparse_minus (s : ByteArray) (w : World) (hs : s.size ≤ 9223372036854775807) (hp : Lib.hasPrefix s.data.toList [45] = true) (hv : ∀ W,Below w.heap.size w W → ¬ Digs (signOf s.data.toList).2 → SynCell W) :
    Calls Tryz.prog 112 #[.string s] w (RetP w s.data.toList):=by
  have hso : signOf s.data.toList = (true,Lib.trimPrefix s.data.toList [45]):=by unfold signOf; rw [hp]; rfl
  have hsz : (⟨(Lib.trimPrefix s.data.toList [45]).toArray⟩ : ByteArray).size ≤ 9223372036854775807:=by
    have h1:=trim_le s.data.toList [45]
    have h2 : s.size = s.data.toList.length:=Lib.size_eq s
    have h3:=Lib.size_eq (⟨(Lib.trimPrefix s.data.toList [45]).toArray⟩ : ByteArray)
    simp only [] at h3
    rw [h3]
    omega
  obtain ⟨hb0,x0⟩:=new1 w
  have HB0:=Lib.hid hb0
  have X0:=Lib.hid x0
  rw [hso] at hv
  have H1:=Lib.hid (parse_any ⟨(Lib.trimPrefix s.data.toList [45]).toArray⟩ _ hsz (hv _ hb0))
  have HSO:=Lib.hid hso
  have HP:=Lib.hid hp
  have HPR:=Lib.hid (Tryz.strings_CutPrefix s ⟨#[45]⟩ (w.alloc (.cells #[.bool false,.slice none 0 0] 61)))
  rw [show Lib.hasPrefix s.data.toList (⟨#[45]⟩ : ByteArray).data.toList = true from hp] at HPR
  clear hb0 x0 hso hp hv
  go_enter Tryz.func112,Tryz.ntmps112
  go_wp2_with fail
  refine HPR.out.mono ?_
  rintro e w1 ⟨rfl,rfl⟩
  go_wp2_with fail
  refine H1.out.mono ?_
  rintro e w2 ⟨hpe,hb2⟩
  obtain ⟨A1,c1,r1,er,rfl,hr1,hc1,hrd,hcan,hcase⟩:=parse_open hpe
  have HS:=Lib.hid (signed_num true A1 c1 r1 w2 hr1 hc1 hrd hcan)
  have X2:=Lib.hid (X0.out.below hb2)
  have HB2:=Lib.hid (HB0.out.trans (hb2.mono HB0.out.size))
  have HC:=Lib.hid hcase
  clear hpe hrd hcan hb2 hcase hsz
  go_wp2_with fail
  refine HS.out.mono ?_
  intro e w3 hr
  obtain ⟨s3,A3,n3,c3,rfl,hv3,hb3⟩:=hr.gen
  have Z3:=Lib.hid (X2.out.below hb3)
  obtain ⟨q0,q1,z0,z1,zl⟩:=Z3.out.facts
  have HB3:=Lib.hid (HB2.out.trans (hb3.mono HB2.out.size))
  have HV3:=Lib.hid hv3
  clear hr hv3 hb3
  go_wp2
  obtain ⟨W4,hW4,Z,hb4,hv4,-,-,-⟩:=stored_world Z3.out HB3.out (by omega) s3 A3 n3 c3
  rw [hW4]
  have HV4:=Lib.hid (hv4 _ _ HV3.out)
  obtain ⟨c0,c1',-,-,-⟩:=Z.facts
  clear q0 q1 z0 z1 zl hW4 hv4
  refine bodyPost_ret (v:=.tuple #[.agg #[.bool s3,.slice A3 n3 c3],.int .i64 er]) (by simp [results,Tryz.results112,go_sem,c0,c1']) rfl ?_
  refine ⟨_,_,_,_,_,_,rfl,HV4.out,?_,hb4⟩
  unfold POut
  rw [HSO.out]
  have h:=HC.out
  rcases h with ⟨k1,k2,k3⟩ | ⟨k1,k2,k3,k4⟩ | ⟨k1,k2,k3,k4⟩
  · exact .inl ⟨k1,by rw [k2,sg_zero],k3⟩
  · exact .inr (.inl ⟨k1,k2,by rw [k3,sg_zero],k4⟩)
  · exact .inr (.inr ⟨k1,k2,by rw [k3],k4⟩)
theorem eparse_plus (s : ByteArray) (w : World) (hs : s.size ≤ 9223372036854775807) (hp : Lib.hasPrefix s.data.toList [45] = false) (hv : ∀ W,Below w.heap.size w W → ¬ Digs (signOf s.data.toList).2 → SynCell W) :
    Calls Tryz.prog 112 #[.string s] w (RetP w s.data.toList):=by
  have hso : signOf s.data.toList = (false,Lib.trimPrefix s.data.toList [43]):=by unfold signOf; rw [hp]; rfl
  have hsz : (⟨(Lib.trimPrefix s.data.toList [43]).toArray⟩ : ByteArray).size ≤ 9223372036854775807:=by
    have h1:=trim_le s.data.toList [43]
    have h2 : s.size = s.data.toList.length:=Lib.size_eq s
    have h3:=Lib.size_eq (⟨(Lib.trimPrefix s.data.toList [43]).toArray⟩ : ByteArray)
    simp only [] at h3
    rw [h3]
    omega
  obtain ⟨hb0,x0⟩:=new1 w
  have HB0:=Lib.hid hb0
  have X0:=Lib.hid x0
  rw [hso] at hv
  have H1:=Lib.hid (parse_any ⟨(Lib.trimPrefix s.data.toList [43]).toArray⟩ _ hsz (hv _ hb0))
  have HSO:=Lib.hid hso
  have HP:=Lib.hid hp
  have HPR:=Lib.hid (Tryz.strings_CutPrefix s ⟨#[45]⟩ (w.alloc (.cells #[.bool false,.slice none 0 0] 61)))
  rw [show Lib.hasPrefix s.data.toList (⟨#[45]⟩ : ByteArray).data.toList = false from hp] at HPR
  clear hb0 x0 hso hp hv
  go_enter Tryz.func112,Tryz.ntmps112
  go_wp2_with fail
  refine HPR.out.mono ?_
  rintro e w1 ⟨rfl,rfl⟩
  go_wp2_with fail
  refine (Tryz.strings_TrimPrefix s ⟨#[43]⟩ _).mono ?_
  rintro e w1 ⟨rfl,rfl⟩
  go_wp2_with fail
  refine H1.out.mono ?_
  rintro e w2 ⟨hpe,hb2⟩
  obtain ⟨A1,c1,r1,er,rfl,hr1,hc1,hrd,hcan,hcase⟩:=parse_open hpe
  have HS:=Lib.hid (signed_num false A1 c1 r1 w2 hr1 hc1 hrd hcan)
  have X2:=Lib.hid (X0.out.below hb2)
  have HB2:=Lib.hid (HB0.out.trans (hb2.mono HB0.out.size))
  have HC:=Lib.hid hcase
  clear hpe hrd hcan hb2 hcase hsz
  go_wp2_with fail
  refine HS.out.mono ?_
  intro e w3 hr
  obtain ⟨s3,A3,n3,c3,rfl,hv3,hb3⟩:=hr.gen
  have Z3:=Lib.hid (X2.out.below hb3)
  obtain ⟨q0,q1,z0,z1,zl⟩:=Z3.out.facts
  have HB3:=Lib.hid (HB2.out.trans (hb3.mono HB2.out.size))
  have HV3:=Lib.hid hv3
  clear hr hv3 hb3
  go_wp2
  obtain ⟨W4,hW4,Z,hb4,hv4,-,-,-⟩:=stored_world Z3.out HB3.out (by omega) s3 A3 n3 c3
  rw [hW4]
  have HV4:=Lib.hid (hv4 _ _ HV3.out)
  obtain ⟨c0,c1',-,-,-⟩:=Z.facts
  clear q0 q1 z0 z1 zl hW4 hv4
  refine bodyPost_ret (v:=.tuple #[.agg #[.bool s3,.slice A3 n3 c3],.int .i64 er]) (by simp [results,Tryz.results112,go_sem,c0,c1']) rfl ?_
  refine ⟨_,_,_,_,_,_,rfl,HV4.out,?_,hb4⟩
  unfold POut
  rw [HSO.out]
  have h:=HC.out
  rcases h with ⟨k1,k2,k3⟩ | ⟨k1,k2,k3,k4⟩ | ⟨k1,k2,k3,k4⟩
  · exact .inl ⟨k1,by rw [k2,sg_zero],k3⟩
  · exact .inr (.inl ⟨k1,k2,by rw [k3,sg_zero],k4⟩)
  · exact .inr (.inr ⟨k1,k2,by rw [k3],k4⟩)
theorem eparse_any (s : ByteArray) (w : World) (hs : s.size ≤ 9223372036854775807) (hv : ∀ W,Below w.heap.size w W → ¬ Digs (signOf s.data.toList).2 → SynCell W) :
    Calls Tryz.prog 112 #[.string s] w (RetP w s.data.toList):=by
  by_cases h : Lib.hasPrefix s.data.toList [45] = true
  · exact eparse_minus s w hs h hv
  · exact eparse_plus s w hs (by simpa using h) hv
end LM
end Go.Proofs.YtihbgghlnppkiaaGreatDoor
