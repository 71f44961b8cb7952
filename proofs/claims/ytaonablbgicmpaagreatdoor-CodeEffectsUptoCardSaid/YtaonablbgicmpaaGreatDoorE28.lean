import Derived.Test.YtaonablbgicmpaaGreatDoorE17
import Derived.Test.YtaonablbgicmpaaGreatDoorE10
import Derived.LoopTactic
import Derived.Deep.DrawnRows
set_option linter.unusedVariables false
set_option linter.unusedSimpArgs false
set_option maxRecDepth 100000
set_option maxHeartbeats 16000000
namespace Go.Proofs.YtaonablbgicmpaaGreatDoor
open Go Go.RowKit
namespace LM
attribute [local go_sem ↓] Go.wp_at_zero Go.wp_at_succ
def RParseE (l : List UInt8) (e : Ending) (w' : World) : Prop:=∃ v er,e = .returned (.tuple #[v,.int .i64 er]) ∧
  ((¬ OkText l∧v = .slice none 0 0∧er = 13) ∨ (OkText l∧BIG (dval 0 l)∧v = .slice none 0 0∧er = 11) ∨ (OkText l∧¬ BIG (dval 0 l)∧er = 0∧NumR w' v (dval 0 l)))
theorem rd_at {W : World} {g : Nat} {l : List Nat} (h : W.heap[g]? = some (.cells (U l).toArray 159 (0,0))) : Rd W (some ⟨g,0,none⟩) l:=by
  have h2 : Blk W g (U l):=h
  exact fun hl=>⟨g,0,rfl,h2.lt,fun k hk=>by rw [Nat.zero_add,h2.cell,U_get _ _ hk]⟩
theorem pow_700 : (10 : Nat) ^ 700 ≤ 4294967296 ^ 100:=of_decide_eq_true (by kernel_rfl)
def RpRel (l : List UInt8) (w : World) (v4 v6 : Value) (wr : World) : Prop :=
  ∃ (j c : Nat) (A : Option Addr) (r : List Nat),j ≤ l.length∧v6 = .int .i64 (j : Int)∧v4 = .slice A r.length c∧(A = none → r.length = 0∧c = 0)∧Rd wr A r∧Can r∧val r = dval 0 (l.take j)∧Below w.heap.size w wr
theorem rparse_any (s : ByteArray) (w : World) (hs : s.size ≤ 9223372036854775807) :
    Calls Tryz.prog 202 #[.string s] w fun e w'=>RParseE s.data.toList e w'∧Below w.heap.size w w':=by
  have hsl : s.size = s.data.toList.length:=Lib.size_eq s
  rcases Nat.eq_zero_or_pos s.size with h0 | h0
  · have hz : decide ((s.size : Int) < 1) = true:=decide_eq_true (by omega)
    have hz2 : decide (s.size < 1) = true:=decide_eq_true (by omega)
    have HZ:=Lib.hid h0
    have HSL:=Lib.hid hsl
    clear h0 hsl
    go_enter Tryz.func202,Tryz.ntmps202
    go_wp2
    go_ret2
    refine ⟨⟨_,_,rfl,.inl ⟨fun h=>?_,rfl,rfl⟩⟩,Below.refl _ _⟩
    have:=h.1
    rw [← HSL.out,HZ.out] at this
    omega
  by_cases h7 : 700 < s.size
  · have hz : decide ((s.size : Int) < 1) = false:=decide_eq_false (by omega)
    have hd : decide (700 < (s.size : Int)) = true:=decide_eq_true (by omega)
    have HZ:=Lib.hid h7
    have HSL:=Lib.hid hsl
    clear h0 hsl h7
    go_enter Tryz.func202,Tryz.ntmps202
    go_wp2
    all_goals
      go_ret2
      refine ⟨⟨_,_,rfl,.inl ⟨fun h=>?_,rfl,rfl⟩⟩,Below.refl _ _⟩
      have:=h.2.1
      rw [← HSL.out] at this
      have:=HZ.out
      omega
  have hz : decide ((s.size : Int) < 1) = false:=decide_eq_false (by omega)
  have hd : decide (700 < (s.size : Int)) = false:=decide_eq_false (by omega)
  generalize hl : s.data.toList = l at *
  have HL:=Lib.hid hl
  have HSL:=Lib.hid hsl
  have hs7 : s.size ≤ 700:=by omega
  have hget : ∀ j (h : j < s.size),l[j]? = some s[j]:=fun j h=>by
    rw [← hl,Array.getElem?_toList,Array.getElem?_eq_getElem h]; rfl
  have HGET:=Lib.hid hget
  clear hl hsl h7 hget
  go_enter Tryz.func202,Tryz.ntmps202
  go_wp2_with fail
  go_loop [5] (fun i=>∃ j : Nat,j ≤ s.size∧i = .int .i64 (j : Int)∧Digs (l.take j)) (fun i=>(s.size - intOf i).toNat)
  case atStart=>exact ⟨0,Nat.zero_le _,rfl,fun c hc=>by cases hc⟩
  case round =>
    obtain ⟨j,hj,rfl,hdj⟩:=hrel
    have HDJ:=Lib.hid hdj
    clear hdj
    by_cases hlt : j < s.size
    · have hlti : (j : Int) < (s.size : Int):=by omega
      have hdlt : decide ((j : Int) < (s.size : Int)) = true:=decide_eq_true hlti
      have hmem : s[j] ∈ l:=List.mem_of_getElem? (HGET.out j hlt)
      have hsuc : l.take (j + 1) = l.take j ++ [s[j]]:=by rw [List.take_add_one,HGET.out j hlt]; rfl
      have HMEM:=Lib.hid hmem
      have HSUC:=Lib.hid hsuc
      clear hmem hsuc
      go_wp2_with fail
      · go_ret2
        refine ⟨⟨_,_,rfl,.inl ⟨fun h=>?_,rfl,rfl⟩⟩,(Below.refl _ _).alloc (Nat.le_refl _) _⟩
        have:=h.2.2 _ HMEM.out
        omega
      · refine ⟨⟨j + 1,by omega,by congr 1,?_⟩,by simp [intOf]; omega⟩
        rw [HSUC.out]
        refine (HDJ.out).append fun c hc=>?_
        obtain rfl:=List.mem_singleton.1 hc
        omega
      · go_ret2
        refine ⟨⟨_,_,rfl,.inl ⟨fun h=>?_,rfl,rfl⟩⟩,(Below.refl _ _).alloc (Nat.le_refl _) _⟩
        have:=h.2.2 _ HMEM.out
        omega
    · have hdlt : decide ((j : Int) < (s.size : Int)) = false:=decide_eq_false (by omega)
      obtain rfl : j = s.size:=by omega
      have hdl : Digs l:=by have h:=HDJ.out; rwa [HSL.out,List.take_length] at h
      have HDL:=Lib.hid hdl
      clear hdl
      go_wp2_with fail
      go_loopw [4,6] (fun v4 v6 wr=>RpRel l w v4 v6 wr) (fun _ v6 _=>(s.size - intOf v6).toNat)
      case atStart=>exact ⟨0,0,_,[],Nat.zero_le _,rfl,rfl,(fun h=>by cases h),Rd.nil,can_nil,rfl,(Below.refl _ _).alloc (Nat.le_refl _) _⟩
      case round =>
        obtain ⟨j,c,A,r,hj2,rfl,rfl,hna,hra,hrc,hrv,hbw⟩:=hrel
        have HRV:=Lib.hid hrv
        have HNA:=Lib.hid hna
        have hrl : r.length ≤ 100:=by
          have h1:=dval_lt (HDL.out.take j)
          rw [← hrv] at h1
          refine num_len hrc rfl (Nat.lt_of_lt_of_le h1 (Nat.le_trans (Nat.pow_le_pow_right (by decide) ?_) pow_700))
          have:=HSL.out
          simp
          omega
        clear hrv hna hj hlt hdlt
        have hj3 : j ≤ s.size:=by have:=HSL.out; omega
        by_cases hlt : j < s.size
        · have hlti : (j : Int) < (s.size : Int):=by omega
          have hdlt : decide ((j : Int) < (s.size : Int)) = true:=decide_eq_true hlti
          have hsuc : l.take (j + 1) = l.take j ++ [s[j]]:=by rw [List.take_add_one,HGET.out j hlt]; rfl
          have hxb:=HDL.out s[j] (List.mem_of_getElem? (HGET.out j hlt))
          obtain ⟨d,hd⟩ : ∃ d,s[j].toNat - 48 = d:=⟨_,rfl⟩
          have hdi : ((s[j].toNat : Nat) : Int) - 48 = (d : Int):=by omega
          have hd9 : d ≤ 9:=by omega
          have hx1 : (48 : Int) ≤ ((s[j].toNat : Nat) : Int):=by omega
          have hx2 : ((s[j].toNat : Nat) : Int) ≤ 57:=by omega
          have HSUC:=Lib.hid hsuc
          have HD:=Lib.hid hd
          clear hsuc hd
          go_wp2_with fail
          have hwr : IntKind.u32.wrap (IntKind.u32.wrap ((s[j].toNat : Nat) : Int) - 48) = (d : Int):=by
            rw [← hdi]
            simp [IntKind.wrap,IntKind.signed,IntKind.bits]
            omega
          have HWR:=Lib.hid hwr
          have hT : ∀ W g,Below wr.heap.size wr W → Rd W A r → W.heap[g]? = some (.cells #[.int .u32 10] 159 (0,0)) →
              Calls Tryz.prog 258 #[.slice A r.length c,.slice (some ⟨g,0,none⟩) 1 1] W fun e w' =>
                (∃ A1 c1 r1,e = .returned (.slice A1 (List.length r1) c1)∧Rd w' A1 r1∧Can r1∧val r1 = val r * 10)∧Below W.heap.size W w'∧Below wr.heap.size wr w':=fun W g hB h1 h2=>by
            have h3 : Rd W (some ⟨g,0,none⟩) [10]:=rd_at h2
            refine (rtimes_any A (some ⟨g,0,none⟩) c 1 r [10] W h1 h3 hrc.1 (Lm.cons (by decide) Lm.nil) (by omega) (by simp)).mono ?_
            rintro e w' ⟨⟨v,rfl,A1,c1,r1,rfl,_,q2,q3,q4⟩,bT⟩
            exact ⟨⟨A1,c1,r1,rfl,q2,q3,q4⟩,bT,hB.trans (bT.mono hB.size)⟩
          have hP : ∀ W g A1 c1 r1,Below wr.heap.size wr W → Can r1 → val r1 = val r * 10 → Rd W A1 r1 → W.heap[g]? = some (.cells #[.int .u32 (IntKind.u32.wrap (IntKind.u32.wrap ((s[j].toNat : Nat) : Int) - 48))] 159 (0,0)) →
              Calls Tryz.prog 257 #[.slice A1 r1.length c1,.slice (some ⟨g,0,none⟩) 1 1] W fun e w' =>
                (∃ A2 c2 r2,e = .returned (.slice A2 (List.length r2) c2)∧(A2 = none → List.length r2 = 0∧c2 = 0)∧Rd w' A2 r2∧Can r2∧val r2 = dval 0 (l.take (j + 1)))∧Below wr.heap.size wr w':=fun W g A1 c1 r1 hB hc hv h1 h2=>by
            have h3 : Rd W (some ⟨g,0,none⟩) [d]:=rd_at (by rw [h2,hwr]; rfl)
            have hl1 : r1.length ≤ 101:=num_len hc hv (by
              have e1:=val_len_lt hrc.1 hrl
              rw [Nat.pow_succ]
              omega)
            refine (rplus_any A1 (some ⟨g,0,none⟩) c1 1 r1 [d] W h1 h3 hc.1 (Lm.cons (by omega) Lm.nil) (by omega) (by simp)).mono ?_
            rintro e w' ⟨⟨v,rfl,A2,c2,r2,rfl,q1,q2,q3,q4⟩,bP⟩
            refine ⟨⟨A2,c2,r2,rfl,q1,q2,q3,?_⟩,hB.trans (bP.mono hB.size)⟩
            rw [q4,hv,HRV.out,HSUC.out,dval_snoc,HD.out]
            simp [val]
          have HT:=Lib.hid hT
          have HP:=Lib.hid hP
          clear hT hP hwr
          go_region_with (first
            | (go_at_call 258
               refine (HT.out _ _ (by first | exact (((Below.refl _ wr).alloc (Nat.le_refl _) _).alloc (by simp) _).drew | exact ((Below.refl _ wr).alloc (Nat.le_refl _) _).drew) (by first | exact ((hra.alloc _).alloc _).drew | exact (hra.alloc _).drew)
                 (by first | exact heap_alloc_new wr _ | exact (Below.heap_alloc _ _ _ (by simp)).trans (heap_alloc_new wr _) | exact (by have h:=heap_alloc_new (wr.alloc (.cells #[.int .u32 (IntKind.u32.wrap (IntKind.u32.wrap ((s[j].toNat : Nat) : Int) - 48))] 159)) (.cells #[.int .u32 10] 159); rw [World.size_alloc] at h; exact h))).mono ?_
               rintro e w1 ⟨⟨A1,c1,r1,rfl,q2,q3,q4⟩,bT,bW⟩)
            | (go_at_call 257
               refine (HP.out _ _ A1 c1 r1 (by first | exact bW | exact bW.alloc bW.size _) q3 q4 (by first | exact q2 | exact q2.alloc _)
                 (by first | exact heap_alloc_new w1 _
                           | exact (bT.block _ (by simp <;> omega)).trans (heap_alloc_new wr _)
                           | exact (bT.block _ (by simp <;> omega)).trans ((Below.heap_alloc _ _ _ (by simp)).trans (heap_alloc_new wr _))
                           | exact (bT.block _ (by simp <;> omega)).trans (by have h:=heap_alloc_new (wr.alloc (.cells #[.int .u32 10] 159)) (.cells #[.int .u32 (IntKind.u32.wrap (IntKind.u32.wrap ((s[j].toNat : Nat) : Int) - 48))] 159); rw [World.size_alloc] at h; exact h))).mono ?_
               rintro e w2 ⟨⟨A2,c2,r2,rfl,s1,s2,s3,s4⟩,bP⟩))
          all_goals
            go_wp2_with fail
            first
            | refine ⟨⟨j + 1,c2,A2,r2,by have:=HSL.out; omega,by congr 1,rfl,s1,s2,s3,s4,hbw.trans (bP.mono hbw.size)⟩,?_⟩
              simp [intOf]
              omega
            | go_roundw
              case rel=>exact ⟨j + 1,c2,A2,r2,by have:=HSL.out; omega,by congr 1,rfl,s1,s2,s3,s4,hbw.trans (bP.mono hbw.size)⟩
              case measure=>simp [intOf]; omega
        · have hdlt : decide ((j : Int) < (s.size : Int)) = false:=decide_eq_false (by omega)
          obtain rfl : j = s.size:=by omega
          have hv : val r = dval 0 l:=by rw [HRV.out,HSL.out,List.take_length]
          have hok : OkText l:=⟨by have:=HSL.out; omega,by have:=HSL.out; omega,HDL.out⟩
          have HV:=Lib.hid hv
          have HOK:=Lib.hid hok
          clear hv hok
          go_wp2_with fail
          refine (rbig_any A c r wr hra hrc.1 (by omega) HNA.out).mono ?_
          rintro e w2 ⟨⟨bo,rfl,hbo⟩,b2⟩
          rw [HV.out] at hbo
          have B2:=hbw.trans (b2.mono hbw.size)
          cases bo with
          | true =>
            have HB:=Lib.hid (hbo.1 rfl)
            clear hbo
            go_wp2
            go_ret2
            exact ⟨⟨_,_,rfl,.inr (.inl ⟨HOK.out,HB.out,rfl,rfl⟩)⟩,B2⟩
          | false =>
            have hnb : ¬ BIG (dval 0 l):=fun h=>by have:=hbo.2 h; cases this
            have HB:=Lib.hid hnb
            clear hbo hnb
            go_wp2
            go_ret2
            exact ⟨⟨_,_,rfl,.inr (.inr ⟨HOK.out,HB.out,rfl,A,c,r,rfl,HNA.out,hra.below b2,hrc,HV.out⟩)⟩,B2⟩
end LM
end Go.Proofs.YtaonablbgicmpaaGreatDoor
