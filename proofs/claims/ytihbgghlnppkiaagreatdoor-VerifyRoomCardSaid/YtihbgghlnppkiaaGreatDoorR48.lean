import Derived.Test.YtihbgghlnppkiaaGreatDoorR43
import Derived.Laws.IdiomStrings
import Derived.Laws.Runes
import Derived.Laws.Cover4
import Derived.Lib.OthersKept
import Derived.Test.YtihbgghlnppkiaaGreatDoorR56
import Derived.Deep.RegionHeld3
import Derived.Lib.SliceRun
import Derived.Maps.AppendAt
import Derived.BigQuiet
import Derived.Test.YtihbgghlnppkiaaGreatDoorR57
import Derived.Test.YtihbgghlnppkiaaGreatDoorR38
import Derived.Test.YtihbgghlnppkiaaGreatDoorR52
import Derived.Test.YtihbgghlnppkiaaGreatDoorR09
import Derived.Test.YtihbgghlnppkiaaGreatDoorR42
import Derived.Laws.RangeAny
import Derived.Laws.Cover1
import Derived.Test.YtihbgghlnppkiaaGreatDoorR39
import Derived.Test.YtihbgghlnppkiaaGreatDoorR20
import Derived.Deep.Strs
import Derived.SizedLaws
set_option linter.unusedVariables false
set_option linter.unusedSimpArgs false
set_option maxRecDepth 100000
set_option maxHeartbeats 16000000
namespace Go.Proofs.YtihbgghlnppkiaaGreatDoor
open Go Go.RowKit
namespace LM
end LM
namespace LM
attribute [local go_sem] run_store_flt
end LM
namespace LM
attribute [local go_sem] run_store_flt
end LM
namespace LM
attribute [local go_sem] run_store_flt
def TxF : Fr → Prop
  | .nil=>True
  | .cons h k r=>h.t.size ≤ 1000000∧TxF k∧TxF r
end LM
namespace LM
attribute [local go_sem] run_store_flt
end LM
namespace LM
def DB (w : World) : Prop:=w.cell? ⟨14,15,none⟩ = some (.int .u8 4)∧14 < w.heap.size
theorem DB.below {w w' : World} (h : DB w) (hb : Below w.heap.size w w') : DB w':=⟨(hb.cell (p:=⟨14,15,none⟩) h.2).trans h.1,Nat.lt_of_lt_of_le h.2 hb.size⟩
theorem tz64_16 (w : World) (hd : DB w) : Calls Tryz.prog 221 #[.int .u64 16] w fun e w'=>e = .returned (.int .i64 4)∧w' = w:=by
  have hc:=hd.1
  have b1 : IntKind.u64.wrap (-16) = 18446744073709551600:=by decide
  have b2 : bits .and .u64 16 18446744073709551600 = 16:=by decide
  have b3 : IntKind.u64.wrap (16 * 285870213051353865) = 4573923408821661840:=by decide
  have b4 : (4573923408821661840 : Int) / 288230376151711744 = 15:=by decide
  go_enter Tryz.func221,Tryz.ntmps221
  go_wp2_with (fail)
  go_ret
  exact ⟨rfl,rfl⟩
theorem tz_16 (w : World) (hd : DB w) : Calls Tryz.prog 195 #[.int .u64 16] w fun e w'=>e = .returned (.int .i64 4)∧w' = w:=by
  have T1:=Lib.hid (tz64_16 w hd)
  clear hd
  go_enter Tryz.func195,Tryz.ntmps195
  go_wp2_with (fail)
  refine T1.out.mono ?_
  rintro e w1 ⟨rfl,rfl⟩
  go_wp2_with (fail)
  go_ret
  exact ⟨rfl,rfl⟩
abbrev digT : ByteArray:=⟨#[48,49,50,51,52,53,54,55,56,57,97,98,99,100,101,102,103,104,105,106,107,108,109,110,111,112,113,114,115,116,117,118,119,120,121,122]⟩
theorem digT_part : ∀ n : Fin 16,digT.data[n.val]? = some (hexD n.val):=by decide
theorem digT_at (T : ByteArray) (hT : digT = T) (r : Nat) (hr : r < 16) : ∀ h : r < T.size,(T[r]'h).toNat = (hexD r).toNat:=fun h=>by
  have h1:=digT_part ⟨r,hr⟩
  subst hT
  have h2 : digT.data[r]? = some (digT[r]'h):=by
    rw [Array.getElem?_eq_getElem (show r < digT.data.size from h)]
    rfl
  rw [h2] at h1
  injection h1 with h1
  rw [h1]
def HDig (w : World) (g : Nat) (acc : List UInt8) : Prop:=∃ cs,w.heap[g]? = some (.cells cs 251 (0,0))∧cs.size = 65∧∀ j (h : j < acc.length),cs[65 - acc.length + j]? = some (.int .u8 ((acc[j]'h).toNat : Int))
theorem HDig.cell {w : World} {g : Nat} {acc : List UInt8} (h : HDig w g acc) {i : Nat} (hi : i < 65) : (∃ v,w.cell? ⟨g,i,none⟩ = some v)∧w.frozen? ⟨g,i,none⟩ = false:=by
  obtain ⟨cs,h1,h2,-⟩:=h
  exact ⟨⟨cs[i]'(by omega),by simp only [World.cell?,h1]; exact Array.getElem?_eq_getElem (by omega)⟩,by simp [World.frozen?,h1]⟩
theorem HDig.push {w : World} {g : Nat} {acc : List UInt8} (h : HDig w g acc) (hl : acc.length ≤ 60) (d : UInt8) : HDig (w.setCell ⟨g,64 - acc.length,none⟩ (.int .u8 (d.toNat : Int))) g (d :: acc):=by
  obtain ⟨cs,h1,h2,h3⟩:=h
  refine ⟨cs.setIfInBounds (64 - acc.length) (.int .u8 (d.toNat : Int)),heap_setCell_same w g _ cs _ _ h1,by rw [Array.size_setIfInBounds]; exact h2,fun j hj=>?_⟩
  have hl1 : (d :: acc).length = acc.length + 1:=rfl
  rw [hl1] at hj ⊢
  cases j with
  | zero =>
    rw [show 65 - (acc.length + 1) + 0 = 64 - acc.length by omega,Array.getElem?_setIfInBounds_self_of_lt (by omega)]
    rfl
  | succ j =>
    rw [Array.getElem?_setIfInBounds_ne (by omega),show 65 - (acc.length + 1) + (j + 1) = 65 - acc.length + j by omega]
    exact h3 j (by omega)
theorem and15 (q : Nat) (hq : q < 18446744073709551616) : bits .and .u64 (q : Int) 15 = ((q % 16 : Nat) : Int):=by
  have h:=u64_and_nat q 15 hq (by decide)
  rw [Nat.and_two_pow_sub_one_eq_mod q 4] at h
  exact h
theorem fbits_16 (N : Nat) (hN : N < 4294967296) (w : World) (hd : DB w) : Calls Tryz.prog 157 #[.slice none 0 0,.int .u64 (N : Int),.int .i64 16,.bool false,.bool false] w fun e w'=>e = .returned (.tuple #[.slice none 0 0,.string ⟨(hexF 8 N).toArray⟩])∧Below w.heap.size w w':=by
  have P16:=Lib.hid pow2_16
  have hN8 : N < 16 ^ (7 + 1):=by
    have : (16 : Nat) ^ (7 + 1) = 4294967296:=by decide
    omega
  obtain ⟨T,hT⟩ : ∃ T : ByteArray,digT = T:=⟨_,rfl⟩
  have hTs : T.size = 36:=by rw [← hT]; rfl
  have TA:=Lib.hid (digT_at T hT)
  obtain ⟨W0,hW0⟩ : ∃ W0,w.alloc (.cells Tryz.zeroCells251 251) = W0:=⟨_,rfl⟩
  have hb0 : Below w.heap.size w W0:=by rw [← hW0]; exact (Below.refl _ w).alloc (Nat.le_refl _) _
  have TZ:=Lib.hid (tz_16 W0 (hd.below hb0))
  have hdg : HDig W0 w.heap.size []:=⟨_,by rw [← hW0]; exact heap_alloc_new w _,by rfl,fun j h=>absurd h (Nat.not_lt_zero j)⟩
  have HW0:=Lib.hid hW0
  have HB0:=Lib.hid hb0
  have HDG:=Lib.hid hdg
  clear hd hW0 hb0 hdg
  go_enter Tryz.func157,Tryz.ntmps157
  rw [show (⟨#[48,49,50,51,52,53,54,55,56,57,97,98,99,100,101,102,103,104,105,106,107,108,109,110,111,112,113,114,115,116,117,118,119,120,121,122]⟩ : ByteArray) = T from hT]
  clear hT
  go_wp2_with (fail)
  rw [HW0.out]
  refine (P16.out _).mono ?_
  rintro e w1 ⟨rfl,rfl⟩
  go_wp2_with (fail)
  refine TZ.out.mono ?_
  rintro e w1 ⟨rfl,rfl⟩
  go_wp2_with (fail)
  go_loopg [1,13] 8 (fun kk u i wr=>Below w.heap.size w wr∧∃ (q f : Nat) (acc : List UInt8),kk = f + 1∧u = .int .u64 (q : Int)∧i = .int .i64 ((65 - acc.length : Nat) : Int)∧hexF 8 N = hexF (f + 1) q ++ acc∧q < 16 ^ (f + 1)∧f + 1 + acc.length = 8∧HDig wr w.heap.size acc)
  case atStart=>exact ⟨HB0.out,N,7,[],rfl,rfl,rfl,by rw [List.append_nil],hN8,rfl,HDG.out⟩
  case round =>
    obtain ⟨hbr,q,f,acc,rfl,rfl,rfl,he,hq,hl,hdg⟩:=hrel
    have hq32 : q < 4294967296:=by
      have h1 : q < 16 ^ 8:=Nat.lt_of_lt_of_le hq (Nat.pow_le_pow_right (by decide) (by omega))
      have : (16 : Nat) ^ 8 = 4294967296:=by decide
      omega
    have hal : acc.length ≤ 60:=by omega
    obtain ⟨⟨cv,hcv⟩,hfz⟩:=hdg.cell (i:=64 - acc.length) (by omega)
    have w1 : IntKind.i64.wrap (((65 - acc.length : Nat) : Int) - 1) = ((64 - acc.length : Nat) : Int):=by rw [IntKind.wrap_i64]; omega
    obtain ⟨i0,hi0⟩ : ∃ i0,64 - acc.length = i0:=⟨_,rfl⟩
    have hi65 : i0 < 65:=by omega
    have PU:=Lib.hid (fun r=>hdg.push hal (hexD r))
    rw [hi0] at hcv hfz w1 PU
    have HBR:=Lib.hid hbr
    have HE:=Lib.hid he
    have HQ:=Lib.hid hq
    have HL:=Lib.hid hl
    have HI0:=Lib.hid hi0
    clear hbr he hq hdg hal hi0
    by_cases h16 : 16 ≤ q
    · obtain ⟨f',rfl⟩ : ∃ f',f = f' + 1:=by
        cases f with
        | zero=>have:=HQ.out; simp at this; omega
        | succ f'=>exact ⟨f',rfl⟩
      have d1 : decide ((16 : Int) ≤ (q : Int)) = true:=decide_eq_true (by omega)
      have d2 : decide (16 ≤ q) = true:=decide_eq_true h16
      have a1:=and15 q (by omega)
      obtain ⟨r,hr⟩ : ∃ r,q % 16 = r:=⟨_,rfl⟩
      have hr16 : r < 16:=by omega
      have hx:=TA.out r hr16
      have hrT : r < T.size:=by omega
      rw [hr] at a1
      obtain ⟨q',hq'⟩ : ∃ q',q / 16 = q':=⟨_,rfl⟩
      have s1 : (q : Int) / 16 = (q' : Int):=by omega
      have hlt : q' < 16 ^ (f' + 1):=by
        rw [← hq',Nat.div_lt_iff_lt_mul (by decide)]
        have:=HQ.out
        rw [Nat.pow_succ] at this
        exact this
      have NE : Hid (hexF 8 N = hexF (f' + 1) q' ++ (hexD r :: acc)):=Lib.hid (by
        rw [HE.out,hexF,if_neg (by omega),hq',hr,List.append_assoc]
        rfl)
      clear h16 hr hq' hl
      go_wp2_with (fail)
      go_roundg (f' + 1)
      case measure=>omega
      case rel=>exact ⟨HBR.out.setCell (Nat.le_refl _) _,q',f',hexD r :: acc,rfl,rfl,by
        have h1 : i0 = 65 - (acc.length + 1):=by have:=HI0.out; omega
        rw [h1]; rfl,NE.out,hlt,by have:=HL.out; show f' + 1 + (acc.length + 1) = 8; omega,PU.out r⟩
    · have d1 : decide ((16 : Int) ≤ (q : Int)) = false:=decide_eq_false (by omega)
      have d2 : decide (16 ≤ q) = false:=decide_eq_false h16
      have hx:=TA.out q (by omega)
      have hrT : q < T.size:=by omega
      obtain ⟨W5,hW5⟩ : ∃ W5,wr.setCell ⟨w.heap.size,i0,none⟩ (.int .u8 ((hexD q).toNat : Int)) = W5:=⟨_,rfl⟩
      have NE : Hid (hexF 8 N = hexD q :: acc):=Lib.hid (by
        rw [HE.out,hexF,if_pos (by omega)]
        rfl)
      have HB5:=Lib.hid (show Below w.heap.size w W5 from hW5 ▸ HBR.out.setCell (Nat.le_refl _) _)
      have hdg5:=PU.out q
      rw [hW5] at hdg5
      obtain ⟨cs,e1,e2,e3⟩:=hdg5
      have hcv:=run_convert_bytes_back (P:=Tryz.prog) W5 113 9 5 ⟨w.heap.size,i0,none⟩ (65 - i0) (hexD q :: acc) Tryz.underlying113 Tryz.underlying5 Tryz.underlying9 (fun j hj=>by
        have h4:=e3 j hj
        have ha : ((⟨w.heap.size,i0,none⟩ : Addr).add j) = ⟨w.heap.size,i0 + j,none⟩:=by
          unfold Addr.add
          split <;> simp_all
        have hi1 : 65 - (hexD q :: acc).length = i0:=by have:=HI0.out; show 65 - (acc.length + 1) = i0; omega
        rw [hi1] at h4
        rw [ha]
        simp only [World.cell?,e1]
        exact h4)
      have hlen : (hexD q :: acc).length = 65 - i0:=by have:=HI0.out; have:=HL.out; show acc.length + 1 = 65 - i0; omega
      rw [hlen,← NE.out] at hcv
      have hsl : (Instr.sliceAt 251 (.pointer (some ⟨w.heap.size,0,none⟩)) (some (.int .i64 (i0 : Int))) none none).run Tryz.prog W5 = .ok (.slice (some ⟨w.heap.size,i0,none⟩) (65 - i0) (65 - i0)) W5:=by
        have hal : Tryz.prog.arrayLen 251 = 65:=by kernel_rfl
        have h:=run_sliceAt_array_l (P:=Tryz.prog) W5 251 ⟨w.heap.size,0,none⟩ Tryz.underlying251 .i64 (i0 : Int) (by omega) (by rw [hal]; omega)
        have hel : Tryz.prog.elem 251 = 5:=by kernel_rfl
        have hne : ¬ 65 = i0:=by omega
        have had : ((⟨w.heap.size,0,none⟩ : Addr).add (i0 * 1)) = ⟨w.heap.size,i0,none⟩:=by
          unfold Addr.add
          split <;> simp_all
        rw [h,hal,hel]
        go_simp
      clear h16 hl e1 e2 e3 hlen
      go_wp2_with (fail)
      go_ret2
      exact ⟨rfl,HB5.out⟩
theorem fint_16 (N : Nat) (hN : N < 4294967296) (w : World) (hd : DB w) : Calls Tryz.prog 129 #[.int .i64 (N : Int),.int .i64 16] w fun e w'=>e = .returned (.string ⟨(hexF 8 N).toArray⟩)∧Below w.heap.size w w':=by
  have F1:=Lib.hid (fbits_16 N hN w hd)
  have w1 : IntKind.u64.wrap (N : Int) = (N : Int):=by rw [IntKind.wrap_u64]; omega
  have d1 : decide ((N : Int) < 0) = false:=decide_eq_false (by omega)
  clear hd hN
  go_enter Tryz.func129,Tryz.ntmps129
  go_wp2_with (fail)
  refine F1.out.mono ?_
  rintro e w1 ⟨rfl,hb1⟩
  go_wp2_with (fail)
  go_ret
  exact ⟨rfl,hb1⟩
theorem fint_pub (N : Nat) (hN : N < 4294967296) (w : World) (hd : DB w) : Calls Tryz.prog 109 #[.int .i64 (N : Int),.int .i64 16] w fun e w'=>e = .returned (.string ⟨(hexF 8 N).toArray⟩)∧Below w.heap.size w w':=by
  have F1:=Lib.hid (fint_16 N hN w hd)
  clear hd hN
  go_enter Tryz.func109,Tryz.ntmps109
  go_wp2_with (fail)
  refine F1.out.mono ?_
  rintro e w1 ⟨rfl,hb1⟩
  go_wp2_with (fail)
  go_ret
  exact ⟨rfl,hb1⟩
theorem dhex_any (N : Nat) (hN : N < 4294967296) (w : World) (hd : DB w) : Calls Tryz.prog 88 #[.int .i64 (N : Int)] w fun e w'=>e = .returned (.string ⟨(hexF 8 N).toArray⟩)∧Below w.heap.size w w':=by
  have F1:=Lib.hid (fint_pub N hN w hd)
  clear hd hN
  go_enter Tryz.func88,Tryz.ntmps88
  go_wp2_with (fail)
  refine F1.out.mono ?_
  rintro e w1 ⟨rfl,hb1⟩
  go_wp2_with (fail)
  go_ret
  exact ⟨rfl,hb1⟩
end LM
namespace LM
def nameL (n : Nat) : List UInt8 :=
  if n = 32 then [115,112,97,99,101] else if n = 10 then [110,101,119,108,105,110,101] else if n = 9 then [116,97,98] else if n = 0 then [110,117,108]
  else if 33 ≤ n∧n ≤ 126 then [UInt8.ofNat n] else 120 :: hexF 8 n
theorem nameL_len (n : Nat) : (nameL n).length ≤ 20:=by
  have:=hexF_len 8 n
  unfold nameL
  repeat' split
  all_goals simp only [List.length_cons,List.length_nil]
  all_goals omega
theorem enc_small (n : Nat) (h : n < 128) : Utf8.encode (n : Int) = ⟨#[UInt8.ofNat n]⟩:=by
  have h1:=encode_L n (.inl (by omega))
  rw [enc1 n h] at h1
  apply ByteArray.ext
  apply Array.toList_inj.1
  exact h1
theorem dsname_any (n : Nat) (hn : n ≤ 1114111) (w : World) (hd : DB w) : Calls Tryz.prog 73 #[.int .i64 (n : Int)] w fun e w'=>e = .returned (.string ⟨(nameL n).toArray⟩)∧Below w.heap.size w w':=by
  have HX:=Lib.hid (dhex_any n (by omega) w hd)
  have HB0:=Lib.hid (Below.refl w.heap.size w)
  clear hd
  obtain ⟨R,hR⟩ : ∃ R,nameL n = R:=⟨_,rfl⟩
  rw [hR]
  unfold nameL at hR
  by_cases h32 : n = 32
  · subst h32
    have HR : Hid (R = [115,112,97,99,101]):=Lib.hid (by rw [← hR]; rfl)
    clear hR
    go_enter Tryz.func73,Tryz.ntmps73
    go_wp2_with (fail)
    go_ret
    exact ⟨by rw [HR.out]; rfl,HB0.out⟩
  have k1 : ((n : Int) == 32) = false:=by rw [beq_eq_false_iff_ne]; omega
  by_cases h10 : n = 10
  · subst h10
    have HR : Hid (R = [110,101,119,108,105,110,101]):=Lib.hid (by rw [← hR]; rfl)
    clear hR
    go_enter Tryz.func73,Tryz.ntmps73
    go_wp2_with (fail)
    go_ret
    exact ⟨by rw [HR.out]; rfl,HB0.out⟩
  have k2 : ((n : Int) == 10) = false:=by rw [beq_eq_false_iff_ne]; omega
  by_cases h9 : n = 9
  · subst h9
    have HR : Hid (R = [116,97,98]):=Lib.hid (by rw [← hR]; rfl)
    clear hR
    go_enter Tryz.func73,Tryz.ntmps73
    go_wp2_with (fail)
    go_ret
    exact ⟨by rw [HR.out]; rfl,HB0.out⟩
  have k3 : ((n : Int) == 9) = false:=by rw [beq_eq_false_iff_ne]; omega
  by_cases h0 : n = 0
  · subst h0
    have HR : Hid (R = [110,117,108]):=Lib.hid (by rw [← hR]; rfl)
    clear hR
    go_enter Tryz.func73,Tryz.ntmps73
    go_wp2_with (fail)
    go_ret
    exact ⟨by rw [HR.out]; rfl,HB0.out⟩
  have k4 : ((n : Int) == 0) = false:=by rw [beq_eq_false_iff_ne]; omega
  rw [if_neg h32,if_neg h10,if_neg h9,if_neg h0] at hR
  by_cases hm : 33 ≤ n∧n ≤ 126
  · have HR : Hid (R = [UInt8.ofNat n]):=Lib.hid (by rw [← hR,if_pos hm])
    have d1 : decide ((33 : Int) ≤ (n : Int)) = true:=decide_eq_true (by omega)
    have d2 : decide ((n : Int) ≤ 126) = true:=decide_eq_true (by omega)
    have w1 : IntKind.i32.wrap (n : Int) = (n : Int):=by rw [IntKind.wrap_i32]; omega
    have hcv : ∀ W,(convert 21 9 (.int .i32 (n : Int))).run Tryz.prog W = .ok (.string ⟨#[UInt8.ofNat n]⟩) W:=fun W=>by
      rw [run_convert_int_string W 21 9 .i32 (n : Int) (by rw [Tryz.underlying21]; rfl) Tryz.underlying9,enc_small n (by omega)]
    clear hR h32 h10 h9 h0 hm
    go_enter Tryz.func73,Tryz.ntmps73
    go_wp2_with (fail)
    go_ret
    exact ⟨by rw [HR.out]; rfl,HB0.out⟩
  · have HR : Hid (R = 120 :: hexF 8 n):=Lib.hid (by rw [← hR,if_neg hm])
    have hl:=hexF_len 8 n
    obtain ⟨t,ht⟩ : ∃ t : ByteArray,(⟨(hexF 8 n).toArray⟩ : ByteArray) = t:=⟨_,rfl⟩
    have hts : t.size ≤ 8:=by
      rw [← ht]
      show (hexF 8 n).toArray.size ≤ 8
      rw [List.size_toArray]
      omega
    rw [ht] at HX
    have HT:=Lib.hid ht
    obtain ⟨q1,d1⟩ : ∃ q,decide ((33 : Int) ≤ (n : Int)) = q:=⟨_,rfl⟩
    obtain ⟨q2,d2⟩ : ∃ q,decide ((n : Int) ≤ 126) = q:=⟨_,rfl⟩
    have hq : q1 = false ∨ (q1 = true∧q2 = false):=by
      rw [← d1,← d2]
      by_cases h : 33 ≤ n
      · exact .inr ⟨decide_eq_true (by omega),decide_eq_false (by omega)⟩
      · exact .inl (decide_eq_false (by omega))
    clear hR hl ht h32 h10 h9 h0 hm
    rcases hq with rfl | ⟨rfl,rfl⟩
    all_goals
      go_enter Tryz.func73,Tryz.ntmps73
      go_wp2_with (fail)
      refine HX.out.mono ?_
      rintro e w1 ⟨rfl,hb1⟩
      go_wp2_with (fail)
      go_ret
      exact ⟨by rw [HR.out,← HT.out]; rfl,hb1⟩
end LM
namespace LM
def signT (r : Nat) : List UInt8 :=
  if r = 34 ∨ r = 92 then 92 :: encL r else if r = 10 then [92,110] else if r = 9 then [92,116] else if r = 13 then [92,114]
  else if r < 32 ∨ r = 127 then [92,120] ++ hexF 8 r ++ [59] else encL r
def quoteF : Nat → List UInt8 → List UInt8
  | 0,_=>[]
  | n + 1,l=>if l = [] then [] else signT (Lib.decodeL l).1 ++ quoteF n (l.drop (Lib.decodeL l).2)
theorem encL_len (r : Nat) : (encL r).length ≤ 4:=by
  unfold encL
  repeat' split
  all_goals exact Nat.le_of_ble_eq_true rfl
theorem signT_len (r : Nat) : (signT r).length ≤ 11:=by
  have h1:=encL_len r
  have h2:=hexF_len 8 r
  unfold signT
  repeat' split
  all_goals try simp only [List.length_cons,List.length_append,List.length_nil]
  all_goals omega
theorem quoteF_len : ∀ (n : Nat) (l : List UInt8),(quoteF n l).length ≤ 11 * n:=by
  intro n
  induction n with
  | zero=>intro l; exact Nat.zero_le _
  | succ n ih =>
    intro l
    unfold quoteF
    split
    · simp
    · rw [List.length_append]
      have h1:=signT_len (Lib.decodeL l).1
      have h2:=ih (l.drop (Lib.decodeL l).2)
      omega
theorem quoteF_nil (n : Nat) : quoteF n [] = []:=by
  cases n with
  | zero=>rfl
  | succ n=>unfold quoteF; rw [if_pos rfl]
theorem encode_B (r : Nat) (h : r < 55296 ∨ (57344 ≤ r∧r ≤ 1114111)) : Utf8.encode (r : Int) = ⟨(encL r).toArray⟩:=by
  apply ByteArray.ext
  apply Array.toList_inj.1
  exact encode_L r h
theorem dsignin_any (r : Nat) (hr : r < 55296 ∨ (57344 ≤ r∧r ≤ 1114111)) (w : World) (hd : DB w) : Calls Tryz.prog 89 #[.int .i32 (r : Int)] w fun e w'=>e = .returned (.string ⟨(signT r).toArray⟩)∧Below w.heap.size w w':=by
  have HX:=Lib.hid (dhex_any r (by omega) w hd)
  have HB0:=Lib.hid (Below.refl w.heap.size w)
  clear hd
  obtain ⟨R,hR⟩ : ∃ R,signT r = R:=⟨_,rfl⟩
  rw [hR]
  unfold signT at hR
  obtain ⟨own,how⟩ : ∃ own : ByteArray,(⟨(encL r).toArray⟩ : ByteArray) = own:=⟨_,rfl⟩
  have hcv : ∀ W,(convert 21 9 (.int .i32 (r : Int))).run Tryz.prog W = .ok (.string own) W:=fun W=>by
    rw [run_convert_int_string W 21 9 .i32 (r : Int) (by rw [Tryz.underlying21]; rfl) Tryz.underlying9,encode_B r hr,how]
  have hos : own.size ≤ 4:=by
    rw [← how]
    show (encL r).toArray.size ≤ 4
    rw [List.size_toArray]
    exact encL_len r
  have HO:=Lib.hid how
  clear how
  obtain ⟨b1,e1⟩ : ∃ b,((r : Int) == 34) = b:=⟨_,rfl⟩
  obtain ⟨b2,e2⟩ : ∃ b,((r : Int) == 92) = b:=⟨_,rfl⟩
  by_cases hq : r = 34 ∨ r = 92
  · have HR : Hid (R = 92 :: encL r):=Lib.hid (by rw [← hR,if_pos hq])
    have hb : b1 = true ∨ (b1 = false∧b2 = true):=by
      rw [← e1,← e2]
      rcases hq with rfl | rfl
      · exact .inl rfl
      · exact .inr ⟨rfl,rfl⟩
    clear hR hq hr
    rcases hb with rfl | ⟨rfl,rfl⟩
    all_goals
      go_enter Tryz.func89,Tryz.ntmps89
      go_wp2_with (fail)
      go_ret
      exact ⟨by rw [HR.out,← HO.out]; rfl,HB0.out⟩
  have hb1 : b1 = false:=by rw [← e1,beq_eq_false_iff_ne]; omega
  have hb2 : b2 = false:=by rw [← e2,beq_eq_false_iff_ne]; omega
  subst hb1 hb2
  rw [if_neg hq] at hR
  obtain ⟨b3,e3⟩ : ∃ b,((r : Int) == 10) = b:=⟨_,rfl⟩
  by_cases h10 : r = 10
  · have HR : Hid (R = [92,110]):=Lib.hid (by rw [← hR,if_pos h10])
    have hb3 : b3 = true:=by rw [← e3,beq_iff_eq]; omega
    subst hb3
    clear hR h10 hr hq
    go_enter Tryz.func89,Tryz.ntmps89
    go_wp2_with (fail)
    go_ret
    exact ⟨by rw [HR.out]; rfl,HB0.out⟩
  have hb3 : b3 = false:=by rw [← e3,beq_eq_false_iff_ne]; omega
  subst hb3
  rw [if_neg h10] at hR
  obtain ⟨b4,e4⟩ : ∃ b,((r : Int) == 9) = b:=⟨_,rfl⟩
  by_cases h9 : r = 9
  · have HR : Hid (R = [92,116]):=Lib.hid (by rw [← hR,if_pos h9])
    have hb4 : b4 = true:=by rw [← e4,beq_iff_eq]; omega
    subst hb4
    clear hR h9 h10 hr hq
    go_enter Tryz.func89,Tryz.ntmps89
    go_wp2_with (fail)
    go_ret
    exact ⟨by rw [HR.out]; rfl,HB0.out⟩
  have hb4 : b4 = false:=by rw [← e4,beq_eq_false_iff_ne]; omega
  subst hb4
  rw [if_neg h9] at hR
  obtain ⟨b5,e5⟩ : ∃ b,((r : Int) == 13) = b:=⟨_,rfl⟩
  by_cases h13 : r = 13
  · have HR : Hid (R = [92,114]):=Lib.hid (by rw [← hR,if_pos h13])
    have hb5 : b5 = true:=by rw [← e5,beq_iff_eq]; omega
    subst hb5
    clear hR h9 h10 h13 hr hq
    go_enter Tryz.func89,Tryz.ntmps89
    go_wp2_with (fail)
    go_ret
    exact ⟨by rw [HR.out]; rfl,HB0.out⟩
  have hb5 : b5 = false:=by rw [← e5,beq_eq_false_iff_ne]; omega
  subst hb5
  rw [if_neg h13] at hR
  obtain ⟨b6,e6⟩ : ∃ b,decide ((r : Int) < 32) = b:=⟨_,rfl⟩
  obtain ⟨b7,e7⟩ : ∃ b,((r : Int) == 127) = b:=⟨_,rfl⟩
  by_cases hc : r < 32 ∨ r = 127
  · have HR : Hid (R = [92,120] ++ hexF 8 r ++ [59]):=Lib.hid (by rw [← hR,if_pos hc])
    have hl:=hexF_len 8 r
    obtain ⟨t,ht⟩ : ∃ t : ByteArray,(⟨(hexF 8 r).toArray⟩ : ByteArray) = t:=⟨_,rfl⟩
    have hts : t.size ≤ 8:=by
      rw [← ht]
      show (hexF 8 r).toArray.size ≤ 8
      rw [List.size_toArray]
      omega
    rw [ht] at HX
    have HT:=Lib.hid ht
    have w1 : IntKind.i64.wrap (r : Int) = (r : Int):=by rw [IntKind.wrap_i64]; omega
    have hb : b6 = true ∨ (b6 = false∧b7 = true):=by
      rw [← e6,← e7]
      by_cases h : r < 32
      · exact .inl (decide_eq_true (by omega))
      · exact .inr ⟨decide_eq_false (by omega),by rw [beq_iff_eq]; omega⟩
    clear hR h9 h10 h13 hr hq hc hl ht
    rcases hb with rfl | ⟨rfl,rfl⟩
    all_goals
      go_enter Tryz.func89,Tryz.ntmps89
      go_wp2_with (fail)
      refine HX.out.mono ?_
      rintro e w1 ⟨rfl,hb1⟩
      go_wp2_with (fail)
      go_ret
      exact ⟨by rw [HR.out,← HT.out]; rfl,hb1⟩
  · have HR : Hid (R = encL r):=Lib.hid (by rw [← hR,if_neg hc])
    have hb6 : b6 = false:=by rw [← e6]; exact decide_eq_false (by omega)
    have hb7 : b7 = false:=by rw [← e7,beq_eq_false_iff_ne]; omega
    subst hb6 hb7
    clear hR h9 h10 h13 hr hq hc
    go_enter Tryz.func89,Tryz.ntmps89
    go_wp2_with (fail)
    go_ret
    exact ⟨by rw [HR.out,← HO.out]; rfl,HB0.out⟩
end LM
namespace LM
attribute [local go_sem] run_store_flt
abbrev quoteL (s : ByteArray) : List UInt8:=[34] ++ quoteF s.size s.data.toList ++ [34]
theorem dwtext_any (b : Nat) (cs : List UInt8) (s : ByteArray) (w : World) (hr : WR b cs w) (hdb : ∀ W,Below b w W → DB W) (hs : s.size ≤ 1000000) (hl : cs.length ≤ 100000000000) :
    Calls Tryz.prog 74 #[.pointer (some ⟨b,0,none⟩),.string s] w (Wrote b cs (quoteL s) w):=by
  have H1:=Lib.hid (wrstr_any b cs ⟨#[34]⟩ w hr (by show _ + 1 ≤ _; omega))
  have hbw:=hr.2
  have HDB:=Lib.hid hdb
  obtain ⟨ALL,hALL⟩ : ∃ ALL,quoteF s.size s.data.toList = ALL:=⟨_,rfl⟩
  have hAL : ALL.length ≤ 11000000:=by
    have:=quoteF_len s.size s.data.toList
    rw [hALL] at this
    omega
  have HQ : Hid (quoteL s = [34] ++ ALL ++ [34]):=Lib.hid (by unfold quoteL; rw [hALL])
  have HALL:=Lib.hid hALL
  clear hr hdb hALL
  go_enter Tryz.func74,Tryz.ntmps74
  go_wp2_with (fail)
  refine H1.out.mono ?_
  rintro e w1 ⟨⟨v,rfl⟩,h1,h2,h3⟩
  have B1:=Lib.hid h1
  have B2:=Lib.hid h2
  have B3:=Lib.hid h3
  clear h1 h2 h3
  have hlt:=B1.out.2
  have hws : w.heap.size ≤ w1.heap.size:=B2.out.size
  go_wp2_with (fail)
  obtain ⟨WI,hWI⟩ : ∃ WI,w1.iter s 0 = WI:=⟨_,rfl⟩
  have hbi : Below w1.heap.size w1 WI:=by rw [← hWI]; exact below_iterD w1 s 0
  have hit : WI.heap[w1.heap.size]? = some (.stringIter s 0):=by rw [← hWI]; exact World.iter_heap w1 s 0
  have I1:=Lib.hid (B1.out.below hbi)
  have I2:=Lib.hid (bel_trans (B:=b) B2.out hbi (by omega))
  have I3:=Lib.hid (B3.out.trans (keeps8_below (B:=b + 1) hbi))
  have IT:=Lib.hid hit
  rw [hWI]
  clear hbi hit hWI
  go_loopg [5] (s.size + 1) (fun kk _ wr=>Below b w wr∧Keeps8 (b + 1) w wr∧∃ (pos : Nat) (done : List UInt8),s.size ≤ pos + kk - 1∧1 ≤ kk∧wr.heap[w1.heap.size]? = some (.stringIter s pos)∧WR b (cs ++ [34] ++ done) wr∧ALL = done ++ quoteF (kk - 1) (s.data.toList.drop pos))
  case atStart=>exact ⟨I2.out,I3.out,0,[],by omega,by omega,IT.out,by rw [List.append_nil]; exact I1.out,by rw [List.drop_zero,Nat.add_sub_cancel,List.nil_append]; exact HALL.out.symm⟩
  case round =>
    obtain ⟨r1,r2,pos,done,hfu,hk1,r3,r4,r5⟩:=hrel
    obtain ⟨kq,rfl⟩ : ∃ kq,gk = kq + 1:=⟨gk - 1,by omega⟩
    rw [Nat.add_sub_cancel] at r5
    have hdl2 : done.length ≤ 11000000:=by
      have:=congrArg List.length r5
      rw [List.length_append] at this
      omega
    by_cases hp : pos < s.size
    · have hne : s.data.toList.drop pos ≠ []:=by
        intro h0
        have:=congrArg List.length h0
        rw [List.length_drop,← Lib.size_eq] at this
        simp at this
        omega
      obtain ⟨kp,rfl⟩ : ∃ kp,kq = kp + 1:=⟨kq - 1,by omega⟩
      have hdl:=Lib.decodeL_drop s pos
      have hval:=dec_valid (s.data.toList.drop pos)
      have hwid:=Lib.decodeL_width (s.data.toList.drop pos)
      rw [quoteF,if_neg hne,hdl] at r5
      rw [hdl] at hval hwid
      obtain ⟨⟨r,d⟩,hrd⟩ : ∃ x,Utf8.decode s pos = x:=⟨_,rfl⟩
      rw [hrd] at r5 hval hwid
      simp only at r5 hval hwid
      rw [List.drop_drop] at r5
      obtain ⟨W2,hW2⟩ : ∃ W2,wr.iterAt w1.heap.size s (pos + d) = W2:=⟨_,rfl⟩
      have hnx : ∀ ty,(Instr.next (.pointer (some ⟨w1.heap.size,0,none⟩)) true ty).run Tryz.prog wr = .ok (.tuple #[.bool true,.int .i64 (pos : Int),.int .i32 (r : Int)]) W2:=fun ty=>by
        rw [Lib.run_next_any_at wr w1.heap.size s pos ty r3 hp,hrd,hW2]
      have q4 : WR b (cs ++ [34] ++ done) W2:=by rw [← hW2]; exact ⟨r4.1.iterAt r3 _,by rw [Lib.iterAt_size]; exact r4.2⟩
      have q3 : W2.heap[w1.heap.size]? = some (.stringIter s (pos + d)):=by rw [← hW2]; exact Lib.iterAt_heap wr w1.heap.size s pos (pos + d) r3
      have q1 : Below b w W2:=by rw [← hW2]; exact Lib.below_iterAt r1 (k:=w1.heap.size) (by omega) s (pos + d)
      have q2 : Keeps8 (b + 1) w W2:=by
        rw [← hW2]
        exact ⟨by rw [Lib.iterAt_size]; exact r2.size,fun k o hB hk ho=>by
          have hkl:=heap_lt hk
          rw [Lib.iterAt_other _ _ _ _ _ (by omega)]
          exact r2.same k o hB hk ho⟩
      have SI:=Lib.hid (dsignin_any r hval W2 (HDB.out _ q1))
      obtain ⟨st,hst⟩ : ∃ st,signT r = st:=⟨_,rfl⟩
      have hsl:=signT_len r
      rw [hst] at SI r5 hsl
      have Q1:=Lib.hid q1
      have Q2:=Lib.hid q2
      have Q3:=Lib.hid q3
      have Q4:=Lib.hid q4
      have R5:=Lib.hid r5
      have HWD:=Lib.hid hwid
      have FU:=Lib.hid hfu
      clear q1 q2 q3 q4 r1 r2 r3 r4 r5 hwid hval hrd hdl hne hst hW2 hfu
      go_wp2_with (fail)
      refine SI.out.mono ?_
      rintro e w2 ⟨rfl,hb2⟩
      have hbw2:=Q4.out.2
      have H2:=Lib.hid (wrstr_any b _ ⟨st.toArray⟩ _ (Q4.out.below hb2) (by
        simp only [List.length_append]
        have t1 : ([34] : List UInt8).length = 1:=rfl
        have t2 : (⟨st.toArray⟩ : ByteArray).size = st.length:=by show st.toArray.size = _; rw [List.size_toArray]
        omega))
      have C0:=Lib.hid (bel_trans (B:=b) Q1.out hb2 (by omega))
      have C2:=Lib.hid (Q2.out.trans (keeps8_below (B:=b + 1) hb2))
      have C3:=Lib.hid ((hb2.block _ (heap_lt Q3.out)).trans Q3.out)
      clear hb2
      go_wp2_with (fail)
      refine H2.out.mono ?_
      rintro e w3 ⟨⟨v3,rfl⟩,h1,h2,h3⟩
      have E1:=Lib.hid h1
      have E2:=Lib.hid (C0.out.trans h2)
      have E3:=Lib.hid (C2.out.trans h3)
      have E4:=Lib.hid (h3.same w1.heap.size _ (by omega) C3.out rfl)
      clear h1 h2 h3 hnx
      go_wp2_with (fail)
      go_roundg (kp + 1)
      case measure=>omega
      case rel=>exact ⟨E2.out,E3.out,pos + d,done ++ st,by have:=FU.out; have:=HWD.out; omega,by omega,E4.out,by have:=E1.out; rw [← List.append_assoc]; exact this,by rw [Nat.add_sub_cancel,List.append_assoc]; exact R5.out⟩
    · have hnx : ∀ ty,(Instr.next (.pointer (some ⟨w1.heap.size,0,none⟩)) true ty).run Tryz.prog wr = .ok (.tuple #[.bool false]) wr:=fun ty=>Lib.run_next_end_at wr w1.heap.size s pos ty r3 hp
      have hdn : ALL = done:=by
        have : s.data.toList.drop pos = []:=List.drop_eq_nil_of_le (by rw [← Lib.size_eq]; omega)
        rw [this,quoteF_nil,List.append_nil] at r5
        exact r5
      have H2:=Lib.hid (wrstr_any b _ ⟨#[34]⟩ _ r4 (by
        simp only [List.length_append]
        have t1 : ([34] : List UInt8).length = 1:=rfl
        show _ + 1 ≤ _
        omega))
      have R1:=Lib.hid r1
      have R2:=Lib.hid r2
      have HDN:=Lib.hid hdn
      clear r1 r2 r3 r4 r5 hdn hfu
      go_wp2_with (fail)
      refine H2.out.mono ?_
      rintro e w3 ⟨⟨v3,rfl⟩,h1,h2,h3⟩
      have C1:=Lib.hid h1
      have C2:=Lib.hid (R1.out.trans h2)
      have C3:=Lib.hid (R2.out.trans h3)
      clear h1 h2 h3 hnx
      go_wp2_with (fail)
      go_end0
      exact ⟨⟨_,rfl⟩,by rw [HQ.out,HDN.out]; have:=C1.out; simp only [List.append_assoc] at this ⊢; exact this,C2.out,C3.out⟩
end LM
namespace LM
theorem str_cat (a b : List UInt8) : (⟨a.toArray⟩ : ByteArray) ++ ⟨b.toArray⟩ = ⟨(a ++ b).toArray⟩:=by
  apply ByteArray.ext
  apply Array.toList_inj.1
  simp
end LM
end Go.Proofs.YtihbgghlnppkiaaGreatDoor
namespace Go.Proofs.YtihbgghlnppkiaaGreatDoor
open Go Go.Shelf Go.RowKit Go.Sort Go.Lib
namespace LM
theorem lsize (l : List UInt8) : (⟨l.toArray⟩ : ByteArray).size = l.length:=by
  show l.toArray.size = _
  rw [List.size_toArray]
theorem pointB_len (l : List UInt8) : (pointB l).length ≤ l.length + 2:=by
  unfold pointB
  split
  · omega
  · rw [List.length_append]
    exact Nat.le_refl _
end LM
end Go.Proofs.YtihbgghlnppkiaaGreatDoor
namespace Go.Proofs.YtihbgghlnppkiaaGreatDoor
open Go Go.RowKit
namespace LM
attribute [local go_sem] run_store_flt
theorem txF_len (lf : Hd → List UInt8) (dot fst : Bool) (h : Hd) (k r : Fr) : (txF lf dot fst (.cons h k r)).length = (if dot && r.isNil then ([32,46,32] : List UInt8) else if fst then [] else [32]).length + (txD lf h k).length + (txF lf dot false r).length:=by
  show (((if dot && r.isNil then ([32,46,32] : List UInt8) else if fst then [] else [32]) ++ txD lf h k) ++ txF lf dot false r).length = _
  rw [List.length_append,List.length_append]
end LM
namespace LM
attribute [local go_sem] run_store_flt
theorem dwrite_str2 (b : Nat) (w0 : World) (h : Hd) (hk : h.k = 3) (t : List UInt8) (hT : ∀ W cs,Below b w0 W → WR b cs W → cs.length + t.length ≤ 100000000000 → Calls Tryz.prog 74 #[.pointer (some ⟨b,0,none⟩),.string h.t] W (Wrote b cs t W)) : WriteC b w0 h 0 t:=by
  intro W cs hb hr hl
  obtain ⟨W0,hW0,hb0,hO,hs0⟩:=dat_block W h 0
  have hbw:=hr.2
  have A2:=Lib.hid (hb0.mono (Nat.le_of_lt hbw))
  have A3:=Lib.hid (keeps8_below (B:=b + 1) hb0)
  have H1:=Lib.hid (hT W0 cs (hb.trans A2.out) (hr.below hb0) hl)
  have HW0:=Lib.hid hW0
  have f0 : (h.k == 0) = false:=by rw [hk]; rfl
  have f1 : (h.k == 1) = false:=by rw [hk]; rfl
  have f2 : (h.k == 2) = false:=by rw [hk]; rfl
  have f3 : (h.k == 3) = true:=by rw [hk]; rfl
  have f4 : (h.k == 4) = false:=by rw [hk]; rfl
  have f5 : (h.k == 5) = false:=by rw [hk]; rfl
  have f6 : (h.k == 6) = false:=by rw [hk]; rfl
  have f7 : (h.k == 7) = false:=by rw [hk]; rfl
  clear hW0 hb0 hO hb hr hl hs0 hk hbw hT
  go_enter Tryz.func58,Tryz.ntmps58
  go_wp2_with (fail)
  rw [HW0.out]
  refine H1.out.mono ?_
  rintro e w1 ⟨⟨v,rfl⟩,h1,h2,h3⟩
  have B1:=Lib.hid h1
  have B2:=Lib.hid (A2.out.trans h2)
  have B3:=Lib.hid (A3.out.trans h3)
  clear h1 h2 h3
  go_wp2_with (fail)
  go_end0
  exact ⟨⟨_,rfl⟩,B1.out,B2.out,B3.out⟩
theorem dtruth_0 (w : World) : Calls Tryz.prog 72 #[.int .i64 0] w fun e w'=>e = .returned (.string ⟨#[35,102]⟩)∧w' = w:=by
  go_enter Tryz.func72,Tryz.ntmps72
  go_wp2_with (fail)
  go_ret
  exact ⟨by rfl,rfl⟩
theorem dwrite_bool0 (b : Nat) (w0 : World) (h : Hd) (hk : h.k = 1) (hn : h.n = 0) : WriteC b w0 h 0 [35,102]:=by
  intro W cs hb hr hl
  obtain ⟨W0,hW0,hb0,hO,hs0⟩:=dat_block W h 0
  have hbw:=hr.2
  have A2:=Lib.hid (hb0.mono (Nat.le_of_lt hbw))
  have A3:=Lib.hid (keeps8_below (B:=b + 1) hb0)
  have AR:=Lib.hid (hr.below hb0)
  have HT:=Lib.hid (show Calls Tryz.prog 72 #[.int .i64 h.n] W0 fun e w'=>e = .returned (.string ⟨#[35,102]⟩)∧Below W0.heap.size W0 w' by rw [hn]; exact (dtruth_0 W0).mono (by rintro e w' ⟨rfl,rfl⟩; exact ⟨rfl,Below.refl _ _⟩))
  have SZ:=Lib.hid (show cs.length + (⟨#[35,102]⟩ : ByteArray).size = cs.length + ([35,102] : List UInt8).length from rfl)
  have TL:=Lib.hid (show (⟨#[35,102]⟩ : ByteArray).data.toList = [35,102] from rfl)
  have HL:=Lib.hid hl
  have HW0:=Lib.hid hW0
  have HBW:=Lib.hid hbw
  have f0 : (h.k == 0) = false:=by rw [hk]; rfl
  have f1 : (h.k == 1) = true:=by rw [hk]; rfl
  have f2 : (h.k == 2) = false:=by rw [hk]; rfl
  have f3 : (h.k == 3) = false:=by rw [hk]; rfl
  have f4 : (h.k == 4) = false:=by rw [hk]; rfl
  have f5 : (h.k == 5) = false:=by rw [hk]; rfl
  have f6 : (h.k == 6) = false:=by rw [hk]; rfl
  have f7 : (h.k == 7) = false:=by rw [hk]; rfl
  clear hW0 hb0 hO hb hr hl hk hbw hn
  go_enter Tryz.func58,Tryz.ntmps58
  go_wp2_with (fail)
  rw [HW0.out]
  refine HT.out.mono ?_
  rintro e w1 ⟨rfl,hb1⟩
  have H1:=Lib.hid (wrstr_any b cs _ w1 (AR.out.below hb1) (Nat.le_trans (by rw [SZ.out]; exact Nat.le_refl _) (Nat.le_trans HL.out (by decide))))
  try rw [TL.out] at H1
  have A22:=Lib.hid (bel_trans (B:=b) A2.out hb1 (by have:=HBW.out; omega))
  have A32:=Lib.hid (A3.out.trans (keeps8_below (B:=b + 1) hb1))
  clear hb1
  go_wp2_with (fail)
  refine H1.out.mono ?_
  rintro e w2 ⟨⟨v,rfl⟩,h1,h2,h3⟩
  have B1:=Lib.hid h1
  have B2:=Lib.hid (A22.out.trans h2)
  have B3:=Lib.hid (A32.out.trans h3)
  clear h1 h2 h3
  go_wp2_with (fail)
  go_end0
  exact ⟨⟨_,rfl⟩,B1.out,B2.out,B3.out⟩
theorem dtruth_1 (w : World) : Calls Tryz.prog 72 #[.int .i64 1] w fun e w'=>e = .returned (.string ⟨#[35,116]⟩)∧w' = w:=by
  go_enter Tryz.func72,Tryz.ntmps72
  go_wp2_with (fail)
  go_ret
  exact ⟨by rfl,rfl⟩
theorem dwrite_bool1 (b : Nat) (w0 : World) (h : Hd) (hk : h.k = 1) (hn : h.n = 1) : WriteC b w0 h 0 [35,116]:=by
  intro W cs hb hr hl
  obtain ⟨W0,hW0,hb0,hO,hs0⟩:=dat_block W h 0
  have hbw:=hr.2
  have A2:=Lib.hid (hb0.mono (Nat.le_of_lt hbw))
  have A3:=Lib.hid (keeps8_below (B:=b + 1) hb0)
  have AR:=Lib.hid (hr.below hb0)
  have HT:=Lib.hid (show Calls Tryz.prog 72 #[.int .i64 h.n] W0 fun e w'=>e = .returned (.string ⟨#[35,116]⟩)∧Below W0.heap.size W0 w' by rw [hn]; exact (dtruth_1 W0).mono (by rintro e w' ⟨rfl,rfl⟩; exact ⟨rfl,Below.refl _ _⟩))
  have SZ:=Lib.hid (show cs.length + (⟨#[35,116]⟩ : ByteArray).size = cs.length + ([35,116] : List UInt8).length from rfl)
  have TL:=Lib.hid (show (⟨#[35,116]⟩ : ByteArray).data.toList = [35,116] from rfl)
  have HL:=Lib.hid hl
  have HW0:=Lib.hid hW0
  have HBW:=Lib.hid hbw
  have f0 : (h.k == 0) = false:=by rw [hk]; rfl
  have f1 : (h.k == 1) = true:=by rw [hk]; rfl
  have f2 : (h.k == 2) = false:=by rw [hk]; rfl
  have f3 : (h.k == 3) = false:=by rw [hk]; rfl
  have f4 : (h.k == 4) = false:=by rw [hk]; rfl
  have f5 : (h.k == 5) = false:=by rw [hk]; rfl
  have f6 : (h.k == 6) = false:=by rw [hk]; rfl
  have f7 : (h.k == 7) = false:=by rw [hk]; rfl
  clear hW0 hb0 hO hb hr hl hk hbw hn
  go_enter Tryz.func58,Tryz.ntmps58
  go_wp2_with (fail)
  rw [HW0.out]
  refine HT.out.mono ?_
  rintro e w1 ⟨rfl,hb1⟩
  have H1:=Lib.hid (wrstr_any b cs _ w1 (AR.out.below hb1) (Nat.le_trans (by rw [SZ.out]; exact Nat.le_refl _) (Nat.le_trans HL.out (by decide))))
  try rw [TL.out] at H1
  have A22:=Lib.hid (bel_trans (B:=b) A2.out hb1 (by have:=HBW.out; omega))
  have A32:=Lib.hid (A3.out.trans (keeps8_below (B:=b + 1) hb1))
  clear hb1
  go_wp2_with (fail)
  refine H1.out.mono ?_
  rintro e w2 ⟨⟨v,rfl⟩,h1,h2,h3⟩
  have B1:=Lib.hid h1
  have B2:=Lib.hid (A22.out.trans h2)
  have B3:=Lib.hid (A32.out.trans h3)
  clear h1 h2 h3
  go_wp2_with (fail)
  go_end0
  exact ⟨⟨_,rfl⟩,B1.out,B2.out,B3.out⟩
theorem pair_cat (l : List UInt8) : (⟨#[35,92]⟩ : ByteArray) ++ ⟨l.toArray⟩ = ⟨([35,92] ++ l).toArray⟩:=str_cat [35,92] l
theorem dwrite_char (b : Nat) (w0 : World) (h : Hd) (hk : h.k = 2) (n : Nat) (hn : h.n = (n : Int)) (hnn : n ≤ 1114111) (hD : ∀ W,Below b w0 W → DB W) : WriteC b w0 h 0 ([35,92] ++ nameL n):=by
  intro W cs hb hr hl
  obtain ⟨W0,hW0,hb0,hO,hs0⟩:=dat_block W h 0
  have hbw:=hr.2
  have A2:=Lib.hid (hb0.mono (Nat.le_of_lt hbw))
  have A3:=Lib.hid (keeps8_below (B:=b + 1) hb0)
  have AR:=Lib.hid (hr.below hb0)
  have HT:=Lib.hid (show Calls Tryz.prog 73 #[.int .i64 h.n] W0 fun e w'=>e = .returned (.string ⟨(nameL n).toArray⟩)∧Below W0.heap.size W0 w' by rw [hn]; exact dsname_any n hnn W0 (hD _ (hb.trans A2.out)))
  obtain ⟨tb,htb⟩ : ∃ tb : ByteArray,(⟨(nameL n).toArray⟩ : ByteArray) = tb:=⟨_,rfl⟩
  have hz : tb.size ≤ 20:=by rw [← htb,lsize]; exact nameL_len n
  rw [htb] at HT
  have PC:=Lib.hid (show (⟨#[35,92]⟩ : ByteArray) ++ tb = ⟨([35,92] ++ nameL n).toArray⟩ by rw [← htb]; exact pair_cat _)
  have SZ:=Lib.hid (show cs.length + ((⟨#[35,92]⟩ : ByteArray) ++ tb).size = cs.length + ([35,92] ++ nameL n).length by rw [PC.out,lsize])
  have TL:=Lib.hid (show ((⟨#[35,92]⟩ : ByteArray) ++ tb).data.toList = [35,92] ++ nameL n by rw [PC.out])
  clear htb
  have HL:=Lib.hid hl
  have HW0:=Lib.hid hW0
  have HBW:=Lib.hid hbw
  have f0 : (h.k == 0) = false:=by rw [hk]; rfl
  have f1 : (h.k == 1) = false:=by rw [hk]; rfl
  have f2 : (h.k == 2) = true:=by rw [hk]; rfl
  have f3 : (h.k == 3) = false:=by rw [hk]; rfl
  have f4 : (h.k == 4) = false:=by rw [hk]; rfl
  have f5 : (h.k == 5) = false:=by rw [hk]; rfl
  have f6 : (h.k == 6) = false:=by rw [hk]; rfl
  have f7 : (h.k == 7) = false:=by rw [hk]; rfl
  clear hW0 hb0 hO hb hr hl hk hbw hD hn
  go_enter Tryz.func58,Tryz.ntmps58
  go_wp2_with (fail)
  rw [HW0.out]
  refine HT.out.mono ?_
  rintro e w1 ⟨rfl,hb1⟩
  have H1:=Lib.hid (wrstr_any b cs _ w1 (AR.out.below hb1) (Nat.le_trans (by rw [SZ.out]; exact Nat.le_refl _) (Nat.le_trans HL.out (by decide))))
  try rw [TL.out] at H1
  have A22:=Lib.hid (bel_trans (B:=b) A2.out hb1 (by have:=HBW.out; omega))
  have A32:=Lib.hid (A3.out.trans (keeps8_below (B:=b + 1) hb1))
  clear hb1
  go_wp2_with (fail)
  refine H1.out.mono ?_
  rintro e w2 ⟨⟨v,rfl⟩,h1,h2,h3⟩
  have B1:=Lib.hid h1
  have B2:=Lib.hid (A22.out.trans h2)
  have B3:=Lib.hid (A32.out.trans h3)
  clear h1 h2 h3
  go_wp2_with (fail)
  go_end0
  exact ⟨⟨_,rfl⟩,B1.out,B2.out,B3.out⟩
end LM
namespace LM
attribute [local go_sem] run_store_flt
end LM
namespace LM
inductive KindOf : Value → Value → Prop
  | same (v : Value) : KindOf v v
  | int (a b : Int) : KindOf (.int .i64 a) (.int .i64 b)
  | limb (a b : Nat) : KindOf (.int .u32 (a : Int)) (.int .u32 (b : Int))
  | text (a b : ByteArray) : KindOf (.string a) (.string b)
structure Spt (W W' : World) : Prop where
  size : W.heap.size ≤ W'.heap.size
  frz : ∀ b,b < W.heap.size → ∀ i,W'.frozen? ⟨b,i,none⟩ = W.frozen? ⟨b,i,none⟩
  cell : ∀ b i v,b < W.heap.size → W.cell? ⟨b,i,none⟩ = some v → ∃ v',W'.cell? ⟨b,i,none⟩ = some v'∧KindOf v v'
end LM
namespace LM
end LM
namespace LM
def KidsAt (w : World) : Fr → Prop
  | .nil=>True
  | .cons h k r=>(Rd w h.A h.xs∧∃ b off,(0 < k.len → h.B = some ⟨b,off,none⟩)∧FAt w b off k)∧KidsAt w r
theorem Rd.grew {W W' : World} {A : Option Addr} {xs : List Nat} {g : Option Nat} (h : Rd W A xs) (hg : W.grownBy W' g) (ho : 0 < xs.length → ∀ ad,A = some ad → some ad.block ≠ g) : Rd W' A xs:=fun hx=>by
  obtain ⟨b,off,rfl,hb,hc⟩:=h hx
  exact ⟨b,off,rfl,Nat.lt_of_lt_of_le hb hg.size,fun k hk=>hg.cell (hc k hk) (ho hx ⟨b,off,Option.none⟩ rfl)⟩
def OffF (g : Option Nat) : Fr → Prop
  | .nil=>True
  | .cons h k r=>((0 < h.xs.length → ∀ ad,h.A = some ad → some ad.block ≠ g)∧(0 < k.len → ∀ ad,h.B = some ad → some ad.block ≠ g))∧OffF g k∧OffF g r
theorem FAt.keep {W W' : World} {g : Option Nat} (hg : W.grownBy W' g) : ∀ {fr : Fr} {b off : Nat},FAt W b off fr → OffF g fr → some b ≠ g → FAt W' b off fr:=by
  intro fr
  induction fr with
  | nil=>intro b off _ _ _; exact trivial
  | cons h k r ihk ihr =>
    intro b off hf ha hb
    obtain ⟨h1,⟨c0,c1,c2,c3,c4,c5,c6,c7⟩,h3,⟨b',off',h4,h5⟩,h6⟩:=hf
    refine ⟨Nat.lt_of_lt_of_le h1 hg.size,⟨hg.cell c0 hb,hg.cell c1 hb,hg.cell c2 hb,hg.cell c3 hb,hg.cell c4 hb,hg.cell c5 hb,hg.cell c6 hb,hg.cell c7 hb⟩,h3.grew hg ha.1.1,⟨b',off',h4,?_⟩,ihr h6 ha.2.2 hb⟩
    rcases Nat.eq_zero_or_pos k.len with h0 | hp
    · cases k with
      | nil=>exact trivial
      | cons x y z=>have h3 : z.len + 1 = 0:=h0; omega
    · exact ihk h5 ha.2.1 (ha.1.2 hp _ (h4 hp))
end LM
namespace LM
attribute [local go_sem] run_store_flt
end LM
namespace LM
theorem rightK_sub {nm : ByteArray → Bool} {d : Int} {h : Hd} {kids : Fr} {sub : Bool} (hr : rightK nm d h kids sub = true) : kids = .nil ∨ sub = true:=by
  cases kids with
  | nil=>exact .inl rfl
  | cons x y z =>
    refine .inr ?_
    unfold rightK elseB at hr
    rw [Bool.and_eq_true] at hr
    obtain ⟨h1,h2⟩:=hr
    have hl : (((Fr.cons x y z).len : Nat) : Int) ≠ 0:=by show ((z.len + 1 : Nat) : Int) ≠ 0; omega
    have hb : ((((Fr.cons x y z).len : Nat) : Int) == 0) = false:=by simpa using hl
    rw [hb] at h1
    rw [Bool.and_eq_true] at h1
    have hk : 5 ≤ h.k∧h.k ≤ 7:=by simpa using h1.2
    rw [if_neg (by omega),if_neg (by omega),if_neg (by omega),if_neg (by omega),if_neg (by omega)] at h2
    rw [Bool.and_eq_true] at h2
    exact h2.2
end LM
namespace LM
attribute [local go_sem] run_store_flt
end LM
namespace LM
attribute [local go_sem] run_store_flt
end LM
namespace LM
end LM
namespace LM
attribute [local go_sem] run_store_flt
end LM
namespace LM
attribute [local go_sem] run_store_flt
end LM
namespace LM
attribute [local go_sem] run_store_flt
end LM
namespace LM
theorem deci_len2 {x : Int} (hx : ¬ BigI x) : (decI x).length ≤ 618:=by
  have h:=(dec_fits (u:=x.natAbs) hx).2
  unfold decI
  split
  · rw [List.length_cons]; omega
  · omega
end LM
end Go.Proofs.YtihbgghlnppkiaaGreatDoor
namespace Go.Proofs.YtihbgghlnppkiaaGreatDoor
open Go Go.RowKit Go.ChangeShapes Go.WideShapes
namespace LM
section
variable {H : Type} {enc : TypeId × Value → H} {w : World} {base : Nat} {held : Bool}
end
end LM
namespace LM
section
variable {H : Type} {enc : TypeId × Value → H} {w : World} {base : Nat} {held : Bool}
abbrev insL3 (x : Ins) : List Value:=[.int .i64 x.op,.int .i64 x.a,.int .i64 x.b]
def InsR (x : Ins) : Prop:=(-9223372036854775808 ≤ x.op∧x.op ≤ 9223372036854775807)∧(-9223372036854775808 ≤ x.a∧x.a ≤ 9223372036854775807)∧(-9223372036854775808 ≤ x.b∧x.b ≤ 9223372036854775807)
theorem open_ins (n : Nat) (cl : List Value) (y : DataW H × List MemPlace) (h : DataW.trod enc Tryz.prog w 0 (fun _=>true) held n 41 cl = some y) : ∃ x,cl = insL3 x∧InsR x:=by
  obtain ⟨y0,y1,y2,m,rfl,hl,h0,h1,h2⟩:=Go.Deep.trod_struct3 Tryz.underlying41 h
  have hci : Tryz.prog.cellsOf 3 = 1:=by kernel_rfl
  have hcx : Tryz.prog.cellsOf 41 = 3:=by kernel_rfl
  rw [hcx] at hl
  obtain ⟨c0,c1,c2,rfl⟩ : ∃ c0 c1 c2,cl = [c0,c1,c2]:=by
    match cl,hl with
    | [c0,c1,c2],_=>exact ⟨c0,c1,c2,rfl⟩
  obtain ⟨z0,e0,-,w0⟩:=DataW.trod_int Tryz.underlying3 h0
  obtain ⟨z1,e1,-,w1⟩:=DataW.trod_int Tryz.underlying3 h1
  obtain ⟨z2,e2,-,w2⟩:=DataW.trod_int Tryz.underlying3 h2
  simp [hci] at e0 e1 e2
  exact ⟨⟨z0,z1,z2⟩,by rw [e0,e1,e2],int_range w0,int_range w1,int_range w2⟩
end
end LM
namespace LM
section
variable {H : Type} {enc : TypeId × Value → H} {w : World} {base : Nat} {held : Bool}
abbrev prL7 (p : Prh) : List Value:=[.string p.nm,.int .i64 p.pa,.bool p.rs,.int .i64 p.sl,.int .i64 p.de,.int .i64 p.fr,.slice p.B p.code.length p.cap]
def PrR (w : World) (p : Prh) : Prop:=PrV w p∧(p.code.length ≤ p.cap∧p.cap ≤ 9223372036854775807)∧(∀ x ∈ p.code,InsR x)∧p.nm.size ≤ 9223372036854775807 ∧
  (-9223372036854775808 ≤ p.pa∧p.pa ≤ 9223372036854775807)∧(-9223372036854775808 ≤ p.sl∧p.sl ≤ 9223372036854775807)∧(-9223372036854775808 ≤ p.de∧p.de ≤ 9223372036854775807)∧(-9223372036854775808 ≤ p.fr∧p.fr ≤ 9223372036854775807)
structure Cod.Raw (w : World) (c : Cod) : Prop where
  ps : c.ps.length ≤ c.pc∧c.pc ≤ 9223372036854775807
  kids : c.kids.len ≤ c.cc∧c.cc ≤ 9223372036854775807
  gs : c.gs.length ≤ c.gc∧c.gc ≤ 9223372036854775807
  pr : ∀ p ∈ c.ps,PrR w p
  raw : c.kids.Raw
end
end LM
namespace LM
structure Closed {H : Type} (Q : TypeId → DataW H → Prop) (B : Nat) : Prop where
  sl : ∀ {t e : TypeId} {es sp : List (DataW H)},Tryz.prog.underlying t = some (.slice e) → Q t (.slice es sp) → es.length ≤ B∧∀ d ∈ es,Q e d
  st : ∀ {t : TypeId} {fs : Array Field} {ds : List (DataW H)},Tryz.prog.underlying t = some (.struct fs) → Q t (.agg ds) → ∀ (i : Nat) f d,fs[i]? = some f → ds[i]? = some d → Q f.type d
  tx : ∀ {t : TypeId} {b : List UInt8},Q t (.lit (.string b)) → b.length ≤ B
def BdF (B : Nat) : Fr → Prop
  | .nil=>True
  | .cons h k r=>(h.t.size ≤ B∧h.xs.length ≤ B)∧BdF B k∧BdF B r
section
variable {H : Type} {enc : TypeId × Value → H} {w : World} {held : Bool} {Q : TypeId → DataW H → Prop} {B : Nat}
theorem len_of {t e : TypeId} (C : Closed Q B) (ht : Tryz.prog.underlying t = some (.slice e)) {n : Nat} {c : Value} {y : DataW H × List MemPlace} (h : DataW.trod enc Tryz.prog w 0 (fun _=>true) held n t [c] = some y) (hq : Q t y.1)
    {A : Option Addr} {l cap : Nat} (hc : c = .slice A l cap) : l ≤ B:=by
  subst hc
  rcases DataW.trod_slice ht h with ⟨hcs,_⟩ | ⟨a,len,cap,elems,rest,n2,hn2,hcs,rfl,_,hlc,hcapm,hel,hall,hsp,_⟩
  · have : l = 0:=by simp at hcs; exact hcs.2.1
    omega
  · have h1 : l = len:=by simp at hcs; exact hcs.2.1
    have h2:=(C.sl ht hq).1
    rw [List.length_map] at h2
    omega
theorem text_of {t : TypeId} (C : Closed Q B) (ht : Tryz.prog.underlying t = some .string) {n : Nat} {s : ByteArray} {y : DataW H × List MemPlace} (h : DataW.trod enc Tryz.prog w 0 (fun _=>true) held n t [.string s] = some y) (hq : Q t y.1) : s.size ≤ B:=by
  obtain ⟨s',e,rfl,-⟩:=DataW.trod_string ht h
  obtain rfl : s = s':=by simpa using e
  rw [Lib.size_eq]
  exact C.tx hq
theorem trod_struct2q {P : Program} {spare : Nat → Bool} {base : Nat} {t : TypeId} {f0 f1 : Field} {fuel : Nat} {cs : List Value} {x : DataW H × List MemPlace} (ht : P.underlying t = some (.struct #[f0,f1])) (h : DataW.trod enc P w base spare held fuel t cs = some x) :
    ∃ y0 y1 n,fuel = n + 1∧x.1 = .agg [y0.1,y1.1]∧DataW.trod enc P w base spare held n f0.type ((cs.drop f0.offset).take (P.cellsOf f0.type)) = some y0∧DataW.trod enc P w base spare held n f1.type ((cs.drop f1.offset).take (P.cellsOf f1.type)) = some y1:=by
  obtain ⟨xs,n,hn,rfl,hl,hlen,hf⟩:=DataW.trod_struct ht h
  match xs,hlen with
  | [y0,y1],_=>exact ⟨y0,y1,n,hn,rfl,by simpa using hf 0 f0 rfl,by simpa using hf 1 f1 rfl⟩
theorem trod_struct5q {P : Program} {spare : Nat → Bool} {t : TypeId} {f0 f1 f2 f3 f4 : Field} {fuel : Nat} {cs : List Value} {x : DataW H × List MemPlace} (ht : P.underlying t = some (.struct #[f0,f1,f2,f3,f4])) (h : DataW.trod enc P w 0 spare held fuel t cs = some x) :
    ∃ y0 y1 y2 y3 y4 n,fuel = n + 1∧x.1 = .agg [y0.1,y1.1,y2.1,y3.1,y4.1]∧cs.length = P.cellsOf t∧DataW.trod enc P w 0 spare held n f0.type ((cs.drop f0.offset).take (P.cellsOf f0.type)) = some y0 ∧
      DataW.trod enc P w 0 spare held n f1.type ((cs.drop f1.offset).take (P.cellsOf f1.type)) = some y1∧DataW.trod enc P w 0 spare held n f2.type ((cs.drop f2.offset).take (P.cellsOf f2.type)) = some y2 ∧
      DataW.trod enc P w 0 spare held n f3.type ((cs.drop f3.offset).take (P.cellsOf f3.type)) = some y3∧DataW.trod enc P w 0 spare held n f4.type ((cs.drop f4.offset).take (P.cellsOf f4.type)) = some y4:=by
  obtain ⟨xs,n,hn,rfl,hl,hlen,hf⟩:=DataW.trod_struct ht h
  match xs,hlen with
  | [y0,y1,y2,y3,y4],_=>exact ⟨y0,y1,y2,y3,y4,n,hn,rfl,hl,by simpa using hf 0 f0 rfl,by simpa using hf 1 f1 rfl,by simpa using hf 2 f2 rfl,by simpa using hf 3 f3 rfl,by simpa using hf 4 f4 rfl⟩
theorem trod_struct7q {P : Program} {spare : Nat → Bool} {t : TypeId} {f0 f1 f2 f3 f4 f5 f6 : Field} {fuel : Nat} {cs : List Value} {x : DataW H × List MemPlace} (ht : P.underlying t = some (.struct #[f0,f1,f2,f3,f4,f5,f6])) (h : DataW.trod enc P w 0 spare held fuel t cs = some x) :
    ∃ y0 y1 y2 y3 y4 y5 y6 n,fuel = n + 1∧x.1 = .agg [y0.1,y1.1,y2.1,y3.1,y4.1,y5.1,y6.1]∧cs.length = P.cellsOf t∧DataW.trod enc P w 0 spare held n f0.type ((cs.drop f0.offset).take (P.cellsOf f0.type)) = some y0 ∧
      DataW.trod enc P w 0 spare held n f1.type ((cs.drop f1.offset).take (P.cellsOf f1.type)) = some y1∧DataW.trod enc P w 0 spare held n f2.type ((cs.drop f2.offset).take (P.cellsOf f2.type)) = some y2 ∧
      DataW.trod enc P w 0 spare held n f3.type ((cs.drop f3.offset).take (P.cellsOf f3.type)) = some y3∧DataW.trod enc P w 0 spare held n f4.type ((cs.drop f4.offset).take (P.cellsOf f4.type)) = some y4 ∧
      DataW.trod enc P w 0 spare held n f5.type ((cs.drop f5.offset).take (P.cellsOf f5.type)) = some y5∧DataW.trod enc P w 0 spare held n f6.type ((cs.drop f6.offset).take (P.cellsOf f6.type)) = some y6:=by
  obtain ⟨xs,n,hn,rfl,hl,hlen,hf⟩:=DataW.trod_struct ht h
  match xs,hlen with
  | [y0,y1,y2,y3,y4,y5,y6],_=>exact ⟨y0,y1,y2,y3,y4,y5,y6,n,hn,rfl,hl,by simpa using hf 0 f0 rfl,by simpa using hf 1 f1 rfl,by simpa using hf 2 f2 rfl,by simpa using hf 3 f3 rfl,by simpa using hf 4 f4 rfl,by simpa using hf 5 f5 rfl,by simpa using hf 6 f6 rfl⟩
theorem limbs_of (C : Closed Q B) {fuel : Nat} {c0 c1 c2 : Value} {A : Option Addr} {l c : Nat} {y : DataW H × List MemPlace} (hf : DataW.trod enc Tryz.prog w 0 (fun _=>true) held fuel 63 [c0,c1,c2,.slice A l c] = some y) (hq : Q 63 y.1) : l ≤ B:=by
  obtain ⟨y0,y1,y2,n,hx,_,h0,h1,h2⟩:=Go.Deep.trod_struct3 Tryz.underlying63 hf
  have g2 : DataW.trod enc Tryz.prog w 0 (fun _=>true) held n 61 [c2,.slice A l c] = some y2:=h2
  have q2 : Q 61 y2.1:=C.st Tryz.underlying63 (by rw [hx] at hq; exact hq) 2 _ _ rfl rfl
  obtain ⟨z0,z1,n',-,hz,k0,k1⟩:=trod_struct2q Tryz.underlying61 g2
  have e1 : DataW.trod enc Tryz.prog w 0 (fun _=>true) held n' 59 [.slice A l c] = some z1:=k1
  exact len_of C Tryz.underlying59 e1 (C.st Tryz.underlying61 (by rw [hz] at q2; exact q2) 1 _ _ rfl rfl) rfl
theorem open_datq (C : Closed Q B) : ∀ (fuel : Nat) (cs : List Value) (x : DataW H × List MemPlace),DataW.trod enc Tryz.prog w 0 (fun _=>true) held fuel 65 cs = some x → Q 65 x.1 →
    ∃ h kids,cs = head8 h kids.len∧DatV w h kids∧h.Raw kids.len∧kids.Raw∧(h.t.size ≤ B∧h.xs.length ≤ B)∧BdF B kids:=by
  intro fuel
  induction fuel using Nat.strongRecOn with
  | ind fuel ih =>
    intro cs x hf hq
    obtain ⟨y0,y1,y2,y3,y4,n,rfl,hx5,hl,h0,h1,h2,h3,h4⟩:=trod_struct5q Tryz.underlying65 hf
    have hl8 : cs.length = 8:=hl.trans (by kernel_rfl)
    match cs,hl8 with
    | [c0,c1,c2,c3,c4,c5,c6,c7],_ =>
      have g0 : DataW.trod enc Tryz.prog w 0 (fun _=>true) held n 3 [c0] = some y0:=h0
      have g1 : DataW.trod enc Tryz.prog w 0 (fun _=>true) held n 3 [c1] = some y1:=h1
      have g2 : DataW.trod enc Tryz.prog w 0 (fun _=>true) held n 63 [c2,c3,c4,c5] = some y2:=h2
      have g3 : DataW.trod enc Tryz.prog w 0 (fun _=>true) held n 9 [c6] = some y3:=h3
      have g4 : DataW.trod enc Tryz.prog w 0 (fun _=>true) held n 23 [c7] = some y4:=h4
      obtain ⟨k,hk,-,hkw⟩:=DataW.trod_int Tryz.underlying3 g0
      obtain ⟨nn,hn,-,hnw⟩:=DataW.trod_int Tryz.underlying3 g1
      obtain ⟨fl,f,s,A,c,xs,rfl,rfl,rfl,rfl,hff,hlm,hrd,hxc,hcm,hnA,hsA⟩:=open_num4 g2
      rw [hx5] at hq
      have q2:=C.st Tryz.underlying65 hq 2 _ _ rfl rfl
      have q3:=C.st Tryz.underlying65 hq 3 _ _ rfl rfl
      have q4:=C.st Tryz.underlying65 hq 4 _ _ rfl rfl
      have bl:=limbs_of C g2 q2
      obtain ⟨t,ht,-,htm⟩:=DataW.trod_string Tryz.underlying9 g3
      obtain rfl : c0 = .int .i64 k:=by simpa using hk
      obtain rfl : c1 = .int .i64 nn:=by simpa using hn
      obtain rfl : c6 = .string t:=by simpa using ht
      have bt:=text_of C Tryz.underlying9 g3 q3
      rcases DataW.trod_slice Tryz.underlying23 g4 with ⟨hcs,_⟩ | ⟨a,len,cap,elems,rest,n2,hn2,hcs,hy4,_,hlc,hcapm,hel,hall,hsp,_⟩
      · obtain rfl : c7 = .slice none 0 0:=by simpa using hcs
        exact ⟨⟨k,nn,fl,f,s,A,xs,c,t,none,0⟩,.nil,rfl,⟨hrd,0,0,fun h=>absurd h (Nat.lt_irrefl 0),trivial⟩,
          ⟨int_range hkw,int_range hnw,hff,hlm,⟨hxc,hcm⟩,hnA,htm,⟨Nat.le_refl _,by show (0 : Nat) ≤ 9223372036854775807; decide⟩,fun _=>⟨rfl,rfl⟩,hsA,fun ad e=>(by cases e)⟩,trivial,⟨bt,bl⟩,trivial⟩
      · obtain rfl : c7 = .slice (some a) len cap:=by simpa using hcs
        have hce : Tryz.prog.cellsOf 65 = 8:=by kernel_rfl
        rw [hce] at hall hsp
        have q5:=(C.sl Tryz.underlying23 (by rw [hy4] at q4; exact q4)).2
        have hel1 : ∀ i,i < len → ∃ cl e,w.cells? 0 (a.add (i * 8)) 8 = some cl∧DataW.trod enc Tryz.prog w 0 (fun _=>true) held n2 65 cl = some e∧Q 65 e.1:=fun i hi=>by
          have h5:=hall i hi
          have h6 : i < elems.length:=by omega
          rw [List.getElem?_eq_getElem h6] at h5
          obtain ⟨cl,h7,h8⟩:=Option.bind_eq_some_iff.1 h5
          exact ⟨cl,_,h7,h8,q5 _ (List.mem_map.2 ⟨_,List.getElem_mem h6,rfl⟩)⟩
        have hx0 : a.add 0 = a:=by simp [Addr.add]
        have hspot : 0 < cap → a.spot = none:=fun h=>by
          have hc : ∃ cl,w.cells? 0 a 8 = some cl∧cl.length = 8:=by
            rcases Nat.eq_zero_or_pos len with h9 | h9
            · obtain ⟨hr,hr2⟩:=hsp rfl
              have h5:=hr2 0 (by omega)
              have h6 : 0 < rest.length:=by omega
              rw [List.getElem?_eq_getElem h6,h9,Nat.add_zero,Nat.zero_mul,hx0] at h5
              obtain ⟨cl,h7,h8⟩:=Option.bind_eq_some_iff.1 h5
              exact ⟨cl,h7,(World.cells?_some h7).2.1⟩
            · obtain ⟨cl,e,h7,h8,-⟩:=hel1 0 h9
              rw [Nat.zero_mul,hx0] at h7
              exact ⟨cl,h7,(World.cells?_some h7).2.1⟩
          obtain ⟨cl,h7,h8⟩:=hc
          have h9:=(World.cells?_some h7).2.2 0 (by decide)
          rw [hx0,List.getElem?_eq_getElem (by omega)] at h9
          have:=(spot_none h9).1
          rw [this]
        have F : ∀ j,j ≤ len → ∃ fr : Fr,fr.len = j∧(fr.Raw∧BdF B fr)∧(0 < len → FAt w a.block (a.off + (len - j) * 8) fr):=by
          intro j
          induction j with
          | zero=>intro _; exact ⟨.nil,rfl,⟨trivial,trivial⟩,fun _=>trivial⟩
          | succ j ihj =>
            intro hj
            obtain ⟨fr,hf1,⟨hf2,hf4⟩,hf3⟩:=ihj (by omega)
            obtain ⟨cl,e,hcl,he,hqe⟩:=hel1 (len - (j + 1)) (by omega)
            obtain ⟨h',kids',rfl,hv,hr1,hr2,hb1,hb2⟩:=ih n2 (by omega) cl e he hqe
            have hsp0:=hspot (by omega)
            have hadd : ∀ i,(a.add ((len - (j + 1)) * 8)).add i = ⟨a.block,a.off + (len - (j + 1)) * 8 + i,none⟩:=fun i=>by
              obtain ⟨ab,ao,asp⟩:=a
              dsimp only at hsp0
              subst hsp0
              rw [Lib.add_plain,Lib.add_plain]
            have hcell : ∀ i u,(head8 h' kids'.len)[i]? = some u → w.cell? ⟨a.block,a.off + (len - (j + 1)) * 8 + i,none⟩ = some u:=fun i u hu=>by
              have hi : i < 8:=(List.getElem?_eq_some_iff.1 hu).1
              have h9:=(World.cells?_some hcl).2.2 i hi
              rw [hadd,hu] at h9
              exact h9
            refine ⟨.cons h' kids' fr,by show fr.len + 1 = j + 1; rw [hf1],⟨⟨hr1,hr2,hf2⟩,⟨hb1,hb2,hf4⟩⟩,fun h10=>?_⟩
            have hc0:=hcell 0 _ rfl
            refine ⟨(spot_none hc0).2,⟨hcell 0 _ rfl,hcell 1 _ rfl,hcell 2 _ rfl,hcell 3 _ rfl,hcell 4 _ rfl,hcell 5 _ rfl,hcell 6 _ rfl,hcell 7 _ rfl⟩,hv.xs,hv.items,?_⟩
            have h11:=hf3 h10
            rw [show a.off + (len - (j + 1)) * 8 + 8 = a.off + (len - j) * 8 from by omega]
            exact h11
        obtain ⟨fr,hf1,⟨hf2,hf4⟩,hf3⟩:=F len (Nat.le_refl _)
        rw [Nat.sub_self,Nat.zero_mul,Nat.add_zero] at hf3
        refine ⟨⟨k,nn,fl,f,s,A,xs,c,t,some a,cap⟩,fr,by rw [hf1]; rfl,⟨hrd,a.block,a.off,fun h=>?_,?_⟩,
          ⟨int_range hkw,int_range hnw,hff,hlm,⟨hxc,hcm⟩,hnA,htm,⟨by rw [hf1]; exact hlc,by unfold maxLen at hcapm; exact Nat.le_trans hcapm (by decide)⟩,fun e=>(by cases e),hsA,fun ad e h=>?_⟩,hf2,⟨bt,bl⟩,hf4⟩
        · have:=hspot (by omega)
          obtain ⟨ab,ao,asp⟩:=a
          dsimp only at this
          subst this
          rfl
        · rcases Nat.eq_zero_or_pos len with h9 | h9
          · cases fr with
            | nil=>exact trivial
            | cons x y z=>exact absurd hf1 (by show ¬ z.len + 1 = len; omega)
          · exact hf3 h9
        · injection e with e
          subst e
          exact hspot h
theorem open_itemsq (C : Closed Q B) {n : Nat} {c : Value} {y : DataW H × List MemPlace} (h4 : DataW.trod enc Tryz.prog w 0 (fun _=>true) held n 23 [c] = some y) (q4 : Q 23 y.1) :
    ∃ A fr cap,c = .slice A (Fr.len fr) cap∧(fr.Raw∧BdF B fr)∧(∃ b off,(0 < fr.len → A = some ⟨b,off,none⟩)∧FAt w b off fr)∧(fr.len ≤ cap∧cap ≤ 9223372036854775807)∧(A = none → fr.len = 0∧cap = 0)∧∀ ad,A = some ad → 0 < cap → ad.spot = none:=by
  rcases DataW.trod_slice Tryz.underlying23 h4 with ⟨hcs,_⟩ | ⟨a,len,cap,elems,rest,n2,hn2,hcs,hy4,_,hlc,hcapm,hel,hall,hsp,_⟩
  · obtain rfl : c = .slice none 0 0:=by simpa using hcs
    exact ⟨none,.nil,0,rfl,⟨trivial,trivial⟩,⟨0,0,fun h=>absurd h (Nat.lt_irrefl 0),trivial⟩,⟨Nat.le_refl _,by decide⟩,fun _=>⟨rfl,rfl⟩,fun ad e=>(by cases e)⟩
  · obtain rfl : c = .slice (some a) len cap:=by simpa using hcs
    have hce : Tryz.prog.cellsOf 65 = 8:=by kernel_rfl
    rw [hce] at hall hsp
    have q5:=(C.sl Tryz.underlying23 (by rw [hy4] at q4; exact q4)).2
    have hel1 : ∀ i,i < len → ∃ cl e,w.cells? 0 (a.add (i * 8)) 8 = some cl∧DataW.trod enc Tryz.prog w 0 (fun _=>true) held n2 65 cl = some e∧Q 65 e.1:=fun i hi=>by
      have h5:=hall i hi
      have h6 : i < elems.length:=by omega
      rw [List.getElem?_eq_getElem h6] at h5
      obtain ⟨cl,h7,h8⟩:=Option.bind_eq_some_iff.1 h5
      exact ⟨cl,_,h7,h8,q5 _ (List.mem_map.2 ⟨_,List.getElem_mem h6,rfl⟩)⟩
    have hx0 : a.add 0 = a:=by simp [Addr.add]
    have hspot : 0 < cap → a.spot = none:=fun h=>by
      have hc : ∃ cl,w.cells? 0 a 8 = some cl∧cl.length = 8:=by
        rcases Nat.eq_zero_or_pos len with h9 | h9
        · obtain ⟨hr,hr2⟩:=hsp rfl
          have h5:=hr2 0 (by omega)
          have h6 : 0 < rest.length:=by omega
          rw [List.getElem?_eq_getElem h6,h9,Nat.add_zero,Nat.zero_mul,hx0] at h5
          obtain ⟨cl,h7,h8⟩:=Option.bind_eq_some_iff.1 h5
          exact ⟨cl,h7,(World.cells?_some h7).2.1⟩
        · obtain ⟨cl,e,h7,h8,-⟩:=hel1 0 h9
          rw [Nat.zero_mul,hx0] at h7
          exact ⟨cl,h7,(World.cells?_some h7).2.1⟩
      obtain ⟨cl,h7,h8⟩:=hc
      have h9:=(World.cells?_some h7).2.2 0 (by decide)
      rw [hx0,List.getElem?_eq_getElem (by omega)] at h9
      have:=(spot_none h9).1
      rw [this]
    have F : ∀ j,j ≤ len → ∃ fr : Fr,fr.len = j∧(fr.Raw∧BdF B fr)∧(0 < len → FAt w a.block (a.off + (len - j) * 8) fr):=by
      intro j
      induction j with
      | zero=>intro _; exact ⟨.nil,rfl,⟨trivial,trivial⟩,fun _=>trivial⟩
      | succ j ihj =>
        intro hj
        obtain ⟨fr,hf1,⟨hf2,hf4⟩,hf3⟩:=ihj (by omega)
        obtain ⟨cl,e,hcl,he,hqe⟩:=hel1 (len - (j + 1)) (by omega)
        obtain ⟨h',kids',rfl,hv,hr1,hr2,hb1,hb2⟩:=open_datq C n2 cl e he hqe
        have hsp0:=hspot (by omega)
        have hadd : ∀ i,(a.add ((len - (j + 1)) * 8)).add i = ⟨a.block,a.off + (len - (j + 1)) * 8 + i,none⟩:=fun i=>by
          obtain ⟨ab,ao,asp⟩:=a
          dsimp only at hsp0
          subst hsp0
          rw [Lib.add_plain,Lib.add_plain]
        have hcell : ∀ i u,(head8 h' kids'.len)[i]? = some u → w.cell? ⟨a.block,a.off + (len - (j + 1)) * 8 + i,none⟩ = some u:=fun i u hu=>by
          have hi : i < 8:=(List.getElem?_eq_some_iff.1 hu).1
          have h9:=(World.cells?_some hcl).2.2 i hi
          rw [hadd,hu] at h9
          exact h9
        refine ⟨.cons h' kids' fr,by show fr.len + 1 = j + 1; rw [hf1],⟨⟨hr1,hr2,hf2⟩,⟨hb1,hb2,hf4⟩⟩,fun h10=>?_⟩
        have hc0:=hcell 0 _ rfl
        refine ⟨(spot_none hc0).2,⟨hcell 0 _ rfl,hcell 1 _ rfl,hcell 2 _ rfl,hcell 3 _ rfl,hcell 4 _ rfl,hcell 5 _ rfl,hcell 6 _ rfl,hcell 7 _ rfl⟩,hv.xs,hv.items,?_⟩
        have h11:=hf3 h10
        rw [show a.off + (len - (j + 1)) * 8 + 8 = a.off + (len - j) * 8 from by omega]
        exact h11
    obtain ⟨fr,hf1,⟨hf2,hf4⟩,hf3⟩:=F len (Nat.le_refl _)
    rw [Nat.sub_self,Nat.zero_mul,Nat.add_zero] at hf3
    refine ⟨some a,fr,cap,by rw [hf1],⟨hf2,hf4⟩,⟨a.block,a.off,fun h=>?_,?_⟩,⟨by rw [hf1]; exact hlc,by unfold maxLen at hcapm; exact Nat.le_trans hcapm (by decide)⟩,fun e=>(by cases e),fun ad e h=>?_⟩
    · have:=hspot (by omega)
      obtain ⟨ab,ao,asp⟩:=a
      dsimp only at this
      subst this
      rfl
    · rcases Nat.eq_zero_or_pos len with h9 | h9
      · cases fr with
        | nil=>exact trivial
        | cons x y z=>exact absurd hf1 (by show ¬ z.len + 1 = len; omega)
      · exact hf3 h9
    · injection e with e
      subst e
      exact hspot h
theorem open_row_q {α : Type} (C : Closed Q B) (f : α → List Value) (k : Nat) (hk : 0 < k) {t e : TypeId} (ht : Tryz.prog.underlying t = some (.slice e)) (hce : Tryz.prog.cellsOf e = k) (P : α → Prop) (hfl : ∀ x,(f x).length = k)
    (op : ∀ (n : Nat) (cl : List Value) (y : DataW H × List MemPlace),DataW.trod enc Tryz.prog w 0 (fun _=>true) held n e cl = some y → Q e y.1 → ∃ x,cl = f x∧P x)
    {n : Nat} {c : Value} {y : DataW H × List MemPlace} (h4 : DataW.trod enc Tryz.prog w 0 (fun _=>true) held n t [c] = some y) (q4 : Q t y.1) :
    ∃ A xs cap,c = .slice A (List.length xs) cap∧(∀ x ∈ xs,P x)∧(∃ b off,(0 < xs.length → A = some ⟨b,off,none⟩)∧∀ (j : Nat) x,xs[j]? = some x → ∀ (i : Nat) v,(f x)[i]? = some v → b < w.heap.size∧w.cell? ⟨b,off + j * k + i,none⟩ = some v)∧(xs.length ≤ cap∧cap ≤ 9223372036854775807)∧xs.length ≤ B:=by
  rcases DataW.trod_slice ht h4 with ⟨hcs,_⟩ | ⟨a,len,cap,elems,rest,n2,hn2,hcs,hy4,_,hlc,hcapm,hel,hall,hsp,_⟩
  · obtain rfl : c = .slice none 0 0:=by simpa using hcs
    exact ⟨none,[],0,rfl,fun x hx=>absurd hx (by simp),⟨0,0,fun h=>absurd h (Nat.lt_irrefl 0),fun j x hj=>by simp at hj⟩,⟨Nat.le_refl _,by decide⟩,Nat.zero_le _⟩
  · obtain rfl : c = .slice (some a) len cap:=by simpa using hcs
    rw [hce] at hall
    have q5:=C.sl ht (by rw [hy4] at q4; exact q4)
    have hex : ∀ i,i < len → ∃ x,w.cells? 0 (a.add (i * k)) k = some (f x)∧P x:=fun i hi=>by
      have h5:=hall i hi
      have h6 : i < elems.length:=by omega
      rw [List.getElem?_eq_getElem h6] at h5
      obtain ⟨cl,h7,h8⟩:=Option.bind_eq_some_iff.1 h5
      obtain ⟨x,rfl,hp⟩:=op _ _ _ h8 (q5.2 _ (List.mem_map.2 ⟨_,List.getElem_mem h6,rfl⟩))
      exact ⟨x,h7,hp⟩
    have hx0 : a.add 0 = a:=by simp [Addr.add]
    have hspot : 0 < len → a.spot = none:=fun h=>by
      obtain ⟨x,h7,-⟩:=hex 0 h
      rw [Nat.zero_mul,hx0] at h7
      have h9:=(World.cells?_some h7).2.2 0 hk
      rw [hx0,List.getElem?_eq_getElem (by rw [hfl]; exact hk)] at h9
      have:=(spot_none h9).1
      rw [this]
    have hg : ∀ i : Fin len,w.cells? 0 (a.add (i.1 * k)) k = some (f (hex i.1 i.2).choose)∧P (hex i.1 i.2).choose:=fun i=>(hex i.1 i.2).choose_spec
    refine ⟨some a,List.ofFn fun i : Fin len=>(hex i.1 i.2).choose,cap,by rw [List.length_ofFn],fun x hx=>?_,⟨a.block,a.off,fun h=>?_,fun j x hj i v hi=>?_⟩,⟨by rw [List.length_ofFn]; exact hlc,by unfold maxLen at hcapm; exact Nat.le_trans hcapm (by decide)⟩,by rw [List.length_ofFn]; have:=q5.1; rw [List.length_map] at this; omega⟩
    · obtain ⟨i,rfl⟩:=List.mem_ofFn.1 hx
      exact (hg i).2
    · rw [List.length_ofFn] at h
      have:=hspot h
      obtain ⟨ab,ao,asp⟩:=a
      dsimp only at this
      subst this
      rfl
    · have hjl : j < len:=by have:=(List.getElem?_eq_some_iff.1 hj).1; rwa [List.length_ofFn] at this
      rw [List.getElem?_ofFn,dif_pos hjl] at hj
      have hx:=Option.some.inj hj
      have h1:=(hg ⟨j,hjl⟩).1
      rw [hx] at h1
      have hik : i < k:=by rw [← hfl x]; exact (List.getElem?_eq_some_iff.1 hi).1
      have h9:=(World.cells?_some h1).2.2 i hik
      have hs:=hspot (by omega)
      obtain ⟨ab,ao,asp⟩:=a
      dsimp only at hs
      subst hs
      rw [Lib.add_plain,Lib.add_plain,hi] at h9
      exact ⟨(spot_none h9).2,h9⟩
theorem open_prcq (C : Closed Q B) (n : Nat) (cl : List Value) (y : DataW H × List MemPlace) (h : DataW.trod enc Tryz.prog w 0 (fun _=>true) held n 35 cl = some y) (hq : Q 35 y.1) : ∃ x,cl = prL7 x∧PrR w x∧x.nm.size ≤ B∧x.code.length ≤ B:=by
  obtain ⟨y0,y1,y2,y3,y4,y5,y6,m,rfl,hx7,hl,h0,h1,h2,h3,h4,h5,h6⟩:=trod_struct7q Tryz.underlying35 h
  rw [hx7] at hq
  have q0:=C.st Tryz.underlying35 hq 0 _ _ rfl rfl
  have q6:=C.st Tryz.underlying35 hq 6 _ _ rfl rfl
  have hci : Tryz.prog.cellsOf 3 = 1:=by kernel_rfl
  have hcb : Tryz.prog.cellsOf 4 = 1:=by kernel_rfl
  have hcs : Tryz.prog.cellsOf 9 = 1:=by kernel_rfl
  have hcl : Tryz.prog.cellsOf 33 = 1:=by kernel_rfl
  have hcx : Tryz.prog.cellsOf 35 = 7:=by kernel_rfl
  rw [hcx] at hl
  obtain ⟨c0,c1,c2,c3,c4,c5,c6,rfl⟩ : ∃ c0 c1 c2 c3 c4 c5 c6,cl = [c0,c1,c2,c3,c4,c5,c6]:=by
    match cl,hl with
    | [c0,c1,c2,c3,c4,c5,c6],_=>exact ⟨c0,c1,c2,c3,c4,c5,c6,rfl⟩
  simp only [hci,hcb,hcs,hcl,List.drop_succ_cons,List.drop_zero,List.take_succ_cons,List.take_zero] at h0 h1 h2 h3 h4 h5 h6
  obtain ⟨s,e0,-,w0⟩:=DataW.trod_string Tryz.underlying9 h0
  obtain ⟨z1,e1,-,w1⟩:=DataW.trod_int Tryz.underlying3 h1
  obtain ⟨b2,e2,-⟩:=DataW.trod_bool Tryz.underlying4 h2
  obtain ⟨z3,e3,-,w3⟩:=DataW.trod_int Tryz.underlying3 h3
  obtain ⟨z4,e4,-,w4⟩:=DataW.trod_int Tryz.underlying3 h4
  obtain ⟨z5,e5,-,w5⟩:=DataW.trod_int Tryz.underlying3 h5
  obtain ⟨A,xs,cap,e6,hx,⟨b,off,hB,hat⟩,hcap,hbx⟩:=open_row_q C insL3 3 (by decide) Tryz.underlying33 (by kernel_rfl) InsR (fun _=>rfl) (fun n cl y h _=>open_ins n cl y h) h6 q6
  injection e0 with e0
  have bt:=text_of C Tryz.underlying9 (by rw [e0] at h0; exact h0) q0
  injection e1 with e1; injection e2 with e2; injection e3 with e3; injection e4 with e4; injection e5 with e5
  subst e0; subst e1; subst e2; subst e3; subst e4; subst e5; subst e6
  refine ⟨⟨s,z1,b2,z3,z4,z5,A,cap,xs⟩,rfl,⟨⟨b,off,hB,fun j x hj=>?_⟩,hcap,hx,by unfold maxLen at w0; exact Nat.le_trans w0 (by decide),int_range w1,int_range w3,int_range w4,int_range w5⟩,bt,hbx⟩
  have ha:=hat j x hj
  exact ⟨(ha 0 _ rfl).1,(ha 0 _ rfl).2,(ha 1 _ rfl).2,(ha 2 _ rfl).2⟩
theorem open_codeq (C : Closed Q B) {b0 : Nat} {r : Reach} {v : Value} {d : DataW H} {p : List MemPlace}
    (hv : Value.okWide Tryz.prog w r b0 26 v) (h : DataW.Trod enc Tryz.prog w 0 (fun _=>true) held 26 v d p) (hq : Q 26 d) :
    ∃ c : Cod,v = codA c∧CodV w c∧c.Raw w∧(∀ p ∈ c.ps,p.nm.size ≤ B∧p.code.length ≤ B)∧BdF B c.kids∧(∀ s ∈ c.gs,s.size ≤ B)∧c.ps.length ≤ B∧c.gs.length ≤ B:=by
  obtain ⟨cs,rfl,hsz⟩:=okWide_struct Tryz.underlying26 hv
  obtain ⟨fuel,hf⟩:=h
  have hf2 : DataW.trod enc Tryz.prog w 0 (fun _=>true) held fuel 26 cs.toList = some (d,p):=hf
  obtain ⟨y0,y1,y2,m,hx,hl,h0,h1,h2⟩:=Go.Deep.trod_struct3 Tryz.underlying26 hf2
  have hx1 : d = .agg [y0.1,y1.1,y2.1]:=congrArg Prod.fst hx
  rw [hx1] at hq
  have q0:=C.st Tryz.underlying26 hq 0 _ _ rfl rfl
  have q1:=C.st Tryz.underlying26 hq 1 _ _ rfl rfl
  have q2:=C.st Tryz.underlying26 hq 2 _ _ rfl rfl
  have hc0 : Tryz.prog.cellsOf 22 = 1:=by kernel_rfl
  have hc1 : Tryz.prog.cellsOf 23 = 1:=by kernel_rfl
  have hc2 : Tryz.prog.cellsOf 24 = 1:=by kernel_rfl
  have hcx : Tryz.prog.cellsOf 26 = 3:=by kernel_rfl
  rw [hcx] at hl
  obtain ⟨c0,c1,c2,hcl⟩ : ∃ c0 c1 c2,cs.toList = [c0,c1,c2]:=by
    generalize cs.toList = l at hl
    match l,hl with
    | [c0,c1,c2],_=>exact ⟨c0,c1,c2,rfl⟩
  rw [hcl] at h0 h1 h2
  simp only [hc0,hc1,hc2,List.drop_succ_cons,List.drop_zero,List.take_succ_cons,List.take_zero] at h0 h1 h2
  obtain ⟨PB,ps,pc,e0,hp,⟨b,off,hB,hat⟩,hcap,hbp⟩:=open_row_q C prL7 7 (by decide) Tryz.underlying22 (by kernel_rfl) (fun x=>PrR w x∧x.nm.size ≤ B∧x.code.length ≤ B) (fun _=>rfl) (open_prcq C) h0 q0
  obtain ⟨CB,fr,cc,e1,⟨hraw,hbf⟩,hfa,hcapc,-,-⟩:=open_itemsq C h1 q1
  obtain ⟨GB,gs,gc,e2,hgs,⟨b2,off2,hB2,hat2⟩,hcapg,hbg⟩:=open_row_q C (fun s : ByteArray=>[Value.string s]) 1 (by decide) Tryz.underlying24 (by kernel_rfl) (fun s=>s.size ≤ B) (fun _=>rfl) (fun n cl y h q=>by
    obtain ⟨s,e0,-,-⟩:=DataW.trod_string Tryz.underlying9 h
    exact ⟨s,e0,text_of C Tryz.underlying9 (by rw [e0] at h; exact h) q⟩) h2 q2
  refine ⟨⟨PB,pc,ps,CB,cc,fr,GB,gc,gs⟩,?_,⟨⟨b,off,hB,fun j x hj=>?_⟩,fun x hx=>(hp x hx).1.1,hfa,⟨b2,off2,hB2,fun j x hj=>?_⟩⟩,⟨hcap,hcapc,hcapg,fun p h=>(hp p h).1,hraw⟩,fun p h=>(hp p h).2,hbf,hgs,hbp,hbg⟩
  · have e : cs = #[c0,c1,c2]:=by apply Array.toList_inj.1; rw [hcl]
    rw [e,e0,e1,e2]
  · have ha:=hat j x hj
    exact ⟨(ha 0 _ rfl).1,(ha 0 _ rfl).2,(ha 1 _ rfl).2,(ha 2 _ rfl).2,(ha 3 _ rfl).2,(ha 4 _ rfl).2,(ha 5 _ rfl).2,(ha 6 _ rfl).2⟩
  · have ha:=hat2 j x hj 0 _ rfl
    rw [Nat.mul_one,Nat.add_zero] at ha
    exact ha
end
end LM
end Go.Proofs.YtihbgghlnppkiaaGreatDoor
namespace Go.Proofs.YtihbgghlnppkiaaGreatDoor
open Go Go.RowKit
namespace LM
def WQ {H : Type} (t : TypeId) (d : DataW H) : Prop:=t < Tryz.prog.types.size∧∀ n ∈ DataW.weights Tryz.prog t d,n ≤ 140737488351232
theorem types_ok : ((List.range Tryz.prog.types.size).all fun t=>match Tryz.prog.underlying t with | some (.slice e)=>decide (e < Tryz.prog.types.size) && decide (1 ≤ Tryz.prog.bytesOf e) | some (.struct fs)=>fs.all (fun f=>decide (f.type < Tryz.prog.types.size)) | _=>true) = true:=by kernel_rfl
theorem slice_ok {t e : TypeId} (h : t < Tryz.prog.types.size) (ht : Tryz.prog.underlying t = some (.slice e)) : e < Tryz.prog.types.size∧1 ≤ Tryz.prog.bytesOf e:=by
  have h2:=List.all_eq_true.1 types_ok t (List.mem_range.2 h)
  rw [ht] at h2
  simp only [Bool.and_eq_true,decide_eq_true_eq] at h2
  exact h2
theorem struct_ok {t : TypeId} {fs : Array Field} (h : t < Tryz.prog.types.size) (ht : Tryz.prog.underlying t = some (.struct fs)) {i : Nat} {f : Field} (hf : fs[i]? = some f) : f.type < Tryz.prog.types.size:=by
  have h2:=List.all_eq_true.1 types_ok t (List.mem_range.2 h)
  rw [ht] at h2
  have h3 : fs.all (fun f=>decide (f.type < Tryz.prog.types.size)) = true:=h2
  exact of_decide_eq_true (Array.all_eq_true'.1 h3 f (Array.mem_of_getElem? hf))
theorem weights_all {H : Type} {e : TypeId} {l : List (DataW H)} {d : DataW H} (h : d ∈ l) : ∀ n ∈ DataW.weights Tryz.prog e d,n ∈ DataW.weightsAll Tryz.prog e l:=by
  induction l with
  | nil=>cases h
  | cons x r ih =>
    intro n hn
    simp only [DataW.weightsAll,List.mem_append]
    rcases List.mem_cons.1 h with rfl | h
    · exact .inl hn
    · exact .inr (ih h n hn)
theorem wt_closed {H : Type} : Closed (H:=H) WQ 140737488351232 where
  sl:=fun {t e es sp} ht hq=>by
    obtain ⟨h0,hq⟩:=hq
    simp only [DataW.weights,ht,List.mem_cons,List.mem_append] at hq
    have h1:=hq _ (.inl rfl)
    obtain ⟨h2,h3⟩:=slice_ok h0 ht
    refine ⟨?_,fun d hd=>⟨h2,fun n hn=>hq n (.inr (.inl (weights_all hd n hn)))⟩⟩
    have h4 : es.length + sp.length ≤ (es.length + sp.length) * Tryz.prog.bytesOf e:=Nat.le_mul_of_pos_right _ h3
    omega
  st:=fun {t fs ds} ht hq i f d hf hd=>by
    obtain ⟨h0,hq⟩:=hq
    simp only [DataW.weights,ht] at hq
    exact ⟨struct_ok h0 ht hf,fun n hn=>hq n (DataW.weights_mem_each (j:=i) (t:=f.type) (d:=d) (by rw [List.getElem?_map,Array.getElem?_toList,hf]; rfl) hd n hn)⟩
  tx:=fun {t b} hq=>hq.2 _ (by simp [DataW.weights])
theorem rawT_of : ∀ {fr : Fr},fr.Raw → BdF 140737488351232 fr → fr.RawT:=by
  intro fr
  induction fr with
  | nil=>intro _ _; exact trivial
  | cons h k r ihk ihr=>intro hr hb; exact ⟨⟨hr.1,hb.1.1⟩,ihk hr.2.1 hb.2.1,ihr hr.2.2 hb.2.2⟩
end LM
end Go.Proofs.YtihbgghlnppkiaaGreatDoor
