import Derived.Test.YtihbgghlnppkiaaGreatDoorR39
import Derived.Test.YtihbgghlnppkiaaGreatDoorR42
import Derived.Test.YtihbgghlnppkiaaGreatDoorR20
import Derived.Test.YtihbgghlnppkiaaGreatDoorR21
import Derived.Lib.SliceRun
import Derived.Deep.RegionHeld3
import Derived.Test.YtihbgghlnppkiaaGreatDoorR10
import Derived.Test.YtihbgghlnppkiaaGreatDoorR38
import Derived.Test.YtihbgghlnppkiaaGreatDoorR17
import Derived.Deep.Strs
import Derived.Test.YtihbgghlnppkiaaGreatDoorR47
import Derived.Laws.Cover4
import Derived.Lib.OthersKept
import Derived.Laws.BytesString
import Derived.Shelf.Small.Utf8
import Derived.Test.YtihbgghlnppkiaaGreatDoorR56
set_option linter.unusedVariables false
set_option linter.unusedSimpArgs false
set_option maxRecDepth 100000
set_option maxHeartbeats 16000000
namespace Go.Proofs.YtihbgghlnppkiaaGreatDoor
open Go Go.RowKit
def Tryz.lays119_ren : Go.Shelf.Ren := ⟨fun | 119 => 94 | n => n, fun | 21 => 21 | 4 => 4 | n => n, fun | n => n⟩
theorem Tryz.lays119 : Go.Proofs.Lays.n119 Tryz.prog Tryz.lays119_ren := {
  mixed := by kernel_rfl
  f119 := Tryz.func94.trans (congrArg some (by kernel_rfl))
  t4 := Tryz.underlying4
  a4 := Tryz.isAgg4
  z4 := Tryz.sizeOf4
  v4 := Tryz.zeroValue4
  t21 := Tryz.underlying21
  a21 := Tryz.isAgg21
  z21 := Tryz.sizeOf21
  v21 := Tryz.zeroValue21 }
theorem Tryz.utf8_ValidRune (r : Int) (w : World) :
    Calls Tryz.prog 94 #[.int .i32 r] w fun e w' => e = .returned (.bool (Lib.validRune r)) ∧ w' = w := Any.utf8_ValidRune Tryz.lays119 r w
namespace LM
attribute [local go_sem] run_store_flt
def csignB (n : Int) : Bool:=decide (0 ≤ n∧n < 55296) || decide (57343 < n∧n ≤ 1114111)
theorem csign_valid (n : Int) (h0 : 0 ≤ n) (h1 : n ≤ 1114111) : Lib.validRune n = csignB n:=by
  unfold Lib.validRune csignB
  rw [Bool.eq_iff_iff]
  simp only [Bool.or_eq_true,decide_eq_true_eq]
theorem dsign_any (n : Int) (h1 : -9223372036854775808 ≤ n) (h2 : n ≤ 9223372036854775807) (w : World) :
    Calls Tryz.prog 79 #[.int .i64 n] w fun e w'=>e = .returned (.bool (csignB n))∧w' = w:=by
  by_cases hn : 0 ≤ n∧n ≤ 1114111
  · have V1:=Lib.hid fun W=>Tryz.utf8_ValidRune n W
    have w1 : IntKind.i32.wrap n = n:=by rw [IntKind.wrap_i32]; omega
    rw [← csign_valid n hn.1 hn.2]
    go_enter Tryz.func79,Tryz.ntmps79
    go_wp2_with (fail)
    refine (V1.out _).mono ?_
    rintro e w1 ⟨rfl,rfl⟩
    go_wp2_with (fail)
    go_ret
    exact ⟨rfl,rfl⟩
  · have hf : csignB n = false:=by
      unfold csignB
      rw [Bool.or_eq_false_iff,decide_eq_false_iff_not,decide_eq_false_iff_not]
      omega
    rw [hf]
    clear hf
    go_enter Tryz.func79,Tryz.ntmps79
    go_wp2_with (fail)
    all_goals
      go_ret
      exact ⟨rfl,rfl⟩
theorem dtail_any (h : Hd) (n : Nat) (w : World) :
    Calls Tryz.prog 98 #[datA h n] w fun e w'=>e = .returned (.bool (h.k != 5 && h.k != 6))∧Below w.heap.size w w':=by
  obtain ⟨W0,hW0,hb0,ho,hs0⟩:=dat_block w h n
  obtain ⟨x0,x1,x2,x3,x4,x5,x6,x7⟩:=C8.of_block ho
  have HW0:=Lib.hid hW0
  have HB0:=Lib.hid hb0
  clear hW0 hb0 ho x1 x2 x3 x4 x5 x6 x7
  go_enter Tryz.func98,Tryz.ntmps98
  go_wp2_with (fail)
  all_goals
    try rw [HW0.out]
    go_wp2_with (fail)
    all_goals
      go_ret
      first | exact ⟨by simp [*],HB0.out⟩ | exact ⟨by simp [*],(Below.refl _ w).alloc (Nat.le_refl _) _⟩
def areB (k : Int) (n : Nat) (kl : Int) : Bool:=decide (k = 5) || (decide (k = 6) && decide (2 ≤ n) && (kl != 5 && kl != 6)) || (decide (k = 7) && decide (n ≤ 200))
theorem dareitems_any (k : Int) (B : Option Addr) (n cap : Nat) (hn : n ≤ 9223372036854775807) (b off : Nat) (h : Hd) (m : Nat) (w : World) (hB : 0 < n → B = some ⟨b,off,none⟩) (hc : 0 < n → C8 w b (off + (n - 1) * 8) h m) :
    Calls Tryz.prog 83 #[.int .i64 k,.slice B n cap] w fun e w'=>e = .returned (.bool (areB k n h.k))∧Below w.heap.size w w':=by
  have HT:=Lib.hid (dtail_any h m w)
  have HB0:=Lib.hid (Below.refl w.heap.size w)
  by_cases h6 : k = 6∧2 ≤ n
  · obtain ⟨rfl,h2⟩:=h6
    obtain rfl:=hB (by omega)
    obtain ⟨x0,x1,x2,x3,x4,x5,x6,x7⟩:=hc (by omega)
    have d1 : decide (2 ≤ (n : Int)) = true:=decide_eq_true (by omega)
    have w1 : IntKind.i64.wrap ((n : Int) - 1) = ((n - 1 : Nat) : Int):=by rw [IntKind.wrap_i64]; omega
    have d2 : decide (((n - 1 : Nat) : Int) < n) = true:=decide_eq_true (by omega)
    have d3 : decide (2 ≤ n) = true:=decide_eq_true h2
    have hnm : n - 1 < n:=by omega
    obtain ⟨q,hq⟩ : ∃ q,n - 1 = q:=⟨_,rfl⟩
    rw [hq] at w1 x0 x1 x2 x3 x4 x5 x6 x7 d2 hnm
    have HR : Hid (areB 6 n h.k = (h.k != 5 && h.k != 6)):=Lib.hid (by unfold areB; rw [d3]; simp)
    clear hB hc hq
    go_enter Tryz.func83,Tryz.ntmps83
    go_wp2_with (go_at_call 98; refine HT.out.mono ?_; rintro e w1 ⟨rfl,hb1⟩; have HB1:=Lib.hid hb1; clear hb1)
    go_ret
    exact ⟨by rw [HR.out]; rfl,HB1.out⟩
  · have h6' : ¬ (k = 6∧2 ≤ n):=h6
    clear HT hc hB
    rcases kinds k with rfl | rfl | rfl | rfl | rfl | rfl | rfl | rfl | ⟨k0,k1,k2,k3,k4,k5,k6,k7⟩
    rotate_right
    · have HE : Hid (areB k n h.k = false):=Lib.hid (by
        rw [beq_eq_false_iff_ne] at k5 k6 k7
        unfold areB
        rw [decide_eq_false k5,decide_eq_false k6,decide_eq_false k7]
        simp)
      go_enter Tryz.func83,Tryz.ntmps83
      go_wp2_with (fail)
      go_ret
      exact ⟨by rw [HE.out]; rfl,HB0.out⟩
    rotate_right 2
    · have hn2 : decide (2 ≤ (n : Int)) = false:=decide_eq_false (by omega)
      have hn3 : decide (2 ≤ n) = false:=decide_eq_false (by omega)
      go_enter Tryz.func83,Tryz.ntmps83
      go_wp2_with (fail)
      all_goals
        go_ret
        exact ⟨by simp [areB, *],HB0.out⟩
    all_goals
      go_enter Tryz.func83,Tryz.ntmps83
      go_wp2_with (fail)
      all_goals
        go_ret
        have h200 : ((n : Int) ≤ 200 ↔ n ≤ 200):=by omega
        exact ⟨by simp [areB, *],HB0.out⟩
end LM
namespace LM
attribute [local go_sem] run_store_flt
theorem callB_keep {w w' : World} {f : FuncId} {args : Array Value} {r : Value} (h : CallB w f args r) (hb : Below w.heap.size w w') : CallB w' f args r:=fun W hW=>h W (bel_trans (B:=w.heap.size) hb hW)
def UT (w : World) : Prop:=∀ W,Below w.heap.size w W → Lib.Utf8Tabs 2 3 W
theorem UT.keep {w w' : World} (h : UT w) (hb : Below w.heap.size w w') : UT w':=fun W hW=>h W (bel_trans (B:=w.heap.size) hb hW)
def lastK : Fr → Int
  | .nil=>0
  | .cons h _ .nil=>h.k
  | .cons _ _ (.cons h k r)=>lastK (.cons h k r)
theorem last_item : ∀ (fr : Fr),0 < fr.len → ∃ hh k,fr.drop (fr.len - 1) = .cons hh k .nil∧hh.k = lastK fr:=by
  intro fr
  induction fr with
  | nil=>intro h; exact absurd h (by show ¬ 0 < 0; omega)
  | cons h k r _ ih =>
    intro _
    cases r with
    | nil=>exact ⟨h,k,rfl,rfl⟩
    | cons h2 k2 r2 =>
      obtain ⟨hh,kk,e1,e2⟩:=ih (by show 0 < r2.len + 1; omega)
      refine ⟨hh,kk,?_,e2⟩
      have e3 : (Fr.cons h2 k2 r2).len = r2.len + 1:=rfl
      rw [e3] at e1
      have e4 : (Fr.cons h k (Fr.cons h2 k2 r2)).len - 1 = (r2.len + 1 - 1) + 1:=by
        show r2.len + 1 + 1 - 1 = _
        omega
      rw [e4]
      exact e1
def textB (t : ByteArray) : Bool:=Lib.validD t.data.toList && decide (Lib.runeCount t ≤ 400)
def rightK (nm : ByteArray → Bool) (d : Int) (h : Hd) (kids : Fr) (sub : Bool) : Bool :=
  elseB h.k (h.n == 0) (nothB h.fl h.f h.s h.xs) (h.t.toList == []) (((kids.len : Nat) : Int) == 0) &&
    (if h.k = 0 then rightN h.fl h.f h.s h.xs else if h.k = 1 then (h.n == 0 || h.n == 1) else if h.k = 2 then csignB h.n else if h.k = 3 then textB h.t else if h.k = 4 then nm h.t else
      (decide (0 < d) && areB h.k kids.len (lastK kids) && sub))
def rightF (nm : ByteArray → Bool) : Int → Fr → Bool
  | _,.nil=>true
  | d,.cons h kids rest=>rightK nm d h kids (rightF nm (d - 1) kids) && rightF nm d rest
def SymIn (t : ByteArray) : Fr → Prop
  | .nil=>False
  | .cons h kids rest=>(h.k = 4∧t = h.t) ∨ SymIn t kids ∨ SymIn t rest
theorem SymIn.drop {t : ByteArray} : ∀ (j : Nat) {fr : Fr},SymIn t (fr.drop j) → SymIn t fr:=by
  intro j
  induction j with
  | zero=>intro fr h; exact h
  | succ j ih =>
    intro fr h
    cases fr with
    | nil=>exact h
    | cons hh k r=>exact .inr (.inr (ih h))
theorem dindex_any (nm : ByteArray → Bool) (d : Int) (g : Nat) (kids : Fr) (B : Option Addr) (cap b off : Nat) (w : World) (hB : 0 < kids.len → B = some ⟨b,off,none⟩) (hF : FAt w b off kids) (hc1 : kids.len ≤ cap) (hc2 : cap ≤ 9223372036854775807)
    (hcl : ∀ hh k j r,kids.drop j = .cons hh k r → ∀ W,Below w.heap.size w W → DatV W hh k → Calls Tryz.prog 84 #[datA hh k.len,.pointer (some ⟨g,0,none⟩)] W fun e w'=>e = .returned (.bool (!rightK nm d hh k (rightF nm (d - 1) k)))∧Below W.heap.size W w') :
    Calls Tryz.prog 56 #[.slice B kids.len cap,.func (.func 84) #[] #[.pointer (some ⟨g,0,none⟩)]] w fun e w'=>(∃ z : Int,e = .returned (.int .i64 z)∧decide (0 ≤ z) = !rightF nm d kids)∧Below w.heap.size w w':=by
  rcases Nat.eq_zero_or_pos kids.len with h0 | hpos
  · have hk0 : kids = .nil:=by
      cases kids with
      | nil=>rfl
      | cons x y z=>have h3 : z.len + 1 = 0:=h0; omega
    subst hk0
    show Calls Tryz.prog 56 #[.slice B 0 cap,.func (.func 84) #[] #[.pointer (some ⟨g,0,none⟩)]] w fun e w'=>(∃ z : Int,e = .returned (.int .i64 z)∧decide (0 ≤ z) = false)∧Below w.heap.size w w'
    clear hcl hF hB hc1
    go_enter Tryz.func56,Tryz.ntmps56
    go_wp2_with (fail)
    go_loopg [8] 0 (fun kk i wr=>wr = w∧i = .int .i64 0)
    case atStart=>exact ⟨rfl,rfl⟩
    case round =>
      obtain ⟨rfl,rfl⟩:=hrel
      go_wp2_with (fail)
      go_ret
      exact ⟨⟨-1,rfl,rfl⟩,Below.refl _ _⟩
  obtain rfl:=hB hpos
  clear hB
  have HF:=Lib.hid hF
  have HCL:=Lib.hid hcl
  clear hF hcl
  go_enter Tryz.func56,Tryz.ntmps56
  go_wp2_with (fail)
  go_loopg [8] kids.len (fun kk i wr=>Below w.heap.size w wr∧∃ j : Nat,j ≤ kids.len∧kk = kids.len - j∧i = .int .i64 (j : Int)∧rightF nm d (kids.drop j) = rightF nm d kids)
  case atStart=>exact ⟨Below.refl _ _,0,Nat.zero_le _,rfl,rfl,rfl⟩
  case round =>
    obtain ⟨hbr,j,hj,rfl,rfl,hrf⟩:=hrel
    have HBR:=Lib.hid hbr
    clear hbr
    by_cases hjl : j < kids.len
    · obtain ⟨hh,k,r,hdr,hdr1⟩:=Fr.cons_of_lt hjl
      rw [hdr] at hrf
      obtain ⟨hbl,⟨x0,x1,x2,x3,x4,x5,x6,x7⟩,D⟩:=counted_item (FAt.below HBR.out _ _ _ HF.out) hdr
      have CL:=Lib.hid (HCL.out hh k j r hdr wr HBR.out D)
      have hrf2 : (rightK nm d hh k (rightF nm (d - 1) k) && rightF nm d r) = rightF nm d kids:=hrf
      obtain ⟨q,hq⟩ : ∃ q,rightK nm d hh k (rightF nm (d - 1) k) = q:=⟨_,rfl⟩
      rw [hq] at CL hrf2
      have HRF:=Lib.hid hrf2
      have HDR:=Lib.hid hdr1
      clear hrf hdr hdr1 D hrf2 hq
      go_wp2_with (fail)
      refine CL.out.mono ?_
      rintro e w2 ⟨rfl,hb2⟩
      have HB2:=Lib.hid (bel_trans (B:=w.heap.size) HBR.out hb2)
      clear hb2
      cases q
      · go_wp2_with (fail)
        go_ret
        exact ⟨⟨j,rfl,by rw [← HRF.out]; simp⟩,HB2.out⟩
      · go_wp2_with (fail)
        go_roundg (kids.len - (j + 1))
        case measure=>omega
        case rel=>exact ⟨HB2.out,j + 1,by omega,rfl,by go_num,by rw [HDR.out]; exact HRF.out⟩
    · have hje : j = kids.len:=by omega
      subst hje
      have hnil : kids.drop kids.len = .nil:=by
        have h1:=Fr.len_drop kids.len kids
        cases h2 : kids.drop kids.len with
        | nil=>rfl
        | cons x y z=>rw [h2] at h1; have h3 : z.len + 1 = kids.len - kids.len:=h1; omega
      rw [hnil] at hrf
      have HR : Hid (true = rightF nm d kids):=Lib.hid hrf
      clear hrf hnil
      go_wp2_with (fail)
      go_ret
      exact ⟨⟨-1,rfl,by rw [← HR.out]; rfl⟩,HBR.out⟩
end LM
namespace LM
attribute [local go_sem] run_store_flt
def allF (q : Hd → Fr → Bool) : Fr → Bool
  | .nil=>true
  | .cons h kids rest=>q h kids && allF q rest
theorem cdindex_any (q : Hd → Fr → Bool) (g : Nat) (kids : Fr) (B : Option Addr) (cap b off : Nat) (w : World) (hB : 0 < kids.len → B = some ⟨b,off,none⟩) (hF : FAt w b off kids) (hc1 : kids.len ≤ cap) (hc2 : cap ≤ 9223372036854775807)
    (hcl : ∀ hh k j r,kids.drop j = .cons hh k r → ∀ W,Below w.heap.size w W → DatV W hh k → Calls Tryz.prog 40 #[datA hh k.len,.pointer (some ⟨g,0,none⟩)] W fun e w'=>e = .returned (.bool (!q hh k))∧Below W.heap.size W w') :
    Calls Tryz.prog 56 #[.slice B kids.len cap,.func (.func 40) #[] #[.pointer (some ⟨g,0,none⟩)]] w fun e w'=>(∃ z : Int,e = .returned (.int .i64 z)∧decide (0 ≤ z) = !allF q kids)∧Below w.heap.size w w':=by
  rcases Nat.eq_zero_or_pos kids.len with h0 | hpos
  · have hk0 : kids = .nil:=by
      cases kids with
      | nil=>rfl
      | cons x y z=>have h3 : z.len + 1 = 0:=h0; omega
    subst hk0
    show Calls Tryz.prog 56 #[.slice B 0 cap,.func (.func 40) #[] #[.pointer (some ⟨g,0,none⟩)]] w fun e w'=>(∃ z : Int,e = .returned (.int .i64 z)∧decide (0 ≤ z) = false)∧Below w.heap.size w w'
    clear hcl hF hB hc1
    go_enter Tryz.func56,Tryz.ntmps56
    go_wp2_with (fail)
    go_loopg [8] 0 (fun kk i wr=>wr = w∧i = .int .i64 0)
    case atStart=>exact ⟨rfl,rfl⟩
    case round =>
      obtain ⟨rfl,rfl⟩:=hrel
      go_wp2_with (fail)
      go_ret
      exact ⟨⟨-1,rfl,rfl⟩,Below.refl _ _⟩
  obtain rfl:=hB hpos
  clear hB
  have HF:=Lib.hid hF
  have HCL:=Lib.hid hcl
  clear hF hcl
  go_enter Tryz.func56,Tryz.ntmps56
  go_wp2_with (fail)
  go_loopg [8] kids.len (fun kk i wr=>Below w.heap.size w wr∧∃ j : Nat,j ≤ kids.len∧kk = kids.len - j∧i = .int .i64 (j : Int)∧allF q (kids.drop j) = allF q kids)
  case atStart=>exact ⟨Below.refl _ _,0,Nat.zero_le _,rfl,rfl,rfl⟩
  case round =>
    obtain ⟨hbr,j,hj,rfl,rfl,hrf⟩:=hrel
    have HBR:=Lib.hid hbr
    clear hbr
    by_cases hjl : j < kids.len
    · obtain ⟨hh,k,r,hdr,hdr1⟩:=Fr.cons_of_lt hjl
      rw [hdr] at hrf
      obtain ⟨hbl,⟨x0,x1,x2,x3,x4,x5,x6,x7⟩,D⟩:=counted_item (FAt.below HBR.out _ _ _ HF.out) hdr
      have CL:=Lib.hid (HCL.out hh k j r hdr wr HBR.out D)
      have hrf2 : (q hh k && allF q r) = allF q kids:=hrf
      obtain ⟨p,hq⟩ : ∃ p,q hh k = p:=⟨_,rfl⟩
      rw [hq] at CL hrf2
      have HRF:=Lib.hid hrf2
      have HDR:=Lib.hid hdr1
      clear hrf hdr hdr1 D hrf2 hq
      go_wp2_with (fail)
      refine CL.out.mono ?_
      rintro e w2 ⟨rfl,hb2⟩
      have HB2:=Lib.hid (bel_trans (B:=w.heap.size) HBR.out hb2)
      clear hb2
      cases p
      · go_wp2_with (fail)
        go_ret
        exact ⟨⟨j,rfl,by rw [← HRF.out]; simp⟩,HB2.out⟩
      · go_wp2_with (fail)
        go_roundg (kids.len - (j + 1))
        case measure=>omega
        case rel=>exact ⟨HB2.out,j + 1,by omega,rfl,by go_num,by rw [HDR.out]; exact HRF.out⟩
    · have hje : j = kids.len:=by omega
      subst hje
      have hnil : kids.drop kids.len = .nil:=by
        have h1:=Fr.len_drop kids.len kids
        cases h2 : kids.drop kids.len with
        | nil=>rfl
        | cons x y z=>rw [h2] at h1; have h3 : z.len + 1 = kids.len - kids.len:=h1; omega
      rw [hnil] at hrf
      have HR : Hid (true = allF q kids):=Lib.hid hrf
      clear hrf hnil
      go_wp2_with (fail)
      go_ret
      exact ⟨⟨-1,rfl,by rw [← HR.out]; rfl⟩,HBR.out⟩
theorem cdcontains_any (q : Hd → Fr → Bool) (g : Nat) (kids : Fr) (B : Option Addr) (cap b off : Nat) (w : World) (hB : 0 < kids.len → B = some ⟨b,off,none⟩) (hF : FAt w b off kids) (hc1 : kids.len ≤ cap) (hc2 : cap ≤ 9223372036854775807)
    (hcl : ∀ hh k j r,kids.drop j = .cons hh k r → ∀ W,Below w.heap.size w W → DatV W hh k → Calls Tryz.prog 40 #[datA hh k.len,.pointer (some ⟨g,0,none⟩)] W fun e w'=>e = .returned (.bool (!q hh k))∧Below W.heap.size W w') :
    Calls Tryz.prog 39 #[.slice B kids.len cap,.func (.func 40) #[] #[.pointer (some ⟨g,0,none⟩)]] w fun e w'=>e = .returned (.bool (!allF q kids))∧Below w.heap.size w w':=by
  have H1:=Lib.hid (cdindex_any q g kids B cap b off w hB hF hc1 hc2 hcl)
  clear hB hF hcl
  go_enter Tryz.func39,Tryz.ntmps39
  go_wp2_with (fail)
  refine H1.out.mono ?_
  rintro e w1 ⟨⟨z,rfl,hz⟩,hb1⟩
  have HB1:=Lib.hid hb1
  have HZ:=Lib.hid hz
  clear hb1 hz
  go_wp2_with (fail)
  go_ret
  exact ⟨by rw [← HZ.out]; rfl,HB1.out⟩
theorem cdclosure (hh : Hd) (n : Nat) (g : Nat) (q : Bool) (w : World) (hg : g < w.heap.size) (hcell : w.cell? ⟨g,0,none⟩ = some (.func (.func 22) #[] #[]))
    (hR : ∀ W,Below w.heap.size w W → Calls Tryz.prog 22 #[datA hh n] W fun e w'=>e = .returned (.bool q)∧Below W.heap.size W w') :
    Calls Tryz.prog 40 #[datA hh n,.pointer (some ⟨g,0,none⟩)] w fun e w'=>e = .returned (.bool (!q))∧Below w.heap.size w w':=by
  obtain ⟨W0,hW0⟩ : ∃ W0,w.alloc (datO hh n) = W0:=⟨_,rfl⟩
  have hb0 : Below w.heap.size w W0:=by rw [← hW0]; exact (Below.refl _ w).alloc (Nat.le_refl _) _
  have ho : W0.heap[w.heap.size]? = some (datO hh n):=by rw [← hW0]; unfold World.alloc; simp
  have x0 : (w.alloc (datO hh n)).cell? ⟨g,0,none⟩ = some (.func (.func 22) #[] #[]):=by rw [hW0]; exact (hb0.cell (p:=⟨g,0,none⟩) hg).trans hcell
  have HW0:=Lib.hid hW0
  have HB0:=Lib.hid hb0
  have HR:=Lib.hid (hR W0 hb0)
  obtain ⟨y0,y1,y2,y3,y4,y5,y6,y7⟩:=C8.of_block ho
  clear hW0 hb0 ho hR hcell
  go_enter Tryz.func40,Tryz.ntmps40
  go_wp2_with (fail)
  rw [HW0.out]
  refine HR.out.mono ?_
  rintro e w1 ⟨rfl,hb1⟩
  have HB1:=Lib.hid (bel_trans (B:=w.heap.size) HB0.out hb1)
  clear hb1
  go_wp2_with (fail)
  go_ret
  exact ⟨rfl,HB1.out⟩
theorem cdall_any (q : Hd → Fr → Bool) (kids : Fr) (B : Option Addr) (cap b off : Nat) (w : World) (hB : 0 < kids.len → B = some ⟨b,off,none⟩) (hF : FAt w b off kids) (hc1 : kids.len ≤ cap) (hc2 : cap ≤ 9223372036854775807)
    (hR : ∀ hh k j r,kids.drop j = .cons hh k r → ∀ W,Below w.heap.size w W → DatV W hh k → Calls Tryz.prog 22 #[datA hh k.len] W fun e w'=>e = .returned (.bool (q hh k))∧Below W.heap.size W w') :
    Calls Tryz.prog 21 #[.slice B kids.len cap,.func (.func 22) #[] #[]] w fun e w'=>e = .returned (.bool (allF q kids))∧Below w.heap.size w w':=by
  obtain ⟨W0,hW0⟩ : ∃ W0,w.alloc (.cells #[.func (.func 22) #[] #[]] 66 (0,0)) = W0:=⟨_,rfl⟩
  have hb0 : Below w.heap.size w W0:=by rw [← hW0]; exact (Below.refl _ w).alloc (Nat.le_refl _) _
  have ho : W0.heap[w.heap.size]? = some (.cells #[.func (.func 22) #[] #[]] 66 (0,0)):=by rw [← hW0]; unfold World.alloc; simp
  have hs0 : w.heap.size < W0.heap.size:=by rw [← hW0]; simp
  have hc : W0.cell? ⟨w.heap.size,0,none⟩ = some (.func (.func 22) #[] #[]):=by rw [ob_cell ho]; rfl
  have HC:=Lib.hid (cdcontains_any q w.heap.size kids B cap b off W0 hB (FAt.below hb0 _ _ _ hF) hc1 hc2 fun hh k j r hdr W hW hD=>cdclosure hh k.len w.heap.size (q hh k) W (Nat.lt_of_lt_of_le hs0 hW.size) ((hW.cell (p:=⟨w.heap.size,0,none⟩) hs0).trans hc) fun W2 hW2=>hR hh k j r hdr W2 (bel_trans (B:=w.heap.size) (bel_trans (B:=w.heap.size) hb0 hW) hW2) (hD.below hW2))
  have HW0:=Lib.hid hW0
  have HB0:=Lib.hid hb0
  clear hW0 hb0 ho hs0 hc hR hF hB
  obtain ⟨r,hr⟩ : ∃ r,allF q kids = r:=⟨_,rfl⟩
  rw [hr] at HC ⊢
  clear hr
  go_enter Tryz.func21,Tryz.ntmps21
  go_wp2_with (fail)
  rw [HW0.out]
  refine HC.out.mono ?_
  rintro e w1 ⟨rfl,hb1⟩
  have HB1:=Lib.hid (bel_trans (B:=w.heap.size) HB0.out hb1)
  clear hb1
  go_wp2_with (fail)
  go_ret
  exact ⟨by simp,HB1.out⟩
end LM
namespace LM
attribute [local go_sem] run_store_flt
theorem cfew_any (c : Cod) (w : World) (hv : CodV w c) (hok : c.Ok) : Calls Tryz.prog 16 #[codA c] w fun e w'=>e = .returned (.bool (fewB c))∧Below w.heap.size w w':=by
  obtain ⟨W0,hW0,hb0,ho,hs0,hz0⟩:=cod_block w c
  obtain ⟨PB,pc,ps,CB,cc,kids,GB,gc,gs⟩:=c
  have HB0:=Lib.hid hb0
  have HW0:=Lib.hid hW0
  obtain ⟨b,off,hB,hF⟩:=(hv.below hb0).ps
  have hle:=insN_le hok.pr
  have HF:=Lib.hid hF
  have HLE:=Lib.hid hle
  obtain ⟨y0,y1,y2⟩:=K3.of_block ho
  dsimp only [codA,codO] at *
  by_cases hm : ps.length ≤ 4000∧kids.len ≤ 4000∧gs.length ≤ 4000
  · obtain ⟨m1,m2,m3⟩:=hm
    have E : Hid (fewB ⟨PB,pc,ps,CB,cc,kids,GB,gc,gs⟩ = decide (insN ps ≤ 40000)):=Lib.hid (by unfold fewB; rw [decide_eq_true m1,decide_eq_true m2,decide_eq_true m3]; rfl)
    have M1:=Lib.hid m1
    obtain ⟨M,hM⟩ : ∃ M : Int,(if (if ps.length < kids.len then (kids.len : Int) else (ps.length : Int)) < (gs.length : Int) then (gs.length : Int) else if ps.length < kids.len then (kids.len : Int) else (ps.length : Int)) = M:=⟨_,rfl⟩
    have dm : decide ((4000 : Int) < M) = false:=decide_eq_false (by rw [← hM]; split <;> (try split) <;> omega)
    rcases Nat.eq_zero_or_pos ps.length with h0 | hpos
    · have hz : decide (0 < ps.length) = false:=decide_eq_false (by omega)
      have E2 : Hid (decide (insN ps ≤ 40000) = true):=Lib.hid (by rw [List.length_eq_zero_iff.1 h0]; rfl)
      clear hW0 hb0 ho hs0 hv hok m1 m2 m3 hz0 h0 hB hF hle
      go_enter Tryz.func16,Tryz.ntmps16
      go_wp2_with (fail)
      rw [HW0.out]
      go_wp2_with (fail)
      go_loopg [3,20] 0 (fun kk n i wr=>Below W0.heap.size W0 wr∧i = .int .i64 0∧n = .int .i64 0)
      case atStart=>exact ⟨Below.refl _ _,rfl,rfl⟩
      case round =>
        obtain ⟨hbr,rfl,rfl⟩:=hrel
        have HBR:=Lib.hid hbr
        clear hbr
        go_wp2_with (fail)
        go_ret
        exact ⟨by rw [E.out,E2.out]; rfl,bel_trans (B:=w.heap.size) HB0.out HBR.out⟩
    obtain rfl:=hB hpos
    clear hW0 hb0 ho hs0 hv hok m2 m3 hz0 hF hle hB
    go_enter Tryz.func16,Tryz.ntmps16
    go_wp2_with (fail)
    rw [HW0.out]
    go_wp2_with (fail)
    go_loopg [3,20] ps.length (fun kk n i wr=>Below W0.heap.size W0 wr∧∃ j : Nat,j ≤ ps.length∧kk = ps.length - j∧i = .int .i64 (j : Int)∧∃ a : Nat,n = .int .i64 (a : Int)∧a + insN (ps.drop j) = insN ps)
    case atStart=>exact ⟨Below.refl _ _,0,Nat.zero_le _,rfl,rfl,0,rfl,by simp⟩
    case round =>
      obtain ⟨hbr,j,hj,rfl,rfl,a,rfl,ha⟩:=hrel
      have HBR:=Lib.hid hbr
      have HA:=Lib.hid ha
      clear hbr ha
      by_cases hjl : j < ps.length
      · obtain ⟨p,hp,hdr⟩:=drop_at hjl
        obtain ⟨hbl,x0,x1,x2,x3,x4,x5,x6⟩:=(HF.out.below HBR.out) j p hp
        have h2:=HA.out
        rw [hdr,insN_cons] at h2
        have w1 : IntKind.i64.wrap ((a : Int) + (p.code.length : Int)) = (a : Int) + (p.code.length : Int):=by rw [IntKind.wrap_i64]; have:=HLE.out; have:=M1.out; omega
        have H2:=Lib.hid h2
        have k6:=ob_cell (show (wr.alloc (prO p)).heap[wr.heap.size]? = some (prO p) by unfold World.alloc; simp) 6
        rw [show (#[Value.string p.nm,.int .i64 p.pa,.bool p.rs,.int .i64 p.sl,.int .i64 p.de,.int .i64 p.fr,.slice p.B p.code.length p.cap] : Array Value)[6]? = some (.slice p.B p.code.length p.cap) from rfl] at k6
        have HBA:=Lib.hid (bel_trans (B:=W0.heap.size) HBR.out ((Below.refl _ wr).alloc (Nat.le_refl _) (prO p)))
        clear h2 hdr hp
        go_wp2_with (fail)
        go_roundg (ps.length - (j + 1))
        case measure=>omega
        case rel=>exact ⟨HBA.out,j + 1,by omega,rfl,by go_num,a + p.code.length,by go_num,by have:=H2.out; omega⟩
      · have hje : j = ps.length:=by omega
        subst hje
        have h2:=HA.out
        rw [List.drop_length] at h2
        have hr : decide ((a : Int) ≤ 40000) = decide (insN ps ≤ 40000):=decide_eq_decide.2 (by have : insN [] = 0:=rfl; omega)
        have HR:=Lib.hid hr
        clear h2 hr
        go_wp2_with (fail)
        go_ret
        exact ⟨by rw [E.out,← HR.out]; rfl,bel_trans (B:=w.heap.size) HB0.out HBR.out⟩
  · have E : Hid (fewB ⟨PB,pc,ps,CB,cc,kids,GB,gc,gs⟩ = false):=Lib.hid (by
      unfold fewB
      by_cases m1 : ps.length ≤ 4000
      · by_cases m2 : kids.len ≤ 4000
        · rw [decide_eq_false (show ¬ gs.length ≤ 4000 from fun m3=>hm ⟨m1,m2,m3⟩)]; simp
        · rw [decide_eq_false m2]; simp
      · rw [decide_eq_false m1]; simp)
    obtain ⟨M,hM⟩ : ∃ M : Int,(if (if ps.length < kids.len then (kids.len : Int) else (ps.length : Int)) < (gs.length : Int) then (gs.length : Int) else if ps.length < kids.len then (kids.len : Int) else (ps.length : Int)) = M:=⟨_,rfl⟩
    have dm : decide ((4000 : Int) < M) = true:=decide_eq_true (by rw [← hM]; split <;> (try split) <;> omega)
    clear hW0 ho hs0 hv hok hz0 hm hb0 hB hF hle
    go_enter Tryz.func16,Tryz.ntmps16
    go_wp2_with (fail)
    rw [HW0.out]
    go_ret
    exact ⟨by rw [E.out]; rfl,HB0.out⟩
theorem cright_by (q : Hd → Fr → Bool) (c : Cod) (w : World) (hv : CodV w c) (hok : c.Ok)
    (hq : ∀ hh k j r,c.kids.drop j = .cons hh k r → ∀ W,Below w.heap.size w W → DatV W hh k → Calls Tryz.prog 22 #[datA hh k.len] W fun e w'=>e = .returned (.bool (q hh k))∧Below W.heap.size W w') :
    Calls Tryz.prog 10 #[codA c] w fun e w'=>e = .returned (.bool (fewB c && (c.ps.all prB && (c.gs.all (fun s=>decide (s.size ≤ 100)) && allF q c.kids))))∧Below w.heap.size w w':=by
  obtain ⟨W0,hW0,hb0,ho,hs0,hz0⟩:=cod_block w c
  have N1:=Lib.hid (cfew_any c W0 (hv.below hb0) hok)
  have N2 : Hid (∀ W,Below w.heap.size w W → Calls Tryz.prog 17 #[.slice c.PB c.ps.length c.pc,.func (.func 18) #[] #[]] W fun e w'=>e = .returned (.bool (c.ps.all prB))∧Below W.heap.size W w'):=Lib.hid fun W hW=>by
    obtain ⟨b,off,hB,hF⟩:=(hv.below hW).ps
    exact cpall_any prB c.ps c.PB c.pc b off W hB hF hok.ps.1 hok.ps.2 fun p hp W2 hW2=>cproc_any p W2 (((hv.pv p hp).below hW).below hW2) (hok.pr p hp)
  have N3 : Hid (∀ W,Below w.heap.size w W → Calls Tryz.prog 19 #[.slice c.GB c.gs.length c.gc,.func (.func 20) #[] #[]] W fun e w'=>e = .returned (.bool (c.gs.all fun s=>decide (s.size ≤ 100)))∧Below W.heap.size W w'):=Lib.hid fun W hW=>by
    obtain ⟨b,off,hB,hF⟩:=(hv.below hW).gs
    exact csall_any (fun s=>decide (s.size ≤ 100)) c.gs c.GB c.gc b off W hB hF hok.gs.1 hok.gs.2 fun s _ W2 _=>cname_any s W2
  have N4 : Hid (∀ W,Below w.heap.size w W → Calls Tryz.prog 21 #[.slice c.CB c.kids.len c.cc,.func (.func 22) #[] #[]] W fun e w'=>e = .returned (.bool (allF q c.kids))∧Below W.heap.size W w'):=Lib.hid fun W hW=>by
    obtain ⟨b,off,hB,hF⟩:=(hv.below hW).kids
    exact cdall_any q c.kids c.CB c.cc b off W hB hF hok.kids.1 hok.kids.2 fun hh k j r hdr W2 hW2 hD=>hq hh k j r hdr W2 (bel_trans (B:=w.heap.size) hW hW2) hD
  have HB0:=Lib.hid hb0
  have HW0:=Lib.hid hW0
  have HS:=Lib.hid hs0
  have K0:=Lib.hid (K3.of_block ho)
  obtain ⟨y0,y1,y2⟩:=K0.out
  obtain ⟨r1,hr1⟩ : ∃ r,fewB c = r:=⟨_,rfl⟩
  obtain ⟨r2,hr2⟩ : ∃ r,c.ps.all prB = r:=⟨_,rfl⟩
  obtain ⟨r3,hr3⟩ : ∃ r,(c.gs.all fun s=>decide (s.size ≤ 100)) = r:=⟨_,rfl⟩
  obtain ⟨r4,hr4⟩ : ∃ r,allF q c.kids = r:=⟨_,rfl⟩
  rw [hr1] at N1 ⊢
  rw [hr2] at N2 ⊢
  rw [hr3] at N3 ⊢
  rw [hr4] at N4 ⊢
  clear hW0 hb0 ho hs0 hv hok hz0 hq hr1 hr2 hr3 hr4
  go_enter Tryz.func10,Tryz.ntmps10
  go_wp2_with (fail)
  rw [HW0.out]
  refine N1.out.mono ?_
  rintro e w1 ⟨rfl,hb1⟩
  have HB1:=Lib.hid (bel_trans (B:=w.heap.size) HB0.out hb1)
  have K1:=Lib.hid (K0.out.keep hb1 HS.out)
  have hs1 : w.heap.size < w1.heap.size:=Nat.lt_of_lt_of_le HS.out hb1.size
  have HS1:=Lib.hid hs1
  clear hb1 y0 y1 y2 hs1
  cases r1
  · go_wp2_with (fail)
    go_ret
    exact ⟨rfl,HB1.out⟩
  obtain ⟨y0,y1,y2⟩:=K1.out
  simp only [Nat.zero_add] at y0 y1 y2
  go_wp2_with (fail)
  refine (N2.out _ HB1.out).mono ?_
  rintro e w2 ⟨rfl,hb2⟩
  have HB2:=Lib.hid (bel_trans (B:=w.heap.size) HB1.out hb2)
  have K2:=Lib.hid (K1.out.keep hb2 HS1.out)
  have HS2:=Lib.hid (Nat.lt_of_lt_of_le HS1.out hb2.size)
  clear hb2 y0 y1 y2
  cases r2
  · go_wp2_with (fail)
    go_ret
    exact ⟨rfl,HB2.out⟩
  obtain ⟨y0,y1,y2⟩:=K2.out
  simp only [Nat.zero_add] at y0 y1 y2
  go_wp2_with (fail)
  refine (N3.out _ HB2.out).mono ?_
  rintro e w3 ⟨rfl,hb3⟩
  have HB3:=Lib.hid (bel_trans (B:=w.heap.size) HB2.out hb3)
  have K3':=Lib.hid (K2.out.keep hb3 HS2.out)
  clear hb3 y0 y1 y2
  cases r3
  · go_wp2_with (fail)
    go_ret
    exact ⟨rfl,HB3.out⟩
  obtain ⟨y0,y1,y2⟩:=K3'.out
  simp only [Nat.zero_add] at y0 y1 y2
  go_wp2_with (fail)
  refine (N4.out _ HB3.out).mono ?_
  rintro e w4 ⟨rfl,hb4⟩
  have HB4:=Lib.hid (bel_trans (B:=w.heap.size) HB3.out hb4)
  clear hb4 y0 y1 y2
  go_wp2_with (fail)
  go_ret
  exact ⟨by first | rfl | simp,HB4.out⟩
end LM
namespace LM
attribute [local go_sem] run_store_flt
def frV (ps : List Prh) (n : Nat) : Int:=match ps[n]? with | some p=>p.fr | none=>0
theorem cfree_any (c : Cod) (n : Nat) (hn : n ≤ 16777215) (w : World) (hv : CodV w c) (hok : c.Ok) :
    Calls Tryz.prog 15 #[codA c,.int .i64 (n : Int)] w fun e w'=>e = .returned (.int .i64 (frV c.ps n))∧Below w.heap.size w w':=by
  obtain ⟨W0,hW0,hb0,ho,hs0,hz0⟩:=cod_block w c
  obtain ⟨PB,pc,ps,CB,cc,kids,GB,gc,gs⟩:=c
  dsimp only at hW0 ho ⊢
  have y0 : W0.cell? ⟨w.heap.size,0,none⟩ = some (.slice PB ps.length pc):=ob_cell ho 0
  have hps:=(hv.below hb0).ps
  have HW0:=Lib.hid hW0
  have HB0:=Lib.hid hb0
  have d0 : decide ((n : Int) < 0) = false:=decide_eq_false (by omega)
  have hpc:=hok.ps
  dsimp only at hps hpc
  clear hW0 hb0 ho hs0 hz0 hv hok
  by_cases hlt : n < ps.length
  · obtain ⟨b,off,hB,hF⟩:=hps
    obtain ⟨p,hp⟩ : ∃ p,ps[n]? = some p:=⟨_,List.getElem?_eq_getElem hlt⟩
    have hf : frV ps n = p.fr:=by unfold frV; rw [hp]
    obtain rfl:=hB (by omega)
    have z5 : (w.alloc (.cells #[.slice (some ⟨b,off,none⟩) ps.length pc,.slice CB kids.len cc,.slice GB gs.length gc] 26 (0,0))).cell? ⟨b,off + n * 7 + 5,none⟩ = some (.int .i64 p.fr):=by
      have h:=(hF n p hp).2.c5
      rw [← HW0.out] at h
      exact h
    have d1 : decide ((ps.length : Int) ≤ (n : Int)) = false:=decide_eq_false (by omega)
    have d1' : decide (ps.length ≤ n) = false:=decide_eq_false (by omega)
    have d2 : (0 : Int) ≤ (n : Int):=by omega
    have d3 : (n : Int) < (ps.length : Int):=by omega
    have d4 : (ps.length : Int) ≤ (pc : Int):=by omega
    have d5 : (pc : Int) ≤ 9223372036854775807:=by omega
    have HF:=Lib.hid hf
    clear hB hF hp hf hpc
    go_enter Tryz.func15,Tryz.ntmps15
    go_wp2_with (fail)
    rw [HW0.out]
    go_wp2_with (fail)
    go_ret
    exact ⟨by rw [HF.out]; rfl,HB0.out⟩
  · have hf : frV ps n = 0:=by unfold frV; rw [List.getElem?_eq_none (by omega)]
    have d1 : decide ((ps.length : Int) ≤ (n : Int)) = true:=decide_eq_true (by omega)
    have d1' : decide (ps.length ≤ n) = true:=decide_eq_true (by omega)
    have HF:=Lib.hid hf
    clear hps hf hpc
    go_enter Tryz.func15,Tryz.ntmps15
    go_wp2_with (fail)
    rw [HW0.out]
    go_wp2_with (fail)
    go_ret
    exact ⟨by rw [HF.out]; rfl,HB0.out⟩
end LM
namespace LM
attribute [local go_sem] run_store_flt
def effK (op : Int) (n : Nat) (f : Int) : Int:=if op = 10 then f else if op = 13 ∨ op = 14 then (n : Int) + 1 else if op = 17 then 2 + 2 * (n : Int) else if op = 9 then 2 else if op = 2 ∨ op = 5 ∨ op = 6 ∨ op = 7 ∨ op = 8 ∨ op = 12 ∨ op = 15 ∨ op = 16 ∨ op = 18 then 1 else 0
def effM (op : Int) : Int:=if op = 0 ∨ op = 1 ∨ op = 3 ∨ op = 4 ∨ op = 7 ∨ op = 8 ∨ op = 10 ∨ op = 13 ∨ op = 17 ∨ op = 18 ∨ op = 19 ∨ op = 20 ∨ op = 21 then 1 else 0
theorem eff_world (op a b : Int) (c : Cod) (w : World) : ∃ W0 W1,w.alloc (.cells #[.int .i64 op,.int .i64 a,.int .i64 b] 41 (0,0)) = W0∧W0.alloc (codO c) = W1∧Below w.heap.size w W1∧W0.heap.size = w.heap.size + 1∧W1.heap[w.heap.size]? = some (.cells #[.int .i64 op,.int .i64 a,.int .i64 b] 41 (0,0))∧W1.heap[w.heap.size + 1]? = some (codO c):=by
  have h1:=(Obs.nil.new (w:=w) (.cells #[.int .i64 op,.int .i64 a,.int .i64 b] 41 (0,0))).new (codO c)
  simp only [World.size_alloc] at h1
  exact ⟨_,_,rfl,rfl,((Below.refl _ w).alloc (Nat.le_refl _) _).alloc (by simp) _,by simp,h1.tl.hd,h1.hd⟩
theorem ceffect_lit (op : Int) (hop : op = 0 ∨ op = 1 ∨ op = 2 ∨ op = 3 ∨ op = 4 ∨ op = 5 ∨ op = 6 ∨ op = 7 ∨ op = 8 ∨ op = 9 ∨ op = 11 ∨ op = 12 ∨ op = 13 ∨ op = 14 ∨ op = 15 ∨ op = 16 ∨ op = 17 ∨ op = 18 ∨ op = 19 ∨ op = 20 ∨ op = 21) (n : Nat) (hn : n ≤ 16777215) (b : Int) (c : Cod) (w : World) :
    Calls Tryz.prog 8 #[.agg #[.int .i64 op,.int .i64 (n : Int),.int .i64 b],codA c] w fun e w'=>e = .returned (.tuple #[.int .i64 (effK op n (frV c.ps n)),.int .i64 (effM op)])∧Below w.heap.size w w':=by
  obtain ⟨W0,W1,hW0,hW1,hb,hs,ho,-⟩:=eff_world op n b c w
  obtain ⟨r,hr⟩ : ∃ r,effK op n (frV c.ps n) = r:=⟨_,rfl⟩
  obtain ⟨m,hm⟩ : ∃ m,effM op = m:=⟨_,rfl⟩
  rw [hr,hm]
  have y0 : W1.cell? ⟨w.heap.size,0,none⟩ = some (.int .i64 op):=ob_cell ho 0
  have y1 : W1.cell? ⟨w.heap.size,1,none⟩ = some (.int .i64 (n : Int)):=ob_cell ho 1
  have HB:=Lib.hid hb
  have HW0:=Lib.hid hW0
  have HW1:=Lib.hid hW1
  have HR:=Lib.hid hr
  have HM:=Lib.hid hm
  clear hW0 hW1 hb hs ho hr hm
  rcases hop with rfl | rfl | rfl | rfl | rfl | rfl | rfl | rfl | rfl | rfl | rfl | rfl | rfl | rfl | rfl | rfl | rfl | rfl | rfl | rfl | rfl
  all_goals
    go_enter Tryz.func8,Tryz.ntmps8
    go_wp2_with (fail)
    rw [HW0.out,HW1.out]
    go_wp2_with (fail)
    refine bodyPost_ret (v:=.tuple #[.int .i64 r,.int .i64 m]) ?_ rfl ⟨rfl,HB.out⟩
    rw [← HR.out,← HM.out]
    simp [results,Tryz.results8,go_sem,effK,effM]
end LM
namespace LM
attribute [local go_sem] run_store_flt
theorem ceffect_clo (n : Nat) (hn : n ≤ 16777215) (b : Int) (c : Cod) (w : World) (hv : CodV w c) (hok : c.Ok) :
    Calls Tryz.prog 8 #[.agg #[.int .i64 10,.int .i64 (n : Int),.int .i64 b],codA c] w fun e w'=>e = .returned (.tuple #[.int .i64 (frV c.ps n),.int .i64 1])∧Below w.heap.size w w':=by
  obtain ⟨W0,W1,hW0,hW1,hb,hs,ho,ho1⟩:=eff_world 10 n b c w
  have C:=Lib.hid (cfree_any c n hn W1 (hv.below hb) hok)
  have y0 : W1.cell? ⟨w.heap.size,0,none⟩ = some (.int .i64 10):=ob_cell ho 0
  have y1 : W1.cell? ⟨w.heap.size,1,none⟩ = some (.int .i64 (n : Int)):=ob_cell ho 1
  have z0 : W1.cell? ⟨w.heap.size + 1,0,none⟩ = some (.slice c.PB c.ps.length c.pc):=ob_cell ho1 0
  have z1 : W1.cell? ⟨w.heap.size + 1,1,none⟩ = some (.slice c.CB c.kids.len c.cc):=ob_cell ho1 1
  have z2 : W1.cell? ⟨w.heap.size + 1,2,none⟩ = some (.slice c.GB c.gs.length c.gc):=ob_cell ho1 2
  have HB:=Lib.hid hb
  have HW0:=Lib.hid hW0
  have HW1:=Lib.hid hW1
  have HS:=Lib.hid hs
  clear hW0 hW1 hb ho ho1 hv hok hs
  go_enter Tryz.func8,Tryz.ntmps8
  go_wp2_with (fail)
  rw [HW0.out,HW1.out]
  refine C.out.mono ?_
  rintro e w1 ⟨rfl,hb1⟩
  have HB1:=Lib.hid hb1
  clear hb1
  go_wp2_with (fail)
  refine bodyPost_ret (v:=.tuple #[.int .i64 (frV c.ps n),.int .i64 1]) (by simp [results,Tryz.results8,go_sem]) rfl ⟨rfl,bel_trans (B:=w.heap.size) HB.out HB1.out⟩
theorem ceffect_other (op : Int) (hop : op < 0 ∨ 21 < op) (a b : Int) (P C G : Value) (w : World) :
    Calls Tryz.prog 8 #[.agg #[.int .i64 op,.int .i64 a,.int .i64 b],.agg #[P,C,G]] w fun e w'=>e = .returned (.tuple #[.int .i64 0,.int .i64 0])∧Below w.heap.size w w':=by
  obtain ⟨W0,hW0⟩ : ∃ W0,w.alloc (.cells #[.int .i64 op,.int .i64 a,.int .i64 b] 41 (0,0)) = W0:=⟨_,rfl⟩
  obtain ⟨W1,hW1⟩ : ∃ W1,W0.alloc (.cells #[P,C,G] 26 (0,0)) = W1:=⟨_,rfl⟩
  have s0 : W0.heap.size = w.heap.size + 1:=by rw [← hW0]; simp
  have b0 : Below w.heap.size w W0:=by rw [← hW0]; exact (Below.refl _ w).alloc (Nat.le_refl _) _
  have b1 : Below W0.heap.size W0 W1:=by rw [← hW1]; exact (Below.refl _ W0).alloc (Nat.le_refl _) _
  have o0 : W0.heap[w.heap.size]? = some (.cells #[.int .i64 op,.int .i64 a,.int .i64 b] 41 (0,0)):=by rw [← hW0]; unfold World.alloc; simp
  have o1:=(b1.block _ (by omega)).trans o0
  have y0 : W1.cell? ⟨w.heap.size,0,none⟩ = some (.int .i64 op):=ob_cell o1 0
  have HB:=Lib.hid (bel_trans (B:=w.heap.size) b0 b1)
  have HW0:=Lib.hid hW0
  have HW1:=Lib.hid hW1
  have f0 : (op == 0) = false:=by simp; omega
  have f1 : (op == 1) = false:=by simp; omega
  have f2 : (op == 2) = false:=by simp; omega
  have f3 : (op == 3) = false:=by simp; omega
  have f4 : (op == 4) = false:=by simp; omega
  have f5 : (op == 5) = false:=by simp; omega
  have f6 : (op == 6) = false:=by simp; omega
  have f7 : (op == 7) = false:=by simp; omega
  have f8 : (op == 8) = false:=by simp; omega
  have f9 : (op == 9) = false:=by simp; omega
  have f10 : (op == 10) = false:=by simp; omega
  have f11 : (op == 11) = false:=by simp; omega
  have f12 : (op == 12) = false:=by simp; omega
  have f13 : (op == 13) = false:=by simp; omega
  have f14 : (op == 14) = false:=by simp; omega
  have f15 : (op == 15) = false:=by simp; omega
  have f16 : (op == 16) = false:=by simp; omega
  have f17 : (op == 17) = false:=by simp; omega
  have f18 : (op == 18) = false:=by simp; omega
  have f19 : (op == 19) = false:=by simp; omega
  have f20 : (op == 20) = false:=by simp; omega
  have f21 : (op == 21) = false:=by simp; omega
  clear hW0 hW1 s0 b0 b1 o0 o1 hop
  go_enter Tryz.func8,Tryz.ntmps8
  go_wp2_with (fail)
  rw [HW0.out,HW1.out]
  go_wp2_with (fail)
  refine bodyPost_ret (v:=.tuple #[.int .i64 0,.int .i64 0]) (by simp [results,Tryz.results8,go_sem]) rfl ⟨rfl,HB.out⟩
theorem ceffect_any (op : Int) (n : Nat) (hn : n ≤ 16777215) (b : Int) (c : Cod) (w : World) (hv : CodV w c) (hok : c.Ok) :
    Calls Tryz.prog 8 #[.agg #[.int .i64 op,.int .i64 (n : Int),.int .i64 b],codA c] w fun e w'=>e = .returned (.tuple #[.int .i64 (effK op n (frV c.ps n)),.int .i64 (effM op)])∧Below w.heap.size w w':=by
  by_cases h10 : op = 10
  · subst h10
    exact ceffect_clo n hn b c w hv hok
  · by_cases ho : op < 0 ∨ 21 < op
    · have e1 : effK op n (frV c.ps n) = 0:=by unfold effK; rw [if_neg (by omega),if_neg (by omega),if_neg (by omega),if_neg (by omega),if_neg (by omega)]
      have e2 : effM op = 0:=by unfold effM; rw [if_neg (by omega)]
      rw [e1,e2]
      exact ceffect_other op ho _ _ _ _ _ w
    · exact ceffect_lit op (by omega) n hn b c w
end LM
namespace LM
attribute [local go_sem] run_store_flt
theorem below_iterD (W : World) (s : ByteArray) (pos : Nat) : Below W.heap.size W (W.iter s pos):=by
  unfold World.iter
  exact (Below.refl _ W).alloc (Nat.le_refl _) _
theorem dcontains_any (nm : ByteArray → Bool) (d : Int) (g : Nat) (kids : Fr) (B : Option Addr) (cap b off : Nat) (w : World) (hB : 0 < kids.len → B = some ⟨b,off,none⟩) (hF : FAt w b off kids) (hc1 : kids.len ≤ cap) (hc2 : cap ≤ 9223372036854775807)
    (hcl : ∀ hh k j r,kids.drop j = .cons hh k r → ∀ W,Below w.heap.size w W → DatV W hh k → Calls Tryz.prog 84 #[datA hh k.len,.pointer (some ⟨g,0,none⟩)] W fun e w'=>e = .returned (.bool (!rightK nm d hh k (rightF nm (d - 1) k)))∧Below W.heap.size W w') :
    Calls Tryz.prog 39 #[.slice B kids.len cap,.func (.func 84) #[] #[.pointer (some ⟨g,0,none⟩)]] w fun e w'=>e = .returned (.bool (!rightF nm d kids))∧Below w.heap.size w w':=by
  have H1:=Lib.hid (dindex_any nm d g kids B cap b off w hB hF hc1 hc2 hcl)
  clear hB hF hcl
  go_enter Tryz.func39,Tryz.ntmps39
  go_wp2_with (fail)
  refine H1.out.mono ?_
  rintro e w1 ⟨⟨z,rfl,hz⟩,hb1⟩
  have HB1:=Lib.hid hb1
  have HZ:=Lib.hid hz
  clear hb1 hz
  go_wp2_with (fail)
  go_ret
  exact ⟨by rw [← HZ.out]; rfl,HB1.out⟩
theorem dclosure_any (hh : Hd) (k : Fr) (depth : Int) (hd1 : 0 ≤ depth) (hd2 : depth ≤ 60) (g : Nat) (q : Bool) (w : World) (hg : g < w.heap.size) (hcell : w.cell? ⟨g,0,none⟩ = some (.int .i64 depth))
    (hR : ∀ W,Below w.heap.size w W → Calls Tryz.prog 69 #[datA hh k.len,.int .i64 (depth - 1)] W fun e w'=>e = .returned (.bool q)∧Below W.heap.size W w') :
    Calls Tryz.prog 84 #[datA hh k.len,.pointer (some ⟨g,0,none⟩)] w fun e w'=>e = .returned (.bool (!q))∧Below w.heap.size w w':=by
  obtain ⟨W0,hW0,hb0,ho,hs0⟩:=dat_block w hh k.len
  have x0 : (w.alloc (datO hh k.len)).cell? ⟨g,0,none⟩ = some (.int .i64 depth):=by rw [hW0]; exact (hb0.cell (p:=⟨g,0,none⟩) hg).trans hcell
  have HO:=Lib.hid ho
  have HW0:=Lib.hid hW0
  have HB0:=Lib.hid hb0
  have HR:=Lib.hid (hR W0 hb0)
  have w1 : IntKind.i64.wrap (depth - 1) = depth - 1:=by rw [IntKind.wrap_i64]; omega
  obtain ⟨y0,y1,y2,y3,y4,y5,y6,y7⟩:=C8.of_block ho
  clear hW0 hb0 ho hR hcell
  go_enter Tryz.func84,Tryz.ntmps84
  go_wp2_with (fail)
  rw [HW0.out]
  refine HR.out.mono ?_
  rintro e w1 ⟨rfl,hb1⟩
  have HB1:=Lib.hid (bel_trans (B:=w.heap.size) HB0.out hb1)
  clear hb1
  go_wp2_with (fail)
  go_ret
  exact ⟨rfl,HB1.out⟩
theorem dright_go (nm : ByteArray → Bool) (h : Hd) (kids : Fr) (depth : Int) (hd1 : 0 ≤ depth) (hd2 : depth ≤ 60) (sub : Bool) (w : World) (hD : DatV w h kids) (hok : h.Ok kids.len) (hu : UT w) (hnm : h.k = 4 → CallB w 82 #[.string h.t] (.bool (nm h.t)))
    (hsub : 0 < depth → ∀ g W,Below w.heap.size w W → g < W.heap.size → W.cell? ⟨g,0,none⟩ = some (.int .i64 depth) →
      Calls Tryz.prog 39 #[.slice h.B kids.len h.cap,.func (.func 84) #[] #[.pointer (some ⟨g,0,none⟩)]] W fun e w'=>e = .returned (.bool (!sub))∧Below W.heap.size W w') :
    Calls Tryz.prog 69 #[datA h kids.len,.int .i64 depth] w fun e w'=>e = .returned (.bool (rightK nm depth h kids sub))∧Below w.heap.size w w':=by
  have hE : CallB w 77 #[datA h kids.len] (.bool (elseB h.k (h.n == 0) (nothB h.fl h.f h.s h.xs) (h.t.toList == []) (((kids.len : Nat) : Int) == 0))):=fun W hW =>
    delse_any h kids.len _ _ _ _ W rfl rfl rfl fun W2 h2=>by
      have:=dnothing_any h.fl h.f h.s h.A h.xs.length h.c _ W2 fun W3 h3=>tright_any h.fl h.f hok.f h.s h.A h.c h.xs W3 (((hD.xs.below hW).below h2).below h3) hok.lm hok.l
      exact this
  obtain ⟨W0,hW0⟩ : ∃ W0,(w.alloc (datO h kids.len)).alloc (.cells #[.int .i64 depth] 3 (0,0)) = W0:=⟨_,rfl⟩
  have hb0 : Below w.heap.size w W0:=by rw [← hW0]; exact ((Below.refl _ w).alloc (Nat.le_refl _) _).alloc (by simp) _
  have hO : Obs W0 [(w.heap.size + 1,.cells #[.int .i64 depth] 3 (0,0)),(w.heap.size,datO h kids.len)]:=by
    rw [← hW0]
    have h1:=(Obs.nil.new (w:=w) (datO h kids.len)).new (.cells #[.int .i64 depth] 3 (0,0))
    simp only [World.size_alloc] at h1
    exact h1
  obtain ⟨q,hq⟩ : ∃ q,elseB h.k (h.n == 0) (nothB h.fl h.f h.s h.xs) (h.t.toList == []) (((kids.len : Nat) : Int) == 0) = q:=⟨_,rfl⟩
  rw [hq] at hE
  have HW0:=Lib.hid hW0
  have HB0:=Lib.hid hb0
  have O0:=Lib.hid hO
  have HE:=Lib.hid (hE W0 hb0)
  have c0:=C8.of_block hO.tl.hd
  obtain ⟨x0,x1,x2,x3,x4,x5,x6,x7⟩:=c0
  have HQ : Hid (rightK nm depth h kids sub = (q && (if h.k = 0 then rightN h.fl h.f h.s h.xs else if h.k = 1 then (h.n == 0 || h.n == 1) else if h.k = 2 then csignB h.n else if h.k = 3 then textB h.t else if h.k = 4 then nm h.t else
      (decide (0 < depth) && areB h.k kids.len (lastK kids) && sub)))):=Lib.hid (by unfold rightK; rw [hq])
  clear hW0 hb0 hO hE hq
  cases q
  · go_enter Tryz.func69,Tryz.ntmps69
    go_wp2_with (fail)
    rw [HW0.out]
    refine HE.out.mono ?_
    rintro e w1 ⟨rfl,hb1⟩
    have HB1:=Lib.hid (bel_trans (B:=w.heap.size) HB0.out hb1)
    clear hb1
    go_wp2_with (fail)
    go_ret
    exact ⟨by rw [HQ.out]; rfl,HB1.out⟩
  · rcases kinds h.k with hk | hk | hk | hk | hk | hk | hk | hk | ⟨k0,k1,k2,k3,k4,k5,k6,k7⟩
    · have HT:=Lib.hid fun W (hW : Below w.heap.size w W)=>tright_any h.fl h.f hok.f h.s h.A h.c h.xs W (hD.xs.below hW) hok.lm hok.l
      have HQ2 : Hid (rightK nm depth h kids sub = rightN h.fl h.f h.s h.xs):=Lib.hid (by rw [HQ.out,if_pos hk]; rfl)
      have HK:=Lib.hid hk
      clear hD hok hu hnm hsub HQ hk
      go_enter Tryz.func69,Tryz.ntmps69
      go_wp2_with (fail)
      rw [HW0.out]
      refine HE.out.mono ?_
      rintro e w1 ⟨rfl,hb1⟩
      have HB1:=Lib.hid (bel_trans (B:=w.heap.size) HB0.out hb1)
      obtain ⟨y0,y1,y2,y3,y4,y5,y6,y7⟩:=C8.of_block (O0.out.below hb1).tl.hd
      have z0:=ob_cell (O0.out.below hb1).hd 0
      rw [HK.out] at y0
      clear hb1
      go_wp2_with (fail)
      refine (HT.out _ HB1.out).mono ?_
      rintro e w2 ⟨rfl,hb2⟩
      have HB2:=Lib.hid (bel_trans (B:=w.heap.size) HB1.out hb2)
      clear hb2
      go_wp2_with (fail)
      go_ret
      exact ⟨by rw [HQ2.out]; rfl,HB2.out⟩
    · have HQ2 : Hid (rightK nm depth h kids sub = (h.n == 0 || h.n == 1)):=Lib.hid (by rw [HQ.out,if_neg (by omega),if_pos hk]; rfl)
      have HK:=Lib.hid hk
      clear hD hok hu hnm hsub HQ hk
      go_enter Tryz.func69,Tryz.ntmps69
      go_wp2_with (fail)
      rw [HW0.out]
      refine HE.out.mono ?_
      rintro e w1 ⟨rfl,hb1⟩
      have HB1:=Lib.hid (bel_trans (B:=w.heap.size) HB0.out hb1)
      obtain ⟨y0,y1,y2,y3,y4,y5,y6,y7⟩:=C8.of_block (O0.out.below hb1).tl.hd
      have z0:=ob_cell (O0.out.below hb1).hd 0
      rw [HK.out] at y0
      clear hb1
      go_wp2_with (fail)
      all_goals
        go_ret
        exact ⟨by rw [HQ2.out]; simp [*],HB1.out⟩
    · have HT:=Lib.hid fun W=>dsign_any h.n hok.n.1 hok.n.2 W
      have HQ2 : Hid (rightK nm depth h kids sub = csignB h.n):=Lib.hid (by rw [HQ.out,if_neg (by omega),if_neg (by omega),if_pos hk]; rfl)
      have HK:=Lib.hid hk
      clear hD hok hu hnm hsub HQ hk
      go_enter Tryz.func69,Tryz.ntmps69
      go_wp2_with (fail)
      rw [HW0.out]
      refine HE.out.mono ?_
      rintro e w1 ⟨rfl,hb1⟩
      have HB1:=Lib.hid (bel_trans (B:=w.heap.size) HB0.out hb1)
      obtain ⟨y0,y1,y2,y3,y4,y5,y6,y7⟩:=C8.of_block (O0.out.below hb1).tl.hd
      have z0:=ob_cell (O0.out.below hb1).hd 0
      rw [HK.out] at y0
      clear hb1
      go_wp2_with (fail)
      refine (HT.out _).mono ?_
      rintro e w2 ⟨rfl,rfl⟩
      go_wp2_with (fail)
      go_ret
      exact ⟨by rw [HQ2.out]; rfl,HB1.out⟩
    · have HV:=Lib.hid fun W (hW : Below w.heap.size w W)=>Tryz.utf8_ValidString h.t W (by have:=hok.t; omega) (hu W hW)
      have HC:=Lib.hid fun W=>Tryz.utf8_RuneCountInString h.t W (by have:=hok.t; omega)
      have HQ2 : Hid (rightK nm depth h kids sub = (Lib.validD h.t.data.toList && decide (Lib.runeCount h.t ≤ 400))):=Lib.hid (by rw [HQ.out,if_neg (by omega),if_neg (by omega),if_neg (by omega),if_pos hk]; rfl)
      have HK:=Lib.hid hk
      obtain ⟨rc,hrc⟩ : ∃ rc,Lib.runeCount h.t = rc:=⟨_,rfl⟩
      obtain ⟨vd,hvd⟩ : ∃ vd,Lib.validD h.t.data.toList = vd:=⟨_,rfl⟩
      rw [hrc] at HC HQ2
      rw [hvd] at HV HQ2
      clear hD hok hu hnm hsub HQ hk hrc hvd
      go_enter Tryz.func69,Tryz.ntmps69
      go_wp2_with (fail)
      rw [HW0.out]
      refine HE.out.mono ?_
      rintro e w1 ⟨rfl,hb1⟩
      have HB1:=Lib.hid (bel_trans (B:=w.heap.size) HB0.out hb1)
      obtain ⟨y0,y1,y2,y3,y4,y5,y6,y7⟩:=C8.of_block (O0.out.below hb1).tl.hd
      have z0:=ob_cell (O0.out.below hb1).hd 0
      rw [HK.out] at y0
      have HX1:=Lib.hid hb1
      clear hb1
      go_wp2_with (fail)
      refine (HV.out _ HB1.out).mono ?_
      rintro e w2 ⟨rfl,hb2⟩
      have HB2:=Lib.hid (bel_trans (B:=w.heap.size) HB1.out hb2)
      obtain ⟨v0,v1,v2,v3,v4,v5,v6,v7⟩:=C8.of_block (O0.out.below (bel_trans (B:=W0.heap.size) HX1.out hb2)).tl.hd
      clear hb2 y0 y1 y2 y3 y4 y5 y6 y7 z0
      cases vd
      · go_wp2_with (fail)
        go_ret
        exact ⟨by rw [HQ2.out]; rfl,HB2.out⟩
      · go_wp2_with (fail)
        refine (HC.out _).mono ?_
        rintro e w3 ⟨rfl,pos,rfl⟩
        have HB3:=Lib.hid (bel_trans (B:=w.heap.size) HB2.out (below_iterD w2 h.t pos))
        have h400 : ((rc : Int) ≤ 400 ↔ rc ≤ 400):=by omega
        have h401 : decide ((rc : Int) ≤ 400) = decide (rc ≤ 400):=decide_eq_decide.2 h400
        clear h400
        go_wp2_with (fail)
        go_ret
        exact ⟨by rw [HQ2.out]; first | rfl | simp [*],HB3.out⟩
    · have HT:=Lib.hid (hnm hk)
      have HQ2 : Hid (rightK nm depth h kids sub = nm h.t):=Lib.hid (by rw [HQ.out,if_neg (by omega),if_neg (by omega),if_neg (by omega),if_neg (by omega),if_pos hk]; rfl)
      have HK:=Lib.hid hk
      clear hD hok hu hnm hsub HQ hk
      go_enter Tryz.func69,Tryz.ntmps69
      go_wp2_with (fail)
      rw [HW0.out]
      refine HE.out.mono ?_
      rintro e w1 ⟨rfl,hb1⟩
      have HB1:=Lib.hid (bel_trans (B:=w.heap.size) HB0.out hb1)
      obtain ⟨y0,y1,y2,y3,y4,y5,y6,y7⟩:=C8.of_block (O0.out.below hb1).tl.hd
      have z0:=ob_cell (O0.out.below hb1).hd 0
      rw [HK.out] at y0
      clear hb1
      go_wp2_with (fail)
      refine (HT.out _ HB1.out).mono ?_
      rintro e w2 ⟨rfl,hb2⟩
      have HB2:=Lib.hid (bel_trans (B:=w.heap.size) HB1.out hb2)
      clear hb2
      go_wp2_with (fail)
      go_ret
      exact ⟨by rw [HQ2.out]; rfl,HB2.out⟩
    all_goals
      have f0 : (h.k == 0) = false:=by first | exact k0 | (rw [hk]; rfl)
      have f1 : (h.k == 1) = false:=by first | exact k1 | (rw [hk]; rfl)
      have f2 : (h.k == 2) = false:=by first | exact k2 | (rw [hk]; rfl)
      have f3 : (h.k == 3) = false:=by first | exact k3 | (rw [hk]; rfl)
      have f4 : (h.k == 4) = false:=by first | exact k4 | (rw [hk]; rfl)
      have HQ2 : Hid (rightK nm depth h kids sub = (decide (0 < depth) && areB h.k kids.len (lastK kids) && sub)):=Lib.hid (by
        rw [beq_eq_false_iff_ne] at f0 f1 f2 f3 f4
        rw [HQ.out,if_neg f0,if_neg f1,if_neg f2,if_neg f3,if_neg f4]; rfl)
      try clear hk
      try clear k0 k1 k2 k3 k4 k5 k6 k7
      by_cases hd0 : 0 < depth
      · have HA : Hid (∀ W,Below w.heap.size w W → Calls Tryz.prog 83 #[.int .i64 h.k,.slice h.B kids.len h.cap] W fun e w'=>e = .returned (.bool (areB h.k kids.len (lastK kids)))∧Below W.heap.size W w'):=Lib.hid fun W hW=>by
          obtain ⟨b,off,hB,hF⟩:=(hD.below hW).items
          rcases Nat.eq_zero_or_pos kids.len with h0 | hp
          · have:=dareitems_any h.k h.B kids.len h.cap (by omega) b off ⟨lastK kids,0,false,0,false,none,[],0,⟨#[]⟩,none,0⟩ 0 W (fun h=>by omega) (fun h=>by omega)
            exact this
          · obtain ⟨hh,k,e1,e2⟩:=last_item kids hp
            have:=dareitems_any h.k h.B kids.len h.cap (by have:=hok.cap; omega) b off hh k.len W hB (fun _=>(counted_item hF e1).2.1)
            rw [e2] at this
            exact this
        have HS:=Lib.hid (hsub hd0)
        have hdt : decide (0 < depth) = true:=decide_eq_true hd0
        obtain ⟨ab,hab⟩ : ∃ ab,areB h.k kids.len (lastK kids) = ab:=⟨_,rfl⟩
        rw [hab,hdt] at HQ2
        rw [hab] at HA
        clear hD hok hu hnm hsub HQ hab
        go_enter Tryz.func69,Tryz.ntmps69
        go_wp2_with (fail)
        rw [HW0.out]
        refine HE.out.mono ?_
        rintro e w1 ⟨rfl,hb1⟩
        have HB1:=Lib.hid (bel_trans (B:=w.heap.size) HB0.out hb1)
        obtain ⟨y0,y1,y2,y3,y4,y5,y6,y7⟩:=C8.of_block (O0.out.below hb1).tl.hd
        have z0:=ob_cell (O0.out.below hb1).hd 0
        rw [show (#[Value.int .i64 depth] : Array Value)[0]? = some (.int .i64 depth) from rfl] at z0
        have HX1:=Lib.hid hb1
        clear hb1
        go_wp2_with (fail)
        refine (HA.out _ HB1.out).mono ?_
        rintro e w2 ⟨rfl,hb2⟩
        have HB2:=Lib.hid (bel_trans (B:=w.heap.size) HB1.out hb2)
        have O2:=Lib.hid (O0.out.below (bel_trans (B:=W0.heap.size) HX1.out hb2))
        have hlt : w.heap.size + 1 < w2.heap.size:=by
          have h1:=(O0.out.below (bel_trans (B:=W0.heap.size) HX1.out hb2)).hd
          rcases Nat.lt_or_ge (w.heap.size + 1) w2.heap.size with h2 | h2
          · exact h2
          · rw [Array.getElem?_eq_none h2] at h1; cases h1
        obtain ⟨v0,v1,v2,v3,v4,v5,v6,v7⟩:=C8.of_block (O0.out.below (bel_trans (B:=W0.heap.size) HX1.out hb2)).tl.hd
        have u0:=ob_cell (O0.out.below (bel_trans (B:=W0.heap.size) HX1.out hb2)).hd 0
        rw [show (#[Value.int .i64 depth] : Array Value)[0]? = some (.int .i64 depth) from rfl] at u0
        have HS2:=Lib.hid (HS.out _ _ HB2.out hlt u0)
        clear hb2 y0 y1 y2 y3 y4 y5 y6 y7 z0 u0
        cases ab
        · go_wp2_with (fail)
          go_ret
          exact ⟨by rw [HQ2.out]; rfl,HB2.out⟩
        · go_wp2_with (fail)
          refine HS2.out.mono ?_
          rintro e w3 ⟨rfl,hb3⟩
          have HB3:=Lib.hid (bel_trans (B:=w.heap.size) HB2.out hb3)
          clear hb3
          go_wp2_with (fail)
          go_ret
          exact ⟨by rw [HQ2.out]; simp,HB3.out⟩
      · have hdf : decide (0 < depth) = false:=decide_eq_false hd0
        rw [hdf] at HQ2
        clear hD hok hu hnm hsub HQ
        go_enter Tryz.func69,Tryz.ntmps69
        go_wp2_with (fail)
        rw [HW0.out]
        refine HE.out.mono ?_
        rintro e w1 ⟨rfl,hb1⟩
        have HB1:=Lib.hid (bel_trans (B:=w.heap.size) HB0.out hb1)
        obtain ⟨y0,y1,y2,y3,y4,y5,y6,y7⟩:=C8.of_block (O0.out.below hb1).tl.hd
        have z0:=ob_cell (O0.out.below hb1).hd 0
        rw [show (#[Value.int .i64 depth] : Array Value)[0]? = some (.int .i64 depth) from rfl] at z0
        clear hb1
        go_wp2_with (fail)
        go_ret
        exact ⟨by rw [HQ2.out]; simp,HB1.out⟩
theorem dright_any (nm : ByteArray → Bool) : ∀ (m : Nat) (kids : Fr),kids.size < m → kids.Ok → ∀ (h : Hd) (depth : Int) (w : World),DatV w h kids → h.Ok kids.len → 0 ≤ depth → depth ≤ 60 → UT w → (∀ t,(h.k = 4∧t = h.t) ∨ SymIn t kids → CallB w 82 #[.string t] (.bool (nm t))) →
    Calls Tryz.prog 69 #[datA h kids.len,.int .i64 depth] w fun e w'=>e = .returned (.bool (rightK nm depth h kids (rightF nm (depth - 1) kids)))∧Below w.heap.size w w':=by
  intro m
  induction m with
  | zero=>intro kids h; omega
  | succ m ih =>
    intro kids hsz hok h depth w hd hho h0 h60 hu hnm
    refine dright_go nm h kids depth h0 h60 (rightF nm (depth - 1) kids) w hd hho hu (fun hk=>hnm _ (.inl ⟨hk,rfl⟩)) fun hpos g W hW hg hcell=>?_
    obtain ⟨b,off,hB,hF⟩:=(hd.below hW).items
    refine dcontains_any nm (depth - 1) g kids h.B h.cap b off W hB hF hho.cap.1 hho.cap.2 fun hh k j r hdr W2 hW2 hD2=>?_
    have hko:=Fr.Ok.drop j hok
    rw [hdr] at hko
    refine dclosure_any hh k depth h0 h60 g _ W2 (Nat.lt_of_lt_of_le hg hW2.size) ((hW2.cell (p:=⟨g,0,none⟩) hg).trans hcell) fun W3 hW3=>?_
    refine ih k (by have:=size_item hdr; omega) hko.2.1 hh (depth - 1) W3 (hD2.below hW3) hko.1 (by omega) (by omega) ((hu.keep hW).keep (hW2.trans (hW3.mono hW2.size))) fun t ht=>?_
    refine callB_keep (hnm t (.inr ?_)) (bel_trans (B:=w.heap.size) (bel_trans (B:=w.heap.size) hW hW2) hW3)
    have h1 : SymIn t (kids.drop j):=by rw [hdr]; exact ht.elim .inl (fun h=>.inr (.inl h))
    exact SymIn.drop j h1
def rightD (nm : ByteArray → Bool) (h : Hd) (kids : Fr) : Bool:=decide (cnt 3001 1 kids ≤ 3000) && rightK nm 60 h kids (rightF nm 59 kids)
theorem dRight_any (nm : ByteArray → Bool) (kids : Fr) (hok : kids.Ok) (h : Hd) (w : World) (hd : DatV w h kids) (hho : h.Ok kids.len) (hu : UT w) (hnm : ∀ t,(h.k = 4∧t = h.t) ∨ SymIn t kids → CallB w 82 #[.string t] (.bool (nm t))) :
    Calls Tryz.prog 57 #[datA h kids.len] w fun e w'=>e = .returned (.bool (rightD nm h kids))∧Below w.heap.size w w':=by
  obtain ⟨W0,hW0,hb0,ho,hs0⟩:=dat_block w h kids.len
  have HC:=Lib.hid (counted_any (kids.size + 1) kids (by omega) hok h 3001 W0 (hd.below hb0) hho.cap.1 hho.cap.2 (by decide) (by decide))
  have HR:=Lib.hid fun W (hW : Below w.heap.size w W)=>dright_any nm (kids.size + 1) kids (by omega) hok h 60 W (hd.below hW) hho (by decide) (by decide) (hu.keep hW) fun t ht=>callB_keep (hnm t ht) hW
  have HO:=Lib.hid ho
  have HW0:=Lib.hid hW0
  have HB0:=Lib.hid hb0
  have HS:=Lib.hid hs0
  obtain ⟨c,hc⟩ : ∃ c,cnt 3001 1 kids = c:=⟨_,rfl⟩
  obtain ⟨r,hr⟩ : ∃ r,rightK nm 60 h kids (rightF nm (60 - 1) kids) = r:=⟨_,rfl⟩
  have HQ : Hid (rightD nm h kids = (decide (c ≤ 3000) && r)):=Lib.hid (by unfold rightD; rw [hc,← hr]; rfl)
  rw [hc] at HC
  rw [hr] at HR
  obtain ⟨x0,x1,x2,x3,x4,x5,x6,x7⟩:=C8.of_block ho
  clear hW0 hb0 ho hd hho hu hnm hc hr hok hs0
  by_cases h3 : c ≤ 3000
  · have d1 : decide (c ≤ 3000) = true:=decide_eq_true h3
    rw [d1] at HQ
    clear h3
    go_enter Tryz.func57,Tryz.ntmps57
    go_wp2_with (fail)
    rw [HW0.out]
    refine HC.out.mono ?_
    rintro e w1 ⟨rfl,hb1⟩
    have HB1:=Lib.hid (bel_trans (B:=w.heap.size) HB0.out hb1)
    obtain ⟨y0,y1,y2,y3,y4,y5,y6,y7⟩:=(C8.of_block HO.out).keep hb1 HS.out
    simp only [Nat.zero_add] at y0 y1 y2 y3 y4 y5 y6 y7
    clear hb1
    go_wp2_with (fail)
    refine (HR.out _ HB1.out).mono ?_
    rintro e w2 ⟨rfl,hb2⟩
    have HB2:=Lib.hid (bel_trans (B:=w.heap.size) HB1.out hb2)
    clear hb2
    go_wp2_with (fail)
    go_ret
    exact ⟨by rw [HQ.out]; rfl,HB2.out⟩
  · have d1 : decide (c ≤ 3000) = false:=decide_eq_false h3
    rw [d1] at HQ
    clear h3
    go_enter Tryz.func57,Tryz.ntmps57
    go_wp2_with (fail)
    rw [HW0.out]
    refine HC.out.mono ?_
    rintro e w1 ⟨rfl,hb1⟩
    have HB1:=Lib.hid (bel_trans (B:=w.heap.size) HB0.out hb1)
    clear hb1
    go_wp2_with (fail)
    go_ret
    exact ⟨by rw [HQ.out]; rfl,HB1.out⟩
end LM
namespace LM
attribute [local go_sem] run_store_flt
end LM
namespace LM
def AlikeH (h h' : Hd) : Prop:=h'.k = h.k∧h'.n = h.n∧h'.fl = h.fl∧h'.f = h.f∧h'.s = h.s∧h'.xs = h.xs∧h'.t = h.t
def AlikeF : Fr → Fr → Prop
  | .nil,.nil=>True
  | .cons h k r,.cons h' k' r'=>AlikeH h h'∧AlikeF k k'∧AlikeF r r'
  | .nil,.cons _ _ _=>False
  | .cons _ _ _,.nil=>False
def FreshH (B : Nat) (h : Hd) (n : Nat) : Prop:=(0 < h.xs.length → ∀ ad,h.A = some ad → B ≤ ad.block)∧(0 < n → ∀ ad,h.B = some ad → B ≤ ad.block)
def FreshF (B : Nat) : Fr → Prop
  | .nil=>True
  | .cons h k r=>FreshH B h k.len∧FreshF B k∧FreshF B r
def AwayH (g : Nat) (h : Hd) (n : Nat) : Prop:=(0 < h.xs.length → Off h.A g)∧(0 < n → Off h.B g)
def AwayF (g : Nat) : Fr → Prop
  | .nil=>True
  | .cons h k r=>AwayH g h k.len∧AwayF g k∧AwayF g r
structure Out8 (g o : Nat) (W W' : World) : Prop where
  size : W'.heap.size = W.heap.size
  cell : ∀ c i,(c ≠ g ∨ i < o ∨ o + 8 ≤ i) → W'.cell? ⟨c,i,none⟩ = W.cell? ⟨c,i,none⟩
end LM
namespace LM
def head8 (h : Hd) (n : Nat) : List Value:=[.int .i64 h.k,.int .i64 h.n,.bool h.fl,.float .f64 h.f,.bool h.s,.slice h.A h.xs.length h.c,.string h.t,.slice h.B n h.cap]
def cellsF : Fr → List Value
  | .nil=>[]
  | .cons h k r=>head8 h k.len ++ cellsF r
end LM
namespace LM
end LM
namespace LM
attribute [local go_sem] run_store_flt
abbrev zeroO : Obj:=.cells #[.int .i64 0,.int .i64 0,.bool false,.float .f64 0,.bool false,.slice none 0 0,.string ⟨#[]⟩,.slice none 0 0] 65 (0,0)
structure Still (W W' : World) : Prop where
  size : W.heap.size ≤ W'.heap.size
  frz : ∀ b,b < W.heap.size → ∀ i,W'.frozen? ⟨b,i,none⟩ = W.frozen? ⟨b,i,none⟩
def SoftH (w : World) (h : Hd) (n : Nat) : Prop:=(0 < h.xs.length → ∀ ad,h.A = some ad → ad.block < w.heap.size∧∀ i,w.frozen? ⟨ad.block,i,none⟩ = false)∧(0 < n → ∀ ad,h.B = some ad → ad.block < w.heap.size∧∀ i,w.frozen? ⟨ad.block,i,none⟩ = false)
def SoftF (w : World) : Fr → Prop
  | .nil=>True
  | .cons h k r=>SoftH w h k.len∧SoftF w k∧SoftF w r
theorem heap_lt {W : World} {g : Nat} {o : Obj} (h : W.heap[g]? = some o) : g < W.heap.size:=by
  rcases Nat.lt_or_ge g W.heap.size with h2 | h2
  · exact h2
  · rw [Array.getElem?_eq_none h2] at h; cases h
end LM
namespace LM
attribute [local go_sem] run_store_flt
end LM
namespace LM
attribute [local go_sem] run_store_flt
def WR (b : Nat) (bs : List UInt8) (W : World) : Prop:=Lib.IsBuilderF 115 5 b b (Lib.byteCells bs) W∧b < W.heap.size
def Wrote (b : Nat) (bs add : List UInt8) (W : World) (e : Ending) (W' : World) : Prop:=(∃ v,e = .returned v)∧WR b (bs ++ add) W'∧Below b W W'∧Keeps8 (b + 1) W W'
theorem strCells_eq (s : ByteArray) : Lib.strCells s = Lib.byteCells s.data.toList:=rfl
theorem wrstr_any (b : Nat) (bs : List UInt8) (s : ByteArray) (w : World) (h : WR b bs w) (hl : bs.length + s.size ≤ 140737488355328) :
    Calls Tryz.prog 70 #[.pointer (some ⟨b,0,none⟩),.string s] w (Wrote b bs s.data.toList w):=by
  refine (wstr_any b b (Lib.byteCells bs) s w h.1 (by rw [Lib.byteCells_length]; exact hl) (Nat.le_of_lt h.2)).mono ?_
  rintro e w' ⟨rfl,h1,h2,h3⟩
  refine ⟨⟨_,rfl⟩,⟨?_,Nat.lt_of_lt_of_le h.2 h2.size⟩,h2,keeps8_others h3 h2.size (Nat.lt_succ_self _)⟩
  rw [Lib.byteCells_append]
  rw [strCells_eq] at h1
  exact .inr h1
theorem WR.below {b : Nat} {bs : List UInt8} {w w' : World} (h : WR b bs w) (hb : Below w.heap.size w w') : WR b bs w':=⟨builder_below h.1 hb,Nat.lt_of_lt_of_le h.2 hb.size⟩
def leafK (k : Int) : Prop:=k ≠ 5∧k ≠ 6∧k ≠ 7
instance (k : Int) : Decidable (leafK k):=by unfold leafK; infer_instance
def Fr.isNil : Fr → Bool
  | .nil=>true
  | .cons _ _ _=>false
def txF (lf : Hd → List UInt8) : Bool → Bool → Fr → List UInt8
  | _,_,.nil=>[]
  | dot,fst,.cons h k r=>(if dot && r.isNil then [32,46,32] else if fst then [] else [32]) ++
      (if h.k = 5 then [40] ++ txF lf false true k ++ [41] else if h.k = 6 then [40] ++ txF lf true true k ++ [41] else if h.k = 7 then [35,40] ++ txF lf false true k ++ [41] else lf h) ++ txF lf dot false r
def txD (lf : Hd → List UInt8) (h : Hd) (k : Fr) : List UInt8 :=
  if h.k = 5 then [40] ++ txF lf false true k ++ [41] else if h.k = 6 then [40] ++ txF lf true true k ++ [41] else if h.k = 7 then [35,40] ++ txF lf false true k ++ [41] else lf h
theorem dwitems_any (lf : Hd → List UInt8) (kids : Fr) (n : Nat) (hn : n ≤ kids.len) (o : ByteArray) (B : Option Addr) (cap bb off b : Nat) (bs : List UInt8) (w0 w : World) (h0 : Below b w0 w) (hw0 : b = w0.heap.size) (hB : 0 < n → B = some ⟨bb,off,none⟩) (hF : FAt w0 bb off kids) (hc1 : n ≤ cap) (hc2 : cap ≤ 9223372036854775807)
    (tx : Nat → List UInt8) (ht0 : tx 0 = []) (hts : ∀ hh k j r,j < n → kids.drop j = .cons hh k r → tx (j + 1) = tx j ++ ((if j = 0 then [] else [32]) ++ txD lf hh k)) (htl : ∀ j,j ≤ n → (tx j).length ≤ (tx n).length)
    (hW : WR b bs w) (hl : bs.length + o.size + (tx n).length ≤ 100000000000)
    (hcl : ∀ hh k j r,j < n → kids.drop j = .cons hh k r → ∀ W cs,Below b w0 W → WR b cs W → cs.length + (txD lf hh k).length ≤ 100000000000 → Calls Tryz.prog 58 #[.pointer (some ⟨b,0,none⟩),datA hh k.len] W (Wrote b cs (txD lf hh k) W)) :
    Calls Tryz.prog 75 #[.pointer (some ⟨b,0,none⟩),.string o,.slice B n cap] w (Wrote b bs (o.data.toList ++ tx n) w):=by
  rcases Nat.eq_zero_or_pos n with hn0 | hpos
  · subst hn0
    have H1:=Lib.hid (wrstr_any b bs o w hW (by omega))
    have HT:=Lib.hid ht0
    clear hw0 hcl hts htl h0 hF hB ht0 hW
    go_enter Tryz.func75,Tryz.ntmps75
    go_wp2_with (fail)
    refine H1.out.mono ?_
    rintro e w1 ⟨⟨v,rfl⟩,hr⟩
    have HR:=Lib.hid hr
    clear hr
    go_wp2_with (fail)
    go_loopg [13] 0 (fun kk i wr=>wr = w1∧i = .int .i64 0)
    case atStart=>exact ⟨rfl,rfl⟩
    case round =>
      obtain ⟨rfl,rfl⟩:=hrel
      go_wp2_with (fail)
      go_end0
      refine ⟨⟨_,rfl⟩,?_,HR.out.2.1,HR.out.2.2⟩
      show WR b (bs ++ (o.data.toList ++ tx 0)) _
      rw [HT.out,List.append_nil]
      exact HR.out.1
  · obtain rfl:=hB hpos
    have H1:=Lib.hid (wrstr_any b bs o w hW (by omega))
    have HF:=Lib.hid hF
    have HCL:=Lib.hid hcl
    have HTS:=Lib.hid hts
    have HTL:=Lib.hid htl
    have H0:=Lib.hid h0
    have HT:=Lib.hid ht0
    have HWB:=Lib.hid hW.2
    have HW0:=Lib.hid hw0
    clear hw0 hcl hts htl h0 hF hB ht0 hW
    go_enter Tryz.func75,Tryz.ntmps75
    go_wp2_with (fail)
    refine H1.out.mono ?_
    rintro e w1 ⟨⟨v,rfl⟩,hr⟩
    have HR:=Lib.hid hr
    clear hr
    go_wp2_with (fail)
    go_loopg [13] n (fun kk i wr=>∃ j : Nat,j ≤ n∧kk = n - j∧i = .int .i64 (j : Int)∧WR b (bs ++ (o.data.toList ++ tx j)) wr∧Below b w wr∧Keeps8 (b + 1) w wr)
    case atStart=>exact ⟨0,Nat.zero_le _,rfl,rfl,by rw [HT.out,List.append_nil]; exact HR.out.1,HR.out.2.1,HR.out.2.2⟩
    case round =>
      obtain ⟨j,hj,rfl,rfl,hI1,hI2,hI3⟩:=hrel
      have J1:=Lib.hid hI1
      have J2:=Lib.hid hI2
      have J3:=Lib.hid hI3
      clear hI1 hI2 hI3
      by_cases hjl : j < n
      · obtain ⟨hh,k,r,hdr,hdr1⟩:=Fr.cons_of_lt (show j < kids.len by omega)
        have hbel : Below b w0 wr:=H0.out.trans J2.out
        obtain ⟨hbl,⟨x0,x1,x2,x3,x4,x5,x6,x7⟩,-⟩:=counted_item (FAt.below (HW0.out ▸ hbel) _ _ _ HF.out) hdr
        obtain ⟨W2,hW2⟩ : ∃ W2,wr.alloc (datO hh k.len) = W2:=⟨_,rfl⟩
        have hba : Below wr.heap.size wr W2:=by rw [← hW2]; exact (Below.refl _ wr).alloc (Nat.le_refl _) _
        have hbo : W2.heap[wr.heap.size]? = some (datO hh k.len):=by rw [← hW2]; unfold World.alloc; simp
        have hwb:=J1.out.2
        have A1:=Lib.hid (J1.out.below hba)
        have A2:=Lib.hid (bel_trans (B:=b) J2.out hba (by have:=HWB.out; omega))
        have A3:=Lib.hid (J3.out.trans (keeps8_below hba))
        have A0:=Lib.hid (bel_trans (B:=b) hbel hba (by have:=HW0.out; omega))
        have BO:=Lib.hid hbo
        have HW2:=Lib.hid hW2
        have ts:=HTS.out hh k j r hjl hdr
        have tl:=HTL.out (j + 1) (by omega)
        rw [ts,List.length_append,List.length_append] at tl
        obtain ⟨u0,u1,u2,u3,u4,u5,u6,u7⟩:=C8.of_block hbo
        have CL:=Lib.hid fun (W : World) (cs : List UInt8) (h1 : Below b w0 W) (h2 : WR b cs W) (h3 : cs.length + (txD lf hh k).length ≤ 100000000000)=>HCL.out hh k j r hjl hdr W cs h1 h2 h3
        have TS:=Lib.hid ts
        have TL:=Lib.hid tl
        have HJ:=Lib.hid hjl
        clear hdr hdr1 ts tl hbel hba hbo hW2 hwb
        by_cases hj0 : j = 0
        · have dj : decide (0 < j) = false:=decide_eq_false (by omega)
          have HJ0:=Lib.hid hj0
          have ET:=Lib.hid (show tx (j + 1) = tx j ++ txD lf hh k by rw [TS.out,if_pos hj0,List.nil_append])
          clear hj0
          go_wp2_with (fail)
          rw [HW2.out]
          refine (CL.out W2 _ A0.out A1.out (by have:=TL.out; rw [List.length_append,List.length_append,← Lib.size_eq]; omega)).mono ?_
          rintro e w3 ⟨⟨v3,rfl⟩,h31,h32,h33⟩
          have B1:=Lib.hid h31
          have B2:=Lib.hid (A2.out.trans h32)
          have B3:=Lib.hid (A3.out.trans h33)
          clear h31 h32 h33
          go_wp2_with (fail)
          go_roundg (n - (j + 1))
          case measure=>omega
          case rel=>exact ⟨j + 1,by omega,rfl,by go_num,by rw [ET.out]; have:=B1.out; rw [List.append_assoc,List.append_assoc] at this; exact this,B2.out,B3.out⟩
        · have dj : decide (0 < j) = true:=decide_eq_true (by omega)
          have ET:=Lib.hid (show tx (j + 1) = tx j ++ ([32] ++ txD lf hh k) by rw [TS.out,if_neg hj0])
          have H2:=Lib.hid (wrstr_any b _ ⟨#[32]⟩ W2 A1.out (by have:=TL.out; rw [if_neg hj0] at this; have t2 : ([32] : List UInt8).length = 1:=rfl; rw [List.length_append,List.length_append,← Lib.size_eq]; show _ + 1 ≤ _; omega))
          have TL2:=Lib.hid (show (tx j).length + (1 + (txD lf hh k).length) ≤ (tx n).length by have:=TL.out; rw [if_neg hj0] at this; exact this)
          clear hj0
          go_wp2_with (fail)
          rw [HW2.out]
          refine H2.out.mono ?_
          rintro e w3 ⟨⟨v3,rfl⟩,h31,h32,h33⟩
          have B1:=Lib.hid h31
          have B2:=Lib.hid (A2.out.trans h32)
          have B3:=Lib.hid (A3.out.trans h33)
          have B0:=Lib.hid (A0.out.trans h32)
          have hbo3:=h33.same wr.heap.size _ (by have:=J1.out.2; omega) BO.out rfl
          obtain ⟨q0,q1,q2,q3,q4,q5,q6,q7⟩:=C8.of_block hbo3
          clear h31 h32 h33 hbo3 u0 u1 u2 u3 u4 u5 u6 u7
          go_wp2_with (fail)
          refine (CL.out w3 _ B0.out B1.out (by have:=TL2.out; rw [List.length_append,List.length_append,List.length_append,← Lib.size_eq]; show _ + 1 + _ ≤ _; omega)).mono ?_
          rintro e w4 ⟨⟨v4,rfl⟩,h31,h32,h33⟩
          have C1:=Lib.hid h31
          have C2:=Lib.hid (B2.out.trans h32)
          have C3:=Lib.hid (B3.out.trans h33)
          clear h31 h32 h33
          go_wp2_with (fail)
          go_roundg (n - (j + 1))
          case measure=>omega
          case rel=>exact ⟨j + 1,by omega,rfl,by go_num,by rw [ET.out]; have:=C1.out; simp only [List.append_assoc] at this ⊢; exact this,C2.out,C3.out⟩
      · obtain rfl : j = n:=by omega
        go_wp2_with (fail)
        go_end0
        exact ⟨⟨_,rfl⟩,J1.out,J2.out,J3.out⟩
end LM
namespace LM
attribute [local go_sem] run_store_flt
def txI (lf : Hd → List UInt8) : Nat → Bool → Fr → List UInt8
  | 0,_,_=>[]
  | _ + 1,_,.nil=>[]
  | j + 1,fst,.cons h k r=>(if fst then [] else [32]) ++ txD lf h k ++ txI lf j false r
theorem txI_step (lf : Hd → List UInt8) : ∀ (j : Nat) (fst : Bool) (fr : Fr) (hh : Hd) (k r : Fr),fr.drop j = .cons hh k r → txI lf (j + 1) fst fr = txI lf j fst fr ++ ((if (j = 0∧fst = true) then [] else [32]) ++ txD lf hh k):=by
  intro j
  induction j with
  | zero =>
    intro fst fr hh k r hd
    cases fr with
    | nil=>cases hd
    | cons a b c =>
      obtain ⟨rfl,rfl,rfl⟩ : a = hh∧b = k∧c = r:=by cases hd; exact ⟨rfl,rfl,rfl⟩
      show (if fst then [] else [32]) ++ txD lf a b ++ [] = [] ++ _
      cases fst <;> simp
  | succ j ih =>
    intro fst fr hh k r hd
    cases fr with
    | nil=>cases hd
    | cons a b c =>
      have h1:=ih false c hh k r hd
      show (if fst then [] else [32]) ++ txD lf a b ++ txI lf (j + 1) false c = ((if fst then [] else [32]) ++ txD lf a b ++ txI lf j false c) ++ _
      rw [h1]
      simp
theorem txI_all (lf : Hd → List UInt8) : ∀ (fr : Fr) (fst : Bool),txI lf fr.len fst fr = txF lf false fst fr:=by
  intro fr
  induction fr with
  | nil=>intro fst; rfl
  | cons h k r _ ih =>
    intro fst
    show (if fst then [] else [32]) ++ txD lf h k ++ txI lf r.len false r = _
    rw [ih]
    unfold txD
    show _ = (if (false && r.isNil) then [32,46,32] else if fst then [] else [32]) ++ _ ++ txF lf false false r
    rw [Bool.false_and]
    cases fst <;> rfl
theorem txI_dot (lf : Hd → List UInt8) : ∀ (fr : Fr) (fst : Bool) (hh : Hd) (k : Fr),0 < fr.len → fr.drop (fr.len - 1) = .cons hh k .nil → txF lf true fst fr = txI lf (fr.len - 1) fst fr ++ [32,46,32] ++ txD lf hh k:=by
  intro fr
  induction fr with
  | nil=>intro fst hh k h; exact absurd h (by show ¬ 0 < 0; omega)
  | cons a b c _ ih =>
    intro fst hh k _ hd
    cases c with
    | nil =>
      obtain ⟨rfl,rfl⟩ : a = hh∧b = k:=by cases hd; exact ⟨rfl,rfl⟩
      show [32,46,32] ++ _ ++ [] = [] ++ [32,46,32] ++ txD lf a b
      unfold txD
      simp
    | cons a2 b2 c2 =>
      have hl : (Fr.cons a2 b2 c2).len = c2.len + 1:=rfl
      have hl2 : (Fr.cons a b (Fr.cons a2 b2 c2)).len - 1 = c2.len + 1:=by show c2.len + 1 + 1 - 1 = _; omega
      rw [hl2] at hd ⊢
      have h1:=ih false hh k (by rw [hl]; omega) (by rw [hl]; exact hd)
      rw [hl,Nat.add_sub_cancel] at h1
      show (if fst then [] else [32]) ++ _ ++ txF lf true false (Fr.cons a2 b2 c2) = ((if fst then [] else [32]) ++ txD lf a b ++ txI lf c2.len false (Fr.cons a2 b2 c2)) ++ _ ++ _
      rw [h1]
      unfold txD
      simp
end LM
namespace LM
attribute [local go_sem] run_store_flt
def WH (P : Hd → Prop) (h : Hd) (k : Fr) : Prop:=(leafK h.k → k = .nil∧P h)∧(h.k = 6 → 2 ≤ k.len)
def WOk (P : Hd → Prop) : Fr → Prop
  | .nil=>True
  | .cons h k r=>WH P h k∧WOk P k∧WOk P r
theorem WOk.drop {P : Hd → Prop} : ∀ (j : Nat) {fr : Fr},WOk P fr → WOk P (fr.drop j):=by
  intro j
  induction j with
  | zero=>intro fr h; exact h
  | succ j ih =>
    intro fr h
    cases fr with
    | nil=>exact trivial
    | cons hh k r=>exact ih h.2.2
theorem txI_mono (lf : Hd → List UInt8) : ∀ (j n : Nat) (fst : Bool) (fr : Fr),j ≤ n → (txI lf j fst fr).length ≤ (txI lf n fst fr).length:=by
  intro j
  induction j with
  | zero=>intro n fst fr _; show 0 ≤ _; omega
  | succ j ih =>
    intro n fst fr hn
    obtain ⟨m,rfl⟩ : ∃ m,n = m + 1:=⟨n - 1,by omega⟩
    cases fr with
    | nil=>exact Nat.le_refl _
    | cons a b c =>
      have:=ih m false c (by omega)
      show ((if fst then [] else [32]) ++ txD lf a b ++ txI lf j false c).length ≤ ((if fst then [] else [32]) ++ txD lf a b ++ txI lf m false c).length
      simp only [List.length_append]
      omega
abbrev WriteC (b : Nat) (w0 : World) (h : Hd) (n : Nat) (t : List UInt8) : Prop:=∀ W cs,Below b w0 W → WR b cs W → cs.length + t.length ≤ 100000000000 → Calls Tryz.prog 58 #[.pointer (some ⟨b,0,none⟩),datA h n] W (Wrote b cs t W)
theorem dwrite_row (b : Nat) (w0 : World) (h : Hd) (kids : Fr) (t : List UInt8) (o : ByteArray) (ho : (h.k = 5∧o = ⟨#[40]⟩) ∨ (h.k = 7∧o = ⟨#[35,40]⟩)) (W : World) (cs : List UInt8) (hb : Below b w0 W) (hr : WR b cs W)
    (hI : ∀ W,Below b w0 W → WR b cs W → Calls Tryz.prog 75 #[.pointer (some ⟨b,0,none⟩),.string o,.slice h.B kids.len h.cap] W (Wrote b cs (o.data.toList ++ t) W)) (hl : cs.length + (o.data.toList ++ t ++ [41]).length ≤ 100000000000) :
    Calls Tryz.prog 58 #[.pointer (some ⟨b,0,none⟩),datA h kids.len] W (Wrote b cs (o.data.toList ++ t ++ [41]) W):=by
  obtain ⟨W0,hW0,hb0,hO,hs0⟩:=dat_block W h kids.len
  have hbw:=hr.2
  have A1:=Lib.hid (hr.below hb0)
  have A2:=Lib.hid (hb0.mono (Nat.le_of_lt hbw))
  have A3:=Lib.hid (keeps8_below (B:=b + 1) hb0)
  have HI:=Lib.hid (hI W0 (hb.trans (hb0.mono (Nat.le_of_lt hbw))) (hr.below hb0))
  have HW0:=Lib.hid hW0
  have HL:=Lib.hid hl
  clear hW0 hb0 hO hI hb hr hl hs0
  rcases ho with ⟨hk,rfl⟩ | ⟨hk,rfl⟩
  all_goals
    have f0 : (h.k == 0) = false:=by rw [hk]; rfl
    have f1 : (h.k == 1) = false:=by rw [hk]; rfl
    have f2 : (h.k == 2) = false:=by rw [hk]; rfl
    have f3 : (h.k == 3) = false:=by rw [hk]; rfl
    have f4 : (h.k == 4) = false:=by rw [hk]; rfl
    have f5 : (h.k == 5) = decide (h.k = 5):=by rw [hk]; rfl
    have f6 : (h.k == 6) = false:=by rw [hk]; rfl
    have f7 : (h.k == 7) = decide (h.k = 7):=by rw [hk]; rfl
  · have g5 : decide (h.k = 5) = true:=decide_eq_true hk
    rw [g5] at f5
    clear hk g5 f7
    go_enter Tryz.func58,Tryz.ntmps58
    go_wp2_with (fail)
    rw [HW0.out]
    refine HI.out.mono ?_
    rintro e w1 ⟨⟨v,rfl⟩,h1,h2,h3⟩
    have H2:=Lib.hid (wrstr_any b _ ⟨#[41]⟩ w1 h1 (by have:=HL.out; simp only [List.length_append] at this ⊢; show _ + 1 ≤ _; omega))
    have B2:=Lib.hid (A2.out.trans h2)
    have B3:=Lib.hid (A3.out.trans h3)
    clear h1 h2 h3
    go_wp2_with (fail)
    refine H2.out.mono ?_
    rintro e w2 ⟨⟨v2,rfl⟩,h1,h2,h3⟩
    have C1:=Lib.hid h1
    have C2:=Lib.hid (B2.out.trans h2)
    have C3:=Lib.hid (B3.out.trans h3)
    clear h1 h2 h3
    go_wp2_with (fail)
    go_end0
    exact ⟨⟨_,rfl⟩,by have:=C1.out; rw [List.append_assoc] at this; exact this,C2.out,C3.out⟩
  · have g5 : decide (h.k = 5) = false:=decide_eq_false (by omega)
    have g7 : decide (h.k = 7) = true:=decide_eq_true hk
    rw [g5] at f5
    rw [g7] at f7
    clear hk g5 g7
    go_enter Tryz.func58,Tryz.ntmps58
    go_wp2_with (fail)
    rw [HW0.out]
    refine HI.out.mono ?_
    rintro e w1 ⟨⟨v,rfl⟩,h1,h2,h3⟩
    have H2:=Lib.hid (wrstr_any b _ ⟨#[41]⟩ w1 h1 (by have:=HL.out; simp only [List.length_append] at this ⊢; show _ + 1 ≤ _; omega))
    have B2:=Lib.hid (A2.out.trans h2)
    have B3:=Lib.hid (A3.out.trans h3)
    clear h1 h2 h3
    go_wp2_with (fail)
    refine H2.out.mono ?_
    rintro e w2 ⟨⟨v2,rfl⟩,h1,h2,h3⟩
    have C1:=Lib.hid h1
    have C2:=Lib.hid (B2.out.trans h2)
    have C3:=Lib.hid (B3.out.trans h3)
    clear h1 h2 h3
    go_wp2_with (fail)
    go_end0
    exact ⟨⟨_,rfl⟩,by have:=C1.out; rw [List.append_assoc] at this; exact this,C2.out,C3.out⟩
theorem dwrite_dot (b : Nat) (w0 : World) (h : Hd) (kids : Fr) (t : List UInt8) (bb off : Nat) (hk : h.k = 6) (hB : h.B = some ⟨bb,off,none⟩) (hn2 : 2 ≤ kids.len) (hcap : kids.len ≤ h.cap) (hcap2 : h.cap ≤ 9223372036854775807) (hh : Hd) (k : Fr) (hC : ∀ W,Below b w0 W → C8 W bb (off + (kids.len - 1) * 8) hh k.len)
    (tl : List UInt8) (W : World) (cs : List UInt8) (hb : Below b w0 W) (hr : WR b cs W)
    (hI : ∀ W,Below b w0 W → WR b cs W → Calls Tryz.prog 75 #[.pointer (some ⟨b,0,none⟩),.string ⟨#[40]⟩,.slice (some ⟨bb,off,none⟩) ((kids.len - 1 : Nat) : Nat) h.cap] W (Wrote b cs ([40] ++ t) W))
    (hw : WriteC b w0 hh k.len tl) (hl : cs.length + ([40] ++ (t ++ [32,46,32] ++ tl) ++ [41]).length ≤ 100000000000) :
    Calls Tryz.prog 58 #[.pointer (some ⟨b,0,none⟩),datA h kids.len] W (Wrote b cs ([40] ++ (t ++ [32,46,32] ++ tl) ++ [41]) W):=by
  obtain ⟨W0,hW0,hb0,hO,hs0⟩:=dat_block W h kids.len
  have hbw:=hr.2
  have A0:=Lib.hid (hb.trans (hb0.mono (Nat.le_of_lt hbw)))
  have A1:=Lib.hid (hr.below hb0)
  have A2:=Lib.hid (hb0.mono (Nat.le_of_lt hbw))
  have A3:=Lib.hid (keeps8_below (B:=b + 1) hb0)
  have HI:=Lib.hid (hI W0 (hb.trans (hb0.mono (Nat.le_of_lt hbw))) (hr.below hb0))
  have HC:=Lib.hid hC
  have HW:=Lib.hid hw
  have HO:=Lib.hid hO
  have HW0:=Lib.hid hW0
  have HL:=Lib.hid hl
  have HBW:=Lib.hid hbw
  have f0 : (h.k == 0) = false:=by rw [hk]; rfl
  have f1 : (h.k == 1) = false:=by rw [hk]; rfl
  have f2 : (h.k == 2) = false:=by rw [hk]; rfl
  have f3 : (h.k == 3) = false:=by rw [hk]; rfl
  have f4 : (h.k == 4) = false:=by rw [hk]; rfl
  have f5 : (h.k == 5) = false:=by rw [hk]; rfl
  have f6 : (h.k == 6) = true:=by rw [hk]; rfl
  have w1 : IntKind.i64.wrap ((kids.len : Int) - 1) = ((kids.len - 1 : Nat) : Int):=by rw [IntKind.wrap_i64]; omega
  obtain ⟨q,hq⟩ : ∃ q,kids.len - 1 = q:=⟨_,rfl⟩
  rw [hq] at w1 HI HC
  have hqn : q < kids.len:=by omega
  have hqc : q ≤ h.cap:=by omega
  obtain ⟨k0,n0,fl0,ff0,s0,AA0,xs0,c0,t0,B0,cap0⟩:=h
  dsimp only at hB hcap hcap2 hqc HI HO HW0 f0 f1 f2 f3 f4 f5 f6 ⊢
  subst hB
  obtain ⟨u0,u1,u2,u3,u4,u5,u6,u7⟩:=C8.of_block HO.out
  clear hW0 hb0 hO hI hb hr hl hs0 hC hw hk hbw hq hn2
  go_enter Tryz.func58,Tryz.ntmps58
  go_wp2_with (fail)
  rw [HW0.out]
  go_wp2_with (fail)
  refine HI.out.mono ?_
  rintro e w1 ⟨⟨v,rfl⟩,h1,h2,h3⟩
  have H2:=Lib.hid (wrstr_any b _ ⟨#[32,46,32]⟩ w1 h1 (by have:=HL.out; simp only [List.length_append] at this ⊢; have t3 : ([32,46,32] : List UInt8).length = 3:=rfl; show _ + 3 ≤ _; omega))
  have B0:=Lib.hid (A0.out.trans h2)
  have B2:=Lib.hid (A2.out.trans h2)
  have B3:=Lib.hid (A3.out.trans h3)
  have BO:=Lib.hid (h3.same W.heap.size _ (by have:=HBW.out; omega) HO.out rfl)
  clear h1 h2 h3 u0 u1 u2 u3 u4 u5 u6 u7
  go_wp2_with (fail)
  refine H2.out.mono ?_
  rintro e w2 ⟨⟨v2,rfl⟩,h1,h2,h3⟩
  have C0:=Lib.hid (B0.out.trans h2)
  have C1:=Lib.hid h1
  have C2:=Lib.hid (B2.out.trans h2)
  have C3:=Lib.hid (B3.out.trans h3)
  have H3:=Lib.hid (HW.out w2 _ C0.out h1 (by have:=HL.out; simp only [List.length_append] at this ⊢; have t3 : ([32,46,32] : List UInt8).length = 3:=rfl; omega))
  have hbo:=h3.same W.heap.size _ (by have:=HBW.out; omega) BO.out rfl
  obtain ⟨u0,u1,u2,u3,u4,u5,u6,u7⟩:=C8.of_block hbo
  obtain ⟨x0,x1,x2,x3,x4,x5,x6,x7⟩:=HC.out w2 C0.out
  clear h1 h2 h3 hbo
  go_wp2_with (fail)
  refine H3.out.mono ?_
  rintro e w3 ⟨⟨v3,rfl⟩,h1,h2,h3⟩
  have H4:=Lib.hid (wrstr_any b _ ⟨#[41]⟩ w3 h1 (by have:=HL.out; simp only [List.length_append] at this ⊢; have t3 : ([32,46,32] : List UInt8).length = 3:=rfl; show _ + 1 ≤ _; omega))
  have D2:=Lib.hid (C2.out.trans h2)
  have D3:=Lib.hid (C3.out.trans h3)
  clear h1 h2 h3 u0 u1 u2 u3 u4 u5 u6 u7 x0 x1 x2 x3 x4 x5 x6 x7
  go_wp2_with (fail)
  refine H4.out.mono ?_
  rintro e w4 ⟨⟨v4,rfl⟩,h1,h2,h3⟩
  have E1:=Lib.hid h1
  have E2:=Lib.hid (D2.out.trans h2)
  have E3:=Lib.hid (D3.out.trans h3)
  clear h1 h2 h3
  go_wp2_with (fail)
  go_end0
  exact ⟨⟨_,rfl⟩,by have:=E1.out; simp only [List.append_assoc] at this ⊢; exact this,E2.out,E3.out⟩
end LM
end Go.Proofs.YtihbgghlnppkiaaGreatDoor
namespace Go.Proofs.YtihbgghlnppkiaaGreatDoor
open Go Go.Shelf Go.RowKit Go.Sort Go.Lib
namespace LM
attribute [local go_sem] run_store_flt
end LM
end Go.Proofs.YtihbgghlnppkiaaGreatDoor
namespace Go.Proofs.YtihbgghlnppkiaaGreatDoor
open Go Go.RowKit
namespace LM
attribute [local go_sem] run_store_flt
theorem dwrite_any (lf : Hd → List UInt8) (b : Nat) (w0 : World) (hw0 : b = w0.heap.size) (P : Hd → Prop) (hP : ∀ hh,P hh → WriteC b w0 hh 0 (lf hh)) :
    ∀ (m : Nat) (kids : Fr),kids.size < m → kids.Ok → WOk P kids → ∀ h : Hd,h.Ok kids.len → WH P h kids → DatV w0 h kids → WriteC b w0 h kids.len (txD lf h kids):=by
  intro m
  induction m with
  | zero=>intro kids h; omega
  | succ m ih =>
    intro kids hsz hok hwok h hho hwh hd W cs hb hr hl
    obtain ⟨bb,off,hB,hF⟩:=hd.items
    have rows : ∀ (n : Nat) (o : ByteArray),n ≤ kids.len → cs.length + o.size + (txI lf n true kids).length ≤ 100000000000 → ∀ W,Below b w0 W → WR b cs W → Calls Tryz.prog 75 #[.pointer (some ⟨b,0,none⟩),.string o,.slice h.B n h.cap] W (Wrote b cs (o.data.toList ++ txI lf n true kids) W):=fun n o hn hlo W hb hr =>
      dwitems_any lf kids n hn o h.B h.cap bb off b cs w0 W hb hw0 (fun hp=>hB (by omega)) hF (by have:=hho.cap.1; omega) hho.cap.2 (fun j=>txI lf j true kids) rfl (fun hh k j r _ e=>by
        have:=txI_step lf j true kids hh k r e
        simpa using this) (fun j hj=>txI_mono lf j n true kids hj) hr hlo (fun hh k j r hj e W2 cs2 hb2 hr2 hl2=>by
        have o1:=Fr.Ok.drop j hok
        have o2:=WOk.drop j hwok
        rw [e] at o1 o2
        exact ih k (by have:=size_item e; omega) o1.2.1 o2.2.1 hh o1.1 o2.1 (counted_item hF e).2.2 W2 cs2 hb2 hr2 hl2)
    by_cases hlk : leafK h.k
    · obtain ⟨rfl,hp⟩:=hwh.1 hlk
      have e : txD lf h .nil = lf h:=by unfold txD; rw [if_neg hlk.1,if_neg hlk.2.1,if_neg hlk.2.2]
      rw [e] at hl ⊢
      exact hP h hp W cs hb hr hl
    · by_cases h5 : h.k = 5
      · have e : txD lf h kids = [40] ++ txF lf false true kids ++ [41]:=by unfold txD; rw [if_pos h5]
        rw [e] at hl ⊢
        refine dwrite_row b w0 h kids (txF lf false true kids) ⟨#[40]⟩ (.inl ⟨h5,rfl⟩) W cs hb hr (fun W2 hb2 hr2=>?_) hl
        have:=rows kids.len ⟨#[40]⟩ (Nat.le_refl _) (by rw [txI_all]; simp only [List.length_append] at hl; show _ + 1 + _ ≤ _; have t1 : ([40] : List UInt8).length = 1:=rfl; omega) W2 hb2 hr2
        rw [txI_all] at this
        exact this
      · by_cases h7 : h.k = 7
        · have h6 : h.k ≠ 6:=by omega
          have e : txD lf h kids = [35,40] ++ txF lf false true kids ++ [41]:=by unfold txD; rw [if_neg h5,if_neg h6,if_pos h7]
          rw [e] at hl ⊢
          refine dwrite_row b w0 h kids (txF lf false true kids) ⟨#[35,40]⟩ (.inr ⟨h7,rfl⟩) W cs hb hr (fun W2 hb2 hr2=>?_) hl
          have:=rows kids.len ⟨#[35,40]⟩ (Nat.le_refl _) (by rw [txI_all]; simp only [List.length_append] at hl; show _ + 2 + _ ≤ _; have t1 : ([35,40] : List UInt8).length = 2:=rfl; omega) W2 hb2 hr2
          rw [txI_all] at this
          exact this
        · have h6 : h.k = 6:=by
            unfold leafK at hlk
            omega
          have hn2:=hwh.2 h6
          obtain ⟨hh,k,e1,e2⟩:=last_item kids (by omega)
          have e : txD lf h kids = [40] ++ (txI lf (kids.len - 1) true kids ++ [32,46,32] ++ txD lf hh k) ++ [41]:=by
            rw [← txI_dot lf kids true hh k (by omega) e1]
            unfold txD
            rw [if_neg h5,if_pos h6]
          rw [e] at hl ⊢
          have o1:=Fr.Ok.drop (kids.len - 1) hok
          have o2:=WOk.drop (kids.len - 1) hwok
          rw [e1] at o1 o2
          have hBs:=hB (by omega)
          refine dwrite_dot b w0 h kids _ bb off h6 hBs hn2 hho.cap.1 hho.cap.2 hh k (fun W2 hb2=>(counted_item (FAt.below (hw0 ▸ hb2) _ _ _ hF) e1).2.1) _ W cs hb hr (fun W2 hb2 hr2=>?_) (ih k (by have:=size_item e1; omega) o1.2.1 o2.2.1 hh o1.1 o2.1 (counted_item hF e1).2.2) hl
          have:=rows (kids.len - 1) ⟨#[40]⟩ (by omega) (by simp only [List.length_append] at hl; show _ + 1 + _ ≤ _; have t1 : ([40] : List UInt8).length = 1:=rfl; omega) W2 hb2 hr2
          rw [hBs] at this
          exact this
end LM
namespace LM
attribute [local go_sem] run_store_flt
theorem dwrite_sym (b : Nat) (w0 : World) (h : Hd) (hk : h.k = 4) (hs : h.t.size ≤ 281474976710656) : WriteC b w0 h 0 h.t.data.toList:=by
  intro W cs hb hr hl
  obtain ⟨W0,hW0,hb0,hO,hs0⟩:=dat_block W h 0
  have hbw:=hr.2
  have A2:=Lib.hid (hb0.mono (Nat.le_of_lt hbw))
  have A3:=Lib.hid (keeps8_below (B:=b + 1) hb0)
  have H1:=Lib.hid (wrstr_any b cs h.t W0 (hr.below hb0) (by rw [Lib.size_eq]; omega))
  have HW0:=Lib.hid hW0
  have f0 : (h.k == 0) = false:=by rw [hk]; rfl
  have f1 : (h.k == 1) = false:=by rw [hk]; rfl
  have f2 : (h.k == 2) = false:=by rw [hk]; rfl
  have f3 : (h.k == 3) = false:=by rw [hk]; rfl
  have f4 : (h.k == 4) = true:=by rw [hk]; rfl
  clear hW0 hb0 hO hb hr hl hs0 hk hbw
  go_enter Tryz.func58,Tryz.ntmps58
  go_wp2_with (fail)
  rw [HW0.out]
  refine H1.out.mono ?_
  rintro e w1 ⟨⟨v,rfl⟩,h1,h2,h3⟩
  have B1:=Lib.hid h1
  have B2:=Lib.hid (A2.out.trans h2)
  have B3:=Lib.hid (A3.out.trans h3)
  clear h1 h2 h3
  go_wp2_with (fail)
  go_end0
  exact ⟨⟨_,rfl⟩,B1.out,B2.out,B3.out⟩
theorem dwrite_num (b : Nat) (w0 : World) (h : Hd) (hk : h.k = 0) (t : ByteArray) (hT : ∀ W,Below b w0 W → Calls Tryz.prog 71 #[numA h.fl h.f h.s h.A h.xs.length h.c] W fun e w'=>e = .returned (.string t)∧Below W.heap.size W w') : WriteC b w0 h 0 t.data.toList:=by
  intro W cs hb hr hl
  obtain ⟨W0,hW0,hb0,hO,hs0⟩:=dat_block W h 0
  have hbw:=hr.2
  have A2:=Lib.hid (hb0.mono (Nat.le_of_lt hbw))
  have A3:=Lib.hid (keeps8_below (B:=b + 1) hb0)
  have AR:=Lib.hid (hr.below hb0)
  have HT:=Lib.hid (hT W0 (hb.trans (hb0.mono (Nat.le_of_lt hbw))))
  have HL:=Lib.hid hl
  have HW0:=Lib.hid hW0
  have HBW:=Lib.hid hbw
  have f0 : (h.k == 0) = true:=by rw [hk]; rfl
  clear hW0 hb0 hO hb hr hl hk hbw hT
  go_enter Tryz.func58,Tryz.ntmps58
  go_wp2_with (fail)
  rw [HW0.out]
  refine HT.out.mono ?_
  rintro e w1 ⟨rfl,hb1⟩
  have H1:=Lib.hid (wrstr_any b cs t w1 (AR.out.below hb1) (by have:=HL.out; rw [Lib.size_eq]; omega))
  have A22:=Lib.hid (bel_trans (B:=b) A2.out hb1 (by have:=HBW.out; omega))
  have A32:=Lib.hid (A3.out.trans (keeps8_below (B:=b + 1) hb1))
  clear hb1
  go_wp2_with (fail)
  refine H1.out.mono ?_
  rintro e w2 ⟨⟨v,rfl⟩,h1,h2,h3⟩
  have B1:=Lib.hid h1
  have B2:=Lib.hid (A22.out.trans h2)
  have B3:=Lib.hid (A32.out.trans h3)
  clear h1 h2 h3
  go_wp2_with (fail)
  go_end0
  exact ⟨⟨_,rfl⟩,B1.out,B2.out,B3.out⟩
end LM
namespace LM
attribute [local go_sem] run_store_flt
theorem new_builder (w : World) : ∃ W0,w.alloc (.cells #[.pointer none,.slice none 0 0] 115) = W0∧Below w.heap.size w W0∧WR w.heap.size [] W0 :=
  ⟨_,rfl,(Below.refl _ w).alloc (Nat.le_refl _) _,Lib.IsBuilderF.of (Lib.fresh_isBuilder _ _ w),by simp⟩
theorem dprint_right (nm : ByteArray → Bool) (lf : Hd → List UInt8) (kids : Fr) (hok : kids.Ok) (h : Hd) (w : World) (hd : DatV w h kids) (hho : h.Ok kids.len) (hu : UT w) (hnm : ∀ t,(h.k = 4∧t = h.t) ∨ SymIn t kids → CallB w 82 #[.string t] (.bool (nm t)))
    (hr : rightD nm h kids = true) (P : Hd → Prop) (hP : ∀ b w0,b = w0.heap.size → Below w.heap.size w w0 → ∀ hh,P hh → WriteC b w0 hh 0 (lf hh)) (hw : WOk P kids) (hwh : WH P h kids) (hl : (txD lf h kids).length ≤ 100000000000) :
    Calls Tryz.prog 41 #[datA h kids.len] w fun e w'=>e = .returned (.tuple #[.string ⟨(txD lf h kids).toArray⟩,.int .i64 0])∧Below w.heap.size w w':=by
  obtain ⟨W0,hW0,hb0,ho,hs0⟩:=dat_block w h kids.len
  have HR:=Lib.hid (dRight_any nm kids hok h W0 (hd.below hb0) hho (hu.keep hb0) fun t ht=>callB_keep (hnm t ht) hb0)
  rw [hr] at HR
  obtain ⟨tx,htx⟩ : ∃ tx,txD lf h kids = tx:=⟨_,rfl⟩
  have HWR:=Lib.hid fun (w2 : World) (h2 : Below w.heap.size w w2)=>dwrite_any lf w2.heap.size w2 rfl P (fun hh hp=>hP _ _ rfl h2 hh hp) (kids.size + 1) kids (by omega) hok hw h hho hwh (hd.below h2)
  rw [htx] at HWR hl ⊢
  have HL:=Lib.hid hl
  have HB0:=Lib.hid hb0
  have HW0:=Lib.hid hW0
  have HO:=Lib.hid ho
  have HS:=Lib.hid hs0
  obtain ⟨x0,x1,x2,x3,x4,x5,x6,x7⟩:=C8.of_block ho
  clear hW0 hb0 ho hd hho hu hnm hr hok hs0 hw hwh hl hP htx
  go_enter Tryz.func41,Tryz.ntmps41
  go_wp2_with (fail)
  rw [HW0.out]
  go_wp2_with (fail)
  refine HR.out.mono ?_
  rintro e w1 ⟨rfl,hb1⟩
  have HB1:=Lib.hid (bel_trans (B:=w.heap.size) HB0.out hb1)
  obtain ⟨W1,hW1,hbb,hwr⟩:=new_builder w1
  obtain ⟨y0,y1,y2,y3,y4,y5,y6,y7⟩:=(C8.of_block HO.out).keep hb1 HS.out
  simp only [Nat.zero_add] at y0 y1 y2 y3 y4 y5 y6 y7
  clear x0 x1 x2 x3 x4 x5 x6 x7
  have hz1 : w.heap.size < w1.heap.size:=Nat.lt_of_lt_of_le HS.out hb1.size
  have HW1:=Lib.hid hW1
  have HBB:=Lib.hid hbb
  have HC:=Lib.hid (HWR.out w1 HB1.out W1 [] hbb hwr (by have:=HL.out; simpa using this))
  clear hb1 hW1 hbb hwr
  go_wp2_with (fail)
  rw [HW1.out]
  go_wp2_with (fail)
  refine HC.out.mono ?_
  rintro e w2 ⟨⟨v,rfl⟩,hr2,hb2,hk2⟩
  have HR2:=Lib.hid hr2
  have HK2:=Lib.hid (bel_trans (B:=w.heap.size) HB1.out (HBB.out.trans hb2))
  clear hr2 hb2 hk2
  go_wp2_with (fail)
  refine (Tryz.Builder_String_any_k _ _ _ _ HR2.out.1 (Nat.le_of_lt HR2.out.2)).mono ?_
  rintro e w3 ⟨rfl,_,hb3,_⟩
  have HK3:=Lib.hid (HK2.out.trans (hb3.mono HB1.out.size))
  clear hb3
  go_wp2_with (fail)
  go_ret2
  exact ⟨by rfl,HK3.out⟩
end LM
end Go.Proofs.YtihbgghlnppkiaaGreatDoor
namespace Go.Proofs.YtihbgghlnppkiaaGreatDoor
open Go Go.RowKit Go.ChangeShapes Go.WideShapes
namespace LM
section
variable {H : Type} {enc : TypeId × Value → H} {w : World} {base : Nat} {held : Bool}
theorem open_num4 {fuel : Nat} {c0 c1 c2 c3 : Value} {y : DataW H × List MemPlace} (hf : DataW.trod enc Tryz.prog w base (fun _=>true) held fuel 63 [c0,c1,c2,c3] = some y) :
    ∃ fl f s A c xs,c0 = .bool fl∧c1 = .float .f64 f∧c2 = .bool s∧c3 = .slice A (List.length xs) c∧f < 18446744073709551616∧Lm xs∧Rd w A xs∧xs.length ≤ c∧c ≤ 9223372036854775807∧(A = none → xs.length = 0∧c = 0)∧∀ ad,A = some ad → 0 < c → ad.spot = none:=by
  obtain ⟨y0,y1,y2,n,hx,_,h0,h1,h2⟩:=Go.Deep.trod_struct3 Tryz.underlying63 hf
  have g0 : DataW.trod enc Tryz.prog w base (fun _=>true) held n 4 [c0] = some y0:=h0
  have g1 : DataW.trod enc Tryz.prog w base (fun _=>true) held n 58 [c1] = some y1:=h1
  have g2 : DataW.trod enc Tryz.prog w base (fun _=>true) held n 61 [c2,c3] = some y2:=h2
  obtain ⟨fl,hb,-⟩:=DataW.trod_bool Tryz.underlying4 g0
  obtain ⟨f,hff,hfl⟩:=trod_flt Tryz.underlying58 g1
  obtain ⟨z0,z1,n',-,-,k0,k1⟩:=trod_struct2 Tryz.underlying61 g2
  have e0 : DataW.trod enc Tryz.prog w base (fun _=>true) held n' 4 [c2] = some z0:=k0
  have e1 : DataW.trod enc Tryz.prog w base (fun _=>true) held n' 59 [c3] = some z1:=k1
  obtain ⟨s,hs,-⟩:=DataW.trod_bool Tryz.underlying4 e0
  obtain rfl : c0 = .bool fl:=by simpa using hb
  obtain rfl : c1 = .float .f64 f:=by simpa using hff
  obtain rfl : c2 = .bool s:=by simpa using hs
  rcases open_ints Tryz.underlying59 Tryz.underlying92 (by kernel_rfl) e1 with ⟨hcs,_⟩ | ⟨x,l,c,zs,hcs,_,hl,hm,hz,_,hcell,hwz⟩
  · obtain rfl : c3 = .slice none 0 0:=by simpa using hcs
    exact ⟨fl,f,s,none,0,[],rfl,rfl,rfl,rfl,hfl,Lm.nil,Rd.nil,Nat.le_refl _,by decide,fun _=>⟨rfl,rfl⟩,fun ad e=>by cases e⟩
  · obtain rfl : c3 = .slice (some x) l c:=by simpa using hcs
    obtain ⟨xs,rfl,hx,ha,hca,hcm,hn⟩:=open_row (w:=w) (a:=some x) (len:=l) (cap:=c) (zs:=zs) (.inr ⟨_,rfl,hl,hm,by simpa using hz,hcell,hwz⟩)
    refine ⟨fl,f,s,some x,c,xs,rfl,rfl,rfl,rfl,hfl,hx,ha,hca,hcm,hn,fun ad e h0=>?_⟩
    injection e with e
    subst e
    have hzl : zs.length = c:=by simpa using hz
    have hc0:=hcell 0 (by omega)
    have hx0 : x.add 0 = x:=by simp [Addr.add]
    rw [hx0] at hc0
    have:=(spot_none hc0).1
    rw [this]
structure Hd.Raw (h : Hd) (m : Nat) : Prop where
  k : -9223372036854775808 ≤ h.k∧h.k ≤ 9223372036854775807
  n : -9223372036854775808 ≤ h.n∧h.n ≤ 9223372036854775807
  f : h.f < 18446744073709551616
  lm : Lm h.xs
  c : h.xs.length ≤ h.c∧h.c ≤ 9223372036854775807
  nA : h.A = none → h.xs.length = 0∧h.c = 0
  t : h.t.size ≤ maxLen
  cap : m ≤ h.cap∧h.cap ≤ 9223372036854775807
  nB : h.B = none → m = 0∧h.cap = 0
  sA : ∀ ad,h.A = some ad → 0 < h.c → ad.spot = none
  sB : ∀ ad,h.B = some ad → 0 < h.cap → ad.spot = none
def Fr.Raw : Fr → Prop
  | .nil=>True
  | .cons h kids rest=>h.Raw kids.len∧kids.Raw∧rest.Raw
theorem int_range {z : Int} (h : (Lit.int .i64 z).wf = true) : -9223372036854775808 ≤ z∧z ≤ 9223372036854775807:=by
  simp [Lit.wf,IntKind.min,IntKind.max,IntKind.signed,IntKind.bits] at h
  omega
end
end LM
end Go.Proofs.YtihbgghlnppkiaaGreatDoor
namespace Go.Proofs.YtihbgghlnppkiaaGreatDoor
open Go Go.RowKit
namespace LM
attribute [local go_sem] run_store_flt
end LM
namespace LM
structure Hd.RawT (h : Hd) (m : Nat) : Prop extends Hd.Raw h m where
  ts : h.t.size ≤ 140737488351232
def Fr.RawT : Fr → Prop
  | .nil=>True
  | .cons h kids rest=>h.RawT kids.len∧kids.RawT∧rest.RawT
theorem Fr.RawT.drop : ∀ (i : Nat) {fr : Fr},fr.RawT → (fr.drop i).RawT:=by
  intro i
  induction i with
  | zero=>intro fr h; exact h
  | succ i ih =>
    intro fr h
    cases fr with
    | nil=>exact trivial
    | cons hh k r=>exact ih h.2.2
theorem Fr.RawT.raw : ∀ {fr : Fr},fr.RawT → fr.Raw:=by
  intro fr
  induction fr with
  | nil=>intro _; exact trivial
  | cons h k r ihk ihr=>intro hh; exact ⟨hh.1.toRaw,ihk hh.2.1,ihr hh.2.2⟩
theorem eright2_long (s : Bool) (A : Option Addr) (c j : Nat) (xs : List Nat) (w : World) (ha : Rd w A xs) (hx : Lm xs) (hj : xs.length = j + 1) (hl : j ≤ 9223372036854775806) (h : 64 ≤ j) :
    Calls Tryz.prog 93 #[.agg #[.bool s,.slice A (j + 1) c]] w fun e w'=>e = .returned (.bool false)∧Below w.heap.size w w':=by
  have HB:=Lib.hid (show Below w.heap.size w (w.alloc (.cells #[.bool s,.slice A (j + 1) c] 61)) from (Below.refl _ w).alloc (Nat.le_refl _) _)
  have d1 : decide (((j + 1 : Nat) : Int) ≤ 64) = false:=decide_eq_false (by omega)
  have d2 : decide (j + 1 ≤ 64) = false:=decide_eq_false (by omega)
  have d3 : decide ((j : Int) + 1 ≤ 64) = false:=decide_eq_false (by omega)
  clear ha hx
  go_enter Tryz.func93,Tryz.ntmps93
  go_wp2
  go_ret
  exact ⟨rfl,HB.out⟩
theorem eright2_any (s : Bool) (A : Option Addr) (c : Nat) (xs : List Nat) (w : World) (ha : Rd w A xs) (hx : Lm xs) (hl : xs.length ≤ 9223372036854775807) :
    Calls Tryz.prog 93 #[.agg #[.bool s,.slice A xs.length c]] w fun e w'=>e = .returned (.bool (rightB s xs))∧Below w.heap.size w w':=by
  rcases xs with _ | ⟨x,r⟩
  · cases s with
    | false =>
      rw [show rightB false [] = true from decide_eq_true ⟨by decide,rfl,by simp⟩]
      exact eright_nil_false A c w
    | true =>
      rw [show rightB true [] = false from decide_eq_false fun h=>h.2.2 ⟨rfl,rfl⟩]
      exact eright_nil_true A c w
  · have hj : (x :: r).length = r.length + 1:=rfl
    generalize x :: r = xs at *
    generalize r.length = j at *
    rw [hj]
    by_cases h : 64 ≤ j
    · rw [show rightB s xs = false from decide_eq_false fun k=>by have:=k.1; omega]
      exact eright2_long s A c j xs w ha hx hj (by omega) h
    · by_cases hz : xs[j]?.getD 0 = 0
      · rw [show rightB s xs = false from decide_eq_false fun k=>(trim_last hj).1 k.2.1 hz]
        exact eright_zero s A c j xs w ha hx hj (by omega) (by omega) hz
      · rw [show rightB s xs = true from decide_eq_true ⟨by omega,(trim_last hj).2 hz,fun k=>by have:=k.2; omega⟩]
        exact eright_top s A c j xs w ha hx hj (by omega) (by omega) hz
theorem tright2_any (fl : Bool) (f : Nat) (hf : f < 18446744073709551616) (s : Bool) (A : Option Addr) (c : Nat) (xs : List Nat) (w : World) (ha : Rd w A xs) (hx : Lm xs) (hl : xs.length ≤ 9223372036854775807) :
    Calls Tryz.prog 78 #[numA fl f s A xs.length c] w fun e w'=>e = .returned (.bool (rightN fl f s xs))∧Below w.heap.size w w':=by
  unfold rightN
  cases fl
  · rw [if_neg (by decide)]
    exact tright_i f hf s A xs.length c _ w fun W hW=>eright2_any s A c xs W (ha.below hW) hx hl
  · rw [if_pos rfl]
    exact tright_f f s A xs.length c w
theorem counted2_any : ∀ (m : Nat) (kids : Fr),kids.size < m → kids.RawT → ∀ (h : Hd) (most : Int) (w : World),DatV w h kids → kids.len ≤ h.cap → h.cap ≤ 9223372036854775807 → 1 ≤ most → most ≤ 4611686018427387904 →
    Calls Tryz.prog 68 #[datA h kids.len,.int .i64 most] w fun e w'=>e = .returned (.int .i64 (cnt most 1 kids))∧Below w.heap.size w w':=by
  intro m
  induction m with
  | zero=>intro kids h; omega
  | succ m ih =>
    intro kids hsz hok h most w hd hc1 hc2 hm1 hm2
    obtain ⟨W0,hW0⟩ : ∃ W0,w.alloc (datO h kids.len) = W0:=⟨_,rfl⟩
    have hb0 : Below w.heap.size w W0:=by rw [← hW0]; exact (Below.refl _ w).alloc (Nat.le_refl _) _
    have ho : W0.heap[w.heap.size]? = some (datO h kids.len):=by rw [← hW0]; unfold World.alloc; simp
    have hs0 : w.heap.size < W0.heap.size:=by rw [← hW0]; simp
    have c7 : W0.cell? ⟨w.heap.size,7,none⟩ = some (.slice h.B kids.len h.cap):=(C8.of_block ho).c7
    obtain ⟨b,off,hB,hF⟩:=(hd.below hb0).items
    have HW0:=Lib.hid hW0
    have HB0:=Lib.hid hb0
    have HO:=Lib.hid ho
    have HF:=Lib.hid hF
    have HB:=Lib.hid hB
    have HOK:=Lib.hid hok
    have IH:=Lib.hid ih
    have HSZ:=Lib.hid hsz
    clear hW0 hb0 ho hF hB hok ih hsz hd
    go_enter Tryz.func68,Tryz.ntmps68
    go_wp2_with (fail)
    rw [HW0.out]
    go_loopg [5,10] kids.len (fun kk n i wr=>Below W0.heap.size W0 wr∧∃ j : Nat,j ≤ kids.len∧kk = kids.len - j∧i = .int .i64 (j : Int)∧∃ a : Int,n = .int .i64 a∧cnt most a (kids.drop j) = cnt most 1 kids∧1 ≤ a∧(a ≤ 1 ∨ a ≤ most))
    case atStart=>exact ⟨Below.refl _ _,0,Nat.zero_le _,rfl,rfl,1,rfl,rfl,by omega,by omega⟩
    case round =>
      obtain ⟨hbr,j,hj,rfl,rfl,a,rfl,hcn,ha1,ha2⟩:=hrel
      have HBR:=Lib.hid hbr
      have HCN:=Lib.hid hcn
      have e7 : wr.cell? ⟨w.heap.size,7,none⟩ = some (.slice h.B kids.len h.cap):=(hbr.cell (p:=⟨w.heap.size,7,none⟩) hs0).trans c7
      clear hbr hcn
      by_cases hjl : j < kids.len
      · obtain ⟨hh,k,r,hdr,hdr1⟩:=Fr.cons_of_lt hjl
        rw [HB.out (by omega)] at e7
        have hcn:=HCN.out
        rw [hdr] at hcn
        obtain ⟨hbl,C,D⟩:=counted_item (FAt.below HBR.out _ _ _ HF.out) hdr
        have hks:=size_item hdr
        have hko:=HOK.out.drop j
        rw [hdr] at hko
        by_cases hmo : most ≤ a
        · have d1 : decide (most ≤ a) = true:=decide_eq_true hmo
          have hres : a = cnt most 1 kids:=by rw [← hcn]; unfold cnt; rw [if_pos hmo]
          have HR:=Lib.hid hres
          clear hmo hcn hdr hdr1 C D hks hko hres
          go_wp2_with (fail)
          go_ret
          exact ⟨by rw [← HR.out]; rfl,bel_trans (B:=w.heap.size) HB0.out HBR.out⟩
        · have d1 : decide (most ≤ a) = false:=decide_eq_false hmo
          have hcn2 : cnt most (a + cnt (most - a) 1 k) r = cnt most 1 kids:=by rw [← hcn]; conv=>rhs; unfold cnt; rw [if_neg hmo]
          have hb1:=cnt_bd k (most - a) 1
          have CK:=Lib.hid (IH.out k (by have:=HSZ.out; omega) hko.2.1 hh (most - a) wr D hko.1.cap.1 hko.1.cap.2 (by omega) (by omega))
          have HCN2:=Lib.hid hcn2
          have HB1:=Lib.hid hb1
          have HDR:=Lib.hid hdr1
          have w1 : IntKind.i64.wrap (most - a) = most - a:=by rw [IntKind.wrap_i64]; omega
          obtain ⟨x0,x1,x2,x3,x4,x5,x6,x7⟩:=C
          clear hcn hcn2 hdr hdr1 hb1 hks hko D
          go_wp2_with (fail)
          refine CK.out.mono ?_
          rintro e w2 ⟨rfl,hb2⟩
          have HB2:=Lib.hid (bel_trans (B:=W0.heap.size) HBR.out hb2)
          clear hb2
          have w2 : IntKind.i64.wrap (a + cnt (most - a) 1 k) = a + cnt (most - a) 1 k:=by rw [IntKind.wrap_i64]; have:=HB1.out; omega
          go_wp2_with (fail)
          go_roundg (kids.len - (j + 1))
          case measure=>omega
          case rel=>exact ⟨HB2.out,j + 1,by omega,rfl,by go_num,_,rfl,by rw [HDR.out]; exact HCN2.out,by have:=HB1.out; omega,by have:=HB1.out; omega⟩
      · have hje : j = kids.len:=by omega
        subst hje
        have hcn:=HCN.out
        have hnil : kids.drop kids.len = .nil:=by
          have h1:=Fr.len_drop kids.len kids
          cases h2 : kids.drop kids.len with
          | nil=>rfl
          | cons x y z=>rw [h2] at h1; have h3 : z.len + 1 = kids.len - kids.len:=h1; omega
        rw [hnil] at hcn
        have HR : Hid (a = cnt most 1 kids):=Lib.hid hcn
        clear hcn hnil
        go_wp2_with (fail)
        go_ret
        exact ⟨by rw [← HR.out]; rfl,bel_trans (B:=w.heap.size) HB0.out HBR.out⟩
theorem dright2_go (nm : ByteArray → Bool) (h : Hd) (kids : Fr) (depth : Int) (hd1 : 0 ≤ depth) (hd2 : depth ≤ 60) (sub : Bool) (w : World) (hD : DatV w h kids) (hok : h.RawT kids.len) (hu : UT w) (hnm : h.k = 4 → CallB w 82 #[.string h.t] (.bool (nm h.t)))
    (hsub : 0 < depth → ∀ g W,Below w.heap.size w W → g < W.heap.size → W.cell? ⟨g,0,none⟩ = some (.int .i64 depth) →
      Calls Tryz.prog 39 #[.slice h.B kids.len h.cap,.func (.func 84) #[] #[.pointer (some ⟨g,0,none⟩)]] W fun e w'=>e = .returned (.bool (!sub))∧Below W.heap.size W w') :
    Calls Tryz.prog 69 #[datA h kids.len,.int .i64 depth] w fun e w'=>e = .returned (.bool (rightK nm depth h kids sub))∧Below w.heap.size w w':=by
  have hE : CallB w 77 #[datA h kids.len] (.bool (elseB h.k (h.n == 0) (nothB h.fl h.f h.s h.xs) (h.t.toList == []) (((kids.len : Nat) : Int) == 0))):=fun W hW =>
    delse_any h kids.len _ _ _ _ W rfl rfl rfl fun W2 h2=>by
      have:=dnothing_any h.fl h.f h.s h.A h.xs.length h.c _ W2 fun W3 h3=>tright2_any h.fl h.f hok.f h.s h.A h.c h.xs W3 (((hD.xs.below hW).below h2).below h3) hok.lm (Nat.le_trans hok.c.1 hok.c.2)
      exact this
  obtain ⟨W0,hW0⟩ : ∃ W0,(w.alloc (datO h kids.len)).alloc (.cells #[.int .i64 depth] 3 (0,0)) = W0:=⟨_,rfl⟩
  have hb0 : Below w.heap.size w W0:=by rw [← hW0]; exact ((Below.refl _ w).alloc (Nat.le_refl _) _).alloc (by simp) _
  have hO : Obs W0 [(w.heap.size + 1,.cells #[.int .i64 depth] 3 (0,0)),(w.heap.size,datO h kids.len)]:=by
    rw [← hW0]
    have h1:=(Obs.nil.new (w:=w) (datO h kids.len)).new (.cells #[.int .i64 depth] 3 (0,0))
    simp only [World.size_alloc] at h1
    exact h1
  obtain ⟨q,hq⟩ : ∃ q,elseB h.k (h.n == 0) (nothB h.fl h.f h.s h.xs) (h.t.toList == []) (((kids.len : Nat) : Int) == 0) = q:=⟨_,rfl⟩
  rw [hq] at hE
  have HW0:=Lib.hid hW0
  have HB0:=Lib.hid hb0
  have O0:=Lib.hid hO
  have HE:=Lib.hid (hE W0 hb0)
  have c0:=C8.of_block hO.tl.hd
  obtain ⟨x0,x1,x2,x3,x4,x5,x6,x7⟩:=c0
  have HQ : Hid (rightK nm depth h kids sub = (q && (if h.k = 0 then rightN h.fl h.f h.s h.xs else if h.k = 1 then (h.n == 0 || h.n == 1) else if h.k = 2 then csignB h.n else if h.k = 3 then textB h.t else if h.k = 4 then nm h.t else
      (decide (0 < depth) && areB h.k kids.len (lastK kids) && sub)))):=Lib.hid (by unfold rightK; rw [hq])
  clear hW0 hb0 hO hE hq
  cases q
  · go_enter Tryz.func69,Tryz.ntmps69
    go_wp2_with (fail)
    rw [HW0.out]
    refine HE.out.mono ?_
    rintro e w1 ⟨rfl,hb1⟩
    have HB1:=Lib.hid (bel_trans (B:=w.heap.size) HB0.out hb1)
    clear hb1
    go_wp2_with (fail)
    go_ret
    exact ⟨by rw [HQ.out]; rfl,HB1.out⟩
  · rcases kinds h.k with hk | hk | hk | hk | hk | hk | hk | hk | ⟨k0,k1,k2,k3,k4,k5,k6,k7⟩
    · have HT:=Lib.hid fun W (hW : Below w.heap.size w W)=>tright2_any h.fl h.f hok.f h.s h.A h.c h.xs W (hD.xs.below hW) hok.lm (Nat.le_trans hok.c.1 hok.c.2)
      have HQ2 : Hid (rightK nm depth h kids sub = rightN h.fl h.f h.s h.xs):=Lib.hid (by rw [HQ.out,if_pos hk]; rfl)
      have HK:=Lib.hid hk
      clear hD hok hu hnm hsub HQ hk
      go_enter Tryz.func69,Tryz.ntmps69
      go_wp2_with (fail)
      rw [HW0.out]
      refine HE.out.mono ?_
      rintro e w1 ⟨rfl,hb1⟩
      have HB1:=Lib.hid (bel_trans (B:=w.heap.size) HB0.out hb1)
      obtain ⟨y0,y1,y2,y3,y4,y5,y6,y7⟩:=C8.of_block (O0.out.below hb1).tl.hd
      have z0:=ob_cell (O0.out.below hb1).hd 0
      rw [HK.out] at y0
      clear hb1
      go_wp2_with (fail)
      refine (HT.out _ HB1.out).mono ?_
      rintro e w2 ⟨rfl,hb2⟩
      have HB2:=Lib.hid (bel_trans (B:=w.heap.size) HB1.out hb2)
      clear hb2
      go_wp2_with (fail)
      go_ret
      exact ⟨by rw [HQ2.out]; rfl,HB2.out⟩
    · have HQ2 : Hid (rightK nm depth h kids sub = (h.n == 0 || h.n == 1)):=Lib.hid (by rw [HQ.out,if_neg (by omega),if_pos hk]; rfl)
      have HK:=Lib.hid hk
      clear hD hok hu hnm hsub HQ hk
      go_enter Tryz.func69,Tryz.ntmps69
      go_wp2_with (fail)
      rw [HW0.out]
      refine HE.out.mono ?_
      rintro e w1 ⟨rfl,hb1⟩
      have HB1:=Lib.hid (bel_trans (B:=w.heap.size) HB0.out hb1)
      obtain ⟨y0,y1,y2,y3,y4,y5,y6,y7⟩:=C8.of_block (O0.out.below hb1).tl.hd
      have z0:=ob_cell (O0.out.below hb1).hd 0
      rw [HK.out] at y0
      clear hb1
      go_wp2_with (fail)
      all_goals
        go_ret
        exact ⟨by rw [HQ2.out]; simp [*],HB1.out⟩
    · have HT:=Lib.hid fun W=>dsign_any h.n hok.n.1 hok.n.2 W
      have HQ2 : Hid (rightK nm depth h kids sub = csignB h.n):=Lib.hid (by rw [HQ.out,if_neg (by omega),if_neg (by omega),if_pos hk]; rfl)
      have HK:=Lib.hid hk
      clear hD hok hu hnm hsub HQ hk
      go_enter Tryz.func69,Tryz.ntmps69
      go_wp2_with (fail)
      rw [HW0.out]
      refine HE.out.mono ?_
      rintro e w1 ⟨rfl,hb1⟩
      have HB1:=Lib.hid (bel_trans (B:=w.heap.size) HB0.out hb1)
      obtain ⟨y0,y1,y2,y3,y4,y5,y6,y7⟩:=C8.of_block (O0.out.below hb1).tl.hd
      have z0:=ob_cell (O0.out.below hb1).hd 0
      rw [HK.out] at y0
      clear hb1
      go_wp2_with (fail)
      refine (HT.out _).mono ?_
      rintro e w2 ⟨rfl,rfl⟩
      go_wp2_with (fail)
      go_ret
      exact ⟨by rw [HQ2.out]; rfl,HB1.out⟩
    · have HV:=Lib.hid fun W (hW : Below w.heap.size w W)=>Tryz.utf8_ValidString h.t W (by have:=hok.ts; omega) (hu W hW)
      have HC:=Lib.hid fun W=>Tryz.utf8_RuneCountInString h.t W (by have:=hok.ts; omega)
      have HQ2 : Hid (rightK nm depth h kids sub = (Lib.validD h.t.data.toList && decide (Lib.runeCount h.t ≤ 400))):=Lib.hid (by rw [HQ.out,if_neg (by omega),if_neg (by omega),if_neg (by omega),if_pos hk]; rfl)
      have HK:=Lib.hid hk
      obtain ⟨rc,hrc⟩ : ∃ rc,Lib.runeCount h.t = rc:=⟨_,rfl⟩
      obtain ⟨vd,hvd⟩ : ∃ vd,Lib.validD h.t.data.toList = vd:=⟨_,rfl⟩
      rw [hrc] at HC HQ2
      rw [hvd] at HV HQ2
      clear hD hok hu hnm hsub HQ hk hrc hvd
      go_enter Tryz.func69,Tryz.ntmps69
      go_wp2_with (fail)
      rw [HW0.out]
      refine HE.out.mono ?_
      rintro e w1 ⟨rfl,hb1⟩
      have HB1:=Lib.hid (bel_trans (B:=w.heap.size) HB0.out hb1)
      obtain ⟨y0,y1,y2,y3,y4,y5,y6,y7⟩:=C8.of_block (O0.out.below hb1).tl.hd
      have z0:=ob_cell (O0.out.below hb1).hd 0
      rw [HK.out] at y0
      have HX1:=Lib.hid hb1
      clear hb1
      go_wp2_with (fail)
      refine (HV.out _ HB1.out).mono ?_
      rintro e w2 ⟨rfl,hb2⟩
      have HB2:=Lib.hid (bel_trans (B:=w.heap.size) HB1.out hb2)
      obtain ⟨v0,v1,v2,v3,v4,v5,v6,v7⟩:=C8.of_block (O0.out.below (bel_trans (B:=W0.heap.size) HX1.out hb2)).tl.hd
      clear hb2 y0 y1 y2 y3 y4 y5 y6 y7 z0
      cases vd
      · go_wp2_with (fail)
        go_ret
        exact ⟨by rw [HQ2.out]; rfl,HB2.out⟩
      · go_wp2_with (fail)
        refine (HC.out _).mono ?_
        rintro e w3 ⟨rfl,pos,rfl⟩
        have HB3:=Lib.hid (bel_trans (B:=w.heap.size) HB2.out (below_iterD w2 h.t pos))
        have h400 : ((rc : Int) ≤ 400 ↔ rc ≤ 400):=by omega
        have h401 : decide ((rc : Int) ≤ 400) = decide (rc ≤ 400):=decide_eq_decide.2 h400
        clear h400
        go_wp2_with (fail)
        go_ret
        exact ⟨by rw [HQ2.out]; first | rfl | simp [*],HB3.out⟩
    · have HT:=Lib.hid (hnm hk)
      have HQ2 : Hid (rightK nm depth h kids sub = nm h.t):=Lib.hid (by rw [HQ.out,if_neg (by omega),if_neg (by omega),if_neg (by omega),if_neg (by omega),if_pos hk]; rfl)
      have HK:=Lib.hid hk
      clear hD hok hu hnm hsub HQ hk
      go_enter Tryz.func69,Tryz.ntmps69
      go_wp2_with (fail)
      rw [HW0.out]
      refine HE.out.mono ?_
      rintro e w1 ⟨rfl,hb1⟩
      have HB1:=Lib.hid (bel_trans (B:=w.heap.size) HB0.out hb1)
      obtain ⟨y0,y1,y2,y3,y4,y5,y6,y7⟩:=C8.of_block (O0.out.below hb1).tl.hd
      have z0:=ob_cell (O0.out.below hb1).hd 0
      rw [HK.out] at y0
      clear hb1
      go_wp2_with (fail)
      refine (HT.out _ HB1.out).mono ?_
      rintro e w2 ⟨rfl,hb2⟩
      have HB2:=Lib.hid (bel_trans (B:=w.heap.size) HB1.out hb2)
      clear hb2
      go_wp2_with (fail)
      go_ret
      exact ⟨by rw [HQ2.out]; rfl,HB2.out⟩
    all_goals
      have f0 : (h.k == 0) = false:=by first | exact k0 | (rw [hk]; rfl)
      have f1 : (h.k == 1) = false:=by first | exact k1 | (rw [hk]; rfl)
      have f2 : (h.k == 2) = false:=by first | exact k2 | (rw [hk]; rfl)
      have f3 : (h.k == 3) = false:=by first | exact k3 | (rw [hk]; rfl)
      have f4 : (h.k == 4) = false:=by first | exact k4 | (rw [hk]; rfl)
      have HQ2 : Hid (rightK nm depth h kids sub = (decide (0 < depth) && areB h.k kids.len (lastK kids) && sub)):=Lib.hid (by
        rw [beq_eq_false_iff_ne] at f0 f1 f2 f3 f4
        rw [HQ.out,if_neg f0,if_neg f1,if_neg f2,if_neg f3,if_neg f4]; rfl)
      try clear hk
      try clear k0 k1 k2 k3 k4 k5 k6 k7
      by_cases hd0 : 0 < depth
      · have HA : Hid (∀ W,Below w.heap.size w W → Calls Tryz.prog 83 #[.int .i64 h.k,.slice h.B kids.len h.cap] W fun e w'=>e = .returned (.bool (areB h.k kids.len (lastK kids)))∧Below W.heap.size W w'):=Lib.hid fun W hW=>by
          obtain ⟨b,off,hB,hF⟩:=(hD.below hW).items
          rcases Nat.eq_zero_or_pos kids.len with h0 | hp
          · have:=dareitems_any h.k h.B kids.len h.cap (by omega) b off ⟨lastK kids,0,false,0,false,none,[],0,⟨#[]⟩,none,0⟩ 0 W (fun h=>by omega) (fun h=>by omega)
            exact this
          · obtain ⟨hh,k,e1,e2⟩:=last_item kids hp
            have:=dareitems_any h.k h.B kids.len h.cap (by have:=hok.cap; omega) b off hh k.len W hB (fun _=>(counted_item hF e1).2.1)
            rw [e2] at this
            exact this
        have HS:=Lib.hid (hsub hd0)
        have hdt : decide (0 < depth) = true:=decide_eq_true hd0
        obtain ⟨ab,hab⟩ : ∃ ab,areB h.k kids.len (lastK kids) = ab:=⟨_,rfl⟩
        rw [hab,hdt] at HQ2
        rw [hab] at HA
        clear hD hok hu hnm hsub HQ hab
        go_enter Tryz.func69,Tryz.ntmps69
        go_wp2_with (fail)
        rw [HW0.out]
        refine HE.out.mono ?_
        rintro e w1 ⟨rfl,hb1⟩
        have HB1:=Lib.hid (bel_trans (B:=w.heap.size) HB0.out hb1)
        obtain ⟨y0,y1,y2,y3,y4,y5,y6,y7⟩:=C8.of_block (O0.out.below hb1).tl.hd
        have z0:=ob_cell (O0.out.below hb1).hd 0
        rw [show (#[Value.int .i64 depth] : Array Value)[0]? = some (.int .i64 depth) from rfl] at z0
        have HX1:=Lib.hid hb1
        clear hb1
        go_wp2_with (fail)
        refine (HA.out _ HB1.out).mono ?_
        rintro e w2 ⟨rfl,hb2⟩
        have HB2:=Lib.hid (bel_trans (B:=w.heap.size) HB1.out hb2)
        have O2:=Lib.hid (O0.out.below (bel_trans (B:=W0.heap.size) HX1.out hb2))
        have hlt : w.heap.size + 1 < w2.heap.size:=by
          have h1:=(O0.out.below (bel_trans (B:=W0.heap.size) HX1.out hb2)).hd
          rcases Nat.lt_or_ge (w.heap.size + 1) w2.heap.size with h2 | h2
          · exact h2
          · rw [Array.getElem?_eq_none h2] at h1; cases h1
        obtain ⟨v0,v1,v2,v3,v4,v5,v6,v7⟩:=C8.of_block (O0.out.below (bel_trans (B:=W0.heap.size) HX1.out hb2)).tl.hd
        have u0:=ob_cell (O0.out.below (bel_trans (B:=W0.heap.size) HX1.out hb2)).hd 0
        rw [show (#[Value.int .i64 depth] : Array Value)[0]? = some (.int .i64 depth) from rfl] at u0
        have HS2:=Lib.hid (HS.out _ _ HB2.out hlt u0)
        clear hb2 y0 y1 y2 y3 y4 y5 y6 y7 z0 u0
        cases ab
        · go_wp2_with (fail)
          go_ret
          exact ⟨by rw [HQ2.out]; rfl,HB2.out⟩
        · go_wp2_with (fail)
          refine HS2.out.mono ?_
          rintro e w3 ⟨rfl,hb3⟩
          have HB3:=Lib.hid (bel_trans (B:=w.heap.size) HB2.out hb3)
          clear hb3
          go_wp2_with (fail)
          go_ret
          exact ⟨by rw [HQ2.out]; simp,HB3.out⟩
      · have hdf : decide (0 < depth) = false:=decide_eq_false hd0
        rw [hdf] at HQ2
        clear hD hok hu hnm hsub HQ
        go_enter Tryz.func69,Tryz.ntmps69
        go_wp2_with (fail)
        rw [HW0.out]
        refine HE.out.mono ?_
        rintro e w1 ⟨rfl,hb1⟩
        have HB1:=Lib.hid (bel_trans (B:=w.heap.size) HB0.out hb1)
        obtain ⟨y0,y1,y2,y3,y4,y5,y6,y7⟩:=C8.of_block (O0.out.below hb1).tl.hd
        have z0:=ob_cell (O0.out.below hb1).hd 0
        rw [show (#[Value.int .i64 depth] : Array Value)[0]? = some (.int .i64 depth) from rfl] at z0
        clear hb1
        go_wp2_with (fail)
        go_ret
        exact ⟨by rw [HQ2.out]; simp,HB1.out⟩
theorem dright2_any (nm : ByteArray → Bool) : ∀ (m : Nat) (kids : Fr),kids.size < m → kids.RawT → ∀ (h : Hd) (depth : Int) (w : World),DatV w h kids → h.RawT kids.len → 0 ≤ depth → depth ≤ 60 → UT w → (∀ t,(h.k = 4∧t = h.t) ∨ SymIn t kids → CallB w 82 #[.string t] (.bool (nm t))) →
    Calls Tryz.prog 69 #[datA h kids.len,.int .i64 depth] w fun e w'=>e = .returned (.bool (rightK nm depth h kids (rightF nm (depth - 1) kids)))∧Below w.heap.size w w':=by
  intro m
  induction m with
  | zero=>intro kids h; omega
  | succ m ih =>
    intro kids hsz hok h depth w hd hho h0 h60 hu hnm
    refine dright2_go nm h kids depth h0 h60 (rightF nm (depth - 1) kids) w hd hho hu (fun hk=>hnm _ (.inl ⟨hk,rfl⟩)) fun hpos g W hW hg hcell=>?_
    obtain ⟨b,off,hB,hF⟩:=(hd.below hW).items
    refine dcontains_any nm (depth - 1) g kids h.B h.cap b off W hB hF hho.cap.1 hho.cap.2 fun hh k j r hdr W2 hW2 hD2=>?_
    have hko:=Fr.RawT.drop j hok
    rw [hdr] at hko
    refine dclosure_any hh k depth h0 h60 g _ W2 (Nat.lt_of_lt_of_le hg hW2.size) ((hW2.cell (p:=⟨g,0,none⟩) hg).trans hcell) fun W3 hW3=>?_
    refine ih k (by have:=size_item hdr; omega) hko.2.1 hh (depth - 1) W3 (hD2.below hW3) hko.1 (by omega) (by omega) ((hu.keep hW).keep (hW2.trans (hW3.mono hW2.size))) fun t ht=>?_
    refine callB_keep (hnm t (.inr ?_)) (bel_trans (B:=w.heap.size) (bel_trans (B:=w.heap.size) hW hW2) hW3)
    have h1 : SymIn t (kids.drop j):=by rw [hdr]; exact ht.elim .inl (fun h=>.inr (.inl h))
    exact SymIn.drop j h1
theorem dRight2_any (nm : ByteArray → Bool) (kids : Fr) (hok : kids.RawT) (h : Hd) (w : World) (hd : DatV w h kids) (hho : h.RawT kids.len) (hu : UT w) (hnm : ∀ t,(h.k = 4∧t = h.t) ∨ SymIn t kids → CallB w 82 #[.string t] (.bool (nm t))) :
    Calls Tryz.prog 57 #[datA h kids.len] w fun e w'=>e = .returned (.bool (rightD nm h kids))∧Below w.heap.size w w':=by
  obtain ⟨W0,hW0,hb0,ho,hs0⟩:=dat_block w h kids.len
  have HC:=Lib.hid (counted2_any (kids.size + 1) kids (by omega) hok h 3001 W0 (hd.below hb0) hho.cap.1 hho.cap.2 (by decide) (by decide))
  have HR:=Lib.hid fun W (hW : Below w.heap.size w W)=>dright2_any nm (kids.size + 1) kids (by omega) hok h 60 W (hd.below hW) hho (by decide) (by decide) (hu.keep hW) fun t ht=>callB_keep (hnm t ht) hW
  have HO:=Lib.hid ho
  have HW0:=Lib.hid hW0
  have HB0:=Lib.hid hb0
  have HS:=Lib.hid hs0
  obtain ⟨c,hc⟩ : ∃ c,cnt 3001 1 kids = c:=⟨_,rfl⟩
  obtain ⟨r,hr⟩ : ∃ r,rightK nm 60 h kids (rightF nm (60 - 1) kids) = r:=⟨_,rfl⟩
  have HQ : Hid (rightD nm h kids = (decide (c ≤ 3000) && r)):=Lib.hid (by unfold rightD; rw [hc,← hr]; rfl)
  rw [hc] at HC
  rw [hr] at HR
  obtain ⟨x0,x1,x2,x3,x4,x5,x6,x7⟩:=C8.of_block ho
  clear hW0 hb0 ho hd hho hu hnm hc hr hok hs0
  by_cases h3 : c ≤ 3000
  · have d1 : decide (c ≤ 3000) = true:=decide_eq_true h3
    rw [d1] at HQ
    clear h3
    go_enter Tryz.func57,Tryz.ntmps57
    go_wp2_with (fail)
    rw [HW0.out]
    refine HC.out.mono ?_
    rintro e w1 ⟨rfl,hb1⟩
    have HB1:=Lib.hid (bel_trans (B:=w.heap.size) HB0.out hb1)
    obtain ⟨y0,y1,y2,y3,y4,y5,y6,y7⟩:=(C8.of_block HO.out).keep hb1 HS.out
    simp only [Nat.zero_add] at y0 y1 y2 y3 y4 y5 y6 y7
    clear hb1
    go_wp2_with (fail)
    refine (HR.out _ HB1.out).mono ?_
    rintro e w2 ⟨rfl,hb2⟩
    have HB2:=Lib.hid (bel_trans (B:=w.heap.size) HB1.out hb2)
    clear hb2
    go_wp2_with (fail)
    go_ret
    exact ⟨by rw [HQ.out]; rfl,HB2.out⟩
  · have d1 : decide (c ≤ 3000) = false:=decide_eq_false h3
    rw [d1] at HQ
    clear h3
    go_enter Tryz.func57,Tryz.ntmps57
    go_wp2_with (fail)
    rw [HW0.out]
    refine HC.out.mono ?_
    rintro e w1 ⟨rfl,hb1⟩
    have HB1:=Lib.hid (bel_trans (B:=w.heap.size) HB0.out hb1)
    clear hb1
    go_wp2_with (fail)
    go_ret
    exact ⟨by rw [HQ.out]; rfl,HB1.out⟩
theorem dprint2_not (nm : ByteArray → Bool) (kids : Fr) (hok : kids.RawT) (h : Hd) (w : World) (hd : DatV w h kids) (hho : h.RawT kids.len) (hu : UT w) (hnm : ∀ t,(h.k = 4∧t = h.t) ∨ SymIn t kids → CallB w 82 #[.string t] (.bool (nm t)))
    (hr : rightD nm h kids = false) :
    Calls Tryz.prog 41 #[datA h kids.len] w fun e w'=>e = .returned (.tuple #[.string ⟨#[]⟩,.int .i64 51])∧Below w.heap.size w w':=by
  obtain ⟨W0,hW0,hb0,ho,hs0⟩:=dat_block w h kids.len
  have HR:=Lib.hid (dRight2_any nm kids hok h W0 (hd.below hb0) hho (hu.keep hb0) fun t ht=>callB_keep (hnm t ht) hb0)
  rw [hr] at HR
  have HB0:=Lib.hid hb0
  have HW0:=Lib.hid hW0
  obtain ⟨x0,x1,x2,x3,x4,x5,x6,x7⟩:=C8.of_block ho
  clear hW0 hb0 ho hd hho hu hnm hr hok hs0
  go_enter Tryz.func41,Tryz.ntmps41
  go_wp2_with (fail)
  rw [HW0.out]
  go_wp2_with (fail)
  refine HR.out.mono ?_
  rintro e w1 ⟨rfl,hb1⟩
  have HB1:=Lib.hid (bel_trans (B:=w.heap.size) HB0.out hb1)
  clear hb1
  go_wp2_with (fail)
  go_ret2
  exact ⟨by rfl,HB1.out⟩
end LM
namespace LM
end LM
namespace LM
end LM
namespace LM
def hexD (n : Nat) : UInt8:=UInt8.ofNat (if n < 10 then 48 + n else 87 + n)
def hexF : Nat → Nat → List UInt8
  | 0,_=>[]
  | f + 1,n=>if n < 16 then [hexD n] else hexF f (n / 16) ++ [hexD (n % 16)]
theorem hexF_len : ∀ f n,(hexF f n).length ≤ f:=by
  intro f
  induction f with
  | zero=>intro n; exact Nat.le_refl _
  | succ f ih =>
    intro n
    unfold hexF
    split
    · show 1 ≤ _; omega
    · rw [List.length_append]
      have:=ih (n / 16)
      show _ + 1 ≤ _
      omega
theorem pow2_16 (w : World) : Calls Tryz.prog 194 #[.int .i64 16] w fun e w'=>e = .returned (.bool true)∧w' = w:=by
  have b1 : bits .and .i64 16 15 = 0:=by decide
  go_enter Tryz.func194,Tryz.ntmps194
  go_wp2_with (fail)
  go_ret
  exact ⟨rfl,rfl⟩
end LM
end Go.Proofs.YtihbgghlnppkiaaGreatDoor
namespace Go.Proofs.YtihbgghlnppkiaaGreatDoor
open Go Go.Shelf Go.RowKit Go.Sort Go.Lib
namespace LM
end LM
end Go.Proofs.YtihbgghlnppkiaaGreatDoor
