import Derived.Test.YtaonablbgicmpaaGreatDoorE32
import Derived.Test.YtaonablbgicmpaaGreatDoorE34
import Derived.Test.YtaonablbgicmpaaGreatDoorE19
import Derived.Test.YtaonablbgicmpaaGreatDoorE36
import Derived.Laws.Cover4
import Derived.Lib.OthersKept
import Derived.Laws.BytesString
set_option linter.unusedVariables false
set_option linter.unusedSimpArgs false
set_option maxRecDepth 100000
set_option maxHeartbeats 16000000
namespace Go.Proofs.YtaonablbgicmpaaGreatDoor
open Go Go.RowKit
namespace LM
attribute [local go_sem] run_store_flt
def csignB (n : Int) : Bool:=decide (0 ≤ n∧n < 55296) || decide (57343 < n∧n ≤ 1114111)
theorem csign_valid (n : Int) (h0 : 0 ≤ n) (h1 : n ≤ 1114111) : Lib.validRune n = csignB n:=by
 unfold Lib.validRune csignB
 rw [Bool.eq_iff_iff]
 simp only [Bool.or_eq_true,decide_eq_true_eq]
theorem dsign_any (n : Int) (h1 : -9223372036854775808 ≤ n) (h2 : n ≤ 9223372036854775807) (w : World) :
  Calls Tryz.prog 101 #[.int .i64 n] w fun e w'=>e = .returned (.bool (csignB n))∧w' = w:=by
 by_cases hn : 0 ≤ n∧n ≤ 1114111
 ·have V1:=Lib.hid fun W=>Tryz.utf8_ValidRune n W
  have w1 : IntKind.i32.wrap n = n:=by rw [IntKind.wrap_i32]; omega
  rw [← csign_valid n hn.1 hn.2]
  go_enter Tryz.func101,Tryz.ntmps101
  go_wp2_with (fail)
  refine (V1.out _).mono ?_
  rintro e w1 ⟨rfl,rfl⟩
  go_wp2_with (fail)
  go_ret
  exact ⟨rfl,rfl⟩
 ·have hf : csignB n = false:=by
   unfold csignB
   rw [Bool.or_eq_false_iff,decide_eq_false_iff_not,decide_eq_false_iff_not]
   omega
  rw [hf]
  clear hf
  go_enter Tryz.func101,Tryz.ntmps101
  go_wp2_with (fail)
  all_goals
   go_ret
   exact ⟨rfl,rfl⟩
theorem dtail_any (h : Hd) (n : Nat) (w : World) :
  Calls Tryz.prog 138 #[datA h n] w fun e w'=>e = .returned (.bool (h.k != 5 && h.k != 6))∧Below w.heap.size w w':=by
 obtain ⟨W0,hW0,hb0,ho,hs0⟩:=dat_block w h n
 obtain ⟨x0,x1,x2,x3,x4,x5,x6,x7⟩:=C8.of_block ho
 have HW0:=Lib.hid hW0
 have HB0:=Lib.hid hb0
 clear hW0 hb0 ho x1 x2 x3 x4 x5 x6 x7
 go_enter Tryz.func138,Tryz.ntmps138
 go_wp2_with (fail)
 all_goals
  try rw [HW0.out]
  go_wp2_with (fail)
  all_goals
   go_ret
   first | exact ⟨by simp [*],HB0.out⟩ | exact ⟨by simp [*],(Below.refl _ w).alloc (Nat.le_refl _) _⟩
def areB (k : Int) (n : Nat) (kl : Int) : Bool:=decide (k = 5) || (decide (k = 6) && decide (2 ≤ n) && (kl != 5 && kl != 6)) || (decide (k = 7) && decide (n ≤ 200))
theorem dareitems_any (k : Int) (B : Option Addr) (n cap : Nat) (hn : n ≤ 9223372036854775807) (b off : Nat) (h : Hd) (m : Nat) (w : World) (hB : 0 < n → B = some ⟨b,off,none⟩) (hc : 0 < n → C8 w b (off + (n - 1) * 8) h m) :
  Calls Tryz.prog 105 #[.int .i64 k,.slice B n cap] w fun e w'=>e = .returned (.bool (areB k n h.k))∧Below w.heap.size w w':=by
 have HT:=Lib.hid (dtail_any h m w)
 have HB0:=Lib.hid (Below.refl w.heap.size w)
 by_cases h6 : k = 6∧2 ≤ n
 ·obtain ⟨rfl,h2⟩:=h6
  obtain rfl:=hB (by omega)
  obtain ⟨x0,x1,x2,x3,x4,x5,x6,x7⟩:=hc (by omega)
  have d1 : decide (2 ≤ (n : Int)) = true:=decide_eq_true (by omega)
  have w1 : IntKind.i64.wrap ((n : Int) - 1) = ((n - 1 : Nat) : Int):=by rw [IntKind.wrap_i64]; omega
  have d2 : decide (((n - 1 : Nat) : Int) < n) = true:=decide_eq_true (by omega)
  have d3 : decide (2 ≤ n) = true:=decide_eq_true h2
  have hnm : n - 1 < n:=by omega
  obtain ⟨q,hq⟩ : ∃ q,n - 1 = q:=⟨_,rfl⟩
  rw [hq] at w1 x0 x1 x2 x3 x4 x5 x6 x7 d2 hnm
  have HR : Hid (areB 6 n h.k = (h.k != 5 && h.k != 6)):=Lib.hid (by unfold areB; rw [d3]; simp)
  clear hB hc hq
  go_enter Tryz.func105,Tryz.ntmps105
  go_wp2_with (go_at_call 138; refine HT.out.mono ?_; rintro e w1 ⟨rfl,hb1⟩; have HB1:=Lib.hid hb1; clear hb1)
  go_ret
  exact ⟨by rw [HR.out]; rfl,HB1.out⟩
 ·have h6' : ¬ (k = 6∧2 ≤ n):=h6
  clear HT hc hB
  rcases kinds k with rfl | rfl | rfl | rfl | rfl | rfl | rfl | rfl | ⟨k0,k1,k2,k3,k4,k5,k6,k7⟩
  rotate_right
  ·have HE : Hid (areB k n h.k = false):=Lib.hid (by
    rw [beq_eq_false_iff_ne] at k5 k6 k7
    unfold areB
    rw [decide_eq_false k5,decide_eq_false k6,decide_eq_false k7]
    simp)
   go_enter Tryz.func105,Tryz.ntmps105
   go_wp2_with (fail)
   go_ret
   exact ⟨by rw [HE.out]; rfl,HB0.out⟩
  rotate_right 2
  ·have hn2 : decide (2 ≤ (n : Int)) = false:=decide_eq_false (by omega)
   have hn3 : decide (2 ≤ n) = false:=decide_eq_false (by omega)
   go_enter Tryz.func105,Tryz.ntmps105
   go_wp2_with (fail)
   all_goals
    go_ret
    exact ⟨by simp [areB, *],HB0.out⟩
  all_goals
   go_enter Tryz.func105,Tryz.ntmps105
   go_wp2_with (fail)
   all_goals
    go_ret
    have h200 : ((n : Int) ≤ 200 ↔ n ≤ 200):=by omega
    exact ⟨by simp [areB, *],HB0.out⟩
end LM
namespace LM
attribute [local go_sem] run_store_flt
theorem callB_keep {w w' : World} {f : FuncId} {args : Array Value} {r : Value} (h : CallB w f args r) (hb : Below w.heap.size w w') : CallB w' f args r:=fun W hW=>h W (bel_trans (B:=w.heap.size) hb hW)
def UT (w : World) : Prop:=∀ W,Below w.heap.size w W → Lib.Utf8Tabs 1 2 W
theorem UT.keep {w w' : World} (h : UT w) (hb : Below w.heap.size w w') : UT w':=fun W hW=>h W (bel_trans (B:=w.heap.size) hb hW)
def lastK : Fr → Int
 | .nil=>0
 | .cons h _ .nil=>h.k
 | .cons _ _ (.cons h k r)=>lastK (.cons h k r)
theorem last_item : ∀ (fr : Fr),0 < fr.len → ∃ hh k,fr.drop (fr.len - 1) = .cons hh k .nil∧hh.k = lastK fr:=by
 intro fr
 induction fr with
 | nil=>intro h; exact absurd h (by show ¬ 0 < 0; omega)
 | cons h k r _ ih =>
  intro _
  cases r with
  | nil=>exact ⟨h,k,rfl,rfl⟩
  | cons h2 k2 r2 =>
   obtain ⟨hh,kk,e1,e2⟩:=ih (by show 0 < r2.len + 1; omega)
   refine ⟨hh,kk,?_,e2⟩
   have e3 : (Fr.cons h2 k2 r2).len = r2.len + 1:=rfl
   rw [e3] at e1
   have e4 : (Fr.cons h k (Fr.cons h2 k2 r2)).len - 1 = (r2.len + 1 - 1) + 1:=by
    show r2.len + 1 + 1 - 1 = _
    omega
   rw [e4]
   exact e1
def textB (t : ByteArray) : Bool:=Lib.validD t.data.toList && decide (Lib.runeCount t ≤ 400)
def rightK (nm : ByteArray → Bool) (d : Int) (h : Hd) (kids : Fr) (sub : Bool) : Bool :=
 elseB h.k (h.n == 0) (nothB h.fl h.f h.s h.xs) (h.t.toList == []) (((kids.len : Nat) : Int) == 0) &&
  (if h.k = 0 then rightN h.fl h.f h.s h.xs else if h.k = 1 then (h.n == 0 || h.n == 1) else if h.k = 2 then csignB h.n else if h.k = 3 then textB h.t else if h.k = 4 then nm h.t else
   (decide (0 < d) && areB h.k kids.len (lastK kids) && sub))
def rightF (nm : ByteArray → Bool) : Int → Fr → Bool
 | _,.nil=>true
 | d,.cons h kids rest=>rightK nm d h kids (rightF nm (d - 1) kids) && rightF nm d rest
def SymIn (t : ByteArray) : Fr → Prop
 | .nil=>False
 | .cons h kids rest=>(h.k = 4∧t = h.t) ∨ SymIn t kids ∨ SymIn t rest
theorem SymIn.drop {t : ByteArray} : ∀ (j : Nat) {fr : Fr},SymIn t (fr.drop j) → SymIn t fr:=by
 intro j
 induction j with
 | zero=>intro fr h; exact h
 | succ j ih =>
  intro fr h
  cases fr with
  | nil=>exact h
  | cons hh k r=>exact .inr (.inr (ih h))
theorem dindex_any (nm : ByteArray → Bool) (d : Int) (g : Nat) (kids : Fr) (B : Option Addr) (cap b off : Nat) (w : World) (hB : 0 < kids.len → B = some ⟨b,off,none⟩) (hF : FAt w b off kids) (hc1 : kids.len ≤ cap) (hc2 : cap ≤ 9223372036854775807)
  (hcl : ∀ hh k j r,kids.drop j = .cons hh k r → ∀ W,Below w.heap.size w W → DatV W hh k → Calls Tryz.prog 106 #[datA hh k.len,.pointer (some ⟨g,0,none⟩)] W fun e w'=>e = .returned (.bool (!rightK nm d hh k (rightF nm (d - 1) k)))∧Below W.heap.size W w') :
  Calls Tryz.prog 98 #[.slice B kids.len cap,.func (.func 106) #[] #[.pointer (some ⟨g,0,none⟩)]] w fun e w'=>(∃ z : Int,e = .returned (.int .i64 z)∧decide (0 ≤ z) = !rightF nm d kids)∧Below w.heap.size w w':=by
 rcases Nat.eq_zero_or_pos kids.len with h0 | hpos
 ·have hk0 : kids = .nil:=by
   cases kids with
   | nil=>rfl
   | cons x y z=>have h3 : z.len + 1 = 0:=h0; omega
  subst hk0
  show Calls Tryz.prog 98 #[.slice B 0 cap,.func (.func 106) #[] #[.pointer (some ⟨g,0,none⟩)]] w fun e w'=>(∃ z : Int,e = .returned (.int .i64 z)∧decide (0 ≤ z) = false)∧Below w.heap.size w w'
  clear hcl hF hB hc1
  go_enter Tryz.func98,Tryz.ntmps98
  go_wp2_with (fail)
  go_loopg [8] 0 (fun kk i wr=>wr = w∧i = .int .i64 0)
  case atStart=>exact ⟨rfl,rfl⟩
  case round =>
   obtain ⟨rfl,rfl⟩:=hrel
   go_wp2_with (fail)
   go_ret
   exact ⟨⟨-1,rfl,rfl⟩,Below.refl _ _⟩
 obtain rfl:=hB hpos
 clear hB
 have HF:=Lib.hid hF
 have HCL:=Lib.hid hcl
 clear hF hcl
 go_enter Tryz.func98,Tryz.ntmps98
 go_wp2_with (fail)
 go_loopg [8] kids.len (fun kk i wr=>Below w.heap.size w wr∧∃ j : Nat,j ≤ kids.len∧kk = kids.len - j∧i = .int .i64 (j : Int)∧rightF nm d (kids.drop j) = rightF nm d kids)
 case atStart=>exact ⟨Below.refl _ _,0,Nat.zero_le _,rfl,rfl,rfl⟩
 case round =>
  obtain ⟨hbr,j,hj,rfl,rfl,hrf⟩:=hrel
  have HBR:=Lib.hid hbr
  clear hbr
  by_cases hjl : j < kids.len
  ·obtain ⟨hh,k,r,hdr,hdr1⟩:=Fr.cons_of_lt hjl
   rw [hdr] at hrf
   obtain ⟨hbl,⟨x0,x1,x2,x3,x4,x5,x6,x7⟩,D⟩:=counted_item (FAt.below HBR.out _ _ _ HF.out) hdr
   have CL:=Lib.hid (HCL.out hh k j r hdr wr HBR.out D)
   have hrf2 : (rightK nm d hh k (rightF nm (d - 1) k) && rightF nm d r) = rightF nm d kids:=hrf
   obtain ⟨q,hq⟩ : ∃ q,rightK nm d hh k (rightF nm (d - 1) k) = q:=⟨_,rfl⟩
   rw [hq] at CL hrf2
   have HRF:=Lib.hid hrf2
   have HDR:=Lib.hid hdr1
   clear hrf hdr hdr1 D hrf2 hq
   go_wp2_with (fail)
   refine CL.out.mono ?_
   rintro e w2 ⟨rfl,hb2⟩
   have HB2:=Lib.hid (bel_trans (B:=w.heap.size) HBR.out hb2)
   clear hb2
   cases q
   ·go_wp2_with (fail)
    go_ret
    exact ⟨⟨j,rfl,by rw [← HRF.out]; simp⟩,HB2.out⟩
   ·go_wp2_with (fail)
    go_roundg (kids.len - (j + 1))
    case measure=>omega
    case rel=>exact ⟨HB2.out,j + 1,by omega,rfl,by go_num,by rw [HDR.out]; exact HRF.out⟩
  ·have hje : j = kids.len:=by omega
   subst hje
   have hnil : kids.drop kids.len = .nil:=by
    have h1:=Fr.len_drop kids.len kids
    cases h2 : kids.drop kids.len with
    | nil=>rfl
    | cons x y z=>rw [h2] at h1; have h3 : z.len + 1 = kids.len - kids.len:=h1; omega
   rw [hnil] at hrf
   have HR : Hid (true = rightF nm d kids):=Lib.hid hrf
   clear hrf hnil
   go_wp2_with (fail)
   go_ret
   exact ⟨⟨-1,rfl,by rw [← HR.out]; rfl⟩,HBR.out⟩
end LM
namespace LM
attribute [local go_sem] run_store_flt
def allF (q : Hd → Fr → Bool) : Fr → Bool
 | .nil=>true
 | .cons h kids rest=>q h kids && allF q rest
theorem cdindex_any (q : Hd → Fr → Bool) (g : Nat) (kids : Fr) (B : Option Addr) (cap b off : Nat) (w : World) (hB : 0 < kids.len → B = some ⟨b,off,none⟩) (hF : FAt w b off kids) (hc1 : kids.len ≤ cap) (hc2 : cap ≤ 9223372036854775807)
  (hcl : ∀ hh k j r,kids.drop j = .cons hh k r → ∀ W,Below w.heap.size w W → DatV W hh k → Calls Tryz.prog 66 #[datA hh k.len,.pointer (some ⟨g,0,none⟩)] W fun e w'=>e = .returned (.bool (!q hh k))∧Below W.heap.size W w') :
  Calls Tryz.prog 98 #[.slice B kids.len cap,.func (.func 66) #[] #[.pointer (some ⟨g,0,none⟩)]] w fun e w'=>(∃ z : Int,e = .returned (.int .i64 z)∧decide (0 ≤ z) = !allF q kids)∧Below w.heap.size w w':=by
 rcases Nat.eq_zero_or_pos kids.len with h0 | hpos
 ·have hk0 : kids = .nil:=by
   cases kids with
   | nil=>rfl
   | cons x y z=>have h3 : z.len + 1 = 0:=h0; omega
  subst hk0
  show Calls Tryz.prog 98 #[.slice B 0 cap,.func (.func 66) #[] #[.pointer (some ⟨g,0,none⟩)]] w fun e w'=>(∃ z : Int,e = .returned (.int .i64 z)∧decide (0 ≤ z) = false)∧Below w.heap.size w w'
  clear hcl hF hB hc1
  go_enter Tryz.func98,Tryz.ntmps98
  go_wp2_with (fail)
  go_loopg [8] 0 (fun kk i wr=>wr = w∧i = .int .i64 0)
  case atStart=>exact ⟨rfl,rfl⟩
  case round =>
   obtain ⟨rfl,rfl⟩:=hrel
   go_wp2_with (fail)
   go_ret
   exact ⟨⟨-1,rfl,rfl⟩,Below.refl _ _⟩
 obtain rfl:=hB hpos
 clear hB
 have HF:=Lib.hid hF
 have HCL:=Lib.hid hcl
 clear hF hcl
 go_enter Tryz.func98,Tryz.ntmps98
 go_wp2_with (fail)
 go_loopg [8] kids.len (fun kk i wr=>Below w.heap.size w wr∧∃ j : Nat,j ≤ kids.len∧kk = kids.len - j∧i = .int .i64 (j : Int)∧allF q (kids.drop j) = allF q kids)
 case atStart=>exact ⟨Below.refl _ _,0,Nat.zero_le _,rfl,rfl,rfl⟩
 case round =>
  obtain ⟨hbr,j,hj,rfl,rfl,hrf⟩:=hrel
  have HBR:=Lib.hid hbr
  clear hbr
  by_cases hjl : j < kids.len
  ·obtain ⟨hh,k,r,hdr,hdr1⟩:=Fr.cons_of_lt hjl
   rw [hdr] at hrf
   obtain ⟨hbl,⟨x0,x1,x2,x3,x4,x5,x6,x7⟩,D⟩:=counted_item (FAt.below HBR.out _ _ _ HF.out) hdr
   have CL:=Lib.hid (HCL.out hh k j r hdr wr HBR.out D)
   have hrf2 : (q hh k && allF q r) = allF q kids:=hrf
   obtain ⟨p,hq⟩ : ∃ p,q hh k = p:=⟨_,rfl⟩
   rw [hq] at CL hrf2
   have HRF:=Lib.hid hrf2
   have HDR:=Lib.hid hdr1
   clear hrf hdr hdr1 D hrf2 hq
   go_wp2_with (fail)
   refine CL.out.mono ?_
   rintro e w2 ⟨rfl,hb2⟩
   have HB2:=Lib.hid (bel_trans (B:=w.heap.size) HBR.out hb2)
   clear hb2
   cases p
   ·go_wp2_with (fail)
    go_ret
    exact ⟨⟨j,rfl,by rw [← HRF.out]; simp⟩,HB2.out⟩
   ·go_wp2_with (fail)
    go_roundg (kids.len - (j + 1))
    case measure=>omega
    case rel=>exact ⟨HB2.out,j + 1,by omega,rfl,by go_num,by rw [HDR.out]; exact HRF.out⟩
  ·have hje : j = kids.len:=by omega
   subst hje
   have hnil : kids.drop kids.len = .nil:=by
    have h1:=Fr.len_drop kids.len kids
    cases h2 : kids.drop kids.len with
    | nil=>rfl
    | cons x y z=>rw [h2] at h1; have h3 : z.len + 1 = kids.len - kids.len:=h1; omega
   rw [hnil] at hrf
   have HR : Hid (true = allF q kids):=Lib.hid hrf
   clear hrf hnil
   go_wp2_with (fail)
   go_ret
   exact ⟨⟨-1,rfl,by rw [← HR.out]; rfl⟩,HBR.out⟩
theorem cdcontains_any (q : Hd → Fr → Bool) (g : Nat) (kids : Fr) (B : Option Addr) (cap b off : Nat) (w : World) (hB : 0 < kids.len → B = some ⟨b,off,none⟩) (hF : FAt w b off kids) (hc1 : kids.len ≤ cap) (hc2 : cap ≤ 9223372036854775807)
  (hcl : ∀ hh k j r,kids.drop j = .cons hh k r → ∀ W,Below w.heap.size w W → DatV W hh k → Calls Tryz.prog 66 #[datA hh k.len,.pointer (some ⟨g,0,none⟩)] W fun e w'=>e = .returned (.bool (!q hh k))∧Below W.heap.size W w') :
  Calls Tryz.prog 65 #[.slice B kids.len cap,.func (.func 66) #[] #[.pointer (some ⟨g,0,none⟩)]] w fun e w'=>e = .returned (.bool (!allF q kids))∧Below w.heap.size w w':=by
 have H1:=Lib.hid (cdindex_any q g kids B cap b off w hB hF hc1 hc2 hcl)
 clear hB hF hcl
 go_enter Tryz.func65,Tryz.ntmps65
 go_wp2_with (fail)
 refine H1.out.mono ?_
 rintro e w1 ⟨⟨z,rfl,hz⟩,hb1⟩
 have HB1:=Lib.hid hb1
 have HZ:=Lib.hid hz
 clear hb1 hz
 go_wp2_with (fail)
 go_ret
 exact ⟨by rw [← HZ.out]; rfl,HB1.out⟩
theorem cdclosure (hh : Hd) (n : Nat) (g : Nat) (q : Bool) (w : World) (hg : g < w.heap.size) (hcell : w.cell? ⟨g,0,none⟩ = some (.func (.func 40) #[] #[]))
  (hR : ∀ W,Below w.heap.size w W → Calls Tryz.prog 40 #[datA hh n] W fun e w'=>e = .returned (.bool q)∧Below W.heap.size W w') :
  Calls Tryz.prog 66 #[datA hh n,.pointer (some ⟨g,0,none⟩)] w fun e w'=>e = .returned (.bool (!q))∧Below w.heap.size w w':=by
 obtain ⟨W0,hW0⟩ : ∃ W0,w.alloc (datO hh n) = W0:=⟨_,rfl⟩
 have hb0 : Below w.heap.size w W0:=by rw [← hW0]; exact (Below.refl _ w).alloc (Nat.le_refl _) _
 have ho : W0.heap[w.heap.size]? = some (datO hh n):=by rw [← hW0]; unfold World.alloc; simp
 have x0 : (w.alloc (datO hh n)).cell? ⟨g,0,none⟩ = some (.func (.func 40) #[] #[]):=by rw [hW0]; exact (hb0.cell (p:=⟨g,0,none⟩) hg).trans hcell
 have HW0:=Lib.hid hW0
 have HB0:=Lib.hid hb0
 have HR:=Lib.hid (hR W0 hb0)
 obtain ⟨y0,y1,y2,y3,y4,y5,y6,y7⟩:=C8.of_block ho
 clear hW0 hb0 ho hR hcell
 go_enter Tryz.func66,Tryz.ntmps66
 go_wp2_with (fail)
 rw [HW0.out]
 refine HR.out.mono ?_
 rintro e w1 ⟨rfl,hb1⟩
 have HB1:=Lib.hid (bel_trans (B:=w.heap.size) HB0.out hb1)
 clear hb1
 go_wp2_with (fail)
 go_ret
 exact ⟨rfl,HB1.out⟩
theorem cdall_any (q : Hd → Fr → Bool) (kids : Fr) (B : Option Addr) (cap b off : Nat) (w : World) (hB : 0 < kids.len → B = some ⟨b,off,none⟩) (hF : FAt w b off kids) (hc1 : kids.len ≤ cap) (hc2 : cap ≤ 9223372036854775807)
  (hR : ∀ hh k j r,kids.drop j = .cons hh k r → ∀ W,Below w.heap.size w W → DatV W hh k → Calls Tryz.prog 40 #[datA hh k.len] W fun e w'=>e = .returned (.bool (q hh k))∧Below W.heap.size W w') :
  Calls Tryz.prog 39 #[.slice B kids.len cap,.func (.func 40) #[] #[]] w fun e w'=>e = .returned (.bool (allF q kids))∧Below w.heap.size w w':=by
 obtain ⟨W0,hW0⟩ : ∃ W0,w.alloc (.cells #[.func (.func 40) #[] #[]] 53 (0,0)) = W0:=⟨_,rfl⟩
 have hb0 : Below w.heap.size w W0:=by rw [← hW0]; exact (Below.refl _ w).alloc (Nat.le_refl _) _
 have ho : W0.heap[w.heap.size]? = some (.cells #[.func (.func 40) #[] #[]] 53 (0,0)):=by rw [← hW0]; unfold World.alloc; simp
 have hs0 : w.heap.size < W0.heap.size:=by rw [← hW0]; simp
 have hc : W0.cell? ⟨w.heap.size,0,none⟩ = some (.func (.func 40) #[] #[]):=by rw [ob_cell ho]; rfl
 have HC:=Lib.hid (cdcontains_any q w.heap.size kids B cap b off W0 hB (FAt.below hb0 _ _ _ hF) hc1 hc2 fun hh k j r hdr W hW hD=>cdclosure hh k.len w.heap.size (q hh k) W (Nat.lt_of_lt_of_le hs0 hW.size) ((hW.cell (p:=⟨w.heap.size,0,none⟩) hs0).trans hc) fun W2 hW2=>hR hh k j r hdr W2 (bel_trans (B:=w.heap.size) (bel_trans (B:=w.heap.size) hb0 hW) hW2) (hD.below hW2))
 have HW0:=Lib.hid hW0
 have HB0:=Lib.hid hb0
 clear hW0 hb0 ho hs0 hc hR hF hB
 obtain ⟨r,hr⟩ : ∃ r,allF q kids = r:=⟨_,rfl⟩
 rw [hr] at HC ⊢
 clear hr
 go_enter Tryz.func39,Tryz.ntmps39
 go_wp2_with (fail)
 rw [HW0.out]
 refine HC.out.mono ?_
 rintro e w1 ⟨rfl,hb1⟩
 have HB1:=Lib.hid (bel_trans (B:=w.heap.size) HB0.out hb1)
 clear hb1
 go_wp2_with (fail)
 go_ret
 exact ⟨by simp,HB1.out⟩
end LM
namespace LM
attribute [local go_sem] run_store_flt
theorem cfew_any (c : Cod) (w : World) (hv : CodV w c) (hok : c.Ok) : Calls Tryz.prog 34 #[codA c] w fun e w'=>e = .returned (.bool (fewB c))∧Below w.heap.size w w':=by
 obtain ⟨W0,hW0,hb0,ho,hs0,hz0⟩:=cod_block w c
 obtain ⟨PB,pc,ps,CB,cc,kids,GB,gc,gs⟩:=c
 have HB0:=Lib.hid hb0
 have HW0:=Lib.hid hW0
 obtain ⟨b,off,hB,hF⟩:=(hv.below hb0).ps
 have hle:=insN_le hok.pr
 have HF:=Lib.hid hF
 have HLE:=Lib.hid hle
 obtain ⟨y0,y1,y2⟩:=K3.of_block ho
 dsimp only [codA,codO] at *
 by_cases hm : ps.length ≤ 4000∧kids.len ≤ 4000∧gs.length ≤ 4000
 ·obtain ⟨m1,m2,m3⟩:=hm
  have E : Hid (fewB ⟨PB,pc,ps,CB,cc,kids,GB,gc,gs⟩ = decide (insN ps ≤ 40000)):=Lib.hid (by unfold fewB; rw [decide_eq_true m1,decide_eq_true m2,decide_eq_true m3]; rfl)
  have M1:=Lib.hid m1
  obtain ⟨M,hM⟩ : ∃ M : Int,(if (if ps.length < kids.len then (kids.len : Int) else (ps.length : Int)) < (gs.length : Int) then (gs.length : Int) else if ps.length < kids.len then (kids.len : Int) else (ps.length : Int)) = M:=⟨_,rfl⟩
  have dm : decide ((4000 : Int) < M) = false:=decide_eq_false (by rw [← hM]; split <;> (try split) <;> omega)
  rcases Nat.eq_zero_or_pos ps.length with h0 | hpos
  ·have hz : decide (0 < ps.length) = false:=decide_eq_false (by omega)
   have E2 : Hid (decide (insN ps ≤ 40000) = true):=Lib.hid (by rw [List.length_eq_zero_iff.1 h0]; rfl)
   clear hW0 hb0 ho hs0 hv hok m1 m2 m3 hz0 h0 hB hF hle
   go_enter Tryz.func34,Tryz.ntmps34
   go_wp2_with (fail)
   rw [HW0.out]
   go_wp2_with (fail)
   go_loopg [3,20] 0 (fun kk n i wr=>Below W0.heap.size W0 wr∧i = .int .i64 0∧n = .int .i64 0)
   case atStart=>exact ⟨Below.refl _ _,rfl,rfl⟩
   case round =>
    obtain ⟨hbr,rfl,rfl⟩:=hrel
    have HBR:=Lib.hid hbr
    clear hbr
    go_wp2_with (fail)
    go_ret
    exact ⟨by rw [E.out,E2.out]; rfl,bel_trans (B:=w.heap.size) HB0.out HBR.out⟩
  obtain rfl:=hB hpos
  clear hW0 hb0 ho hs0 hv hok m2 m3 hz0 hF hle hB
  go_enter Tryz.func34,Tryz.ntmps34
  go_wp2_with (fail)
  rw [HW0.out]
  go_wp2_with (fail)
  go_loopg [3,20] ps.length (fun kk n i wr=>Below W0.heap.size W0 wr∧∃ j : Nat,j ≤ ps.length∧kk = ps.length - j∧i = .int .i64 (j : Int)∧∃ a : Nat,n = .int .i64 (a : Int)∧a + insN (ps.drop j) = insN ps)
  case atStart=>exact ⟨Below.refl _ _,0,Nat.zero_le _,rfl,rfl,0,rfl,by simp⟩
  case round =>
   obtain ⟨hbr,j,hj,rfl,rfl,a,rfl,ha⟩:=hrel
   have HBR:=Lib.hid hbr
   have HA:=Lib.hid ha
   clear hbr ha
   by_cases hjl : j < ps.length
   ·obtain ⟨p,hp,hdr⟩:=drop_at hjl
    obtain ⟨hbl,x0,x1,x2,x3,x4,x5,x6⟩:=(HF.out.below HBR.out) j p hp
    have h2:=HA.out
    rw [hdr,insN_cons] at h2
    have w1 : IntKind.i64.wrap ((a : Int) + (p.code.length : Int)) = (a : Int) + (p.code.length : Int):=by rw [IntKind.wrap_i64]; have:=HLE.out; have:=M1.out; omega
    have H2:=Lib.hid h2
    have k6:=ob_cell (show (wr.alloc (prO p)).heap[wr.heap.size]? = some (prO p) by unfold World.alloc; simp) 6
    rw [show (#[Value.string p.nm,.int .i64 p.pa,.bool p.rs,.int .i64 p.sl,.int .i64 p.de,.int .i64 p.fr,.slice p.B p.code.length p.cap] : Array Value)[6]? = some (.slice p.B p.code.length p.cap) from rfl] at k6
    have HBA:=Lib.hid (bel_trans (B:=W0.heap.size) HBR.out ((Below.refl _ wr).alloc (Nat.le_refl _) (prO p)))
    clear h2 hdr hp
    go_wp2_with (fail)
    go_roundg (ps.length - (j + 1))
    case measure=>omega
    case rel=>exact ⟨HBA.out,j + 1,by omega,rfl,by go_num,a + p.code.length,by go_num,by have:=H2.out; omega⟩
   ·have hje : j = ps.length:=by omega
    subst hje
    have h2:=HA.out
    rw [List.drop_length] at h2
    have hr : decide ((a : Int) ≤ 40000) = decide (insN ps ≤ 40000):=decide_eq_decide.2 (by have : insN [] = 0:=rfl; omega)
    have HR:=Lib.hid hr
    clear h2 hr
    go_wp2_with (fail)
    go_ret
    exact ⟨by rw [E.out,← HR.out]; rfl,bel_trans (B:=w.heap.size) HB0.out HBR.out⟩
 ·have E : Hid (fewB ⟨PB,pc,ps,CB,cc,kids,GB,gc,gs⟩ = false):=Lib.hid (by
   unfold fewB
   by_cases m1 : ps.length ≤ 4000
   ·by_cases m2 : kids.len ≤ 4000
    ·rw [decide_eq_false (show ¬ gs.length ≤ 4000 from fun m3=>hm ⟨m1,m2,m3⟩)]; simp
    ·rw [decide_eq_false m2]; simp
   ·rw [decide_eq_false m1]; simp)
  obtain ⟨M,hM⟩ : ∃ M : Int,(if (if ps.length < kids.len then (kids.len : Int) else (ps.length : Int)) < (gs.length : Int) then (gs.length : Int) else if ps.length < kids.len then (kids.len : Int) else (ps.length : Int)) = M:=⟨_,rfl⟩
  have dm : decide ((4000 : Int) < M) = true:=decide_eq_true (by rw [← hM]; split <;> (try split) <;> omega)
  clear hW0 ho hs0 hv hok hz0 hm hb0 hB hF hle
  go_enter Tryz.func34,Tryz.ntmps34
  go_wp2_with (fail)
  rw [HW0.out]
  go_ret
  exact ⟨by rw [E.out]; rfl,HB0.out⟩
theorem cright_by (q : Hd → Fr → Bool) (c : Cod) (w : World) (hv : CodV w c) (hok : c.Ok)
  (hq : ∀ hh k j r,c.kids.drop j = .cons hh k r → ∀ W,Below w.heap.size w W → DatV W hh k → Calls Tryz.prog 40 #[datA hh k.len] W fun e w'=>e = .returned (.bool (q hh k))∧Below W.heap.size W w') :
  Calls Tryz.prog 16 #[codA c] w fun e w'=>e = .returned (.bool (fewB c && (c.ps.all prB && (c.gs.all (fun s=>decide (s.size ≤ 100)) && allF q c.kids))))∧Below w.heap.size w w':=by
 obtain ⟨W0,hW0,hb0,ho,hs0,hz0⟩:=cod_block w c
 have N1:=Lib.hid (cfew_any c W0 (hv.below hb0) hok)
 have N2 : Hid (∀ W,Below w.heap.size w W → Calls Tryz.prog 35 #[.slice c.PB c.ps.length c.pc,.func (.func 36) #[] #[]] W fun e w'=>e = .returned (.bool (c.ps.all prB))∧Below W.heap.size W w'):=Lib.hid fun W hW=>by
  obtain ⟨b,off,hB,hF⟩:=(hv.below hW).ps
  exact cpall_any prB c.ps c.PB c.pc b off W hB hF hok.ps.1 hok.ps.2 fun p hp W2 hW2=>cproc_any p W2 (((hv.pv p hp).below hW).below hW2) (hok.pr p hp)
 have N3 : Hid (∀ W,Below w.heap.size w W → Calls Tryz.prog 37 #[.slice c.GB c.gs.length c.gc,.func (.func 38) #[] #[]] W fun e w'=>e = .returned (.bool (c.gs.all fun s=>decide (s.size ≤ 100)))∧Below W.heap.size W w'):=Lib.hid fun W hW=>by
  obtain ⟨b,off,hB,hF⟩:=(hv.below hW).gs
  exact csall_any (fun s=>decide (s.size ≤ 100)) c.gs c.GB c.gc b off W hB hF hok.gs.1 hok.gs.2 fun s _ W2 _=>cname_any s W2
 have N4 : Hid (∀ W,Below w.heap.size w W → Calls Tryz.prog 39 #[.slice c.CB c.kids.len c.cc,.func (.func 40) #[] #[]] W fun e w'=>e = .returned (.bool (allF q c.kids))∧Below W.heap.size W w'):=Lib.hid fun W hW=>by
  obtain ⟨b,off,hB,hF⟩:=(hv.below hW).kids
  exact cdall_any q c.kids c.CB c.cc b off W hB hF hok.kids.1 hok.kids.2 fun hh k j r hdr W2 hW2 hD=>hq hh k j r hdr W2 (bel_trans (B:=w.heap.size) hW hW2) hD
 have HB0:=Lib.hid hb0
 have HW0:=Lib.hid hW0
 have HS:=Lib.hid hs0
 have K0:=Lib.hid (K3.of_block ho)
 obtain ⟨y0,y1,y2⟩:=K0.out
 obtain ⟨r1,hr1⟩ : ∃ r,fewB c = r:=⟨_,rfl⟩
 obtain ⟨r2,hr2⟩ : ∃ r,c.ps.all prB = r:=⟨_,rfl⟩
 obtain ⟨r3,hr3⟩ : ∃ r,(c.gs.all fun s=>decide (s.size ≤ 100)) = r:=⟨_,rfl⟩
 obtain ⟨r4,hr4⟩ : ∃ r,allF q c.kids = r:=⟨_,rfl⟩
 rw [hr1] at N1 ⊢
 rw [hr2] at N2 ⊢
 rw [hr3] at N3 ⊢
 rw [hr4] at N4 ⊢
 clear hW0 hb0 ho hs0 hv hok hz0 hq hr1 hr2 hr3 hr4
 go_enter Tryz.func16,Tryz.ntmps16
 go_wp2_with (fail)
 rw [HW0.out]
 refine N1.out.mono ?_
 rintro e w1 ⟨rfl,hb1⟩
 have HB1:=Lib.hid (bel_trans (B:=w.heap.size) HB0.out hb1)
 have K1:=Lib.hid (K0.out.keep hb1 HS.out)
 have hs1 : w.heap.size < w1.heap.size:=Nat.lt_of_lt_of_le HS.out hb1.size
 have HS1:=Lib.hid hs1
 clear hb1 y0 y1 y2 hs1
 cases r1
 ·go_wp2_with (fail)
  go_ret
  exact ⟨rfl,HB1.out⟩
 obtain ⟨y0,y1,y2⟩:=K1.out
 simp only [Nat.zero_add] at y0 y1 y2
 go_wp2_with (fail)
 refine (N2.out _ HB1.out).mono ?_
 rintro e w2 ⟨rfl,hb2⟩
 have HB2:=Lib.hid (bel_trans (B:=w.heap.size) HB1.out hb2)
 have K2:=Lib.hid (K1.out.keep hb2 HS1.out)
 have HS2:=Lib.hid (Nat.lt_of_lt_of_le HS1.out hb2.size)
 clear hb2 y0 y1 y2
 cases r2
 ·go_wp2_with (fail)
  go_ret
  exact ⟨rfl,HB2.out⟩
 obtain ⟨y0,y1,y2⟩:=K2.out
 simp only [Nat.zero_add] at y0 y1 y2
 go_wp2_with (fail)
 refine (N3.out _ HB2.out).mono ?_
 rintro e w3 ⟨rfl,hb3⟩
 have HB3:=Lib.hid (bel_trans (B:=w.heap.size) HB2.out hb3)
 have K3':=Lib.hid (K2.out.keep hb3 HS2.out)
 clear hb3 y0 y1 y2
 cases r3
 ·go_wp2_with (fail)
  go_ret
  exact ⟨rfl,HB3.out⟩
 obtain ⟨y0,y1,y2⟩:=K3'.out
 simp only [Nat.zero_add] at y0 y1 y2
 go_wp2_with (fail)
 refine (N4.out _ HB3.out).mono ?_
 rintro e w4 ⟨rfl,hb4⟩
 have HB4:=Lib.hid (bel_trans (B:=w.heap.size) HB3.out hb4)
 clear hb4 y0 y1 y2
 go_wp2_with (fail)
 go_ret
 exact ⟨by first | rfl | simp,HB4.out⟩
end LM
namespace LM
attribute [local go_sem] run_store_flt
def frV (ps : List Prh) (n : Nat) : Int:=match ps[n]? with | some p=>p.fr | none=>0
theorem cfree_any (c : Cod) (n : Nat) (hn : n ≤ 16777215) (w : World) (hv : CodV w c) (hok : c.Ok) :
  Calls Tryz.prog 15 #[codA c,.int .i64 (n : Int)] w fun e w'=>e = .returned (.int .i64 (frV c.ps n))∧Below w.heap.size w w':=by
 obtain ⟨W0,hW0,hb0,ho,hs0,hz0⟩:=cod_block w c
 obtain ⟨PB,pc,ps,CB,cc,kids,GB,gc,gs⟩:=c
 dsimp only at hW0 ho ⊢
 have y0 : W0.cell? ⟨w.heap.size,0,none⟩ = some (.slice PB ps.length pc):=ob_cell ho 0
 have hps:=(hv.below hb0).ps
 have HW0:=Lib.hid hW0
 have HB0:=Lib.hid hb0
 have d0 : decide ((n : Int) < 0) = false:=decide_eq_false (by omega)
 have hpc:=hok.ps
 dsimp only at hps hpc
 clear hW0 hb0 ho hs0 hz0 hv hok
 by_cases hlt : n < ps.length
 ·obtain ⟨b,off,hB,hF⟩:=hps
  obtain ⟨p,hp⟩ : ∃ p,ps[n]? = some p:=⟨_,List.getElem?_eq_getElem hlt⟩
  have hf : frV ps n = p.fr:=by unfold frV; rw [hp]
  obtain rfl:=hB (by omega)
  have z5 : (w.alloc (.cells #[.slice (some ⟨b,off,none⟩) ps.length pc,.slice CB kids.len cc,.slice GB gs.length gc] 28 (0,0))).cell? ⟨b,off + n * 7 + 5,none⟩ = some (.int .i64 p.fr):=by
   have h:=(hF n p hp).2.c5
   rw [← HW0.out] at h
   exact h
  have d1 : decide ((ps.length : Int) ≤ (n : Int)) = false:=decide_eq_false (by omega)
  have d1' : decide (ps.length ≤ n) = false:=decide_eq_false (by omega)
  have d2 : (0 : Int) ≤ (n : Int):=by omega
  have d3 : (n : Int) < (ps.length : Int):=by omega
  have d4 : (ps.length : Int) ≤ (pc : Int):=by omega
  have d5 : (pc : Int) ≤ 9223372036854775807:=by omega
  have HF:=Lib.hid hf
  clear hB hF hp hf hpc
  go_enter Tryz.func15,Tryz.ntmps15
  go_wp2_with (fail)
  rw [HW0.out]
  go_wp2_with (fail)
  go_ret
  exact ⟨by rw [HF.out]; rfl,HB0.out⟩
 ·have hf : frV ps n = 0:=by unfold frV; rw [List.getElem?_eq_none (by omega)]
  have d1 : decide ((ps.length : Int) ≤ (n : Int)) = true:=decide_eq_true (by omega)
  have d1' : decide (ps.length ≤ n) = true:=decide_eq_true (by omega)
  have HF:=Lib.hid hf
  clear hps hf hpc
  go_enter Tryz.func15,Tryz.ntmps15
  go_wp2_with (fail)
  rw [HW0.out]
  go_wp2_with (fail)
  go_ret
  exact ⟨by rw [HF.out]; rfl,HB0.out⟩
end LM
namespace LM
attribute [local go_sem] run_store_flt
theorem below_iterD (W : World) (s : ByteArray) (pos : Nat) : Below W.heap.size W (W.iter s pos):=by
 unfold World.iter
 exact (Below.refl _ W).alloc (Nat.le_refl _) _
theorem dcontains_any (nm : ByteArray → Bool) (d : Int) (g : Nat) (kids : Fr) (B : Option Addr) (cap b off : Nat) (w : World) (hB : 0 < kids.len → B = some ⟨b,off,none⟩) (hF : FAt w b off kids) (hc1 : kids.len ≤ cap) (hc2 : cap ≤ 9223372036854775807)
  (hcl : ∀ hh k j r,kids.drop j = .cons hh k r → ∀ W,Below w.heap.size w W → DatV W hh k → Calls Tryz.prog 106 #[datA hh k.len,.pointer (some ⟨g,0,none⟩)] W fun e w'=>e = .returned (.bool (!rightK nm d hh k (rightF nm (d - 1) k)))∧Below W.heap.size W w') :
  Calls Tryz.prog 65 #[.slice B kids.len cap,.func (.func 106) #[] #[.pointer (some ⟨g,0,none⟩)]] w fun e w'=>e = .returned (.bool (!rightF nm d kids))∧Below w.heap.size w w':=by
 have H1:=Lib.hid (dindex_any nm d g kids B cap b off w hB hF hc1 hc2 hcl)
 clear hB hF hcl
 go_enter Tryz.func65,Tryz.ntmps65
 go_wp2_with (fail)
 refine H1.out.mono ?_
 rintro e w1 ⟨⟨z,rfl,hz⟩,hb1⟩
 have HB1:=Lib.hid hb1
 have HZ:=Lib.hid hz
 clear hb1 hz
 go_wp2_with (fail)
 go_ret
 exact ⟨by rw [← HZ.out]; rfl,HB1.out⟩
theorem dclosure_any (hh : Hd) (k : Fr) (depth : Int) (hd1 : 0 ≤ depth) (hd2 : depth ≤ 60) (g : Nat) (q : Bool) (w : World) (hg : g < w.heap.size) (hcell : w.cell? ⟨g,0,none⟩ = some (.int .i64 depth))
  (hR : ∀ W,Below w.heap.size w W → Calls Tryz.prog 68 #[datA hh k.len,.int .i64 (depth - 1)] W fun e w'=>e = .returned (.bool q)∧Below W.heap.size W w') :
  Calls Tryz.prog 106 #[datA hh k.len,.pointer (some ⟨g,0,none⟩)] w fun e w'=>e = .returned (.bool (!q))∧Below w.heap.size w w':=by
 obtain ⟨W0,hW0,hb0,ho,hs0⟩:=dat_block w hh k.len
 have x0 : (w.alloc (datO hh k.len)).cell? ⟨g,0,none⟩ = some (.int .i64 depth):=by rw [hW0]; exact (hb0.cell (p:=⟨g,0,none⟩) hg).trans hcell
 have HO:=Lib.hid ho
 have HW0:=Lib.hid hW0
 have HB0:=Lib.hid hb0
 have HR:=Lib.hid (hR W0 hb0)
 have w1 : IntKind.i64.wrap (depth - 1) = depth - 1:=by rw [IntKind.wrap_i64]; omega
 obtain ⟨y0,y1,y2,y3,y4,y5,y6,y7⟩:=C8.of_block ho
 clear hW0 hb0 ho hR hcell
 go_enter Tryz.func106,Tryz.ntmps106
 go_wp2_with (fail)
 rw [HW0.out]
 refine HR.out.mono ?_
 rintro e w1 ⟨rfl,hb1⟩
 have HB1:=Lib.hid (bel_trans (B:=w.heap.size) HB0.out hb1)
 clear hb1
 go_wp2_with (fail)
 go_ret
 exact ⟨rfl,HB1.out⟩
theorem dright_go (nm : ByteArray → Bool) (h : Hd) (kids : Fr) (depth : Int) (hd1 : 0 ≤ depth) (hd2 : depth ≤ 60) (sub : Bool) (w : World) (hD : DatV w h kids) (hok : h.Ok kids.len) (hu : UT w) (hnm : h.k = 4 → CallB w 104 #[.string h.t] (.bool (nm h.t)))
  (hsub : 0 < depth → ∀ g W,Below w.heap.size w W → g < W.heap.size → W.cell? ⟨g,0,none⟩ = some (.int .i64 depth) →
   Calls Tryz.prog 65 #[.slice h.B kids.len h.cap,.func (.func 106) #[] #[.pointer (some ⟨g,0,none⟩)]] W fun e w'=>e = .returned (.bool (!sub))∧Below W.heap.size W w') :
  Calls Tryz.prog 68 #[datA h kids.len,.int .i64 depth] w fun e w'=>e = .returned (.bool (rightK nm depth h kids sub))∧Below w.heap.size w w':=by
 have hE : CallB w 99 #[datA h kids.len] (.bool (elseB h.k (h.n == 0) (nothB h.fl h.f h.s h.xs) (h.t.toList == []) (((kids.len : Nat) : Int) == 0))):=fun W hW =>
  delse_any h kids.len _ _ _ _ W rfl rfl rfl fun W2 h2=>by
   have:=dnothing_any h.fl h.f h.s h.A h.xs.length h.c _ W2 fun W3 h3=>tright_any h.fl h.f hok.f h.s h.A h.c h.xs W3 (((hD.xs.below hW).below h2).below h3) hok.lm hok.l
   exact this
 obtain ⟨W0,hW0⟩ : ∃ W0,(w.alloc (datO h kids.len)).alloc (.cells #[.int .i64 depth] 3 (0,0)) = W0:=⟨_,rfl⟩
 have hb0 : Below w.heap.size w W0:=by rw [← hW0]; exact ((Below.refl _ w).alloc (Nat.le_refl _) _).alloc (by simp) _
 have hO : Obs W0 [(w.heap.size + 1,.cells #[.int .i64 depth] 3 (0,0)),(w.heap.size,datO h kids.len)]:=by
  rw [← hW0]
  have h1:=(Obs.nil.new (w:=w) (datO h kids.len)).new (.cells #[.int .i64 depth] 3 (0,0))
  simp only [World.size_alloc] at h1
  exact h1
 obtain ⟨q,hq⟩ : ∃ q,elseB h.k (h.n == 0) (nothB h.fl h.f h.s h.xs) (h.t.toList == []) (((kids.len : Nat) : Int) == 0) = q:=⟨_,rfl⟩
 rw [hq] at hE
 have HW0:=Lib.hid hW0
 have HB0:=Lib.hid hb0
 have O0:=Lib.hid hO
 have HE:=Lib.hid (hE W0 hb0)
 have c0:=C8.of_block hO.tl.hd
 obtain ⟨x0,x1,x2,x3,x4,x5,x6,x7⟩:=c0
 have HQ : Hid (rightK nm depth h kids sub = (q && (if h.k = 0 then rightN h.fl h.f h.s h.xs else if h.k = 1 then (h.n == 0 || h.n == 1) else if h.k = 2 then csignB h.n else if h.k = 3 then textB h.t else if h.k = 4 then nm h.t else
   (decide (0 < depth) && areB h.k kids.len (lastK kids) && sub)))):=Lib.hid (by unfold rightK; rw [hq])
 clear hW0 hb0 hO hE hq
 cases q
 ·go_enter Tryz.func68,Tryz.ntmps68
  go_wp2_with (fail)
  rw [HW0.out]
  refine HE.out.mono ?_
  rintro e w1 ⟨rfl,hb1⟩
  have HB1:=Lib.hid (bel_trans (B:=w.heap.size) HB0.out hb1)
  clear hb1
  go_wp2_with (fail)
  go_ret
  exact ⟨by rw [HQ.out]; rfl,HB1.out⟩
 ·rcases kinds h.k with hk | hk | hk | hk | hk | hk | hk | hk | ⟨k0,k1,k2,k3,k4,k5,k6,k7⟩
  ·have HT:=Lib.hid fun W (hW : Below w.heap.size w W)=>tright_any h.fl h.f hok.f h.s h.A h.c h.xs W (hD.xs.below hW) hok.lm hok.l
   have HQ2 : Hid (rightK nm depth h kids sub = rightN h.fl h.f h.s h.xs):=Lib.hid (by rw [HQ.out,if_pos hk]; rfl)
   have HK:=Lib.hid hk
   clear hD hok hu hnm hsub HQ hk
   go_enter Tryz.func68,Tryz.ntmps68
   go_wp2_with (fail)
   rw [HW0.out]
   refine HE.out.mono ?_
   rintro e w1 ⟨rfl,hb1⟩
   have HB1:=Lib.hid (bel_trans (B:=w.heap.size) HB0.out hb1)
   obtain ⟨y0,y1,y2,y3,y4,y5,y6,y7⟩:=C8.of_block (O0.out.below hb1).tl.hd
   have z0:=ob_cell (O0.out.below hb1).hd 0
   rw [HK.out] at y0
   clear hb1
   go_wp2_with (fail)
   refine (HT.out _ HB1.out).mono ?_
   rintro e w2 ⟨rfl,hb2⟩
   have HB2:=Lib.hid (bel_trans (B:=w.heap.size) HB1.out hb2)
   clear hb2
   go_wp2_with (fail)
   go_ret
   exact ⟨by rw [HQ2.out]; rfl,HB2.out⟩
  ·have HQ2 : Hid (rightK nm depth h kids sub = (h.n == 0 || h.n == 1)):=Lib.hid (by rw [HQ.out,if_neg (by omega),if_pos hk]; rfl)
   have HK:=Lib.hid hk
   clear hD hok hu hnm hsub HQ hk
   go_enter Tryz.func68,Tryz.ntmps68
   go_wp2_with (fail)
   rw [HW0.out]
   refine HE.out.mono ?_
   rintro e w1 ⟨rfl,hb1⟩
   have HB1:=Lib.hid (bel_trans (B:=w.heap.size) HB0.out hb1)
   obtain ⟨y0,y1,y2,y3,y4,y5,y6,y7⟩:=C8.of_block (O0.out.below hb1).tl.hd
   have z0:=ob_cell (O0.out.below hb1).hd 0
   rw [HK.out] at y0
   clear hb1
   go_wp2_with (fail)
   all_goals
    go_ret
    exact ⟨by rw [HQ2.out]; simp [*],HB1.out⟩
  ·have HT:=Lib.hid fun W=>dsign_any h.n hok.n.1 hok.n.2 W
   have HQ2 : Hid (rightK nm depth h kids sub = csignB h.n):=Lib.hid (by rw [HQ.out,if_neg (by omega),if_neg (by omega),if_pos hk]; rfl)
   have HK:=Lib.hid hk
   clear hD hok hu hnm hsub HQ hk
   go_enter Tryz.func68,Tryz.ntmps68
   go_wp2_with (fail)
   rw [HW0.out]
   refine HE.out.mono ?_
   rintro e w1 ⟨rfl,hb1⟩
   have HB1:=Lib.hid (bel_trans (B:=w.heap.size) HB0.out hb1)
   obtain ⟨y0,y1,y2,y3,y4,y5,y6,y7⟩:=C8.of_block (O0.out.below hb1).tl.hd
   have z0:=ob_cell (O0.out.below hb1).hd 0
   rw [HK.out] at y0
   clear hb1
   go_wp2_with (fail)
   refine (HT.out _).mono ?_
   rintro e w2 ⟨rfl,rfl⟩
   go_wp2_with (fail)
   go_ret
   exact ⟨by rw [HQ2.out]; rfl,HB1.out⟩
  ·have HV:=Lib.hid fun W (hW : Below w.heap.size w W)=>Tryz.utf8_ValidString h.t W (by have:=hok.t; omega) (hu W hW)
   have HC:=Lib.hid fun W=>Tryz.utf8_RuneCountInString h.t W (by have:=hok.t; omega)
   have HQ2 : Hid (rightK nm depth h kids sub = (Lib.validD h.t.data.toList && decide (Lib.runeCount h.t ≤ 400))):=Lib.hid (by rw [HQ.out,if_neg (by omega),if_neg (by omega),if_neg (by omega),if_pos hk]; rfl)
   have HK:=Lib.hid hk
   obtain ⟨rc,hrc⟩ : ∃ rc,Lib.runeCount h.t = rc:=⟨_,rfl⟩
   obtain ⟨vd,hvd⟩ : ∃ vd,Lib.validD h.t.data.toList = vd:=⟨_,rfl⟩
   rw [hrc] at HC HQ2
   rw [hvd] at HV HQ2
   clear hD hok hu hnm hsub HQ hk hrc hvd
   go_enter Tryz.func68,Tryz.ntmps68
   go_wp2_with (fail)
   rw [HW0.out]
   refine HE.out.mono ?_
   rintro e w1 ⟨rfl,hb1⟩
   have HB1:=Lib.hid (bel_trans (B:=w.heap.size) HB0.out hb1)
   obtain ⟨y0,y1,y2,y3,y4,y5,y6,y7⟩:=C8.of_block (O0.out.below hb1).tl.hd
   have z0:=ob_cell (O0.out.below hb1).hd 0
   rw [HK.out] at y0
   have HX1:=Lib.hid hb1
   clear hb1
   go_wp2_with (fail)
   refine (HV.out _ HB1.out).mono ?_
   rintro e w2 ⟨rfl,hb2⟩
   have HB2:=Lib.hid (bel_trans (B:=w.heap.size) HB1.out hb2)
   obtain ⟨v0,v1,v2,v3,v4,v5,v6,v7⟩:=C8.of_block (O0.out.below (bel_trans (B:=W0.heap.size) HX1.out hb2)).tl.hd
   clear hb2 y0 y1 y2 y3 y4 y5 y6 y7 z0
   cases vd
   ·go_wp2_with (fail)
    go_ret
    exact ⟨by rw [HQ2.out]; rfl,HB2.out⟩
   ·go_wp2_with (fail)
    refine (HC.out _).mono ?_
    rintro e w3 ⟨rfl,pos,rfl⟩
    have HB3:=Lib.hid (bel_trans (B:=w.heap.size) HB2.out (below_iterD w2 h.t pos))
    have h400 : ((rc : Int) ≤ 400 ↔ rc ≤ 400):=by omega
    have h401 : decide ((rc : Int) ≤ 400) = decide (rc ≤ 400):=decide_eq_decide.2 h400
    clear h400
    go_wp2_with (fail)
    go_ret
    exact ⟨by rw [HQ2.out]; first | rfl | simp [*],HB3.out⟩
  ·have HT:=Lib.hid (hnm hk)
   have HQ2 : Hid (rightK nm depth h kids sub = nm h.t):=Lib.hid (by rw [HQ.out,if_neg (by omega),if_neg (by omega),if_neg (by omega),if_neg (by omega),if_pos hk]; rfl)
   have HK:=Lib.hid hk
   clear hD hok hu hnm hsub HQ hk
   go_enter Tryz.func68,Tryz.ntmps68
   go_wp2_with (fail)
   rw [HW0.out]
   refine HE.out.mono ?_
   rintro e w1 ⟨rfl,hb1⟩
   have HB1:=Lib.hid (bel_trans (B:=w.heap.size) HB0.out hb1)
   obtain ⟨y0,y1,y2,y3,y4,y5,y6,y7⟩:=C8.of_block (O0.out.below hb1).tl.hd
   have z0:=ob_cell (O0.out.below hb1).hd 0
   rw [HK.out] at y0
   clear hb1
   go_wp2_with (fail)
   refine (HT.out _ HB1.out).mono ?_
   rintro e w2 ⟨rfl,hb2⟩
   have HB2:=Lib.hid (bel_trans (B:=w.heap.size) HB1.out hb2)
   clear hb2
   go_wp2_with (fail)
   go_ret
   exact ⟨by rw [HQ2.out]; rfl,HB2.out⟩
  all_goals
   have f0 : (h.k == 0) = false:=by first | exact k0 | (rw [hk]; rfl)
   have f1 : (h.k == 1) = false:=by first | exact k1 | (rw [hk]; rfl)
   have f2 : (h.k == 2) = false:=by first | exact k2 | (rw [hk]; rfl)
   have f3 : (h.k == 3) = false:=by first | exact k3 | (rw [hk]; rfl)
   have f4 : (h.k == 4) = false:=by first | exact k4 | (rw [hk]; rfl)
   have HQ2 : Hid (rightK nm depth h kids sub = (decide (0 < depth) && areB h.k kids.len (lastK kids) && sub)):=Lib.hid (by
    rw [beq_eq_false_iff_ne] at f0 f1 f2 f3 f4
    rw [HQ.out,if_neg f0,if_neg f1,if_neg f2,if_neg f3,if_neg f4]; rfl)
   try clear hk
   try clear k0 k1 k2 k3 k4 k5 k6 k7
   by_cases hd0 : 0 < depth
   ·have HA : Hid (∀ W,Below w.heap.size w W → Calls Tryz.prog 105 #[.int .i64 h.k,.slice h.B kids.len h.cap] W fun e w'=>e = .returned (.bool (areB h.k kids.len (lastK kids)))∧Below W.heap.size W w'):=Lib.hid fun W hW=>by
     obtain ⟨b,off,hB,hF⟩:=(hD.below hW).items
     rcases Nat.eq_zero_or_pos kids.len with h0 | hp
     ·have:=dareitems_any h.k h.B kids.len h.cap (by omega) b off ⟨lastK kids,0,false,0,false,none,[],0,⟨#[]⟩,none,0⟩ 0 W (fun h=>by omega) (fun h=>by omega)
      exact this
     ·obtain ⟨hh,k,e1,e2⟩:=last_item kids hp
      have:=dareitems_any h.k h.B kids.len h.cap (by have:=hok.cap; omega) b off hh k.len W hB (fun _=>(counted_item hF e1).2.1)
      rw [e2] at this
      exact this
    have HS:=Lib.hid (hsub hd0)
    have hdt : decide (0 < depth) = true:=decide_eq_true hd0
    obtain ⟨ab,hab⟩ : ∃ ab,areB h.k kids.len (lastK kids) = ab:=⟨_,rfl⟩
    rw [hab,hdt] at HQ2
    rw [hab] at HA
    clear hD hok hu hnm hsub HQ hab
    go_enter Tryz.func68,Tryz.ntmps68
    go_wp2_with (fail)
    rw [HW0.out]
    refine HE.out.mono ?_
    rintro e w1 ⟨rfl,hb1⟩
    have HB1:=Lib.hid (bel_trans (B:=w.heap.size) HB0.out hb1)
    obtain ⟨y0,y1,y2,y3,y4,y5,y6,y7⟩:=C8.of_block (O0.out.below hb1).tl.hd
    have z0:=ob_cell (O0.out.below hb1).hd 0
    rw [show (#[Value.int .i64 depth] : Array Value)[0]? = some (.int .i64 depth) from rfl] at z0
    have HX1:=Lib.hid hb1
    clear hb1
    go_wp2_with (fail)
    refine (HA.out _ HB1.out).mono ?_
    rintro e w2 ⟨rfl,hb2⟩
    have HB2:=Lib.hid (bel_trans (B:=w.heap.size) HB1.out hb2)
    have O2:=Lib.hid (O0.out.below (bel_trans (B:=W0.heap.size) HX1.out hb2))
    have hlt : w.heap.size + 1 < w2.heap.size:=by
     have h1:=(O0.out.below (bel_trans (B:=W0.heap.size) HX1.out hb2)).hd
     rcases Nat.lt_or_ge (w.heap.size + 1) w2.heap.size with h2 | h2
     ·exact h2
     ·rw [Array.getElem?_eq_none h2] at h1; cases h1
    obtain ⟨v0,v1,v2,v3,v4,v5,v6,v7⟩:=C8.of_block (O0.out.below (bel_trans (B:=W0.heap.size) HX1.out hb2)).tl.hd
    have u0:=ob_cell (O0.out.below (bel_trans (B:=W0.heap.size) HX1.out hb2)).hd 0
    rw [show (#[Value.int .i64 depth] : Array Value)[0]? = some (.int .i64 depth) from rfl] at u0
    have HS2:=Lib.hid (HS.out _ _ HB2.out hlt u0)
    clear hb2 y0 y1 y2 y3 y4 y5 y6 y7 z0 u0
    cases ab
    ·go_wp2_with (fail)
     go_ret
     exact ⟨by rw [HQ2.out]; rfl,HB2.out⟩
    ·go_wp2_with (fail)
     refine HS2.out.mono ?_
     rintro e w3 ⟨rfl,hb3⟩
     have HB3:=Lib.hid (bel_trans (B:=w.heap.size) HB2.out hb3)
     clear hb3
     go_wp2_with (fail)
     go_ret
     exact ⟨by rw [HQ2.out]; simp,HB3.out⟩
   ·have hdf : decide (0 < depth) = false:=decide_eq_false hd0
    rw [hdf] at HQ2
    clear hD hok hu hnm hsub HQ
    go_enter Tryz.func68,Tryz.ntmps68
    go_wp2_with (fail)
    rw [HW0.out]
    refine HE.out.mono ?_
    rintro e w1 ⟨rfl,hb1⟩
    have HB1:=Lib.hid (bel_trans (B:=w.heap.size) HB0.out hb1)
    obtain ⟨y0,y1,y2,y3,y4,y5,y6,y7⟩:=C8.of_block (O0.out.below hb1).tl.hd
    have z0:=ob_cell (O0.out.below hb1).hd 0
    rw [show (#[Value.int .i64 depth] : Array Value)[0]? = some (.int .i64 depth) from rfl] at z0
    clear hb1
    go_wp2_with (fail)
    go_ret
    exact ⟨by rw [HQ2.out]; simp,HB1.out⟩
theorem dright_any (nm : ByteArray → Bool) : ∀ (m : Nat) (kids : Fr),kids.size < m → kids.Ok → ∀ (h : Hd) (depth : Int) (w : World),DatV w h kids → h.Ok kids.len → 0 ≤ depth → depth ≤ 60 → UT w → (∀ t,(h.k = 4∧t = h.t) ∨ SymIn t kids → CallB w 104 #[.string t] (.bool (nm t))) →
  Calls Tryz.prog 68 #[datA h kids.len,.int .i64 depth] w fun e w'=>e = .returned (.bool (rightK nm depth h kids (rightF nm (depth - 1) kids)))∧Below w.heap.size w w':=by
 intro m
 induction m with
 | zero=>intro kids h; omega
 | succ m ih =>
  intro kids hsz hok h depth w hd hho h0 h60 hu hnm
  refine dright_go nm h kids depth h0 h60 (rightF nm (depth - 1) kids) w hd hho hu (fun hk=>hnm _ (.inl ⟨hk,rfl⟩)) fun hpos g W hW hg hcell=>?_
  obtain ⟨b,off,hB,hF⟩:=(hd.below hW).items
  refine dcontains_any nm (depth - 1) g kids h.B h.cap b off W hB hF hho.cap.1 hho.cap.2 fun hh k j r hdr W2 hW2 hD2=>?_
  have hko:=Fr.Ok.drop j hok
  rw [hdr] at hko
  refine dclosure_any hh k depth h0 h60 g _ W2 (Nat.lt_of_lt_of_le hg hW2.size) ((hW2.cell (p:=⟨g,0,none⟩) hg).trans hcell) fun W3 hW3=>?_
  refine ih k (by have:=size_item hdr; omega) hko.2.1 hh (depth - 1) W3 (hD2.below hW3) hko.1 (by omega) (by omega) ((hu.keep hW).keep (hW2.trans (hW3.mono hW2.size))) fun t ht=>?_
  refine callB_keep (hnm t (.inr ?_)) (bel_trans (B:=w.heap.size) (bel_trans (B:=w.heap.size) hW hW2) hW3)
  have h1 : SymIn t (kids.drop j):=by rw [hdr]; exact ht.elim .inl (fun h=>.inr (.inl h))
  exact SymIn.drop j h1
def rightD (nm : ByteArray → Bool) (h : Hd) (kids : Fr) : Bool:=decide (cnt 3001 1 kids ≤ 3000) && rightK nm 60 h kids (rightF nm 59 kids)
theorem dRight_any (nm : ByteArray → Bool) (kids : Fr) (hok : kids.Ok) (h : Hd) (w : World) (hd : DatV w h kids) (hho : h.Ok kids.len) (hu : UT w) (hnm : ∀ t,(h.k = 4∧t = h.t) ∨ SymIn t kids → CallB w 104 #[.string t] (.bool (nm t))) :
  Calls Tryz.prog 41 #[datA h kids.len] w fun e w'=>e = .returned (.bool (rightD nm h kids))∧Below w.heap.size w w':=by
 obtain ⟨W0,hW0,hb0,ho,hs0⟩:=dat_block w h kids.len
 have HC:=Lib.hid (counted_any (kids.size + 1) kids (by omega) hok h 3001 W0 (hd.below hb0) hho.cap.1 hho.cap.2 (by decide) (by decide))
 have HR:=Lib.hid fun W (hW : Below w.heap.size w W)=>dright_any nm (kids.size + 1) kids (by omega) hok h 60 W (hd.below hW) hho (by decide) (by decide) (hu.keep hW) fun t ht=>callB_keep (hnm t ht) hW
 have HO:=Lib.hid ho
 have HW0:=Lib.hid hW0
 have HB0:=Lib.hid hb0
 have HS:=Lib.hid hs0
 obtain ⟨c,hc⟩ : ∃ c,cnt 3001 1 kids = c:=⟨_,rfl⟩
 obtain ⟨r,hr⟩ : ∃ r,rightK nm 60 h kids (rightF nm (60 - 1) kids) = r:=⟨_,rfl⟩
 have HQ : Hid (rightD nm h kids = (decide (c ≤ 3000) && r)):=Lib.hid (by unfold rightD; rw [hc,← hr]; rfl)
 rw [hc] at HC
 rw [hr] at HR
 obtain ⟨x0,x1,x2,x3,x4,x5,x6,x7⟩:=C8.of_block ho
 clear hW0 hb0 ho hd hho hu hnm hc hr hok hs0
 by_cases h3 : c ≤ 3000
 ·have d1 : decide (c ≤ 3000) = true:=decide_eq_true h3
  rw [d1] at HQ
  clear h3
  go_enter Tryz.func41,Tryz.ntmps41
  go_wp2_with (fail)
  rw [HW0.out]
  refine HC.out.mono ?_
  rintro e w1 ⟨rfl,hb1⟩
  have HB1:=Lib.hid (bel_trans (B:=w.heap.size) HB0.out hb1)
  obtain ⟨y0,y1,y2,y3,y4,y5,y6,y7⟩:=(C8.of_block HO.out).keep hb1 HS.out
  simp only [Nat.zero_add] at y0 y1 y2 y3 y4 y5 y6 y7
  clear hb1
  go_wp2_with (fail)
  refine (HR.out _ HB1.out).mono ?_
  rintro e w2 ⟨rfl,hb2⟩
  have HB2:=Lib.hid (bel_trans (B:=w.heap.size) HB1.out hb2)
  clear hb2
  go_wp2_with (fail)
  go_ret
  exact ⟨by rw [HQ.out]; rfl,HB2.out⟩
 ·have d1 : decide (c ≤ 3000) = false:=decide_eq_false h3
  rw [d1] at HQ
  clear h3
  go_enter Tryz.func41,Tryz.ntmps41
  go_wp2_with (fail)
  rw [HW0.out]
  refine HC.out.mono ?_
  rintro e w1 ⟨rfl,hb1⟩
  have HB1:=Lib.hid (bel_trans (B:=w.heap.size) HB0.out hb1)
  clear hb1
  go_wp2_with (fail)
  go_ret
  exact ⟨by rw [HQ.out]; rfl,HB1.out⟩
end LM
namespace LM
attribute [local go_sem] run_store_flt
def numS (h h' : Hd) : Bool:=if h.fl then (if h'.fl then canW h.f == canW h'.f else false) else (if h'.fl then false else decide (sg h.s (val h.xs) = sg h'.s (val h'.xs)))
def headS (h h' : Hd) : Bool:=(h.k == h'.k) && (h.n == h'.n) && (h.t.toList == h'.t.toList) && numS h h'
def sameF : Fr → Fr → Bool
 | .nil,.nil=>true
 | .cons h k r,.cons h' k' r'=>headS h h' && sameF k k' && sameF r r'
 | .nil,.cons _ _ _=>false
 | .cons _ _ _,.nil=>false
def NumsR : Fr → Prop
 | .nil=>True
 | .cons h k r=>rightN h.fl h.f h.s h.xs = true∧NumsR k∧NumsR r
theorem NumsR.drop : ∀ (j : Nat) {fr : Fr},NumsR fr → NumsR (fr.drop j):=by
 intro j
 induction j with
 | zero=>intro fr h; exact h
 | succ j ih =>
  intro fr h
  cases fr with
  | nil=>exact trivial
  | cons hh k r=>exact ih h.2.2
theorem sameF_len : ∀ (a b : Fr),a.len ≠ b.len → sameF a b = false:=by
 intro a
 induction a with
 | nil =>
  intro b h
  cases b with
  | nil=>exact absurd rfl h
  | cons x y z=>rfl
 | cons x y z _ ih =>
  intro b h
  cases b with
  | nil=>rfl
  | cons x' y' z' =>
   show (headS x x' && sameF y y' && sameF z z') = false
   rw [ih z' (fun e=>h (by show z.len + 1 = z'.len + 1; rw [e])),Bool.and_false]
theorem tsame_any {w : World} {h h' : Hd} (ha : NumOk w h.fl h.f h.s h.A h.xs.length h.c) (hb : NumOk w h'.fl h'.f h'.s h'.A h'.xs.length h'.c) (hx : rightN h.fl h.f h.s h.xs = true) (hx' : rightN h'.fl h'.f h'.s h'.xs = true) (rx : Rd w h.A h.xs) (rx' : Rd w h'.A h'.xs) (lx : Lm h.xs) (lx' : Lm h'.xs) (cx : h.xs.length ≤ h.c∧h.c ≤ 9223372036854775807) (cx' : h'.xs.length ≤ h'.c∧h'.c ≤ 9223372036854775807) :
  CallB w 81 #[numA h.fl h.f h.s h.A h.xs.length h.c,numA h'.fl h'.f h'.s h'.A h'.xs.length h'.c] (.bool (numS h h')):=by
 obtain ⟨k,n,fl,f,s,A,xs,c,t,B,cap⟩:=h
 obtain ⟨k',n',fl',f',s',A',xs',c',t',B',cap'⟩:=h'
 simp only at *
 unfold numS
 simp only
 cases fl <;> cases fl'
 ·simp only [Bool.false_eq_true,if_false]
  unfold rightN at hx hx'
  rw [if_neg (by decide),Bool.and_eq_true] at hx hx'
  have h1:=intV_of hx.2 rx lx cx.1 cx.2
  have h2:=intV_of hx'.2 rx' lx' cx'.1 cx'.2
  exact fun W hW=>tsame_ii f f' s A xs.length c s' A' xs'.length c' W _ (fun V hV=>esame_int ((h1.1.keep hW).keep hV) ((h2.1.keep hW).keep hV) h1.2 h2.2)
 ·simp only [Bool.false_eq_true,if_false,if_true]
  exact fun W _=>tsame_if f f' s A xs.length c s' A' xs'.length c' W
 ·simp only [Bool.false_eq_true,if_false,if_true]
  exact fun W _=>tsame_fi f f' s A xs.length c s' A' xs'.length c' W
 ·simp only [if_true]
  exact fun W _=>tsame_ff f f' s A xs.length c s' A' xs'.length c' W _ (fun V=>same_flo f f' V ha.1 hb.1)
theorem dequal_any (kids kids' : Fr) (B B' : Option Addr) (cap cap' b off b' off' : Nat) (w : World) (hB : 0 < kids.len → B = some ⟨b,off,none⟩) (hB' : 0 < kids'.len → B' = some ⟨b',off',none⟩) (hF : FAt w b off kids) (hF' : FAt w b' off' kids') (hc1 : kids.len ≤ cap) (hc2 : cap ≤ 9223372036854775807) (hc1' : kids'.len ≤ cap') (hc2' : cap' ≤ 9223372036854775807)
  (hcl : ∀ hh k hh' k' j r r',kids.drop j = .cons hh k r → kids'.drop j = .cons hh' k' r' → ∀ W,Below w.heap.size w W → DatV W hh k → DatV W hh' k' → Calls Tryz.prog 51 #[datA hh k.len,datA hh' k'.len] W fun e w'=>e = .returned (.bool (headS hh hh' && sameF k k'))∧Below W.heap.size W w') :
  Calls Tryz.prog 28 #[.slice B kids.len cap,.slice B' kids'.len cap',.func (.func 51) #[] #[]] w fun e w'=>e = .returned (.bool (sameF kids kids'))∧Below w.heap.size w w':=by
 by_cases hl : kids.len = kids'.len
 ·rcases Nat.eq_zero_or_pos kids.len with h0 | hpos
  ·have hk : ∀ fr : Fr,fr.len = 0 → fr = .nil:=fun fr h=>by
    cases fr with
    | nil=>rfl
    | cons x y z=>have h3 : z.len + 1 = 0:=h; omega
   obtain rfl:=hk kids h0
   obtain rfl:=hk kids' (by omega)
   show Calls Tryz.prog 28 #[.slice B 0 cap,.slice B' 0 cap',.func (.func 51) #[] #[]] w fun e w'=>e = .returned (.bool true)∧Below w.heap.size w w'
   clear hcl hF hB hF' hB' hl h0 hc1 hc1' hk
   go_enter Tryz.func28,Tryz.ntmps28
   go_wp2_with (fail)
   go_loopg [17] 0 (fun kk i wr=>wr = w∧i = .int .i64 0)
   case atStart=>exact ⟨rfl,rfl⟩
   case round =>
    obtain ⟨rfl,rfl⟩:=hrel
    go_wp2_with (fail)
    go_ret
    exact ⟨rfl,Below.refl _ _⟩
  ·obtain rfl:=hB hpos
   obtain rfl:=hB' (by omega)
   have HF:=Lib.hid hF
   have HF':=Lib.hid hF'
   have HCL:=Lib.hid hcl
   have HL:=Lib.hid hl
   have g1 : ((kids.len : Int) != (kids'.len : Int)) = false:=by rw [hl]; simp
   clear hF hF' hcl hB hB' hl
   go_enter Tryz.func28,Tryz.ntmps28
   go_wp2_with (fail)
   go_loopg [17] kids.len (fun kk i wr=>Below w.heap.size w wr∧∃ j : Nat,j ≤ kids.len∧kk = kids.len - j∧i = .int .i64 (j : Int)∧sameF (kids.drop j) (kids'.drop j) = sameF kids kids')
   case atStart=>exact ⟨Below.refl _ _,0,Nat.zero_le _,rfl,rfl,rfl⟩
   case round =>
    obtain ⟨hbr,j,hj,rfl,rfl,hrf⟩:=hrel
    have HBR:=Lib.hid hbr
    clear hbr
    by_cases hjl : j < kids.len
    ·obtain ⟨hh,k,r,hdr,hdr1⟩:=Fr.cons_of_lt hjl
     have hjl' : j < kids'.len:=by have:=HL.out; omega
     obtain ⟨hh',k',r',hdr',hdr1'⟩:=Fr.cons_of_lt hjl'
     rw [hdr,hdr'] at hrf
     obtain ⟨hbl,⟨x0,x1,x2,x3,x4,x5,x6,x7⟩,D⟩:=counted_item (FAt.below HBR.out _ _ _ HF.out) hdr
     obtain ⟨hbl',hC',D'⟩:=counted_item (FAt.below HBR.out _ _ _ HF'.out) hdr'
     have y:=fun (o : Obj)=>hC'.keep ((Below.refl wr.heap.size wr).alloc (Nat.le_refl _) o) hbl'
     obtain ⟨y0,y1,y2,y3,y4,y5,y6,y7⟩:=y (datO hh k.len)
     obtain ⟨W2,hW2⟩ : ∃ W2,(wr.alloc (datO hh k.len)).alloc (datO hh' k'.len) = W2:=⟨_,rfl⟩
     have hb2 : Below wr.heap.size wr W2:=by rw [← hW2]; exact ((Below.refl _ wr).alloc (Nat.le_refl _) _).alloc (by simp) _
     have hO : Obs W2 [(wr.heap.size + 1,datO hh' k'.len),(wr.heap.size,datO hh k.len)]:=by
      rw [← hW2]
      have h1:=(Obs.nil.new (w:=wr) (datO hh k.len)).new (datO hh' k'.len)
      simp only [World.size_alloc] at h1
      exact h1
     have CL:=Lib.hid (HCL.out hh k hh' k' j r r' hdr hdr' W2 (bel_trans (B:=w.heap.size) HBR.out hb2) (D.below hb2) (D'.below hb2))
     have hrf2 : (headS hh hh' && sameF k k' && sameF r r') = sameF kids kids':=hrf
     obtain ⟨q,hq⟩ : ∃ q,(headS hh hh' && sameF k k') = q:=⟨_,rfl⟩
     rw [hq] at CL hrf2
     have HRF:=Lib.hid hrf2
     have HDR:=Lib.hid hdr1
     have HDR':=Lib.hid hdr1'
     have HW2:=Lib.hid hW2
     have HB2:=Lib.hid (bel_trans (B:=w.heap.size) HBR.out hb2)
     have z:=C8.of_block hO.tl.hd
     have z':=C8.of_block hO.hd
     obtain ⟨u0,u1,u2,u3,u4,u5,u6,u7⟩:=z
     obtain ⟨v0,v1,v2,v3,v4,v5,v6,v7⟩:=z'
     clear hrf hdr hdr1 D hrf2 hq hdr' hdr1' D' y hW2 hb2 hO hC'
     go_wp2_with (fail)
     rw [HW2.out]
     refine CL.out.mono ?_
     rintro e w3 ⟨rfl,hb3⟩
     have HB3:=Lib.hid (bel_trans (B:=w.heap.size) HB2.out hb3)
     clear hb3
     cases q
     ·go_wp2_with (fail)
      go_ret
      exact ⟨by rw [← HRF.out]; simp,HB3.out⟩
     ·go_wp2_with (fail)
      go_roundg (kids.len - (j + 1))
      case measure=>omega
      case rel=>exact ⟨HB3.out,j + 1,by omega,rfl,by go_num,by rw [HDR.out,HDR'.out]; exact HRF.out⟩
    ·have hje : j = kids.len:=by omega
     subst hje
     have hnil : ∀ fr : Fr,fr.drop fr.len = .nil:=fun fr=>by
      have h1:=Fr.len_drop fr.len fr
      cases h2 : fr.drop fr.len with
      | nil=>rfl
      | cons x y z=>rw [h2] at h1; have h3 : z.len + 1 = fr.len - fr.len:=h1; omega
     have hl:=HL.out
     rw [hnil kids,hl,hnil kids'] at hrf
     have HR : Hid (true = sameF kids kids'):=Lib.hid hrf
     clear hrf hnil hl
     go_wp2_with (fail)
     go_ret
     exact ⟨by rw [← HR.out]; rfl,HBR.out⟩
 ·have g1 : ((kids.len : Int) != (kids'.len : Int)) = true:=by rw [bne_iff_ne]; omega
  rw [sameF_len _ _ hl]
  clear hcl hF hB hF' hB' hl
  go_enter Tryz.func28,Tryz.ntmps28
  go_wp2_with (fail)
  go_ret
  exact ⟨rfl,Below.refl _ _⟩
theorem dsame_go (h h' : Hd) (kids kids' : Fr) (sub : Bool) (w : World)
  (hT : CallB w 81 #[numA h.fl h.f h.s h.A h.xs.length h.c,numA h'.fl h'.f h'.s h'.A h'.xs.length h'.c] (.bool (numS h h')))
  (hE : CallB w 28 #[.slice h.B kids.len h.cap,.slice h'.B kids'.len h'.cap,.func (.func 51) #[] #[]] (.bool sub)) :
  Calls Tryz.prog 51 #[datA h kids.len,datA h' kids'.len] w fun e w'=>e = .returned (.bool (headS h h' && sub))∧Below w.heap.size w w':=by
 obtain ⟨W0,hW0⟩ : ∃ W0,(w.alloc (datO h kids.len)).alloc (datO h' kids'.len) = W0:=⟨_,rfl⟩
 have hb0 : Below w.heap.size w W0:=by rw [← hW0]; exact ((Below.refl _ w).alloc (Nat.le_refl _) _).alloc (by simp) _
 have hO : Obs W0 [(w.heap.size + 1,datO h' kids'.len),(w.heap.size,datO h kids.len)]:=by
  rw [← hW0]
  have h1:=(Obs.nil.new (w:=w) (datO h kids.len)).new (datO h' kids'.len)
  simp only [World.size_alloc] at h1
  exact h1
 obtain ⟨x0,x1,x2,x3,x4,x5,x6,x7⟩:=C8.of_block hO.tl.hd
 obtain ⟨y0,y1,y2,y3,y4,y5,y6,y7⟩:=C8.of_block hO.hd
 have HW0:=Lib.hid hW0
 have HB0:=Lib.hid hb0
 have O0:=Lib.hid hO
 have HT:=Lib.hid hT
 have HE:=Lib.hid hE
 clear hW0 hb0 hO hT hE
 obtain ⟨b1,e1⟩ : ∃ b,(h.k == h'.k) = b:=⟨_,rfl⟩
 obtain ⟨b2,e2⟩ : ∃ b,(h.n == h'.n) = b:=⟨_,rfl⟩
 obtain ⟨b3,e3⟩ : ∃ b,(h.t.toList == h'.t.toList) = b:=⟨_,rfl⟩
 obtain ⟨b4,e4⟩ : ∃ b,numS h h' = b:=⟨_,rfl⟩
 have HQ : Hid (headS h h' = (b1 && b2 && b3 && b4)):=Lib.hid (by unfold headS; rw [e1,e2,e3,e4])
 rw [e4] at HT
 clear e4
 cases b1
 ·go_enter Tryz.func51,Tryz.ntmps51
  go_wp2_with (fail)
  go_ret
  exact ⟨by rw [HQ.out]; rfl,HW0.out ▸ HB0.out⟩
 cases b2
 ·go_enter Tryz.func51,Tryz.ntmps51
  go_wp2_with (fail)
  go_ret
  exact ⟨by rw [HQ.out]; rfl,HW0.out ▸ HB0.out⟩
 cases b3
 ·go_enter Tryz.func51,Tryz.ntmps51
  go_wp2_with (fail)
  go_ret
  exact ⟨by rw [HQ.out]; rfl,HW0.out ▸ HB0.out⟩
 go_enter Tryz.func51,Tryz.ntmps51
 go_wp2_with (fail)
 rw [HW0.out]
 refine (HT.out _ HB0.out).mono ?_
 rintro e w1 ⟨rfl,hb1⟩
 have HB1:=Lib.hid (bel_trans (B:=w.heap.size) HB0.out hb1)
 obtain ⟨u0,u1,u2,u3,u4,u5,u6,u7⟩:=C8.of_block (O0.out.below hb1).tl.hd
 obtain ⟨v0,v1,v2,v3,v4,v5,v6,v7⟩:=C8.of_block (O0.out.below hb1).hd
 clear hb1 x0 x1 x2 x3 x4 x5 x6 x7 y0 y1 y2 y3 y4 y5 y6 y7
 cases b4
 ·go_wp2_with (fail)
  go_ret
  exact ⟨by rw [HQ.out]; rfl,HB1.out⟩
 ·go_wp2_with (fail)
  refine (HE.out _ HB1.out).mono ?_
  rintro e w2 ⟨rfl,hb2⟩
  have HB2:=Lib.hid (bel_trans (B:=w.heap.size) HB1.out hb2)
  clear hb2
  go_wp2_with (fail)
  go_ret
  exact ⟨by rw [HQ.out]; rfl,HB2.out⟩
theorem dsame_any : ∀ (m : Nat) (kids kids' : Fr),kids.size < m → kids.Ok → kids'.Ok → NumsR kids → NumsR kids' → ∀ (h h' : Hd) (w : World),DatV w h kids → DatV w h' kids' → h.Ok kids.len → h'.Ok kids'.len → rightN h.fl h.f h.s h.xs = true → rightN h'.fl h'.f h'.s h'.xs = true →
  Calls Tryz.prog 51 #[datA h kids.len,datA h' kids'.len] w fun e w'=>e = .returned (.bool (headS h h' && sameF kids kids'))∧Below w.heap.size w w':=by
 intro m
 induction m with
 | zero=>intro kids _ h; omega
 | succ m ih =>
  intro kids kids' hsz hok hok' hn hn' h h' w hd hd' hho hho' hr hr'
  refine dsame_go h h' kids kids' _ w (tsame_any (numOk_of hr hho.f hd.xs hho.lm hho.c.1 hho.c.2) (numOk_of hr' hho'.f hd'.xs hho'.lm hho'.c.1 hho'.c.2) hr hr' hd.xs hd'.xs hho.lm hho'.lm hho.c hho'.c) fun W hW=>?_
  obtain ⟨b,off,hB,hF⟩:=(hd.below hW).items
  obtain ⟨b',off',hB',hF'⟩:=(hd'.below hW).items
  refine dequal_any kids kids' h.B h'.B h.cap h'.cap b off b' off' W hB hB' hF hF' hho.cap.1 hho.cap.2 hho'.cap.1 hho'.cap.2 fun hh k hh' k' j r r' e1 e2 W2 hW2 hD hD'=>?_
  have o1:=Fr.Ok.drop j hok
  have o2:=Fr.Ok.drop j hok'
  have n1:=NumsR.drop j hn
  have n2:=NumsR.drop j hn'
  rw [e1] at o1 n1
  rw [e2] at o2 n2
  exact ih k k' (by have:=size_item e1; omega) o1.2.1 o2.2.1 n1.2.1 n2.2.1 hh hh' W2 hD hD' o1.1 o2.1 n1.1 n2.1
end LM
namespace LM
theorem rsign_any (n : Int) (w : World) :
  Calls Tryz.prog 85 #[.int .i64 n] w fun e w'=>e = .returned (.bool (csignB n))∧w' = w:=by
 obtain ⟨b1,h1⟩ : ∃ b,decide (0 ≤ n) = b:=⟨_,rfl⟩
 obtain ⟨b2,h2⟩ : ∃ b,decide (n < 55296) = b:=⟨_,rfl⟩
 obtain ⟨b3,h3⟩ : ∃ b,decide (57343 < n) = b:=⟨_,rfl⟩
 obtain ⟨b4,h4⟩ : ∃ b,decide (n ≤ 1114111) = b:=⟨_,rfl⟩
 have HQ : Hid (csignB n = (b1 && b2 || b3 && b4)):=Lib.hid (by unfold csignB; rw [Bool.decide_and,Bool.decide_and,h1,h2,h3,h4])
 cases b1 <;> cases b2 <;> cases b3 <;> cases b4
 all_goals
  go_enter Tryz.func85,Tryz.ntmps85
  go_wp2_with (fail)
  go_ret
  exact ⟨by rw [HQ.out]; rfl,rfl⟩
theorem owns_at {W W' : World} {base n z : Nat} {e : TypeId} {l : Value} {xs : List Value} (h : W.ownsRow base e z l n xs) (hb : Below W.heap.size W W') : W'.ownsRow base e z l n xs :=
 h.kept (row:=none) ⟨hb.os,hb.tape,hb.output,hb.size,fun k hk _=>hb.block k hk⟩ (by cases l.ownBlock <;> simp)
theorem cell_alloc_first (W : World) (v : Value) (T : TypeId) : (W.alloc (.cells #[v] T)).cell? ⟨W.heap.size,0,none⟩ = some v:=by
 unfold World.cell?
 rw [heap_alloc_new]
 rfl
theorem extract_take (s : ByteArray) (p n : Nat) : (s.extract p (p + n)).data.toList = (s.data.toList.drop p).take n:=by
 rw [ByteArray.data_extract,Array.toList_extract]
 simp [List.extract]
theorem int_info : (Tryz.prog.info? 3).map (fun i=>(i.zero,i.size,decide (i.bytes ≤ 8))) = some (some (.int .i64 0),1,true):=by kernel_rfl
end LM
namespace LM
def ronlyB (h : Hd) (n : Nat) (z : Bool) : Bool :=
 if h.k = 0 then (h.n == 0) && (h.t.toList == []) && decide (n = 0)
 else if h.k = 1 ∨ h.k = 2 then z && (h.t.toList == []) && decide (n = 0)
 else if h.k = 3 ∨ h.k = 4 then z && (h.n == 0) && decide (n = 0)
 else z && (h.n == 0) && (h.t.toList == [])
def rkindB (nm : ByteArray → Bool) (h : Hd) (n : Nat) (kl : Int) : Bool :=
 if h.k = 0 then rightN h.fl h.f h.s h.xs else if h.k = 1 then (h.n == 0 || h.n == 1) else if h.k = 2 then csignB h.n else if h.k = 3 then textB h.t else if h.k = 4 then nm h.t
 else if h.k = 5 then true else if h.k = 6 then decide (2 ≤ n) && (kl != 5) && (kl != 6) else if h.k = 7 then decide (n ≤ 200) else false
def zeroN (h : Hd) : Bool:=!h.fl && decide (sg h.s (val h.xs) = 0)
def docB (nm : ByteArray → Bool) (h : Hd) (n : Nat) (kl : Int) : Bool:=rightN h.fl h.f h.s h.xs && ronlyB h n (zeroN h) && rkindB nm h n kl
def rrF (nm : ByteArray → Bool) : Int → Int → Fr → Int
 | left,_,.nil=>left
 | left,deep,.cons h k r =>
  if (left < 1 ∨ 60 < deep ∨ (4 < h.k∧59 < deep)) ∨ docB nm h k.len (lastK k) = false then -1
  else if rrF nm (left - 1) (deep + 1) k < 0 then -1 else rrF nm (rrF nm (left - 1) (deep + 1) k) deep r
def rrD (nm : ByteArray → Bool) (left deep : Int) (h : Hd) (k : Fr) : Int :=
 if (left < 1 ∨ 60 < deep ∨ (4 < h.k∧59 < deep)) ∨ docB nm h k.len (lastK k) = false then -1
 else if rrF nm (left - 1) (deep + 1) k < 0 then -1 else rrF nm (left - 1) (deep + 1) k
theorem rr_cons (nm : ByteArray → Bool) (left deep : Int) (h : Hd) (k r : Fr) : rrF nm left deep (.cons h k r) = if rrD nm left deep h k < 0 then -1 else rrF nm (rrD nm left deep h k) deep r:=by
 rw [rrF]
 unfold rrD
 split
 ·rw [if_pos (by decide)]
 ·rename_i h1
  by_cases h2 : rrF nm (left - 1) (deep + 1) k < 0
  ·rw [if_pos h2,if_pos h2,if_pos (by decide)]
  ·rw [if_neg h2,if_neg h2,if_neg h2]
theorem zero_nil {h : Hd} (hx : Lm h.xs) (hr : rightN h.fl h.f h.s h.xs = true) : zeroN h = nothB h.fl h.f h.s h.xs:=by
 unfold zeroN nothB
 rw [hr,Bool.and_true]
 cases hf : h.fl
 ·have h2:=hr
  unfold rightN at h2
  rw [hf,if_neg (by decide),Bool.and_eq_true] at h2
  obtain ⟨-,hc,-,hv,-⟩:=right_parts h2.2 hx
  congr 1
  rw [decide_eq_decide]
  constructor
  ·intro h3
   rw [h3] at hv
   rw [← hc.2]
   have hv0 : val h.xs = 0:=by rw [hv]; rfl
   rw [val_zero_all hv0]
   rfl
  ·intro h3
   have : h.xs = []:=List.eq_nil_of_length_eq_zero h3
   rw [this]
   cases h.s <;> rfl
 ·rfl
theorem rightK_doc (nm : ByteArray → Bool) (d : Int) (h : Hd) (kids : Fr) (sub : Bool) (hx : Lm h.xs) :
  rightK nm d h kids sub = (docB nm h kids.len (lastK kids) && (decide (h.k ≤ 4) || (decide (0 < d) && sub))):=by
 unfold docB
 cases hr : rightN h.fl h.f h.s h.xs
 ·rw [Bool.false_and,Bool.false_and,Bool.false_and]
  cases hq : rightK nm d h kids sub
  ·rfl
  ·unfold rightK elseB nothB at hq
   rw [hr] at hq
   by_cases h0 : h.k = 0
   ·simp [h0] at hq
   ·simp [h0] at hq
 ·rw [zero_nil hx hr,Bool.true_and]
  unfold rightK
  generalize nothB h.fl h.f h.s h.xs = z
  have hb : ((((kids.len : Nat) : Int) == 0) : Bool) = decide (kids.len = 0):=by
   rw [Bool.eq_iff_iff,beq_iff_eq,decide_eq_true_eq]
   omega
  rw [hb]
  unfold ronlyB rkindB elseB areB
  generalize (h.n == 0) = b1
  generalize (h.t.toList == []) = b2
  generalize decide (kids.len = 0) = b3
  rcases kinds h.k with e | e | e | e | e | e | e | e | ⟨k0,k1,k2,k3,k4,k5,k6,k7⟩
  ·rw [e,hr]; cases z <;> cases b1 <;> cases b2 <;> cases b3 <;> simp
  ·rw [e]; cases z <;> cases b1 <;> cases b2 <;> cases b3 <;> simp
  ·rw [e]; cases z <;> cases b1 <;> cases b2 <;> cases b3 <;> simp
  ·rw [e]; cases z <;> cases b1 <;> cases b2 <;> cases b3 <;> simp
  ·rw [e]; cases z <;> cases b1 <;> cases b2 <;> cases b3 <;> simp
  ·rw [e]; cases z <;> cases b1 <;> cases b2 <;> cases b3 <;> simp
  ·rw [e]; cases z <;> cases b1 <;> cases b2 <;> cases b3 <;> simp [Bool.and_assoc,Bool.and_comm,Bool.and_left_comm]
  ·rw [e]; cases z <;> cases b1 <;> cases b2 <;> cases b3 <;> simp [Bool.and_assoc,Bool.and_comm,Bool.and_left_comm]
  ·rw [beq_eq_false_iff_ne] at k0 k1 k2 k3 k4 k5 k6 k7
   simp [k0,k1,k2,k3,k4,k5,k6,k7]
theorem doc_nokids {nm : ByteArray → Bool} {h : Hd} {k : Fr} (hd : docB nm h k.len (lastK k) = true) (h4 : h.k ≤ 4) : k = .nil:=by
 unfold docB at hd
 rw [Bool.and_eq_true,Bool.and_eq_true] at hd
 obtain ⟨⟨-,h2⟩,h3⟩:=hd
 have hk : k.len = 0:=by
  unfold ronlyB at h2
  unfold rkindB at h3
  rcases kinds h.k with e | e | e | e | e | e | e | e | ⟨k0,k1,k2,k3,k4,k5,k6,k7⟩
  all_goals try (rw [e] at h4; omega)
  ·rw [e] at h2; simp at h2; exact h2.2
  ·rw [e] at h2; simp at h2; exact h2.2
  ·rw [e] at h2; simp at h2; exact h2.2
  ·rw [e] at h2; simp at h2; exact h2.2
  ·rw [e] at h2; simp at h2; exact h2.2
  ·rw [beq_eq_false_iff_ne] at k0 k1 k2 k3 k4 k5 k6 k7
   simp [k0,k1,k2,k3,k4,k5,k6,k7] at h3
 cases k with
 | nil=>rfl
 | cons x y z=>exact absurd hk (by show ¬ z.len + 1 = 0; omega)
def LmF : Fr → Prop
 | .nil=>True
 | .cons h k r=>Lm h.xs∧LmF k∧LmF r
theorem rrD_of (nm : ByteArray → Bool) (h : Hd) (k : Fr) (left deep : Int) (hx : Lm h.xs) (h0 : 0 ≤ deep) (h60 : deep ≤ 60)
  (ih : ∀ l,0 ≤ l → deep + 1 ≤ 60 → rrF nm l (deep + 1) k = if rightF nm (60 - (deep + 1)) k = true∧(k.nodes : Int) ≤ l then l - k.nodes else -1) :
  rrD nm left deep h k = if rightK nm (60 - deep) h k (rightF nm (60 - deep - 1) k) = true∧((k.nodes + 1 : Nat) : Int) ≤ left then left - ((k.nodes + 1 : Nat) : Int) else -1:=by
 rw [rightK_doc nm _ h k _ hx]
 unfold rrD
 cases hd : docB nm h k.len (lastK k)
 ·rw [if_pos (.inr rfl),if_neg (by simp)]
 ·rw [Bool.true_and]
  by_cases hl : left < 1
  ·rw [if_pos (.inl (.inl hl)),if_neg (by omega)]
  ·by_cases h4 : h.k ≤ 4
   ·rw [if_neg (by simp; omega)]
    obtain rfl:=doc_nokids hd h4
    show (if left - 1 < 0 then -1 else left - 1) = _
    rw [if_neg (by omega),if_pos ⟨by simp [h4],by show ((0 + 1 : Nat) : Int) ≤ left; omega⟩]
    show left - 1 = left - ((0 + 1 : Nat) : Int)
    omega
   ·rw [show decide (h.k ≤ 4) = false from decide_eq_false h4,Bool.false_or]
    by_cases h59 : 59 < deep
    ·rw [if_pos (.inl (.inr (.inr ⟨by omega,h59⟩))),if_neg (by rw [show decide (0 < 60 - deep) = false from decide_eq_false (by omega)]; simp)]
    ·rw [if_neg (by simp; omega),ih _ (by omega) (by omega),show (60 : Int) - (deep + 1) = 60 - deep - 1 by omega,show decide (0 < 60 - deep) = true from decide_eq_true (by omega),Bool.true_and]
     by_cases hq : rightF nm (60 - deep - 1) k = true∧(k.nodes : Int) ≤ left - 1
     ·rw [if_pos hq,if_neg (by omega),if_pos ⟨hq.1,by omega⟩]
      omega
     ·rw [if_neg hq,if_pos (by decide),if_neg (fun hh=>hq ⟨hh.1,by omega⟩)]
theorem rrF_of (nm : ByteArray → Bool) : ∀ (fr : Fr) (left deep : Int),LmF fr → 0 ≤ left → 0 ≤ deep → deep ≤ 60 →
  rrF nm left deep fr = if rightF nm (60 - deep) fr = true∧(fr.nodes : Int) ≤ left then left - fr.nodes else -1:=by
 intro fr
 induction fr with
 | nil =>
  intro left deep _ h0 _ _
  rw [if_pos ⟨rfl,by show ((0 : Nat) : Int) ≤ left; omega⟩]
  show left = left - ((0 : Nat) : Int)
  omega
 | cons h k r ihk ihr =>
  intro left deep hl h0 hd0 hd1
  have hs:=rrD_of nm h k left deep hl.1 hd0 hd1 fun l h1 h2=>ihk l (deep + 1) hl.2.1 h1 (by omega) h2
  rw [rr_cons,hs]
  have hn : ((Fr.cons h k r).nodes : Int) = ((k.nodes + 1 : Nat) : Int) + (r.nodes : Int):=by
   show ((k.nodes + 1 + r.nodes : Nat) : Int) = _
   omega
  have hf : rightF nm (60 - deep) (.cons h k r) = (rightK nm (60 - deep) h k (rightF nm (60 - deep - 1) k) && rightF nm (60 - deep) r):=rfl
  rw [hn,hf]
  generalize rightK nm (60 - deep) h k (rightF nm (60 - deep - 1) k) = q
  by_cases hq : q = true∧((k.nodes + 1 : Nat) : Int) ≤ left
  ·rw [if_pos hq,if_neg (by omega),ihr _ _ hl.2.2 (by omega) hd0 hd1,hq.1,Bool.true_and]
   by_cases hr : rightF nm (60 - deep) r = true∧(r.nodes : Int) ≤ left - ((k.nodes + 1 : Nat) : Int)
   ·rw [if_pos hr,if_pos ⟨hr.1,by omega⟩]
    omega
   ·rw [if_neg hr,if_neg fun hh=>hr ⟨hh.1,by omega⟩]
  ·rw [if_neg hq,if_pos (by decide),if_neg]
   intro hh
   rw [Bool.and_eq_true] at hh
   exact hq ⟨hh.1.1,by omega⟩
theorem rrD_right (nm : ByteArray → Bool) (h : Hd) (k : Fr) (hx : Lm h.xs) (hk : LmF k) : decide (0 ≤ rrD nm 3000 0 h k) = rightD nm h k:=by
 rw [rrD_of nm h k 3000 0 hx (by decide) (by decide) fun l h1 _=>rrF_of nm k l (0 + 1) hk h1 (by decide) (by decide)]
 unfold rightD
 have e1 : (60 : Int) - 0 = 60:=by decide
 have e2 : (60 : Int) - 0 - 1 = 59:=by decide
 rw [e1,show (60 : Int) - 1 = 59 by decide]
 have hc : decide (cnt 3001 1 k ≤ 3000) = decide (((k.nodes + 1 : Nat) : Int) ≤ 3000):=by
  rw [decide_eq_decide]
  constructor
  ·intro h1
   rcases Int.lt_or_le 3001 (1 + (k.nodes : Int)) with h2 | h2
   ·have:=cnt_more k 3001 1 (by omega); omega
   ·rw [cnt_nodes k 3001 1 h2] at h1; omega
  ·intro h1
   rw [cnt_nodes k 3001 1 (by omega)]
   omega
 rw [hc]
 generalize rightK nm 60 h k (rightF nm 59 k) = q
 by_cases h1 : ((k.nodes + 1 : Nat) : Int) ≤ 3000
 ·rw [decide_eq_true h1,Bool.true_and]
  cases q
  ·rw [if_neg (by simp)]; rfl
  ·rw [if_pos ⟨rfl,h1⟩]
   exact decide_eq_true (by omega)
 ·rw [if_neg (fun hh=>h1 hh.2),decide_eq_false h1,Bool.false_and]
  rfl
theorem rrF_bd (nm : ByteArray → Bool) : ∀ (fr : Fr) (left deep : Int),-1 ≤ left → -1 ≤ rrF nm left deep fr∧rrF nm left deep fr ≤ left:=by
 intro fr
 induction fr with
 | nil=>intro left deep h; exact ⟨h,Int.le_refl _⟩
 | cons h k r ihk ihr =>
  intro left deep hl
  unfold rrF
  split
  ·omega
  ·rename_i h1
   split
   ·omega
   ·rename_i h2
    have h3 : ¬ left < 1:=fun h=>h1 (.inl (.inl h))
    have h4:=ihk (left - 1) (deep + 1) (by omega)
    have h5:=ihr (rrF nm (left - 1) (deep + 1) k) deep (by omega)
    omega
theorem rrD_bd (nm : ByteArray → Bool) (h : Hd) (k : Fr) (left deep : Int) (hl : -1 ≤ left) : -1 ≤ rrD nm left deep h k∧rrD nm left deep h k ≤ left:=by
 unfold rrD
 split
 ·omega
 ·rename_i h1
  split
  ·omega
  ·rename_i h2
   have h3 : ¬ left < 1:=fun h=>h1 (.inl (.inl h))
   have h4:=rrF_bd nm k (left - 1) (deep + 1) (by omega)
   omega
end LM
namespace LM
theorem rtsame_any {w : World} {h h' : Hd} (ha : NumOk w h.fl h.f h.s h.A h.xs.length h.c) (hb : NumOk w h'.fl h'.f h'.s h'.A h'.xs.length h'.c) (hx : rightN h.fl h.f h.s h.xs = true) (hx' : rightN h'.fl h'.f h'.s h'.xs = true) (rx : Rd w h.A h.xs) (rx' : Rd w h'.A h'.xs) (lx : Lm h.xs) (lx' : Lm h'.xs) (cx : h.xs.length ≤ h.c∧h.c ≤ 9223372036854775807) (cx' : h'.xs.length ≤ h'.c∧h'.c ≤ 9223372036854775807) :
  CallB w 84 #[numA h.fl h.f h.s h.A h.xs.length h.c,numA h'.fl h'.f h'.s h'.A h'.xs.length h'.c] (.bool (numS h h')):=by
 obtain ⟨k,n,fl,f,s,A,xs,c,t,B,cap⟩:=h
 obtain ⟨k',n',fl',f',s',A',xs',c',t',B',cap'⟩:=h'
 simp only at *
 unfold numS
 simp only
 cases fl <;> cases fl'
 ·simp only [Bool.false_eq_true,if_false]
  unfold rightN at hx hx'
  rw [if_neg (by decide),Bool.and_eq_true] at hx hx'
  have h1:=intV_of hx.2 rx lx cx.1 cx.2
  have h2:=intV_of hx'.2 rx' lx' cx'.1 cx'.2
  exact fun W hW=>rtsame_ii f f' s A xs.length c s' A' xs'.length c' W _ (fun V hV=>rsame2_int ((h1.1.keep hW).keep hV).toR ((h2.1.keep hW).keep hV).toR (fit_of h1.2))
 ·simp only [Bool.false_eq_true,if_false,if_true]
  exact fun W _=>rtsame_if f f' s A xs.length c s' A' xs'.length c' W
 ·simp only [Bool.false_eq_true,if_false,if_true]
  exact fun W _=>rtsame_fi f f' s A xs.length c s' A' xs'.length c' W
 ·simp only [if_true]
  exact fun W _=>rtsame_ff f f' s A xs.length c s' A' xs'.length c' W _ (fun V=>rsame_flo f f' V ha.1 hb.1)
end LM
namespace LM
attribute [local go_sem] run_store_flt
theorem kind_facts (k c : Int) (e : k = c) : ∀ j : Int,(k == j) = decide (c = j):=fun j=>by rw [e]; rfl
theorem ronly_any (h : Hd) (n : Nat) (z : Bool) (w : World) (hT : CallB w 84 #[numA h.fl h.f h.s h.A h.xs.length h.c,numA false 0 false none 0 0] (.bool z)) :
  Calls Tryz.prog 53 #[datA h n] w fun e w'=>e = .returned (.bool (ronlyB h n z))∧Below w.heap.size w w':=by
 obtain ⟨W0,hW0,hb0,ho,hs0⟩:=dat_block w h n
 obtain ⟨bn,hbn⟩ : ∃ b,(h.n == 0) = b:=⟨_,rfl⟩
 obtain ⟨bt,hbt⟩ : ∃ b,(h.t.toList == []) = b:=⟨_,rfl⟩
 obtain ⟨bi,hbi⟩ : ∃ b,((n : Int) == 0) = b:=⟨_,rfl⟩
 have hbj : decide (n = 0) = bi:=by
  rw [← hbi,Bool.eq_iff_iff,beq_iff_eq,decide_eq_true_eq]
  omega
 obtain ⟨q,hq⟩ : ∃ q,ronlyB h n z = q:=⟨_,rfl⟩
 rw [hq]
 unfold ronlyB at hq
 rw [hbn,hbt,hbj] at hq
 have HQ:=Lib.hid hq
 have HT:=Lib.hid (hT W0 hb0)
 have HW0:=Lib.hid hW0
 have HB0:=Lib.hid hb0
 have BLK : Hid (∀ W,Below W0.heap.size W0 W → C8 W w.heap.size 0 h n):=Lib.hid fun W hW=>C8.of_block ((hW.block _ hs0).trans ho)
 have hX:=C8.of_block ho
 clear hW0 hb0 ho hs0 hT hq hbj
 rcases kinds h.k with e | e | e | e | e | e | e | e | ⟨k0,k1,k2,k3,k4,k5,k6,k7⟩
 all_goals
  try rw [e] at HQ
  try (have k0:=kind_facts _ _ e 0)
  try (have k1:=kind_facts _ _ e 1)
  try (have k2:=kind_facts _ _ e 2)
  try (have k3:=kind_facts _ _ e 3)
  try (have k4:=kind_facts _ _ e 4)
  try simp only [Int.reduceEq,decide_true,decide_false] at k0 k1 k2 k3 k4
  try clear e
  obtain ⟨x0,x1,x2,x3,x4,x5,x6,x7⟩:=hX
  go_enter Tryz.func53,Tryz.ntmps53
  go_wp2_with (fail)
  rw [HW0.out]
  refine HT.out.mono ?_
  rintro e9 w1 ⟨rfl,hb1⟩
  have HB1:=Lib.hid (bel_trans (B:=w.heap.size) HB0.out hb1)
  obtain ⟨y0,y1,y2,y3,y4,y5,y6,y7⟩:=BLK.out _ hb1
  clear hb1 x0 x1 x2 x3 x4 x5 x6 x7
  cases z <;> cases bn <;> cases bt <;> cases bi
  all_goals
   go_wp2_with (fail)
   go_ret
   exact ⟨by rw [← HQ.out]; first | rfl | (rw [beq_eq_false_iff_ne] at k0 k1 k2 k3 k4; simp [k0,k1,k2,k3,k4]),HB1.out⟩
end LM
namespace LM
attribute [local go_sem] run_store_flt
end LM
namespace LM
attribute [local go_sem] run_store_flt
def TxF : Fr → Prop
 | .nil=>True
 | .cons h k r=>h.t.size ≤ 1000000∧TxF k∧TxF r
abbrev zHd : Hd:=⟨0,0,false,0,false,none,[],0,⟨#[]⟩,none,0⟩
theorem numS_zero (h : Hd) : numS h zHd = zeroN h:=by
 unfold numS zeroN
 cases h.fl <;> rfl
end LM
namespace LM
def hexD (n : Nat) : UInt8:=UInt8.ofNat (if n < 10 then 48 + n else 87 + n)
def hexF : Nat → Nat → List UInt8
 | 0,_=>[]
 | f + 1,n=>if n < 16 then [hexD n] else hexF f (n / 16) ++ [hexD (n % 16)]
theorem hexF_len : ∀ f n,(hexF f n).length ≤ f:=by
 intro f
 induction f with
 | zero=>intro n; exact Nat.le_refl _
 | succ f ih =>
  intro n
  unfold hexF
  split
  ·show 1 ≤ _; omega
  ·rw [List.length_append]
   have:=ih (n / 16)
   show _ + 1 ≤ _
   omega
abbrev hexT : ByteArray:=⟨#[48,49,50,51,52,53,54,55,56,57,97,98,99,100,101,102]⟩
theorem hexT_part : ∀ n : Fin 16,(hexT.extract n.val (n.val + 1)).data.toList = [hexD n.val]:=by decide
theorem hexT_at (n : Nat) (h : n < 16) : hexT.extract n (n + 1) = ⟨#[hexD n]⟩:=by
 have:=hexT_part ⟨n,h⟩
 apply ByteArray.ext
 apply Array.toList_inj.1
 exact this
theorem rhex_any : ∀ (f n : Nat),n < 16 ^ (f + 1) → f ≤ 7 → ∀ w : World,Calls Tryz.prog 57 #[.int .i64 (n : Int)] w fun e w'=>e = .returned (.string ⟨(hexF (f + 1) n).toArray⟩)∧Below w.heap.size w w':=by
 intro f
 induction f with
 | zero =>
  intro n hn hf w
  have h16 : n < 16:=by simpa using hn
  obtain ⟨T,hT⟩ : ∃ T : ByteArray,(⟨#[48,49,50,51,52,53,54,55,56,57,97,98,99,100,101,102]⟩ : ByteArray) = T:=⟨_,rfl⟩
  have hTs : T.size = 16:=by rw [← hT]; rfl
  have d1 : decide ((n : Int) < 16) = true:=decide_eq_true (by omega)
  have d2 : decide (n < 16) = true:=decide_eq_true h16
  have w1 : IntKind.i64.wrap ((n : Int) + 1) = ((n + 1 : Nat) : Int):=by rw [IntKind.wrap_i64]; omega
  have hx : T.extract n (n + 1) = ⟨#[hexD n]⟩:=by rw [← hT]; exact hexT_at n h16
  have HE : Hid (hexF (0 + 1) n = [hexD n]):=Lib.hid (by unfold hexF; rw [if_pos h16])
  have l1 : n + 1 ≤ T.size:=by omega
  go_enter Tryz.func57,Tryz.ntmps57
  rw [hT]
  clear hT hn h16
  go_wp2_with (fail)
  go_ret
  exact ⟨by rw [HE.out]; rfl,Below.refl _ _⟩
 | succ f ih =>
  intro n hn hf w
  obtain ⟨T,hT⟩ : ∃ T : ByteArray,(⟨#[48,49,50,51,52,53,54,55,56,57,97,98,99,100,101,102]⟩ : ByteArray) = T:=⟨_,rfl⟩
  have hTs : T.size = 16:=by rw [← hT]; rfl
  by_cases h16 : n < 16
  ·have d1 : decide ((n : Int) < 16) = true:=decide_eq_true (by omega)
   have d2 : decide (n < 16) = true:=decide_eq_true h16
   have w1 : IntKind.i64.wrap ((n : Int) + 1) = ((n + 1 : Nat) : Int):=by rw [IntKind.wrap_i64]; omega
   have hx : T.extract n (n + 1) = ⟨#[hexD n]⟩:=by rw [← hT]; exact hexT_at n h16
   have HE : Hid (hexF (f + 1 + 1) n = [hexD n]):=Lib.hid (by unfold hexF; rw [if_pos h16])
   have l1 : n + 1 ≤ T.size:=by omega
   go_enter Tryz.func57,Tryz.ntmps57
   rw [hT]
   clear hT hn h16 ih
   go_wp2_with (fail)
   go_ret
   exact ⟨by rw [HE.out]; rfl,Below.refl _ _⟩
  ·have d1 : decide ((n : Int) < 16) = false:=decide_eq_false (by omega)
   have d2 : decide (n < 16) = false:=decide_eq_false h16
   have h1 : n / 16 < 16 ^ (f + 1):=by rw [Nat.div_lt_iff_lt_mul (by decide)]; rw [Nat.pow_succ] at hn; exact hn
   obtain ⟨q,hq⟩ : ∃ q,n / 16 = q:=⟨_,rfl⟩
   obtain ⟨r,hr⟩ : ∃ r,n % 16 = r:=⟨_,rfl⟩
   have hr16 : r < 16:=by omega
   have HE : Hid (hexF (f + 1 + 1) n = hexF (f + 1) q ++ [hexD r]):=Lib.hid (by rw [hexF,if_neg h16,hq,hr])
   obtain ⟨t,ht⟩ : ∃ t : ByteArray,(⟨(hexF (f + 1) q).toArray⟩ : ByteArray) = t:=⟨_,rfl⟩
   have hts : t.size ≤ 8:=by
    rw [← ht]
    have:=hexF_len (f + 1) q
    show (hexF (f + 1) q).toArray.size ≤ 8
    rw [List.size_toArray]
    omega
   have HX:=Lib.hid ht
   rw [hq] at h1
   have IH:=Lib.hid (ih q h1 (by omega))
   rw [ht] at IH
   have w1 : IntKind.i64.wrap ((r : Int) + 1) = ((r + 1 : Nat) : Int):=by rw [IntKind.wrap_i64]; omega
   have t1 : (n : Int).tdiv 16 = (q : Int):=by rw [← hq]; rfl
   have t2 : (n : Int).tmod 16 = (r : Int):=by rw [← hr]; rfl
   have w2 : IntKind.i64.wrap (q : Int) = (q : Int):=by
    have hq8 : q < 16 ^ 7:=Nat.lt_of_lt_of_le h1 (Nat.pow_le_pow_right (by decide) (by omega))
    rw [IntKind.wrap_i64]
    have : (16 : Nat) ^ 7 = 268435456:=by decide
    omega
   have w3 : IntKind.i64.wrap (r : Int) = (r : Int):=by rw [IntKind.wrap_i64]; omega
   have hx : T.extract r (r + 1) = ⟨#[hexD r]⟩:=by rw [← hT]; exact hexT_at r hr16
   have l1 : r + 1 ≤ T.size:=by omega
   go_enter Tryz.func57,Tryz.ntmps57
   rw [hT]
   clear hT hn h16 ih hq hr h1 ht
   go_wp2_with (fail)
   go_region_with (go_at_call 57; (first | refine (IH.out _).mono ?_); rintro e w3 ⟨rfl,hb3⟩; have HB3 : Hid (Below w.heap.size w w3):=Lib.hid (by first | exact hb3 | exact ((Below.refl _ w).drew).trans (hb3.mono (by simp))); clear hb3)
   all_goals
    go_wp2_with (fail)
    go_ret
    exact ⟨by rw [HE.out,← HX.out]; rfl,HB3.out⟩
theorem pow2_16 (w : World) : Calls Tryz.prog 302 #[.int .i64 16] w fun e w'=>e = .returned (.bool true)∧w' = w:=by
 have b1 : bits .and .i64 16 15 = 0:=by decide
 go_enter Tryz.func302,Tryz.ntmps302
 go_wp2_with (fail)
 go_ret
 exact ⟨rfl,rfl⟩
end LM
end Go.Proofs.YtaonablbgicmpaaGreatDoor
