import Derived.Test.YtnpmfailpgbggaaGreatDoorT34
import Derived.Test.YtnpmfailpgbggaaGreatDoorT37
import Derived.Lib.ValidLaws
import Derived.Lib.RuneCount
import Derived.Laws.Runes
import Derived.Laws.Cover4
import Derived.Lib.OthersKept
set_option linter.unusedVariables false
set_option linter.unusedSimpArgs false
set_option maxRecDepth 100000
set_option maxHeartbeats 16000000
namespace Go.Proofs.YtnpmfailpgbggaaGreatDoor
open Go Go.RowKit
namespace LM
attribute [local go_sem] run_store_flt
def csignB (n : Int) : Bool:=decide (0 ≤ n∧n < 55296) || decide (57343 < n∧n ≤ 1114111)
theorem csign_valid (n : Int) (h0 : 0 ≤ n) (h1 : n ≤ 1114111) : Lib.validRune n = csignB n:=by
  unfold Lib.validRune csignB
  rw [Bool.eq_iff_iff]
  simp only [Bool.or_eq_true,decide_eq_true_eq]
theorem dsign_any (n : Int) (h1 : -9223372036854775808 ≤ n) (h2 : n ≤ 9223372036854775807) (w : World) :
    Calls Tryz.prog 50 #[.int .i64 n] w fun e w'=>e = .returned (.bool (csignB n))∧w' = w:=by
  by_cases hn : 0 ≤ n∧n ≤ 1114111
  · have V1:=Lib.hid fun W=>Tryz.utf8_ValidRune n W
    have w1 : IntKind.i32.wrap n = n:=by rw [IntKind.wrap_i32]; omega
    rw [← csign_valid n hn.1 hn.2]
    go_enter Tryz.func50,Tryz.ntmps50
    go_wp2_with (fail)
    refine (V1.out _).mono ?_
    rintro e w1 ⟨rfl,rfl⟩
    go_wp2_with (fail)
    go_ret
    exact ⟨rfl,rfl⟩
  · have hf : csignB n = false:=by
      unfold csignB
      rw [Bool.or_eq_false_iff,decide_eq_false_iff_not,decide_eq_false_iff_not]
      omega
    rw [hf]
    clear hf
    go_enter Tryz.func50,Tryz.ntmps50
    go_wp2_with (fail)
    all_goals
      go_ret
      exact ⟨rfl,rfl⟩
theorem dclone_any (s : ByteArray) (w : World) (hs : s.size ≤ 281474976710656) :
    Calls Tryz.prog 37 #[.string s] w fun e w'=>e = .returned (.string s)∧Below w.heap.size w w':=by
  have H1:=Lib.hid (Tryz.stringslite_Clone s w hs)
  go_enter Tryz.func37,Tryz.ntmps37
  go_wp2_with (fail)
  refine H1.out.mono ?_
  rintro e w1 ⟨rfl,hb⟩
  go_wp2_with (fail)
  go_ret
  exact ⟨rfl,hb⟩
theorem dtail_any (h : Hd) (n : Nat) (w : World) :
    Calls Tryz.prog 86 #[datA h n] w fun e w'=>e = .returned (.bool (h.k != 5 && h.k != 6))∧Below w.heap.size w w':=by
  obtain ⟨W0,hW0,hb0,ho,hs0⟩:=dat_block w h n
  obtain ⟨x0,x1,x2,x3,x4,x5,x6,x7⟩:=C8.of_block ho
  have HW0:=Lib.hid hW0
  have HB0:=Lib.hid hb0
  clear hW0 hb0 ho x1 x2 x3 x4 x5 x6 x7
  go_enter Tryz.func86,Tryz.ntmps86
  go_wp2_with (fail)
  all_goals
    try rw [HW0.out]
    go_wp2_with (fail)
    all_goals
      go_ret
      first | exact ⟨by simp [*],HB0.out⟩ | exact ⟨by simp [*],(Below.refl _ w).alloc (Nat.le_refl _) _⟩
def areB (k : Int) (n : Nat) (kl : Int) : Bool:=decide (k = 5) || (decide (k = 6) && decide (2 ≤ n) && (kl != 5 && kl != 6)) || (decide (k = 7) && decide (n ≤ 200))
theorem dareitems_any (k : Int) (B : Option Addr) (n cap : Nat) (hn : n ≤ 9223372036854775807) (b off : Nat) (h : Hd) (m : Nat) (w : World) (hB : 0 < n → B = some ⟨b,off,none⟩) (hc : 0 < n → C8 w b (off + (n - 1) * 8) h m) :
    Calls Tryz.prog 54 #[.int .i64 k,.slice B n cap] w fun e w'=>e = .returned (.bool (areB k n h.k))∧Below w.heap.size w w':=by
  have HT:=Lib.hid (dtail_any h m w)
  have HB0:=Lib.hid (Below.refl w.heap.size w)
  by_cases h6 : k = 6∧2 ≤ n
  · obtain ⟨rfl,h2⟩:=h6
    obtain rfl:=hB (by omega)
    obtain ⟨x0,x1,x2,x3,x4,x5,x6,x7⟩:=hc (by omega)
    have d1 : decide (2 ≤ (n : Int)) = true:=decide_eq_true (by omega)
    have w1 : IntKind.i64.wrap ((n : Int) - 1) = ((n - 1 : Nat) : Int):=by rw [IntKind.wrap_i64]; omega
    have d2 : decide (((n - 1 : Nat) : Int) < n) = true:=decide_eq_true (by omega)
    have d3 : decide (2 ≤ n) = true:=decide_eq_true h2
    have hnm : n - 1 < n:=by omega
    obtain ⟨q,hq⟩ : ∃ q,n - 1 = q:=⟨_,rfl⟩
    rw [hq] at w1 x0 x1 x2 x3 x4 x5 x6 x7 d2 hnm
    have HR : Hid (areB 6 n h.k = (h.k != 5 && h.k != 6)):=Lib.hid (by unfold areB; rw [d3]; simp)
    clear hB hc hq
    go_enter Tryz.func54,Tryz.ntmps54
    go_wp2_with (go_at_call 86; refine HT.out.mono ?_; rintro e w1 ⟨rfl,hb1⟩; have HB1:=Lib.hid hb1; clear hb1)
    go_ret
    exact ⟨by rw [HR.out]; rfl,HB1.out⟩
  · have h6' : ¬ (k = 6∧2 ≤ n):=h6
    clear HT hc hB
    rcases kinds k with rfl | rfl | rfl | rfl | rfl | rfl | rfl | rfl | ⟨k0,k1,k2,k3,k4,k5,k6,k7⟩
    rotate_right
    · have HE : Hid (areB k n h.k = false):=Lib.hid (by
        rw [beq_eq_false_iff_ne] at k5 k6 k7
        unfold areB
        rw [decide_eq_false k5,decide_eq_false k6,decide_eq_false k7]
        simp)
      go_enter Tryz.func54,Tryz.ntmps54
      go_wp2_with (fail)
      go_ret
      exact ⟨by rw [HE.out]; rfl,HB0.out⟩
    rotate_right 2
    · have hn2 : decide (2 ≤ (n : Int)) = false:=decide_eq_false (by omega)
      have hn3 : decide (2 ≤ n) = false:=decide_eq_false (by omega)
      go_enter Tryz.func54,Tryz.ntmps54
      go_wp2_with (fail)
      all_goals
        go_ret
        exact ⟨by simp [areB, *],HB0.out⟩
    all_goals
      go_enter Tryz.func54,Tryz.ntmps54
      go_wp2_with (fail)
      all_goals
        go_ret
        have h200 : ((n : Int) ≤ 200 ↔ n ≤ 200):=by omega
        exact ⟨by simp [areB, *],HB0.out⟩
end LM
namespace LM
attribute [local go_sem] run_store_flt
theorem callB_keep {w w' : World} {f : FuncId} {args : Array Value} {r : Value} (h : CallB w f args r) (hb : Below w.heap.size w w') : CallB w' f args r:=fun W hW=>h W (bel_trans (B:=w.heap.size) hb hW)
def UT (w : World) : Prop:=∀ W,Below w.heap.size w W → Lib.Utf8Tabs 0 1 W
theorem UT.keep {w w' : World} (h : UT w) (hb : Below w.heap.size w w') : UT w':=fun W hW=>h W (bel_trans (B:=w.heap.size) hb hW)
def lastK : Fr → Int
  | .nil=>0
  | .cons h _ .nil=>h.k
  | .cons _ _ (.cons h k r)=>lastK (.cons h k r)
theorem last_item : ∀ (fr : Fr),0 < fr.len → ∃ hh k,fr.drop (fr.len - 1) = .cons hh k .nil∧hh.k = lastK fr:=by
  intro fr
  induction fr with
  | nil=>intro h; exact absurd h (by show ¬ 0 < 0; omega)
  | cons h k r _ ih =>
    intro _
    cases r with
    | nil=>exact ⟨h,k,rfl,rfl⟩
    | cons h2 k2 r2 =>
      obtain ⟨hh,kk,e1,e2⟩:=ih (by show 0 < r2.len + 1; omega)
      refine ⟨hh,kk,?_,e2⟩
      have e3 : (Fr.cons h2 k2 r2).len = r2.len + 1:=rfl
      rw [e3] at e1
      have e4 : (Fr.cons h k (Fr.cons h2 k2 r2)).len - 1 = (r2.len + 1 - 1) + 1:=by
        show r2.len + 1 + 1 - 1 = _
        omega
      rw [e4]
      exact e1
def textB (t : ByteArray) : Bool:=Lib.validD t.data.toList && decide (Lib.runeCount t ≤ 400)
def rightK (nm : ByteArray → Bool) (d : Int) (h : Hd) (kids : Fr) (sub : Bool) : Bool :=
  elseB h.k (h.n == 0) (nothB h.fl h.f h.s h.xs) (h.t.toList == []) (((kids.len : Nat) : Int) == 0) &&
    (if h.k = 0 then rightN h.fl h.f h.s h.xs else if h.k = 1 then (h.n == 0 || h.n == 1) else if h.k = 2 then csignB h.n else if h.k = 3 then textB h.t else if h.k = 4 then nm h.t else
      (decide (0 < d) && areB h.k kids.len (lastK kids) && sub))
def rightF (nm : ByteArray → Bool) : Int → Fr → Bool
  | _,.nil=>true
  | d,.cons h kids rest=>rightK nm d h kids (rightF nm (d - 1) kids) && rightF nm d rest
def SymIn (t : ByteArray) : Fr → Prop
  | .nil=>False
  | .cons h kids rest=>(h.k = 4∧t = h.t) ∨ SymIn t kids ∨ SymIn t rest
theorem SymIn.drop {t : ByteArray} : ∀ (j : Nat) {fr : Fr},SymIn t (fr.drop j) → SymIn t fr:=by
  intro j
  induction j with
  | zero=>intro fr h; exact h
  | succ j ih =>
    intro fr h
    cases fr with
    | nil=>exact h
    | cons hh k r=>exact .inr (.inr (ih h))
theorem dindex_any (nm : ByteArray → Bool) (d : Int) (g : Nat) (kids : Fr) (B : Option Addr) (cap b off : Nat) (w : World) (hB : 0 < kids.len → B = some ⟨b,off,none⟩) (hF : FAt w b off kids) (hc1 : kids.len ≤ cap) (hc2 : cap ≤ 9223372036854775807)
    (hcl : ∀ hh k j r,kids.drop j = .cons hh k r → ∀ W,Below w.heap.size w W → DatV W hh k → Calls Tryz.prog 56 #[datA hh k.len,.pointer (some ⟨g,0,none⟩)] W fun e w'=>e = .returned (.bool (!rightK nm d hh k (rightF nm (d - 1) k)))∧Below W.heap.size W w') :
    Calls Tryz.prog 87 #[.slice B kids.len cap,.func (.func 56) #[] #[.pointer (some ⟨g,0,none⟩)]] w fun e w'=>(∃ z : Int,e = .returned (.int .i64 z)∧decide (0 ≤ z) = !rightF nm d kids)∧Below w.heap.size w w':=by
  rcases Nat.eq_zero_or_pos kids.len with h0 | hpos
  · have hk0 : kids = .nil:=by
      cases kids with
      | nil=>rfl
      | cons x y z=>have h3 : z.len + 1 = 0:=h0; omega
    subst hk0
    show Calls Tryz.prog 87 #[.slice B 0 cap,.func (.func 56) #[] #[.pointer (some ⟨g,0,none⟩)]] w fun e w'=>(∃ z : Int,e = .returned (.int .i64 z)∧decide (0 ≤ z) = false)∧Below w.heap.size w w'
    clear hcl hF hB hc1
    go_enter Tryz.func87,Tryz.ntmps87
    go_wp2_with (fail)
    go_loopg [8] 0 (fun kk i wr=>wr = w∧i = .int .i64 0)
    case atStart=>exact ⟨rfl,rfl⟩
    case round =>
      obtain ⟨rfl,rfl⟩:=hrel
      go_wp2_with (fail)
      go_ret
      exact ⟨⟨-1,rfl,rfl⟩,Below.refl _ _⟩
  obtain rfl:=hB hpos
  clear hB
  have HF:=Lib.hid hF
  have HCL:=Lib.hid hcl
  clear hF hcl
  go_enter Tryz.func87,Tryz.ntmps87
  go_wp2_with (fail)
  go_loopg [8] kids.len (fun kk i wr=>Below w.heap.size w wr∧∃ j : Nat,j ≤ kids.len∧kk = kids.len - j∧i = .int .i64 (j : Int)∧rightF nm d (kids.drop j) = rightF nm d kids)
  case atStart=>exact ⟨Below.refl _ _,0,Nat.zero_le _,rfl,rfl,rfl⟩
  case round =>
    obtain ⟨hbr,j,hj,rfl,rfl,hrf⟩:=hrel
    have HBR:=Lib.hid hbr
    clear hbr
    by_cases hjl : j < kids.len
    · obtain ⟨hh,k,r,hdr,hdr1⟩:=Fr.cons_of_lt hjl
      rw [hdr] at hrf
      obtain ⟨hbl,⟨x0,x1,x2,x3,x4,x5,x6,x7⟩,D⟩:=counted_item (FAt.below HBR.out _ _ _ HF.out) hdr
      have CL:=Lib.hid (HCL.out hh k j r hdr wr HBR.out D)
      have hrf2 : (rightK nm d hh k (rightF nm (d - 1) k) && rightF nm d r) = rightF nm d kids:=hrf
      obtain ⟨q,hq⟩ : ∃ q,rightK nm d hh k (rightF nm (d - 1) k) = q:=⟨_,rfl⟩
      rw [hq] at CL hrf2
      have HRF:=Lib.hid hrf2
      have HDR:=Lib.hid hdr1
      clear hrf hdr hdr1 D hrf2 hq
      go_wp2_with (fail)
      refine CL.out.mono ?_
      rintro e w2 ⟨rfl,hb2⟩
      have HB2:=Lib.hid (bel_trans (B:=w.heap.size) HBR.out hb2)
      clear hb2
      cases q
      · go_wp2_with (fail)
        go_ret
        exact ⟨⟨j,rfl,by rw [← HRF.out]; simp⟩,HB2.out⟩
      · go_wp2_with (fail)
        go_roundg (kids.len - (j + 1))
        case measure=>omega
        case rel=>exact ⟨HB2.out,j + 1,by omega,rfl,by go_num,by rw [HDR.out]; exact HRF.out⟩
    · have hje : j = kids.len:=by omega
      subst hje
      have hnil : kids.drop kids.len = .nil:=by
        have h1:=Fr.len_drop kids.len kids
        cases h2 : kids.drop kids.len with
        | nil=>rfl
        | cons x y z=>rw [h2] at h1; have h3 : z.len + 1 = kids.len - kids.len:=h1; omega
      rw [hnil] at hrf
      have HR : Hid (true = rightF nm d kids):=Lib.hid hrf
      clear hrf hnil
      go_wp2_with (fail)
      go_ret
      exact ⟨⟨-1,rfl,by rw [← HR.out]; rfl⟩,HBR.out⟩
end LM
namespace LM
attribute [local go_sem] run_store_flt
theorem below_iterD (W : World) (s : ByteArray) (pos : Nat) : Below W.heap.size W (W.iter s pos):=by
  unfold World.iter
  exact (Below.refl _ W).alloc (Nat.le_refl _) _
theorem dcontains_any (nm : ByteArray → Bool) (d : Int) (g : Nat) (kids : Fr) (B : Option Addr) (cap b off : Nat) (w : World) (hB : 0 < kids.len → B = some ⟨b,off,none⟩) (hF : FAt w b off kids) (hc1 : kids.len ≤ cap) (hc2 : cap ≤ 9223372036854775807)
    (hcl : ∀ hh k j r,kids.drop j = .cons hh k r → ∀ W,Below w.heap.size w W → DatV W hh k → Calls Tryz.prog 56 #[datA hh k.len,.pointer (some ⟨g,0,none⟩)] W fun e w'=>e = .returned (.bool (!rightK nm d hh k (rightF nm (d - 1) k)))∧Below W.heap.size W w') :
    Calls Tryz.prog 55 #[.slice B kids.len cap,.func (.func 56) #[] #[.pointer (some ⟨g,0,none⟩)]] w fun e w'=>e = .returned (.bool (!rightF nm d kids))∧Below w.heap.size w w':=by
  have H1:=Lib.hid (dindex_any nm d g kids B cap b off w hB hF hc1 hc2 hcl)
  clear hB hF hcl
  go_enter Tryz.func55,Tryz.ntmps55
  go_wp2_with (fail)
  refine H1.out.mono ?_
  rintro e w1 ⟨⟨z,rfl,hz⟩,hb1⟩
  have HB1:=Lib.hid hb1
  have HZ:=Lib.hid hz
  clear hb1 hz
  go_wp2_with (fail)
  go_ret
  exact ⟨by rw [← HZ.out]; rfl,HB1.out⟩
theorem dclosure_any (hh : Hd) (k : Fr) (depth : Int) (hd1 : 0 ≤ depth) (hd2 : depth ≤ 60) (g : Nat) (q : Bool) (w : World) (hg : g < w.heap.size) (hcell : w.cell? ⟨g,0,none⟩ = some (.int .i64 depth))
    (hR : ∀ W,Below w.heap.size w W → Calls Tryz.prog 29 #[datA hh k.len,.int .i64 (depth - 1)] W fun e w'=>e = .returned (.bool q)∧Below W.heap.size W w') :
    Calls Tryz.prog 56 #[datA hh k.len,.pointer (some ⟨g,0,none⟩)] w fun e w'=>e = .returned (.bool (!q))∧Below w.heap.size w w':=by
  obtain ⟨W0,hW0,hb0,ho,hs0⟩:=dat_block w hh k.len
  have x0 : (w.alloc (datO hh k.len)).cell? ⟨g,0,none⟩ = some (.int .i64 depth):=by rw [hW0]; exact (hb0.cell (p:=⟨g,0,none⟩) hg).trans hcell
  have HO:=Lib.hid ho
  have HW0:=Lib.hid hW0
  have HB0:=Lib.hid hb0
  have HR:=Lib.hid (hR W0 hb0)
  have w1 : IntKind.i64.wrap (depth - 1) = depth - 1:=by rw [IntKind.wrap_i64]; omega
  obtain ⟨y0,y1,y2,y3,y4,y5,y6,y7⟩:=C8.of_block ho
  clear hW0 hb0 ho hR hcell
  go_enter Tryz.func56,Tryz.ntmps56
  go_wp2_with (fail)
  rw [HW0.out]
  refine HR.out.mono ?_
  rintro e w1 ⟨rfl,hb1⟩
  have HB1:=Lib.hid (bel_trans (B:=w.heap.size) HB0.out hb1)
  clear hb1
  go_wp2_with (fail)
  go_ret
  exact ⟨rfl,HB1.out⟩
theorem dright_go (nm : ByteArray → Bool) (h : Hd) (kids : Fr) (depth : Int) (hd1 : 0 ≤ depth) (hd2 : depth ≤ 60) (sub : Bool) (w : World) (hD : DatV w h kids) (hok : h.Ok kids.len) (hu : UT w) (hnm : h.k = 4 → CallB w 53 #[.string h.t] (.bool (nm h.t)))
    (hsub : 0 < depth → ∀ g W,Below w.heap.size w W → g < W.heap.size → W.cell? ⟨g,0,none⟩ = some (.int .i64 depth) →
      Calls Tryz.prog 55 #[.slice h.B kids.len h.cap,.func (.func 56) #[] #[.pointer (some ⟨g,0,none⟩)]] W fun e w'=>e = .returned (.bool (!sub))∧Below W.heap.size W w') :
    Calls Tryz.prog 29 #[datA h kids.len,.int .i64 depth] w fun e w'=>e = .returned (.bool (rightK nm depth h kids sub))∧Below w.heap.size w w':=by
  have hE : CallB w 48 #[datA h kids.len] (.bool (elseB h.k (h.n == 0) (nothB h.fl h.f h.s h.xs) (h.t.toList == []) (((kids.len : Nat) : Int) == 0))):=fun W hW =>
    delse_any h kids.len _ _ _ _ W rfl rfl rfl fun W2 h2=>by
      have:=dnothing_any h.fl h.f h.s h.A h.xs.length h.c _ W2 fun W3 h3=>tright_any h.fl h.f hok.f h.s h.A h.c h.xs W3 (((hD.xs.below hW).below h2).below h3) hok.lm hok.l
      exact this
  obtain ⟨W0,hW0⟩ : ∃ W0,(w.alloc (datO h kids.len)).alloc (.cells #[.int .i64 depth] 3 (0,0)) = W0:=⟨_,rfl⟩
  have hb0 : Below w.heap.size w W0:=by rw [← hW0]; exact ((Below.refl _ w).alloc (Nat.le_refl _) _).alloc (by simp) _
  have hO : Obs W0 [(w.heap.size + 1,.cells #[.int .i64 depth] 3 (0,0)),(w.heap.size,datO h kids.len)]:=by
    rw [← hW0]
    have h1:=(Obs.nil.new (w:=w) (datO h kids.len)).new (.cells #[.int .i64 depth] 3 (0,0))
    simp only [World.size_alloc] at h1
    exact h1
  obtain ⟨q,hq⟩ : ∃ q,elseB h.k (h.n == 0) (nothB h.fl h.f h.s h.xs) (h.t.toList == []) (((kids.len : Nat) : Int) == 0) = q:=⟨_,rfl⟩
  rw [hq] at hE
  have HW0:=Lib.hid hW0
  have HB0:=Lib.hid hb0
  have O0:=Lib.hid hO
  have HE:=Lib.hid (hE W0 hb0)
  have c0:=C8.of_block hO.tl.hd
  obtain ⟨x0,x1,x2,x3,x4,x5,x6,x7⟩:=c0
  have HQ : Hid (rightK nm depth h kids sub = (q && (if h.k = 0 then rightN h.fl h.f h.s h.xs else if h.k = 1 then (h.n == 0 || h.n == 1) else if h.k = 2 then csignB h.n else if h.k = 3 then textB h.t else if h.k = 4 then nm h.t else
      (decide (0 < depth) && areB h.k kids.len (lastK kids) && sub)))):=Lib.hid (by unfold rightK; rw [hq])
  clear hW0 hb0 hO hE hq
  cases q
  · go_enter Tryz.func29,Tryz.ntmps29
    go_wp2_with (fail)
    rw [HW0.out]
    refine HE.out.mono ?_
    rintro e w1 ⟨rfl,hb1⟩
    have HB1:=Lib.hid (bel_trans (B:=w.heap.size) HB0.out hb1)
    clear hb1
    go_wp2_with (fail)
    go_ret
    exact ⟨by rw [HQ.out]; rfl,HB1.out⟩
  · rcases kinds h.k with hk | hk | hk | hk | hk | hk | hk | hk | ⟨k0,k1,k2,k3,k4,k5,k6,k7⟩
    · have HT:=Lib.hid fun W (hW : Below w.heap.size w W)=>tright_any h.fl h.f hok.f h.s h.A h.c h.xs W (hD.xs.below hW) hok.lm hok.l
      have HQ2 : Hid (rightK nm depth h kids sub = rightN h.fl h.f h.s h.xs):=Lib.hid (by rw [HQ.out,if_pos hk]; rfl)
      have HK:=Lib.hid hk
      clear hD hok hu hnm hsub HQ hk
      go_enter Tryz.func29,Tryz.ntmps29
      go_wp2_with (fail)
      rw [HW0.out]
      refine HE.out.mono ?_
      rintro e w1 ⟨rfl,hb1⟩
      have HB1:=Lib.hid (bel_trans (B:=w.heap.size) HB0.out hb1)
      obtain ⟨y0,y1,y2,y3,y4,y5,y6,y7⟩:=C8.of_block (O0.out.below hb1).tl.hd
      have z0:=ob_cell (O0.out.below hb1).hd 0
      rw [HK.out] at y0
      clear hb1
      go_wp2_with (fail)
      refine (HT.out _ HB1.out).mono ?_
      rintro e w2 ⟨rfl,hb2⟩
      have HB2:=Lib.hid (bel_trans (B:=w.heap.size) HB1.out hb2)
      clear hb2
      go_wp2_with (fail)
      go_ret
      exact ⟨by rw [HQ2.out]; rfl,HB2.out⟩
    · have HQ2 : Hid (rightK nm depth h kids sub = (h.n == 0 || h.n == 1)):=Lib.hid (by rw [HQ.out,if_neg (by omega),if_pos hk]; rfl)
      have HK:=Lib.hid hk
      clear hD hok hu hnm hsub HQ hk
      go_enter Tryz.func29,Tryz.ntmps29
      go_wp2_with (fail)
      rw [HW0.out]
      refine HE.out.mono ?_
      rintro e w1 ⟨rfl,hb1⟩
      have HB1:=Lib.hid (bel_trans (B:=w.heap.size) HB0.out hb1)
      obtain ⟨y0,y1,y2,y3,y4,y5,y6,y7⟩:=C8.of_block (O0.out.below hb1).tl.hd
      have z0:=ob_cell (O0.out.below hb1).hd 0
      rw [HK.out] at y0
      clear hb1
      go_wp2_with (fail)
      all_goals
        go_ret
        exact ⟨by rw [HQ2.out]; simp [*],HB1.out⟩
    · have HT:=Lib.hid fun W=>dsign_any h.n hok.n.1 hok.n.2 W
      have HQ2 : Hid (rightK nm depth h kids sub = csignB h.n):=Lib.hid (by rw [HQ.out,if_neg (by omega),if_neg (by omega),if_pos hk]; rfl)
      have HK:=Lib.hid hk
      clear hD hok hu hnm hsub HQ hk
      go_enter Tryz.func29,Tryz.ntmps29
      go_wp2_with (fail)
      rw [HW0.out]
      refine HE.out.mono ?_
      rintro e w1 ⟨rfl,hb1⟩
      have HB1:=Lib.hid (bel_trans (B:=w.heap.size) HB0.out hb1)
      obtain ⟨y0,y1,y2,y3,y4,y5,y6,y7⟩:=C8.of_block (O0.out.below hb1).tl.hd
      have z0:=ob_cell (O0.out.below hb1).hd 0
      rw [HK.out] at y0
      clear hb1
      go_wp2_with (fail)
      refine (HT.out _).mono ?_
      rintro e w2 ⟨rfl,rfl⟩
      go_wp2_with (fail)
      go_ret
      exact ⟨by rw [HQ2.out]; rfl,HB1.out⟩
    · have HV:=Lib.hid fun W (hW : Below w.heap.size w W)=>Tryz.utf8_ValidString h.t W (by have:=hok.t; omega) (hu W hW)
      have HC:=Lib.hid fun W=>Tryz.utf8_RuneCountInString h.t W (by have:=hok.t; omega)
      have HQ2 : Hid (rightK nm depth h kids sub = (Lib.validD h.t.data.toList && decide (Lib.runeCount h.t ≤ 400))):=Lib.hid (by rw [HQ.out,if_neg (by omega),if_neg (by omega),if_neg (by omega),if_pos hk]; rfl)
      have HK:=Lib.hid hk
      obtain ⟨rc,hrc⟩ : ∃ rc,Lib.runeCount h.t = rc:=⟨_,rfl⟩
      obtain ⟨vd,hvd⟩ : ∃ vd,Lib.validD h.t.data.toList = vd:=⟨_,rfl⟩
      rw [hrc] at HC HQ2
      rw [hvd] at HV HQ2
      clear hD hok hu hnm hsub HQ hk hrc hvd
      go_enter Tryz.func29,Tryz.ntmps29
      go_wp2_with (fail)
      rw [HW0.out]
      refine HE.out.mono ?_
      rintro e w1 ⟨rfl,hb1⟩
      have HB1:=Lib.hid (bel_trans (B:=w.heap.size) HB0.out hb1)
      obtain ⟨y0,y1,y2,y3,y4,y5,y6,y7⟩:=C8.of_block (O0.out.below hb1).tl.hd
      have z0:=ob_cell (O0.out.below hb1).hd 0
      rw [HK.out] at y0
      have HX1:=Lib.hid hb1
      clear hb1
      go_wp2_with (fail)
      refine (HV.out _ HB1.out).mono ?_
      rintro e w2 ⟨rfl,hb2⟩
      have HB2:=Lib.hid (bel_trans (B:=w.heap.size) HB1.out hb2)
      obtain ⟨v0,v1,v2,v3,v4,v5,v6,v7⟩:=C8.of_block (O0.out.below (bel_trans (B:=W0.heap.size) HX1.out hb2)).tl.hd
      clear hb2 y0 y1 y2 y3 y4 y5 y6 y7 z0
      cases vd
      · go_wp2_with (fail)
        go_ret
        exact ⟨by rw [HQ2.out]; rfl,HB2.out⟩
      · go_wp2_with (fail)
        refine (HC.out _).mono ?_
        rintro e w3 ⟨rfl,pos,rfl⟩
        have HB3:=Lib.hid (bel_trans (B:=w.heap.size) HB2.out (below_iterD w2 h.t pos))
        have h400 : ((rc : Int) ≤ 400 ↔ rc ≤ 400):=by omega
        have h401 : decide ((rc : Int) ≤ 400) = decide (rc ≤ 400):=decide_eq_decide.2 h400
        clear h400
        go_wp2_with (fail)
        go_ret
        exact ⟨by rw [HQ2.out]; first | rfl | simp [*],HB3.out⟩
    · have HT:=Lib.hid (hnm hk)
      have HQ2 : Hid (rightK nm depth h kids sub = nm h.t):=Lib.hid (by rw [HQ.out,if_neg (by omega),if_neg (by omega),if_neg (by omega),if_neg (by omega),if_pos hk]; rfl)
      have HK:=Lib.hid hk
      clear hD hok hu hnm hsub HQ hk
      go_enter Tryz.func29,Tryz.ntmps29
      go_wp2_with (fail)
      rw [HW0.out]
      refine HE.out.mono ?_
      rintro e w1 ⟨rfl,hb1⟩
      have HB1:=Lib.hid (bel_trans (B:=w.heap.size) HB0.out hb1)
      obtain ⟨y0,y1,y2,y3,y4,y5,y6,y7⟩:=C8.of_block (O0.out.below hb1).tl.hd
      have z0:=ob_cell (O0.out.below hb1).hd 0
      rw [HK.out] at y0
      clear hb1
      go_wp2_with (fail)
      refine (HT.out _ HB1.out).mono ?_
      rintro e w2 ⟨rfl,hb2⟩
      have HB2:=Lib.hid (bel_trans (B:=w.heap.size) HB1.out hb2)
      clear hb2
      go_wp2_with (fail)
      go_ret
      exact ⟨by rw [HQ2.out]; rfl,HB2.out⟩
    all_goals
      have f0 : (h.k == 0) = false:=by first | exact k0 | (rw [hk]; rfl)
      have f1 : (h.k == 1) = false:=by first | exact k1 | (rw [hk]; rfl)
      have f2 : (h.k == 2) = false:=by first | exact k2 | (rw [hk]; rfl)
      have f3 : (h.k == 3) = false:=by first | exact k3 | (rw [hk]; rfl)
      have f4 : (h.k == 4) = false:=by first | exact k4 | (rw [hk]; rfl)
      have HQ2 : Hid (rightK nm depth h kids sub = (decide (0 < depth) && areB h.k kids.len (lastK kids) && sub)):=Lib.hid (by
        rw [beq_eq_false_iff_ne] at f0 f1 f2 f3 f4
        rw [HQ.out,if_neg f0,if_neg f1,if_neg f2,if_neg f3,if_neg f4]; rfl)
      try clear hk
      try clear k0 k1 k2 k3 k4 k5 k6 k7
      by_cases hd0 : 0 < depth
      · have HA : Hid (∀ W,Below w.heap.size w W → Calls Tryz.prog 54 #[.int .i64 h.k,.slice h.B kids.len h.cap] W fun e w'=>e = .returned (.bool (areB h.k kids.len (lastK kids)))∧Below W.heap.size W w'):=Lib.hid fun W hW=>by
          obtain ⟨b,off,hB,hF⟩:=(hD.below hW).items
          rcases Nat.eq_zero_or_pos kids.len with h0 | hp
          · have:=dareitems_any h.k h.B kids.len h.cap (by omega) b off ⟨lastK kids,0,false,0,false,none,[],0,⟨#[]⟩,none,0⟩ 0 W (fun h=>by omega) (fun h=>by omega)
            exact this
          · obtain ⟨hh,k,e1,e2⟩:=last_item kids hp
            have:=dareitems_any h.k h.B kids.len h.cap (by have:=hok.cap; omega) b off hh k.len W hB (fun _=>(counted_item hF e1).2.1)
            rw [e2] at this
            exact this
        have HS:=Lib.hid (hsub hd0)
        have hdt : decide (0 < depth) = true:=decide_eq_true hd0
        obtain ⟨ab,hab⟩ : ∃ ab,areB h.k kids.len (lastK kids) = ab:=⟨_,rfl⟩
        rw [hab,hdt] at HQ2
        rw [hab] at HA
        clear hD hok hu hnm hsub HQ hab
        go_enter Tryz.func29,Tryz.ntmps29
        go_wp2_with (fail)
        rw [HW0.out]
        refine HE.out.mono ?_
        rintro e w1 ⟨rfl,hb1⟩
        have HB1:=Lib.hid (bel_trans (B:=w.heap.size) HB0.out hb1)
        obtain ⟨y0,y1,y2,y3,y4,y5,y6,y7⟩:=C8.of_block (O0.out.below hb1).tl.hd
        have z0:=ob_cell (O0.out.below hb1).hd 0
        rw [show (#[Value.int .i64 depth] : Array Value)[0]? = some (.int .i64 depth) from rfl] at z0
        have HX1:=Lib.hid hb1
        clear hb1
        go_wp2_with (fail)
        refine (HA.out _ HB1.out).mono ?_
        rintro e w2 ⟨rfl,hb2⟩
        have HB2:=Lib.hid (bel_trans (B:=w.heap.size) HB1.out hb2)
        have O2:=Lib.hid (O0.out.below (bel_trans (B:=W0.heap.size) HX1.out hb2))
        have hlt : w.heap.size + 1 < w2.heap.size:=by
          have h1:=(O0.out.below (bel_trans (B:=W0.heap.size) HX1.out hb2)).hd
          rcases Nat.lt_or_ge (w.heap.size + 1) w2.heap.size with h2 | h2
          · exact h2
          · rw [Array.getElem?_eq_none h2] at h1; cases h1
        obtain ⟨v0,v1,v2,v3,v4,v5,v6,v7⟩:=C8.of_block (O0.out.below (bel_trans (B:=W0.heap.size) HX1.out hb2)).tl.hd
        have u0:=ob_cell (O0.out.below (bel_trans (B:=W0.heap.size) HX1.out hb2)).hd 0
        rw [show (#[Value.int .i64 depth] : Array Value)[0]? = some (.int .i64 depth) from rfl] at u0
        have HS2:=Lib.hid (HS.out _ _ HB2.out hlt u0)
        clear hb2 y0 y1 y2 y3 y4 y5 y6 y7 z0 u0
        cases ab
        · go_wp2_with (fail)
          go_ret
          exact ⟨by rw [HQ2.out]; rfl,HB2.out⟩
        · go_wp2_with (fail)
          refine HS2.out.mono ?_
          rintro e w3 ⟨rfl,hb3⟩
          have HB3:=Lib.hid (bel_trans (B:=w.heap.size) HB2.out hb3)
          clear hb3
          go_wp2_with (fail)
          go_ret
          exact ⟨by rw [HQ2.out]; simp,HB3.out⟩
      · have hdf : decide (0 < depth) = false:=decide_eq_false hd0
        rw [hdf] at HQ2
        clear hD hok hu hnm hsub HQ
        go_enter Tryz.func29,Tryz.ntmps29
        go_wp2_with (fail)
        rw [HW0.out]
        refine HE.out.mono ?_
        rintro e w1 ⟨rfl,hb1⟩
        have HB1:=Lib.hid (bel_trans (B:=w.heap.size) HB0.out hb1)
        obtain ⟨y0,y1,y2,y3,y4,y5,y6,y7⟩:=C8.of_block (O0.out.below hb1).tl.hd
        have z0:=ob_cell (O0.out.below hb1).hd 0
        rw [show (#[Value.int .i64 depth] : Array Value)[0]? = some (.int .i64 depth) from rfl] at z0
        clear hb1
        go_wp2_with (fail)
        go_ret
        exact ⟨by rw [HQ2.out]; simp,HB1.out⟩
theorem dright_any (nm : ByteArray → Bool) : ∀ (m : Nat) (kids : Fr),kids.size < m → kids.Ok → ∀ (h : Hd) (depth : Int) (w : World),DatV w h kids → h.Ok kids.len → 0 ≤ depth → depth ≤ 60 → UT w → (∀ t,(h.k = 4∧t = h.t) ∨ SymIn t kids → CallB w 53 #[.string t] (.bool (nm t))) →
    Calls Tryz.prog 29 #[datA h kids.len,.int .i64 depth] w fun e w'=>e = .returned (.bool (rightK nm depth h kids (rightF nm (depth - 1) kids)))∧Below w.heap.size w w':=by
  intro m
  induction m with
  | zero=>intro kids h; omega
  | succ m ih =>
    intro kids hsz hok h depth w hd hho h0 h60 hu hnm
    refine dright_go nm h kids depth h0 h60 (rightF nm (depth - 1) kids) w hd hho hu (fun hk=>hnm _ (.inl ⟨hk,rfl⟩)) fun hpos g W hW hg hcell=>?_
    obtain ⟨b,off,hB,hF⟩:=(hd.below hW).items
    refine dcontains_any nm (depth - 1) g kids h.B h.cap b off W hB hF hho.cap.1 hho.cap.2 fun hh k j r hdr W2 hW2 hD2=>?_
    have hko:=Fr.Ok.drop j hok
    rw [hdr] at hko
    refine dclosure_any hh k depth h0 h60 g _ W2 (Nat.lt_of_lt_of_le hg hW2.size) ((hW2.cell (p:=⟨g,0,none⟩) hg).trans hcell) fun W3 hW3=>?_
    refine ih k (by have:=size_item hdr; omega) hko.2.1 hh (depth - 1) W3 (hD2.below hW3) hko.1 (by omega) (by omega) ((hu.keep hW).keep (hW2.trans (hW3.mono hW2.size))) fun t ht=>?_
    refine callB_keep (hnm t (.inr ?_)) (bel_trans (B:=w.heap.size) (bel_trans (B:=w.heap.size) hW hW2) hW3)
    have h1 : SymIn t (kids.drop j):=by rw [hdr]; exact ht.elim .inl (fun h=>.inr (.inl h))
    exact SymIn.drop j h1
def rightD (nm : ByteArray → Bool) (h : Hd) (kids : Fr) : Bool:=decide (cnt 3001 1 kids ≤ 3000) && rightK nm 60 h kids (rightF nm 59 kids)
theorem dRight_any (nm : ByteArray → Bool) (kids : Fr) (hok : kids.Ok) (h : Hd) (w : World) (hd : DatV w h kids) (hho : h.Ok kids.len) (hu : UT w) (hnm : ∀ t,(h.k = 4∧t = h.t) ∨ SymIn t kids → CallB w 53 #[.string t] (.bool (nm t))) :
    Calls Tryz.prog 10 #[datA h kids.len] w fun e w'=>e = .returned (.bool (rightD nm h kids))∧Below w.heap.size w w':=by
  obtain ⟨W0,hW0,hb0,ho,hs0⟩:=dat_block w h kids.len
  have HC:=Lib.hid (counted_any (kids.size + 1) kids (by omega) hok h 3001 W0 (hd.below hb0) hho.cap.1 hho.cap.2 (by decide) (by decide))
  have HR:=Lib.hid fun W (hW : Below w.heap.size w W)=>dright_any nm (kids.size + 1) kids (by omega) hok h 60 W (hd.below hW) hho (by decide) (by decide) (hu.keep hW) fun t ht=>callB_keep (hnm t ht) hW
  have HO:=Lib.hid ho
  have HW0:=Lib.hid hW0
  have HB0:=Lib.hid hb0
  have HS:=Lib.hid hs0
  obtain ⟨c,hc⟩ : ∃ c,cnt 3001 1 kids = c:=⟨_,rfl⟩
  obtain ⟨r,hr⟩ : ∃ r,rightK nm 60 h kids (rightF nm (60 - 1) kids) = r:=⟨_,rfl⟩
  have HQ : Hid (rightD nm h kids = (decide (c ≤ 3000) && r)):=Lib.hid (by unfold rightD; rw [hc,← hr]; rfl)
  rw [hc] at HC
  rw [hr] at HR
  obtain ⟨x0,x1,x2,x3,x4,x5,x6,x7⟩:=C8.of_block ho
  clear hW0 hb0 ho hd hho hu hnm hc hr hok hs0
  by_cases h3 : c ≤ 3000
  · have d1 : decide (c ≤ 3000) = true:=decide_eq_true h3
    rw [d1] at HQ
    clear h3
    go_enter Tryz.func10,Tryz.ntmps10
    go_wp2_with (fail)
    rw [HW0.out]
    refine HC.out.mono ?_
    rintro e w1 ⟨rfl,hb1⟩
    have HB1:=Lib.hid (bel_trans (B:=w.heap.size) HB0.out hb1)
    obtain ⟨y0,y1,y2,y3,y4,y5,y6,y7⟩:=(C8.of_block HO.out).keep hb1 HS.out
    simp only [Nat.zero_add] at y0 y1 y2 y3 y4 y5 y6 y7
    clear hb1
    go_wp2_with (fail)
    refine (HR.out _ HB1.out).mono ?_
    rintro e w2 ⟨rfl,hb2⟩
    have HB2:=Lib.hid (bel_trans (B:=w.heap.size) HB1.out hb2)
    clear hb2
    go_wp2_with (fail)
    go_ret
    exact ⟨by rw [HQ.out]; rfl,HB2.out⟩
  · have d1 : decide (c ≤ 3000) = false:=decide_eq_false h3
    rw [d1] at HQ
    clear h3
    go_enter Tryz.func10,Tryz.ntmps10
    go_wp2_with (fail)
    rw [HW0.out]
    refine HC.out.mono ?_
    rintro e w1 ⟨rfl,hb1⟩
    have HB1:=Lib.hid (bel_trans (B:=w.heap.size) HB0.out hb1)
    clear hb1
    go_wp2_with (fail)
    go_ret
    exact ⟨by rw [HQ.out]; rfl,HB1.out⟩
end LM
namespace LM
attribute [local go_sem] run_store_flt
def numS (h h' : Hd) : Bool:=if h.fl then (if h'.fl then canW h.f == canW h'.f else false) else (if h'.fl then false else decide (sg h.s (val h.xs) = sg h'.s (val h'.xs)))
def headS (h h' : Hd) : Bool:=(h.k == h'.k) && (h.n == h'.n) && (h.t.toList == h'.t.toList) && numS h h'
def sameF : Fr → Fr → Bool
  | .nil,.nil=>true
  | .cons h k r,.cons h' k' r'=>headS h h' && sameF k k' && sameF r r'
  | .nil,.cons _ _ _=>false
  | .cons _ _ _,.nil=>false
def NumsR : Fr → Prop
  | .nil=>True
  | .cons h k r=>rightN h.fl h.f h.s h.xs = true∧NumsR k∧NumsR r
theorem NumsR.drop : ∀ (j : Nat) {fr : Fr},NumsR fr → NumsR (fr.drop j):=by
  intro j
  induction j with
  | zero=>intro fr h; exact h
  | succ j ih =>
    intro fr h
    cases fr with
    | nil=>exact trivial
    | cons hh k r=>exact ih h.2.2
theorem sameF_len : ∀ (a b : Fr),a.len ≠ b.len → sameF a b = false:=by
  intro a
  induction a with
  | nil =>
    intro b h
    cases b with
    | nil=>exact absurd rfl h
    | cons x y z=>rfl
  | cons x y z _ ih =>
    intro b h
    cases b with
    | nil=>rfl
    | cons x' y' z' =>
      show (headS x x' && sameF y y' && sameF z z') = false
      rw [ih z' (fun e=>h (by show z.len + 1 = z'.len + 1; rw [e])),Bool.and_false]
theorem tsame_any {w : World} {h h' : Hd} (ha : NumOk w h.fl h.f h.s h.A h.xs.length h.c) (hb : NumOk w h'.fl h'.f h'.s h'.A h'.xs.length h'.c) (hx : rightN h.fl h.f h.s h.xs = true) (hx' : rightN h'.fl h'.f h'.s h'.xs = true) (rx : Rd w h.A h.xs) (rx' : Rd w h'.A h'.xs) (lx : Lm h.xs) (lx' : Lm h'.xs) (cx : h.xs.length ≤ h.c∧h.c ≤ 9223372036854775807) (cx' : h'.xs.length ≤ h'.c∧h'.c ≤ 9223372036854775807) :
    CallB w 60 #[numA h.fl h.f h.s h.A h.xs.length h.c,numA h'.fl h'.f h'.s h'.A h'.xs.length h'.c] (.bool (numS h h')):=by
  obtain ⟨k,n,fl,f,s,A,xs,c,t,B,cap⟩:=h
  obtain ⟨k',n',fl',f',s',A',xs',c',t',B',cap'⟩:=h'
  simp only at *
  unfold numS
  simp only
  cases fl <;> cases fl'
  · simp only [Bool.false_eq_true,if_false]
    unfold rightN at hx hx'
    rw [if_neg (by decide),Bool.and_eq_true] at hx hx'
    have h1:=intV_of hx.2 rx lx cx.1 cx.2
    have h2:=intV_of hx'.2 rx' lx' cx'.1 cx'.2
    exact fun W hW=>tsame_ii f f' s A xs.length c s' A' xs'.length c' W _ (fun V hV=>esame_int ((h1.1.keep hW).keep hV) ((h2.1.keep hW).keep hV) h1.2 h2.2)
  · simp only [Bool.false_eq_true,if_false,if_true]
    exact fun W _=>tsame_if f f' s A xs.length c s' A' xs'.length c' W
  · simp only [Bool.false_eq_true,if_false,if_true]
    exact fun W _=>tsame_fi f f' s A xs.length c s' A' xs'.length c' W
  · simp only [if_true]
    exact fun W _=>tsame_ff f f' s A xs.length c s' A' xs'.length c' W _ (fun V=>same_flo f f' V ha.1 hb.1)
theorem dequal_any (kids kids' : Fr) (B B' : Option Addr) (cap cap' b off b' off' : Nat) (w : World) (hB : 0 < kids.len → B = some ⟨b,off,none⟩) (hB' : 0 < kids'.len → B' = some ⟨b',off',none⟩) (hF : FAt w b off kids) (hF' : FAt w b' off' kids') (hc1 : kids.len ≤ cap) (hc2 : cap ≤ 9223372036854775807) (hc1' : kids'.len ≤ cap') (hc2' : cap' ≤ 9223372036854775807)
    (hcl : ∀ hh k hh' k' j r r',kids.drop j = .cons hh k r → kids'.drop j = .cons hh' k' r' → ∀ W,Below w.heap.size w W → DatV W hh k → DatV W hh' k' → Calls Tryz.prog 32 #[datA hh k.len,datA hh' k'.len] W fun e w'=>e = .returned (.bool (headS hh hh' && sameF k k'))∧Below W.heap.size W w') :
    Calls Tryz.prog 61 #[.slice B kids.len cap,.slice B' kids'.len cap',.func (.func 32) #[] #[]] w fun e w'=>e = .returned (.bool (sameF kids kids'))∧Below w.heap.size w w':=by
  by_cases hl : kids.len = kids'.len
  · rcases Nat.eq_zero_or_pos kids.len with h0 | hpos
    · have hk : ∀ fr : Fr,fr.len = 0 → fr = .nil:=fun fr h=>by
        cases fr with
        | nil=>rfl
        | cons x y z=>have h3 : z.len + 1 = 0:=h; omega
      obtain rfl:=hk kids h0
      obtain rfl:=hk kids' (by omega)
      show Calls Tryz.prog 61 #[.slice B 0 cap,.slice B' 0 cap',.func (.func 32) #[] #[]] w fun e w'=>e = .returned (.bool true)∧Below w.heap.size w w'
      clear hcl hF hB hF' hB' hl h0 hc1 hc1' hk
      go_enter Tryz.func61,Tryz.ntmps61
      go_wp2_with (fail)
      go_loopg [17] 0 (fun kk i wr=>wr = w∧i = .int .i64 0)
      case atStart=>exact ⟨rfl,rfl⟩
      case round =>
        obtain ⟨rfl,rfl⟩:=hrel
        go_wp2_with (fail)
        go_ret
        exact ⟨rfl,Below.refl _ _⟩
    · obtain rfl:=hB hpos
      obtain rfl:=hB' (by omega)
      have HF:=Lib.hid hF
      have HF':=Lib.hid hF'
      have HCL:=Lib.hid hcl
      have HL:=Lib.hid hl
      have g1 : ((kids.len : Int) != (kids'.len : Int)) = false:=by rw [hl]; simp
      clear hF hF' hcl hB hB' hl
      go_enter Tryz.func61,Tryz.ntmps61
      go_wp2_with (fail)
      go_loopg [17] kids.len (fun kk i wr=>Below w.heap.size w wr∧∃ j : Nat,j ≤ kids.len∧kk = kids.len - j∧i = .int .i64 (j : Int)∧sameF (kids.drop j) (kids'.drop j) = sameF kids kids')
      case atStart=>exact ⟨Below.refl _ _,0,Nat.zero_le _,rfl,rfl,rfl⟩
      case round =>
        obtain ⟨hbr,j,hj,rfl,rfl,hrf⟩:=hrel
        have HBR:=Lib.hid hbr
        clear hbr
        by_cases hjl : j < kids.len
        · obtain ⟨hh,k,r,hdr,hdr1⟩:=Fr.cons_of_lt hjl
          have hjl' : j < kids'.len:=by have:=HL.out; omega
          obtain ⟨hh',k',r',hdr',hdr1'⟩:=Fr.cons_of_lt hjl'
          rw [hdr,hdr'] at hrf
          obtain ⟨hbl,⟨x0,x1,x2,x3,x4,x5,x6,x7⟩,D⟩:=counted_item (FAt.below HBR.out _ _ _ HF.out) hdr
          obtain ⟨hbl',hC',D'⟩:=counted_item (FAt.below HBR.out _ _ _ HF'.out) hdr'
          have y:=fun (o : Obj)=>hC'.keep ((Below.refl wr.heap.size wr).alloc (Nat.le_refl _) o) hbl'
          obtain ⟨y0,y1,y2,y3,y4,y5,y6,y7⟩:=y (datO hh k.len)
          obtain ⟨W2,hW2⟩ : ∃ W2,(wr.alloc (datO hh k.len)).alloc (datO hh' k'.len) = W2:=⟨_,rfl⟩
          have hb2 : Below wr.heap.size wr W2:=by rw [← hW2]; exact ((Below.refl _ wr).alloc (Nat.le_refl _) _).alloc (by simp) _
          have hO : Obs W2 [(wr.heap.size + 1,datO hh' k'.len),(wr.heap.size,datO hh k.len)]:=by
            rw [← hW2]
            have h1:=(Obs.nil.new (w:=wr) (datO hh k.len)).new (datO hh' k'.len)
            simp only [World.size_alloc] at h1
            exact h1
          have CL:=Lib.hid (HCL.out hh k hh' k' j r r' hdr hdr' W2 (bel_trans (B:=w.heap.size) HBR.out hb2) (D.below hb2) (D'.below hb2))
          have hrf2 : (headS hh hh' && sameF k k' && sameF r r') = sameF kids kids':=hrf
          obtain ⟨q,hq⟩ : ∃ q,(headS hh hh' && sameF k k') = q:=⟨_,rfl⟩
          rw [hq] at CL hrf2
          have HRF:=Lib.hid hrf2
          have HDR:=Lib.hid hdr1
          have HDR':=Lib.hid hdr1'
          have HW2:=Lib.hid hW2
          have HB2:=Lib.hid (bel_trans (B:=w.heap.size) HBR.out hb2)
          have z:=C8.of_block hO.tl.hd
          have z':=C8.of_block hO.hd
          obtain ⟨u0,u1,u2,u3,u4,u5,u6,u7⟩:=z
          obtain ⟨v0,v1,v2,v3,v4,v5,v6,v7⟩:=z'
          clear hrf hdr hdr1 D hrf2 hq hdr' hdr1' D' y hW2 hb2 hO hC'
          go_wp2_with (fail)
          rw [HW2.out]
          refine CL.out.mono ?_
          rintro e w3 ⟨rfl,hb3⟩
          have HB3:=Lib.hid (bel_trans (B:=w.heap.size) HB2.out hb3)
          clear hb3
          cases q
          · go_wp2_with (fail)
            go_ret
            exact ⟨by rw [← HRF.out]; simp,HB3.out⟩
          · go_wp2_with (fail)
            go_roundg (kids.len - (j + 1))
            case measure=>omega
            case rel=>exact ⟨HB3.out,j + 1,by omega,rfl,by go_num,by rw [HDR.out,HDR'.out]; exact HRF.out⟩
        · have hje : j = kids.len:=by omega
          subst hje
          have hnil : ∀ fr : Fr,fr.drop fr.len = .nil:=fun fr=>by
            have h1:=Fr.len_drop fr.len fr
            cases h2 : fr.drop fr.len with
            | nil=>rfl
            | cons x y z=>rw [h2] at h1; have h3 : z.len + 1 = fr.len - fr.len:=h1; omega
          have hl:=HL.out
          rw [hnil kids,hl,hnil kids'] at hrf
          have HR : Hid (true = sameF kids kids'):=Lib.hid hrf
          clear hrf hnil hl
          go_wp2_with (fail)
          go_ret
          exact ⟨by rw [← HR.out]; rfl,HBR.out⟩
  · have g1 : ((kids.len : Int) != (kids'.len : Int)) = true:=by rw [bne_iff_ne]; omega
    rw [sameF_len _ _ hl]
    clear hcl hF hB hF' hB' hl
    go_enter Tryz.func61,Tryz.ntmps61
    go_wp2_with (fail)
    go_ret
    exact ⟨rfl,Below.refl _ _⟩
theorem dsame_go (h h' : Hd) (kids kids' : Fr) (sub : Bool) (w : World)
    (hT : CallB w 60 #[numA h.fl h.f h.s h.A h.xs.length h.c,numA h'.fl h'.f h'.s h'.A h'.xs.length h'.c] (.bool (numS h h')))
    (hE : CallB w 61 #[.slice h.B kids.len h.cap,.slice h'.B kids'.len h'.cap,.func (.func 32) #[] #[]] (.bool sub)) :
    Calls Tryz.prog 32 #[datA h kids.len,datA h' kids'.len] w fun e w'=>e = .returned (.bool (headS h h' && sub))∧Below w.heap.size w w':=by
  obtain ⟨W0,hW0⟩ : ∃ W0,(w.alloc (datO h kids.len)).alloc (datO h' kids'.len) = W0:=⟨_,rfl⟩
  have hb0 : Below w.heap.size w W0:=by rw [← hW0]; exact ((Below.refl _ w).alloc (Nat.le_refl _) _).alloc (by simp) _
  have hO : Obs W0 [(w.heap.size + 1,datO h' kids'.len),(w.heap.size,datO h kids.len)]:=by
    rw [← hW0]
    have h1:=(Obs.nil.new (w:=w) (datO h kids.len)).new (datO h' kids'.len)
    simp only [World.size_alloc] at h1
    exact h1
  obtain ⟨x0,x1,x2,x3,x4,x5,x6,x7⟩:=C8.of_block hO.tl.hd
  obtain ⟨y0,y1,y2,y3,y4,y5,y6,y7⟩:=C8.of_block hO.hd
  have HW0:=Lib.hid hW0
  have HB0:=Lib.hid hb0
  have O0:=Lib.hid hO
  have HT:=Lib.hid hT
  have HE:=Lib.hid hE
  clear hW0 hb0 hO hT hE
  obtain ⟨b1,e1⟩ : ∃ b,(h.k == h'.k) = b:=⟨_,rfl⟩
  obtain ⟨b2,e2⟩ : ∃ b,(h.n == h'.n) = b:=⟨_,rfl⟩
  obtain ⟨b3,e3⟩ : ∃ b,(h.t.toList == h'.t.toList) = b:=⟨_,rfl⟩
  obtain ⟨b4,e4⟩ : ∃ b,numS h h' = b:=⟨_,rfl⟩
  have HQ : Hid (headS h h' = (b1 && b2 && b3 && b4)):=Lib.hid (by unfold headS; rw [e1,e2,e3,e4])
  rw [e4] at HT
  clear e4
  cases b1
  · go_enter Tryz.func32,Tryz.ntmps32
    go_wp2_with (fail)
    go_ret
    exact ⟨by rw [HQ.out]; rfl,HW0.out ▸ HB0.out⟩
  cases b2
  · go_enter Tryz.func32,Tryz.ntmps32
    go_wp2_with (fail)
    go_ret
    exact ⟨by rw [HQ.out]; rfl,HW0.out ▸ HB0.out⟩
  cases b3
  · go_enter Tryz.func32,Tryz.ntmps32
    go_wp2_with (fail)
    go_ret
    exact ⟨by rw [HQ.out]; rfl,HW0.out ▸ HB0.out⟩
  go_enter Tryz.func32,Tryz.ntmps32
  go_wp2_with (fail)
  rw [HW0.out]
  refine (HT.out _ HB0.out).mono ?_
  rintro e w1 ⟨rfl,hb1⟩
  have HB1:=Lib.hid (bel_trans (B:=w.heap.size) HB0.out hb1)
  obtain ⟨u0,u1,u2,u3,u4,u5,u6,u7⟩:=C8.of_block (O0.out.below hb1).tl.hd
  obtain ⟨v0,v1,v2,v3,v4,v5,v6,v7⟩:=C8.of_block (O0.out.below hb1).hd
  clear hb1 x0 x1 x2 x3 x4 x5 x6 x7 y0 y1 y2 y3 y4 y5 y6 y7
  cases b4
  · go_wp2_with (fail)
    go_ret
    exact ⟨by rw [HQ.out]; rfl,HB1.out⟩
  · go_wp2_with (fail)
    refine (HE.out _ HB1.out).mono ?_
    rintro e w2 ⟨rfl,hb2⟩
    have HB2:=Lib.hid (bel_trans (B:=w.heap.size) HB1.out hb2)
    clear hb2
    go_wp2_with (fail)
    go_ret
    exact ⟨by rw [HQ.out]; rfl,HB2.out⟩
theorem dsame_any : ∀ (m : Nat) (kids kids' : Fr),kids.size < m → kids.Ok → kids'.Ok → NumsR kids → NumsR kids' → ∀ (h h' : Hd) (w : World),DatV w h kids → DatV w h' kids' → h.Ok kids.len → h'.Ok kids'.len → rightN h.fl h.f h.s h.xs = true → rightN h'.fl h'.f h'.s h'.xs = true →
    Calls Tryz.prog 32 #[datA h kids.len,datA h' kids'.len] w fun e w'=>e = .returned (.bool (headS h h' && sameF kids kids'))∧Below w.heap.size w w':=by
  intro m
  induction m with
  | zero=>intro kids _ h; omega
  | succ m ih =>
    intro kids kids' hsz hok hok' hn hn' h h' w hd hd' hho hho' hr hr'
    refine dsame_go h h' kids kids' _ w (tsame_any (numOk_of hr hho.f hd.xs hho.lm hho.c.1 hho.c.2) (numOk_of hr' hho'.f hd'.xs hho'.lm hho'.c.1 hho'.c.2) hr hr' hd.xs hd'.xs hho.lm hho'.lm hho.c hho'.c) fun W hW=>?_
    obtain ⟨b,off,hB,hF⟩:=(hd.below hW).items
    obtain ⟨b',off',hB',hF'⟩:=(hd'.below hW).items
    refine dequal_any kids kids' h.B h'.B h.cap h'.cap b off b' off' W hB hB' hF hF' hho.cap.1 hho.cap.2 hho'.cap.1 hho'.cap.2 fun hh k hh' k' j r r' e1 e2 W2 hW2 hD hD'=>?_
    have o1:=Fr.Ok.drop j hok
    have o2:=Fr.Ok.drop j hok'
    have n1:=NumsR.drop j hn
    have n2:=NumsR.drop j hn'
    rw [e1] at o1 n1
    rw [e2] at o2 n2
    exact ih k k' (by have:=size_item e1; omega) o1.2.1 o2.2.1 n1.2.1 n2.2.1 hh hh' W2 hD hD' o1.1 o2.1 n1.1 n2.1
end LM
end Go.Proofs.YtnpmfailpgbggaaGreatDoor
namespace Go.Proofs.YtnpmfailpgbggaaGreatDoor
open Go Go.Lib
namespace LM
def encL (r : Nat) : List UInt8 :=
  if r < 128 then [UInt8.ofNat r] else if r < 2048 then [UInt8.ofNat (192 + r / 64),UInt8.ofNat (128 + r % 64)]
  else if r < 65536 then [UInt8.ofNat (224 + r / 4096),UInt8.ofNat (128 + r / 64 % 64),UInt8.ofNat (128 + r % 64)]
  else [UInt8.ofNat (240 + r / 262144),UInt8.ofNat (128 + r / 4096 % 64),UInt8.ofNat (128 + r / 64 % 64),UInt8.ofNat (128 + r % 64)]
theorem ofnat_byte (b : UInt8) (n : Nat) (h : n = b.toNat) : UInt8.ofNat n = b:=by
  subst h
  simp
theorem enc_valid (r : Nat) (h : r < 55296 ∨ (57344 ≤ r∧r ≤ 1114111)) : Utf8.valid (r : Int) = true:=by
  rw [validRune_eq]
  unfold Go.validRune
  exact decide_eq_true (by omega)
theorem encI1 (r : Int) (h : Utf8.valid r = true) (h1 : r.toNat < 128) : (Utf8.encode r).data.toList = [UInt8.ofNat r.toNat]:=by
  unfold Utf8.encode
  simp only [h,if_true,h1]
theorem encI2 (r : Int) (h : Utf8.valid r = true) (h1 : ¬ r.toNat < 128) (h2 : r.toNat < 2048) : (Utf8.encode r).data.toList = [UInt8.ofNat (192 + r.toNat / 64),UInt8.ofNat (128 + r.toNat % 64)]:=by
  unfold Utf8.encode
  simp only [h,if_true,h1,if_false,h2]
theorem encI3 (r : Int) (h : Utf8.valid r = true) (h1 : ¬ r.toNat < 128) (h2 : ¬ r.toNat < 2048) (h3 : r.toNat < 65536) : (Utf8.encode r).data.toList = [UInt8.ofNat (224 + r.toNat / 4096),UInt8.ofNat (128 + r.toNat / 64 % 64),UInt8.ofNat (128 + r.toNat % 64)]:=by
  unfold Utf8.encode
  simp only [h,if_true,h1,if_false,h2,h3]
theorem encI4 (r : Int) (h : Utf8.valid r = true) (h1 : ¬ r.toNat < 128) (h2 : ¬ r.toNat < 2048) (h3 : ¬ r.toNat < 65536) : (Utf8.encode r).data.toList = [UInt8.ofNat (240 + r.toNat / 262144),UInt8.ofNat (128 + r.toNat / 4096 % 64),UInt8.ofNat (128 + r.toNat / 64 % 64),UInt8.ofNat (128 + r.toNat % 64)]:=by
  unfold Utf8.encode
  simp only [h,if_true,h1,if_false,h2,h3]
theorem enc1 (r : Nat) (h : r < 128) : encL r = [UInt8.ofNat r]:=by
  unfold encL
  rw [if_pos h]
theorem enc2 (r : Nat) (h0 : 128 ≤ r) (h : r < 2048) : encL r = [UInt8.ofNat (192 + r / 64),UInt8.ofNat (128 + r % 64)]:=by
  unfold encL
  rw [if_neg (by omega),if_pos h]
theorem enc3 (r : Nat) (h0 : 2048 ≤ r) (h : r < 65536) : encL r = [UInt8.ofNat (224 + r / 4096),UInt8.ofNat (128 + r / 64 % 64),UInt8.ofNat (128 + r % 64)]:=by
  unfold encL
  rw [if_neg (by omega),if_neg (by omega),if_pos h]
theorem enc4 (r : Nat) (h0 : 65536 ≤ r) : encL r = [UInt8.ofNat (240 + r / 262144),UInt8.ofNat (128 + r / 4096 % 64),UInt8.ofNat (128 + r / 64 % 64),UInt8.ofNat (128 + r % 64)]:=by
  unfold encL
  rw [if_neg (by omega),if_neg (by omega),if_neg (by omega)]
theorem encode_L (r : Nat) (h : r < 55296 ∨ (57344 ≤ r∧r ≤ 1114111)) : (Utf8.encode (r : Int)).data.toList = encL r:=by
  have hv:=enc_valid r h
  obtain ⟨z,hz⟩ : ∃ z : Int,(r : Int) = z:=⟨_,rfl⟩
  have hr : r = z.toNat:=by rw [← hz,Int.toNat_natCast]
  rw [hz] at hv ⊢
  by_cases h1 : r < 128
  · rw [enc1 r h1,encI1 z hv (hr ▸ h1),hr]
  · by_cases h2 : r < 2048
    · rw [enc2 r (by omega) h2,encI2 z hv (hr ▸ h1) (hr ▸ h2),hr]
    · by_cases h3 : r < 65536
      · rw [enc3 r (by omega) h3,encI3 z hv (hr ▸ h1) (hr ▸ h2) (hr ▸ h3),hr]
      · rw [enc4 r (by omega),encI4 z hv (hr ▸ h1) (hr ▸ h2) (hr ▸ h3),hr]
theorem enc_bad : encL 65533 = [239,191,189]:=by rfl
theorem take1 (l : List UInt8) (h : 1 ≤ l.length) : l.take 1 = [l.getD 0 0]:=by
  match l,h with
  | a :: t,_=>rfl
theorem take2 (l : List UInt8) (h : 2 ≤ l.length) : l.take 2 = [l.getD 0 0,l.getD 1 0]:=by
  match l,h with
  | a :: b :: t,_=>rfl
theorem take3 (l : List UInt8) (h : 3 ≤ l.length) : l.take 3 = [l.getD 0 0,l.getD 1 0,l.getD 2 0]:=by
  match l,h with
  | a :: b :: c :: t,_=>rfl
theorem take4 (l : List UInt8) (h : 4 ≤ l.length) : l.take 4 = [l.getD 0 0,l.getD 1 0,l.getD 2 0,l.getD 3 0]:=by
  match l,h with
  | a :: b :: c :: d :: t,_=>rfl
theorem bad_take (l : List UInt8) (h : l.take 3 = [239,191,189]) : decodeL l = (65533,3):=by
  have h3 : 3 ≤ l.length:=by
    have:=congrArg List.length h
    rw [List.length_take] at this
    have e : ([239,191,189] : List UInt8).length = 3:=rfl
    omega
  rw [take3 l h3] at h
  injection h with e0 h
  injection h with e1 h
  injection h with e2 h
  rw [decodeL_N,e0,e1,e2]
  have a0 : (239 : UInt8).toNat = 239:=rfl
  have a1 : (191 : UInt8).toNat = 191:=rfl
  have a2 : (189 : UInt8).toNat = 189:=rfl
  rw [a0,a1,a2]
  unfold decodeN
  simp [show 1 < l.length by omega,show 2 < l.length by omega]
theorem enc_dec (l : List UInt8) (hne : l ≠ []) :
    (decodeL l = (65533,1)∧l.take (encL 65533).length ≠ encL 65533) ∨ (¬ ((decodeL l).1 = 65533∧(decodeL l).2 = 1)∧l.take (encL (decodeL l).1).length = encL (decodeL l).1∧(encL (decodeL l).1).length = (decodeL l).2):=by
  have hl : 0 < l.length:=List.length_pos_iff.2 hne
  have bad : decodeL l = (65533,1) → l.take (encL 65533).length ≠ encL 65533:=fun h h2=>by
    rw [enc_bad] at h2
    rw [bad_take l h2] at h
    injection h with _ h
    exact absurd h (by decide)
  have e:=decodeL_N l
  generalize hd : decodeL l = d at e bad ⊢
  have q0:=(l.getD 0 0).toNat_lt
  have q1:=(l.getD 1 0).toNat_lt
  have q2:=(l.getD 2 0).toNat_lt
  have q3:=(l.getD 3 0).toNat_lt
  generalize h0 : (l.getD 0 0).toNat = b0 at e q0
  generalize h1 : (l.getD 1 0).toNat = b1 at e q1
  generalize h2 : (l.getD 2 0).toNat = b2 at e q2
  generalize h3 : (l.getD 3 0).toNat = b3 at e q3
  unfold decodeN at e
  split at e
  · rename_i c0
    subst e
    right
    rw [enc1 b0 c0]
    refine ⟨by simp; omega,?_,rfl⟩
    show l.take 1 = _
    rw [take1 l (by omega),ofnat_byte _ _ h0.symm]
  · rename_i c0
    split at e
    · rename_i c1
      split at e
      · rename_i c2
        subst e
        right
        simp only at *
        rw [enc2 _ (by omega) (by omega)]
        refine ⟨by simp,?_,rfl⟩
        show l.take 2 = _
        rw [take2 l (by omega),ofnat_byte (l.getD 0 0) _ (by omega),ofnat_byte (l.getD 1 0) _ (by omega)]
      · subst e; exact .inl ⟨rfl,bad rfl⟩
    · split at e
      · rename_i c1
        split at e
        · rename_i c2
          subst e
          right
          simp only at *
          rw [enc3 _ (by omega) (by omega)]
          refine ⟨by simp,?_,rfl⟩
          show l.take 3 = _
          rw [take3 l (by omega),ofnat_byte (l.getD 0 0) _ (by omega),ofnat_byte (l.getD 1 0) _ (by omega),ofnat_byte (l.getD 2 0) _ (by omega)]
        · subst e; exact .inl ⟨rfl,bad rfl⟩
      · split at e
        · rename_i c1
          split at e
          · rename_i c2
            subst e
            right
            simp only at *
            rw [enc4 _ (by omega)]
            refine ⟨by simp,?_,rfl⟩
            show l.take 4 = _
            rw [take4 l (by omega),ofnat_byte (l.getD 0 0) _ (by omega),ofnat_byte (l.getD 1 0) _ (by omega),ofnat_byte (l.getD 2 0) _ (by omega),ofnat_byte (l.getD 3 0) _ (by omega)]
          · subst e; exact .inl ⟨rfl,bad rfl⟩
        · subst e; exact .inl ⟨rfl,bad rfl⟩
theorem decN_valid (n b0 b1 b2 b3 : Nat) (h0 : b0 < 256) : (decodeN n b0 b1 b2 b3).1 < 55296 ∨ (57344 ≤ (decodeN n b0 b1 b2 b3).1∧(decodeN n b0 b1 b2 b3).1 ≤ 1114111):=by
  unfold decodeN
  repeat' split
  all_goals simp only
  all_goals omega
theorem dec_valid (l : List UInt8) : (decodeL l).1 < 55296 ∨ (57344 ≤ (decodeL l).1∧(decodeL l).1 ≤ 1114111):=by
  rw [decodeL_N]
  exact decN_valid _ _ _ _ _ (l.getD 0 0).toNat_lt
def signsL : Nat → List UInt8 → Option Nat
  | 0,_=>some 0
  | n + 1,l=>if l = [] then some 0 else if l.take (encL (decodeL l).1).length = encL (decodeL l).1 then (signsL n (l.drop (decodeL l).2)).map (· + 1) else none
theorem signs_nil : ∀ n,signsL n [] = some 0
  | 0=>rfl
  | n + 1=>by simp [signsL]
theorem signs_valid : ∀ (n : Nat) (s : ByteArray) (pos : Nat),s.size ≤ pos + n → signsL n (s.data.toList.drop pos) = if validD (s.data.toList.drop pos) = true then some (runeCountFrom s n pos) else none:=by
  intro n
  induction n with
  | zero =>
    intro s pos h
    have : s.data.toList.drop pos = []:=List.drop_eq_nil_of_le (by rw [← size_eq]; omega)
    rw [this,signs_nil,if_pos validD_nil]
    rfl
  | succ n ih =>
    intro s pos h
    by_cases hp : pos < s.size
    · have hne : s.data.toList.drop pos ≠ []:=by
        intro h0
        have:=congrArg List.length h0
        rw [List.length_drop,← size_eq] at this
        simp at this
        omega
      have hw:=decodeL_width (s.data.toList.drop pos)
      rw [signsL,if_neg hne,validD_step _ hne,runeCountFrom,if_pos hp,← decodeL_drop]
      rcases enc_dec _ hne with ⟨h1,h2⟩ | ⟨h1,h2,h3⟩
      · rw [h1]
        simp only
        rw [if_neg h2]
        simp
      · rw [if_pos h2,if_neg h1,List.drop_drop,ih s _ (by omega)]
        split
        · simp [Nat.add_comm]
        · rfl
    · have : s.data.toList.drop pos = []:=List.drop_eq_nil_of_le (by rw [← size_eq]; omega)
      rw [this,signs_nil,if_pos validD_nil,runeCountFrom_end s _ _ hp]
theorem signs_all (s : ByteArray) : signsL s.size s.data.toList = if validD s.data.toList = true then some (runeCount s) else none:=by
  have:=signs_valid s.size s 0 (by omega)
  rw [List.drop_zero] at this
  exact this
end LM
end Go.Proofs.YtnpmfailpgbggaaGreatDoor
namespace Go.Proofs.YtnpmfailpgbggaaGreatDoor
open Go Go.RowKit
namespace LM
theorem rsign_any (n : Int) (w : World) :
    Calls Tryz.prog 90 #[.int .i64 n] w fun e w'=>e = .returned (.bool (csignB n))∧w' = w:=by
  obtain ⟨b1,h1⟩ : ∃ b,decide (0 ≤ n) = b:=⟨_,rfl⟩
  obtain ⟨b2,h2⟩ : ∃ b,decide (n < 55296) = b:=⟨_,rfl⟩
  obtain ⟨b3,h3⟩ : ∃ b,decide (57343 < n) = b:=⟨_,rfl⟩
  obtain ⟨b4,h4⟩ : ∃ b,decide (n ≤ 1114111) = b:=⟨_,rfl⟩
  have HQ : Hid (csignB n = (b1 && b2 || b3 && b4)):=Lib.hid (by unfold csignB; rw [Bool.decide_and,Bool.decide_and,h1,h2,h3,h4])
  cases b1 <;> cases b2 <;> cases b3 <;> cases b4
  all_goals
    go_enter Tryz.func90,Tryz.ntmps90
    go_wp2_with (fail)
    go_ret
    exact ⟨by rw [HQ.out]; rfl,rfl⟩
theorem owns_at {W W' : World} {base n z : Nat} {e : TypeId} {l : Value} {xs : List Value} (h : W.ownsRow base e z l n xs) (hb : Below W.heap.size W W') : W'.ownsRow base e z l n xs :=
  h.kept (row:=none) ⟨hb.os,hb.tape,hb.output,hb.size,fun k hk _=>hb.block k hk⟩ (by cases l.ownBlock <;> simp)
theorem cell_alloc_first (W : World) (v : Value) (T : TypeId) : (W.alloc (.cells #[v] T)).cell? ⟨W.heap.size,0,none⟩ = some v:=by
  unfold World.cell?
  rw [heap_alloc_new]
  rfl
theorem extract_take (s : ByteArray) (p n : Nat) : (s.extract p (p + n)).data.toList = (s.data.toList.drop p).take n:=by
  rw [ByteArray.data_extract,Array.toList_extract]
  simp [List.extract]
theorem int_info : (Tryz.prog.info? 3).map (fun i=>(i.zero,i.size,decide (i.bytes ≤ 8))) = some (some (.int .i64 0),1,true):=by kernel_rfl
theorem rsigns_any (s : ByteArray) (hs : s.size ≤ 1000000) (w : World) :
    Calls Tryz.prog 91 #[.string s] w fun e w'=>(∃ A c,e = .returned (.tuple #[.slice A ((signsL s.size s.data.toList).getD 0) c,.bool (signsL s.size s.data.toList).isSome]))∧Below w.heap.size w w':=by
  obtain ⟨RES,hRES⟩ : ∃ RES,signsL s.size s.data.toList = RES:=⟨_,rfl⟩
  rw [hRES]
  obtain ⟨W1,hW1⟩ : ∃ W1,w.alloc (.cells #[] 3) = W1:=⟨_,rfl⟩
  have hb1 : Below w.heap.size w W1:=by rw [← hW1]; exact (Below.refl _ w).alloc (Nat.le_refl _) _
  have hs1 : W1.heap.size = w.heap.size + 1:=by rw [← hW1]; simp
  have hown : W1.ownsRow w.heap.size 3 1 (.slice (some ⟨w.heap.size,0,none⟩) 0 0) 0 []:=by
    have hm:=World.ownsRow_made w (e:=3) (size:=1) (base:=w.heap.size) #[] 0 (by omega) (Nat.zero_le _) (by simp)
    rw [hW1] at hm
    exact hm
  have hi:=int_info
  cases hinf : Tryz.prog.info? 3 with
  | none=>rw [hinf] at hi; cases hi
  | some i0 =>
  rw [hinf] at hi
  simp only [Option.map_some,Option.some.injEq,Prod.mk.injEq,decide_eq_true_eq] at hi
  have HB1:=Lib.hid hb1
  have HW1:=Lib.hid hW1
  have HS1:=Lib.hid hs1
  have HRES:=Lib.hid hRES
  have HOWN:=Lib.hid hown
  clear hb1 hW1 hs1 hRES hown
  go_enter Tryz.func91,Tryz.ntmps91
  go_wp2_with (fail)
  rw [HW1.out]
  obtain ⟨WI,hWI⟩ : ∃ WI,W1.iter s 0 = WI:=⟨_,rfl⟩
  have hbi : Below W1.heap.size W1 WI:=by rw [← hWI]; exact below_iterD W1 s 0
  have hit : WI.heap[w.heap.size + 1]? = some (.stringIter s 0):=by rw [← hWI,← HS1.out]; exact World.iter_heap W1 s 0
  have BI:=Lib.hid (bel_trans (B:=w.heap.size) HB1.out hbi)
  have IT:=Lib.hid hit
  have OI:=Lib.hid (owns_at HOWN.out hbi)
  rw [hWI]
  clear hbi hit hWI
  go_loopg [4,5,6,7,8] (s.size + 1) (fun kk l _ _ _ _ wr=>Below w.heap.size w wr∧∃ (lv : Value) (pos n : Nat),lv = l∧n ≤ pos∧s.size ≤ pos + kk - 1∧1 ≤ kk∧wr.heap[w.heap.size + 1]? = some (.stringIter s pos)∧(∃ xs,wr.ownsRow w.heap.size 3 1 lv n xs)∧lv.ownBlock ≠ some (w.heap.size + 1) ∧
    RES = (signsL (kk - 1) (s.data.toList.drop pos)).map (· + n))
  case atStart=>exact ⟨BI.out,_,0,0,rfl,Nat.le_refl _,by omega,by omega,IT.out,⟨_,OI.out⟩,by simp [Value.ownBlock],by rw [List.drop_zero,Nat.add_sub_cancel,HRES.out]; cases RES <;> simp⟩
  case round =>
    obtain ⟨r1,lv,pos,n,rfl,hnp,hfu,hk1,r2,⟨xs,r3⟩,r4,r5⟩:=hrel
    obtain ⟨kq,rfl⟩ : ∃ kq,gk = kq + 1:=⟨gk - 1,by omega⟩
    rw [Nat.add_sub_cancel] at r5
    by_cases hp : pos < s.size
    · have hne : s.data.toList.drop pos ≠ []:=by
        intro h0
        have:=congrArg List.length h0
        rw [List.length_drop,← Lib.size_eq] at this
        simp at this
        omega
      obtain ⟨kp,rfl⟩ : ∃ kp,kq = kp + 1:=⟨kq - 1,by omega⟩
      have hdl:=Lib.decodeL_drop s pos
      have hval:=dec_valid (s.data.toList.drop pos)
      have hwid:=Lib.decodeL_width (s.data.toList.drop pos)
      rw [signsL,if_neg hne,hdl] at r5
      rw [hdl] at hval hwid
      obtain ⟨⟨r,d⟩,hrd⟩ : ∃ x,Utf8.decode s pos = x:=⟨_,rfl⟩
      rw [hrd] at r5 hval hwid
      simp only at r5 hval hwid
      obtain ⟨W2,hW2⟩ : ∃ W2,wr.iterAt (w.heap.size + 1) s (pos + d) = W2:=⟨_,rfl⟩
      have hnx : ∀ ty,(Instr.next (.pointer (some ⟨w.heap.size + 1,0,none⟩)) true ty).run Tryz.prog wr = .ok (.tuple #[.bool true,.int .i64 (pos : Int),.int .i32 (r : Int)]) W2:=fun ty=>by
        rw [Lib.run_next_any_at wr (w.heap.size + 1) s pos ty r2 hp,hrd,hW2]
      have hz2 : W2.heap.size = wr.heap.size:=by rw [← hW2,Lib.iterAt_size]
      have q2 : W2.heap[w.heap.size + 1]? = some (.stringIter s (pos + d)):=by rw [← hW2]; exact Lib.iterAt_heap wr (w.heap.size + 1) s pos (pos + d) r2
      have q1 : Below w.heap.size w W2:=by rw [← hW2]; exact Lib.below_iterAt r1 (by omega) s (pos + d)
      have hlt2:=(Array.getElem?_eq_some_iff.1 r2).1
      have q3 : W2.ownsRow w.heap.size 3 1 lv n xs:=r3.kept (row:=some (w.heap.size + 1)) ⟨by rw [← hW2]; rfl,by rw [← hW2]; rfl,by rw [← hW2]; rfl,by omega,fun k hk hkn=>by rw [← hW2]; exact Lib.iterAt_other _ _ _ _ _ (fun e=>hkn (by rw [e]))⟩ (.inr r4)
      have hb2 : Below W2.heap.size W2 (W2.alloc (.cells #[.int .i32 (r : Int)] 21)):=(Below.refl _ W2).alloc (Nat.le_refl _) _
      obtain ⟨W3,hW3⟩ : ∃ W3,W2.alloc (.cells #[.int .i32 (r : Int)] 21) = W3:=⟨_,rfl⟩
      rw [hW3] at hb2
      obtain ⟨own,hown⟩ : ∃ o,runesBytes [(r : Int)] = o:=⟨_,rfl⟩
      have hcell : W3.cell? ⟨W2.heap.size,0,none⟩ = some (.int .i32 (r : Int)):=by rw [← hW3]; exact cell_alloc_first W2 _ _
      have hcv : (convert 87 9 (.slice (some ⟨W2.heap.size,0,none⟩) 1 1)).run Tryz.prog W3 = .ok (.string own) W3:=by
        rw [run_convert_runes W3 _ _ 21 ⟨W2.heap.size,0,none⟩ 1 1 [(r : Int)] (Nat.le_refl _) Tryz.underlying87 Tryz.underlying21 Tryz.underlying9 (fun j hj=>by
          have hj0 : j = 0:=by have : j < 1:=hj; omega
          subst hj0
          exact hcell),← hown]
        rfl
      rw [← hW3] at hcv
      have hcv2 : (convert 87 9 (.slice (some ⟨W2.heap.size,0,none⟩) 1 1)).run Tryz.prog (W2.alloc (.cells #[.int .i32 (r : Int)] 21)) = .ok (.string own) W3:=by rw [hcv,hW3]
      clear hcv
      have hol : own.data.toList = encL r:=by
        rw [← hown,← encode_L r hval]
        show (ByteArray.empty ++ Utf8.encode (r : Int)).data.toList = _
        rw [ByteArray.empty_append]
      have hoz : own.size = (encL r).length:=by rw [Lib.size_eq,hol]
      have hox : own.size ≤ 4:=by rw [← hown]; exact runesBytes_size_le [(r : Int)]
      have w0 : IntKind.i64.wrap (r : Int) = (r : Int):=by rw [IntKind.wrap_i64]; omega
      have w1 : IntKind.i64.wrap ((s.size : Int) - (pos : Int)) = ((s.size - pos : Nat) : Int):=by rw [IntKind.wrap_i64]; omega
      have w2 : IntKind.i64.wrap ((pos : Int) + (own.size : Int)) = ((pos + own.size : Nat) : Int):=by rw [IntKind.wrap_i64]; omega
      have hr5 : RES = (if (s.data.toList.drop pos).take own.size = own.data.toList then (signsL kp ((s.data.toList.drop pos).drop d)).map (· + 1) else none).map (· + n):=by rw [hoz,hol]; exact r5
      have hb3:=bel_trans (B:=w.heap.size) q1 hb2
      have hz3 : W3.heap.size = W2.heap.size + 1:=by rw [← hW3]; simp
      have HB3:=Lib.hid hb3
      have IT3:=Lib.hid ((hb2.block _ (by omega)).trans q2)
      have OW3:=Lib.hid (owns_at q3 hb2)
      have R5:=Lib.hid hr5
      have R4:=Lib.hid r4
      have HW3:=Lib.hid hW3
      have hlt3 : w.heap.size + 1 < W3.heap.size:=by omega
      have FU:=Lib.hid hfu
      by_cases hq1 : s.size - pos < own.size
      · have d1 : decide (((s.size - pos : Nat) : Int) < (own.size : Int)) = true:=decide_eq_true (by omega)
        have d2 : decide (s.size - pos < own.size) = true:=decide_eq_true hq1
        have RN : Hid (RES = none):=Lib.hid (by
          rw [R5.out,if_neg]
          · rfl
          · intro h
            have:=congrArg List.length h
            rw [List.length_take,List.length_drop,← Lib.size_eq,← Lib.size_eq] at this
            omega)
        clear hr5 hol hoz hown hW2 hW3 hcell q1 q2 q3 hb2 hb3 r1 r2 r3 r5 r4 hval hwid hrd hdl hne hz2 hz3 hlt2 hq1 hfu
        go_wp2_with (fail)
        go_ret2
        exact ⟨⟨none,0,by rw [RN.out]; rfl⟩,HB3.out⟩
      · have d1 : decide (((s.size - pos : Nat) : Int) < (own.size : Int)) = false:=decide_eq_false (by omega)
        have d2 : decide (s.size - pos < own.size) = false:=decide_eq_false hq1
        have l1 : pos + own.size ≤ s.size:=by omega
        have l2 : pos ≤ pos + own.size:=by omega
        have hext:=extract_take s pos own.size
        by_cases hq2 : (s.data.toList.drop pos).take own.size = own.data.toList
        · have f1 : ((s.extract pos (pos + own.size)).toList == own.toList) = true:=by
            rw [Go.ByteArray.toList_eq,Go.ByteArray.toList_eq,hext,hq2]
            simp
          have RN : Hid (RES = (signsL kp (s.data.toList.drop (pos + d))).map (· + (n + 1))):=Lib.hid (by
            rw [R5.out,if_pos hq2,List.drop_drop,Option.map_map]
            congr 1
            funext x
            show x + 1 + n = x + (n + 1)
            omega)
          have HHN:=Lib.hid hnp
          have HWD:=Lib.hid hwid
          clear hr5 hol hoz hown hW2 hW3 hcell q1 q2 q3 hb2 hb3 r1 r2 r3 r5 r4 hval hwid hrd hdl hne hz2 hz3 hq1 hq2 hext hfu hnp
          go_wp2_with (at_builtin; refine wpList_append_own_at _ rfl _ _ 102 rfl w.heap.size 3 i0 _ 1 i0.bytes Tryz.underlying102 hinf hi.1 hi.2.1 rfl rfl (by decide) _ _ _ rfl (OW3.out.alloc _) ⟨W3.heap.size,0,none⟩ 1 1 [.int .i64 (r : Int)] rfl ?qc1 ?qc2 ?qc3 ?qc4 ?qc5 ?qc6 ?_)
          case qc1=>rfl
          case qc2 =>
            intro j u hu
            have hj0 : j = 0:=by
              have:=(List.getElem?_eq_some_iff.1 hu).1
              have h1 : j < 1:=this
              omega
            subst hj0
            have hu2 : u = .int .i64 (r : Int):=by simpa using hu.symm
            subst hu2
            exact cell_alloc_first W3 _ _
          case qc3=>intro u hu; simp at hu; subst hu; rfl
          case qc4=>unfold maxLen; have:=HHN.out; omega
          case qc5 => have h1 : n + 1 ≤ 1000001 := by have := HHN.out; omega
                      exact Nat.le_trans (Nat.mul_le_mul h1 hi.2.2) (by decide)
          case qc6=>simp; omega
          intro v' w3 hown3 hgrow3 _ hnw3
          have hba : Below W3.heap.size W3 (W3.alloc (.cells #[.int .i64 (r : Int)] 3)):=(Below.refl _ W3).alloc (Nat.le_refl _) _
          have hob : ∀ k,lv.ownBlock = some k → w.heap.size ≤ k:=fun k hk=>by
            obtain ⟨-,⟨rfl,-⟩ | ⟨g,cap,cur,rfl,hg,-⟩⟩:=OW3.out
            · cases hk
            · injection hk with hk
              subst hk
              exact hg
          have NB:=Lib.hid ((bel_trans (B:=w.heap.size) HB3.out hba).grown hgrow3 (by have:=hba.size; omega) (fun k hk=>hob k hk))
          have NI:=Lib.hid (show w3.heap[w.heap.size + 1]? = some (.stringIter s (pos + d)) by
            have hs3:=hba.size
            rw [hgrow3.block _ (by omega) (fun e=>R4.out e.symm),hba.block _ (by omega)]
            exact IT3.out)
          have NO:=Lib.hid hown3
          have NX:=Lib.hid (show v'.ownBlock ≠ some (w.heap.size + 1) by
            rcases hnw3 with e | e
            · rw [e]; exact R4.out
            · rw [e]
              intro h
              injection h with h
              try rw [World.size_alloc] at h
              omega)
          clear hown3 hgrow3 hnw3 hba hob
          go_wp2_with (fail)
          go_roundg (kp + 1)
          case measure=>omega
          case rel=>exact ⟨NB.out,v',pos + d,n + 1,rfl,by have:=HHN.out; have:=HWD.out; omega,by have:=FU.out; have:=HWD.out; omega,by omega,NI.out,⟨_,NO.out⟩,NX.out,by rw [Nat.add_sub_cancel]; exact RN.out⟩
        · have f1 : ((s.extract pos (pos + own.size)).toList == own.toList) = false:=by
            rw [Go.ByteArray.toList_eq,Go.ByteArray.toList_eq,hext]
            exact beq_eq_false_iff_ne.2 hq2
          have RN : Hid (RES = none):=Lib.hid (by rw [R5.out,if_neg hq2]; rfl)
          clear hr5 hol hoz hown hW2 hW3 hcell q1 q2 q3 hb2 hb3 r1 r2 r3 r5 r4 hval hwid hrd hdl hne hz2 hz3 hlt2 hq1 hq2 hext hfu
          go_wp2_with (fail)
          go_ret2
          exact ⟨⟨none,0,by rw [RN.out]; rfl⟩,HB3.out⟩
    · have hnx : ∀ ty,(Instr.next (.pointer (some ⟨w.heap.size + 1,0,none⟩)) true ty).run Tryz.prog wr = .ok (.tuple #[.bool false]) wr:=fun ty=>Lib.run_next_end_at wr (w.heap.size + 1) s pos ty r2 hp
      have RN : Hid (RES = some n):=Lib.hid (by
        have : s.data.toList.drop pos = []:=List.drop_eq_nil_of_le (by rw [← Lib.size_eq]; omega)
        rw [r5,this,signs_nil]
        show some (0 + n) = some n
        rw [Nat.zero_add])
      obtain ⟨A,c,rfl⟩ : ∃ A c,lv = .slice A n c:=by
        obtain ⟨-,⟨rfl,h1⟩ | ⟨g,cap,cur,rfl,-⟩⟩:=r3
        · exact ⟨none,0,by rw [h1]⟩
        · exact ⟨_,_,rfl⟩
      have HR1:=Lib.hid r1
      clear r1 r2 r3 r4 r5 hfu hp hnp
      go_wp2_with (fail)
      go_ret2
      exact ⟨⟨A,c,by rw [RN.out]; rfl⟩,HR1.out⟩
end LM
end Go.Proofs.YtnpmfailpgbggaaGreatDoor
