import Derived.Lib.ValidLaws
import Derived.Lib.RuneCount
import Derived.Laws.Runes
set_option linter.unusedVariables false
set_option linter.unusedSimpArgs false
set_option maxRecDepth 100000
set_option maxHeartbeats 16000000
namespace Go.Proofs.YtaonablbgicmpaaGreatDoor
open Go Go.Lib
namespace LM
def encL (r : Nat) : List UInt8 :=
 if r < 128 then [UInt8.ofNat r] else if r < 2048 then [UInt8.ofNat (192 + r / 64),UInt8.ofNat (128 + r % 64)]
 else if r < 65536 then [UInt8.ofNat (224 + r / 4096),UInt8.ofNat (128 + r / 64 % 64),UInt8.ofNat (128 + r % 64)]
 else [UInt8.ofNat (240 + r / 262144),UInt8.ofNat (128 + r / 4096 % 64),UInt8.ofNat (128 + r / 64 % 64),UInt8.ofNat (128 + r % 64)]
theorem ofnat_byte (b : UInt8) (n : Nat) (h : n = b.toNat) : UInt8.ofNat n = b:=by
 subst h
 simp
theorem enc_valid (r : Nat) (h : r < 55296 ∨ (57344 ≤ r∧r ≤ 1114111)) : Utf8.valid (r : Int) = true:=by
 rw [validRune_eq]
 unfold Go.validRune
 exact decide_eq_true (by omega)
theorem encI1 (r : Int) (h : Utf8.valid r = true) (h1 : r.toNat < 128) : (Utf8.encode r).data.toList = [UInt8.ofNat r.toNat]:=by
 unfold Utf8.encode
 simp only [h,if_true,h1]
theorem encI2 (r : Int) (h : Utf8.valid r = true) (h1 : ¬ r.toNat < 128) (h2 : r.toNat < 2048) : (Utf8.encode r).data.toList = [UInt8.ofNat (192 + r.toNat / 64),UInt8.ofNat (128 + r.toNat % 64)]:=by
 unfold Utf8.encode
 simp only [h,if_true,h1,if_false,h2]
theorem encI3 (r : Int) (h : Utf8.valid r = true) (h1 : ¬ r.toNat < 128) (h2 : ¬ r.toNat < 2048) (h3 : r.toNat < 65536) : (Utf8.encode r).data.toList = [UInt8.ofNat (224 + r.toNat / 4096),UInt8.ofNat (128 + r.toNat / 64 % 64),UInt8.ofNat (128 + r.toNat % 64)]:=by
 unfold Utf8.encode
 simp only [h,if_true,h1,if_false,h2,h3]
theorem encI4 (r : Int) (h : Utf8.valid r = true) (h1 : ¬ r.toNat < 128) (h2 : ¬ r.toNat < 2048) (h3 : ¬ r.toNat < 65536) : (Utf8.encode r).data.toList = [UInt8.ofNat (240 + r.toNat / 262144),UInt8.ofNat (128 + r.toNat / 4096 % 64),UInt8.ofNat (128 + r.toNat / 64 % 64),UInt8.ofNat (128 + r.toNat % 64)]:=by
 unfold Utf8.encode
 simp only [h,if_true,h1,if_false,h2,h3]
theorem enc1 (r : Nat) (h : r < 128) : encL r = [UInt8.ofNat r]:=by
 unfold encL
 rw [if_pos h]
theorem enc2 (r : Nat) (h0 : 128 ≤ r) (h : r < 2048) : encL r = [UInt8.ofNat (192 + r / 64),UInt8.ofNat (128 + r % 64)]:=by
 unfold encL
 rw [if_neg (by omega),if_pos h]
theorem enc3 (r : Nat) (h0 : 2048 ≤ r) (h : r < 65536) : encL r = [UInt8.ofNat (224 + r / 4096),UInt8.ofNat (128 + r / 64 % 64),UInt8.ofNat (128 + r % 64)]:=by
 unfold encL
 rw [if_neg (by omega),if_neg (by omega),if_pos h]
theorem enc4 (r : Nat) (h0 : 65536 ≤ r) : encL r = [UInt8.ofNat (240 + r / 262144),UInt8.ofNat (128 + r / 4096 % 64),UInt8.ofNat (128 + r / 64 % 64),UInt8.ofNat (128 + r % 64)]:=by
 unfold encL
 rw [if_neg (by omega),if_neg (by omega),if_neg (by omega)]
theorem encode_L (r : Nat) (h : r < 55296 ∨ (57344 ≤ r∧r ≤ 1114111)) : (Utf8.encode (r : Int)).data.toList = encL r:=by
 have hv:=enc_valid r h
 obtain ⟨z,hz⟩ : ∃ z : Int,(r : Int) = z:=⟨_,rfl⟩
 have hr : r = z.toNat:=by rw [← hz,Int.toNat_natCast]
 rw [hz] at hv ⊢
 by_cases h1 : r < 128
 ·rw [enc1 r h1,encI1 z hv (hr ▸ h1),hr]
 ·by_cases h2 : r < 2048
  ·rw [enc2 r (by omega) h2,encI2 z hv (hr ▸ h1) (hr ▸ h2),hr]
  ·by_cases h3 : r < 65536
   ·rw [enc3 r (by omega) h3,encI3 z hv (hr ▸ h1) (hr ▸ h2) (hr ▸ h3),hr]
   ·rw [enc4 r (by omega),encI4 z hv (hr ▸ h1) (hr ▸ h2) (hr ▸ h3),hr]
theorem enc_bad : encL 65533 = [239,191,189]:=by rfl
theorem take1 (l : List UInt8) (h : 1 ≤ l.length) : l.take 1 = [l.getD 0 0]:=by
 match l,h with
 | a :: t,_=>rfl
theorem take2 (l : List UInt8) (h : 2 ≤ l.length) : l.take 2 = [l.getD 0 0,l.getD 1 0]:=by
 match l,h with
 | a :: b :: t,_=>rfl
theorem take3 (l : List UInt8) (h : 3 ≤ l.length) : l.take 3 = [l.getD 0 0,l.getD 1 0,l.getD 2 0]:=by
 match l,h with
 | a :: b :: c :: t,_=>rfl
theorem take4 (l : List UInt8) (h : 4 ≤ l.length) : l.take 4 = [l.getD 0 0,l.getD 1 0,l.getD 2 0,l.getD 3 0]:=by
 match l,h with
 | a :: b :: c :: d :: t,_=>rfl
theorem bad_take (l : List UInt8) (h : l.take 3 = [239,191,189]) : decodeL l = (65533,3):=by
 have h3 : 3 ≤ l.length:=by
  have:=congrArg List.length h
  rw [List.length_take] at this
  have e : ([239,191,189] : List UInt8).length = 3:=rfl
  omega
 rw [take3 l h3] at h
 injection h with e0 h
 injection h with e1 h
 injection h with e2 h
 rw [decodeL_N,e0,e1,e2]
 have a0 : (239 : UInt8).toNat = 239:=rfl
 have a1 : (191 : UInt8).toNat = 191:=rfl
 have a2 : (189 : UInt8).toNat = 189:=rfl
 rw [a0,a1,a2]
 unfold decodeN
 simp [show 1 < l.length by omega,show 2 < l.length by omega]
theorem enc_dec (l : List UInt8) (hne : l ≠ []) :
  (decodeL l = (65533,1)∧l.take (encL 65533).length ≠ encL 65533) ∨ (¬ ((decodeL l).1 = 65533∧(decodeL l).2 = 1)∧l.take (encL (decodeL l).1).length = encL (decodeL l).1∧(encL (decodeL l).1).length = (decodeL l).2):=by
 have hl : 0 < l.length:=List.length_pos_iff.2 hne
 have bad : decodeL l = (65533,1) → l.take (encL 65533).length ≠ encL 65533:=fun h h2=>by
  rw [enc_bad] at h2
  rw [bad_take l h2] at h
  injection h with _ h
  exact absurd h (by decide)
 have e:=decodeL_N l
 generalize hd : decodeL l = d at e bad ⊢
 have q0:=(l.getD 0 0).toNat_lt
 have q1:=(l.getD 1 0).toNat_lt
 have q2:=(l.getD 2 0).toNat_lt
 have q3:=(l.getD 3 0).toNat_lt
 generalize h0 : (l.getD 0 0).toNat = b0 at e q0
 generalize h1 : (l.getD 1 0).toNat = b1 at e q1
 generalize h2 : (l.getD 2 0).toNat = b2 at e q2
 generalize h3 : (l.getD 3 0).toNat = b3 at e q3
 unfold decodeN at e
 split at e
 ·rename_i c0
  subst e
  right
  rw [enc1 b0 c0]
  refine ⟨by simp; omega,?_,rfl⟩
  show l.take 1 = _
  rw [take1 l (by omega),ofnat_byte _ _ h0.symm]
 ·rename_i c0
  split at e
  ·rename_i c1
   split at e
   ·rename_i c2
    subst e
    right
    simp only at *
    rw [enc2 _ (by omega) (by omega)]
    refine ⟨by simp,?_,rfl⟩
    show l.take 2 = _
    rw [take2 l (by omega),ofnat_byte (l.getD 0 0) _ (by omega),ofnat_byte (l.getD 1 0) _ (by omega)]
   ·subst e; exact .inl ⟨rfl,bad rfl⟩
  ·split at e
   ·rename_i c1
    split at e
    ·rename_i c2
     subst e
     right
     simp only at *
     rw [enc3 _ (by omega) (by omega)]
     refine ⟨by simp,?_,rfl⟩
     show l.take 3 = _
     rw [take3 l (by omega),ofnat_byte (l.getD 0 0) _ (by omega),ofnat_byte (l.getD 1 0) _ (by omega),ofnat_byte (l.getD 2 0) _ (by omega)]
    ·subst e; exact .inl ⟨rfl,bad rfl⟩
   ·split at e
    ·rename_i c1
     split at e
     ·rename_i c2
      subst e
      right
      simp only at *
      rw [enc4 _ (by omega)]
      refine ⟨by simp,?_,rfl⟩
      show l.take 4 = _
      rw [take4 l (by omega),ofnat_byte (l.getD 0 0) _ (by omega),ofnat_byte (l.getD 1 0) _ (by omega),ofnat_byte (l.getD 2 0) _ (by omega),ofnat_byte (l.getD 3 0) _ (by omega)]
     ·subst e; exact .inl ⟨rfl,bad rfl⟩
    ·subst e; exact .inl ⟨rfl,bad rfl⟩
theorem decN_valid (n b0 b1 b2 b3 : Nat) (h0 : b0 < 256) : (decodeN n b0 b1 b2 b3).1 < 55296 ∨ (57344 ≤ (decodeN n b0 b1 b2 b3).1∧(decodeN n b0 b1 b2 b3).1 ≤ 1114111):=by
 unfold decodeN
 repeat' split
 all_goals simp only
 all_goals omega
theorem dec_valid (l : List UInt8) : (decodeL l).1 < 55296 ∨ (57344 ≤ (decodeL l).1∧(decodeL l).1 ≤ 1114111):=by
 rw [decodeL_N]
 exact decN_valid _ _ _ _ _ (l.getD 0 0).toNat_lt
def signsL : Nat → List UInt8 → Option Nat
 | 0,_=>some 0
 | n + 1,l=>if l = [] then some 0 else if l.take (encL (decodeL l).1).length = encL (decodeL l).1 then (signsL n (l.drop (decodeL l).2)).map (· + 1) else none
theorem signs_nil : ∀ n,signsL n [] = some 0
 | 0=>rfl
 | n + 1=>by simp [signsL]
theorem signs_valid : ∀ (n : Nat) (s : ByteArray) (pos : Nat),s.size ≤ pos + n → signsL n (s.data.toList.drop pos) = if validD (s.data.toList.drop pos) = true then some (runeCountFrom s n pos) else none:=by
 intro n
 induction n with
 | zero =>
  intro s pos h
  have : s.data.toList.drop pos = []:=List.drop_eq_nil_of_le (by rw [← size_eq]; omega)
  rw [this,signs_nil,if_pos validD_nil]
  rfl
 | succ n ih =>
  intro s pos h
  by_cases hp : pos < s.size
  ·have hne : s.data.toList.drop pos ≠ []:=by
    intro h0
    have:=congrArg List.length h0
    rw [List.length_drop,← size_eq] at this
    simp at this
    omega
   have hw:=decodeL_width (s.data.toList.drop pos)
   rw [signsL,if_neg hne,validD_step _ hne,runeCountFrom,if_pos hp,← decodeL_drop]
   rcases enc_dec _ hne with ⟨h1,h2⟩ | ⟨h1,h2,h3⟩
   ·rw [h1]
    simp only
    rw [if_neg h2]
    simp
   ·rw [if_pos h2,if_neg h1,List.drop_drop,ih s _ (by omega)]
    split
    ·simp [Nat.add_comm]
    ·rfl
  ·have : s.data.toList.drop pos = []:=List.drop_eq_nil_of_le (by rw [← size_eq]; omega)
   rw [this,signs_nil,if_pos validD_nil,runeCountFrom_end s _ _ hp]
theorem signs_all (s : ByteArray) : signsL s.size s.data.toList = if validD s.data.toList = true then some (runeCount s) else none:=by
 have:=signs_valid s.size s 0 (by omega)
 rw [List.drop_zero] at this
 exact this
end LM
end Go.Proofs.YtaonablbgicmpaaGreatDoor
