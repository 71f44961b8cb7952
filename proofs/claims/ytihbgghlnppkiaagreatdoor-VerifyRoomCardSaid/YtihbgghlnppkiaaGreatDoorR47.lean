import Derived.Lib.ValidLaws
import Derived.Lib.RuneCount
import Derived.Laws.Runes
set_option linter.unusedVariables false
set_option linter.unusedSimpArgs false
set_option maxRecDepth 100000
set_option maxHeartbeats 16000000
namespace Go.Proofs.YtihbgghlnppkiaaGreatDoor
open Go Go.Lib
namespace LM
def encL (r : Nat) : List UInt8 :=
  if r < 128 then [UInt8.ofNat r] else if r < 2048 then [UInt8.ofNat (192 + r / 64),UInt8.ofNat (128 + r % 64)]
  else if r < 65536 then [UInt8.ofNat (224 + r / 4096),UInt8.ofNat (128 + r / 64 % 64),UInt8.ofNat (128 + r % 64)]
  else [UInt8.ofNat (240 + r / 262144),UInt8.ofNat (128 + r / 4096 % 64),UInt8.ofNat (128 + r / 64 % 64),UInt8.ofNat (128 + r % 64)]
theorem enc_valid (r : Nat) (h : r < 55296 ∨ (57344 ≤ r∧r ≤ 1114111)) : Utf8.valid (r : Int) = true:=by
  rw [validRune_eq]
  unfold Go.validRune
  exact decide_eq_true (by omega)
theorem encI1 (r : Int) (h : Utf8.valid r = true) (h1 : r.toNat < 128) : (Utf8.encode r).data.toList = [UInt8.ofNat r.toNat]:=by
  unfold Utf8.encode
  simp only [h,if_true,h1]
theorem encI2 (r : Int) (h : Utf8.valid r = true) (h1 : ¬ r.toNat < 128) (h2 : r.toNat < 2048) : (Utf8.encode r).data.toList = [UInt8.ofNat (192 + r.toNat / 64),UInt8.ofNat (128 + r.toNat % 64)]:=by
  unfold Utf8.encode
  simp only [h,if_true,h1,if_false,h2]
theorem encI3 (r : Int) (h : Utf8.valid r = true) (h1 : ¬ r.toNat < 128) (h2 : ¬ r.toNat < 2048) (h3 : r.toNat < 65536) : (Utf8.encode r).data.toList = [UInt8.ofNat (224 + r.toNat / 4096),UInt8.ofNat (128 + r.toNat / 64 % 64),UInt8.ofNat (128 + r.toNat % 64)]:=by
  unfold Utf8.encode
  simp only [h,if_true,h1,if_false,h2,h3]
theorem encI4 (r : Int) (h : Utf8.valid r = true) (h1 : ¬ r.toNat < 128) (h2 : ¬ r.toNat < 2048) (h3 : ¬ r.toNat < 65536) : (Utf8.encode r).data.toList = [UInt8.ofNat (240 + r.toNat / 262144),UInt8.ofNat (128 + r.toNat / 4096 % 64),UInt8.ofNat (128 + r.toNat / 64 % 64),UInt8.ofNat (128 + r.toNat % 64)]:=by
  unfold Utf8.encode
  simp only [h,if_true,h1,if_false,h2,h3]
theorem enc1 (r : Nat) (h : r < 128) : encL r = [UInt8.ofNat r]:=by
  unfold encL
  rw [if_pos h]
theorem enc2 (r : Nat) (h0 : 128 ≤ r) (h : r < 2048) : encL r = [UInt8.ofNat (192 + r / 64),UInt8.ofNat (128 + r % 64)]:=by
  unfold encL
  rw [if_neg (by omega),if_pos h]
theorem enc3 (r : Nat) (h0 : 2048 ≤ r) (h : r < 65536) : encL r = [UInt8.ofNat (224 + r / 4096),UInt8.ofNat (128 + r / 64 % 64),UInt8.ofNat (128 + r % 64)]:=by
  unfold encL
  rw [if_neg (by omega),if_neg (by omega),if_pos h]
theorem enc4 (r : Nat) (h0 : 65536 ≤ r) : encL r = [UInt8.ofNat (240 + r / 262144),UInt8.ofNat (128 + r / 4096 % 64),UInt8.ofNat (128 + r / 64 % 64),UInt8.ofNat (128 + r % 64)]:=by
  unfold encL
  rw [if_neg (by omega),if_neg (by omega),if_neg (by omega)]
theorem encode_L (r : Nat) (h : r < 55296 ∨ (57344 ≤ r∧r ≤ 1114111)) : (Utf8.encode (r : Int)).data.toList = encL r:=by
  have hv:=enc_valid r h
  obtain ⟨z,hz⟩ : ∃ z : Int,(r : Int) = z:=⟨_,rfl⟩
  have hr : r = z.toNat:=by rw [← hz,Int.toNat_natCast]
  rw [hz] at hv ⊢
  by_cases h1 : r < 128
  · rw [enc1 r h1,encI1 z hv (hr ▸ h1),hr]
  · by_cases h2 : r < 2048
    · rw [enc2 r (by omega) h2,encI2 z hv (hr ▸ h1) (hr ▸ h2),hr]
    · by_cases h3 : r < 65536
      · rw [enc3 r (by omega) h3,encI3 z hv (hr ▸ h1) (hr ▸ h2) (hr ▸ h3),hr]
      · rw [enc4 r (by omega),encI4 z hv (hr ▸ h1) (hr ▸ h2) (hr ▸ h3),hr]
theorem decN_valid (n b0 b1 b2 b3 : Nat) (h0 : b0 < 256) : (decodeN n b0 b1 b2 b3).1 < 55296 ∨ (57344 ≤ (decodeN n b0 b1 b2 b3).1∧(decodeN n b0 b1 b2 b3).1 ≤ 1114111):=by
  unfold decodeN
  repeat' split
  all_goals simp only
  all_goals omega
theorem dec_valid (l : List UInt8) : (decodeL l).1 < 55296 ∨ (57344 ≤ (decodeL l).1∧(decodeL l).1 ≤ 1114111):=by
  rw [decodeL_N]
  exact decN_valid _ _ _ _ _ (l.getD 0 0).toNat_lt
end LM
end Go.Proofs.YtihbgghlnppkiaaGreatDoor
