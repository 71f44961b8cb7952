import Derived.Test.YtihbgghlnppkiaaGreatDoorProg
import Derived.Test.YtihbgghlnppkiaaGreatDoorR02
import Derived.Test.YtihbgghlnppkiaaGreatDoorR09
import Derived.Handy
import Derived.Test.YtihbgghlnppkiaaGreatDoorR28
import Derived.Laws.FloatArith
import Derived.Laws.BitsAllLaws
import Derived.Deep.LoopGhost
set_option linter.unusedVariables false
set_option linter.unusedSimpArgs false
set_option maxRecDepth 100000
set_option maxHeartbeats 16000000
namespace Go.Proofs.YtihbgghlnppkiaaGreatDoor
open Go Go.Shelf Go.RowKit Go.Sort Go.Lib
namespace LM
def digB (l : List UInt8) : Bool:=l.all fun c=>decide (48 ≤ c.toNat) && decide (c.toNat ≤ 57)
def natV2 : Value → Nat | .int _ n=>n.toNat | _=>0
theorem areDigits_any (s : ByteArray) (w : World) (hs : s.size ≤ 9223372036854775807) :
    Calls Tryz.prog 166 #[.string s] w fun e w'=>e = .returned (.bool (digB s.data.toList))∧w = w':=by
  go_enter Tryz.func166,Tryz.ntmps166
  go_wp2_with (fail)
  go_loop [3,6] (fun _ i=>∃ j : Nat,j ≤ s.size∧i = .int .i64 (j : Int)∧digB (s.data.toList.take j) = true) (fun _ i=>s.size - natV2 i)
  case atStart=>exact ⟨0,Nat.zero_le _,rfl,rfl⟩
  case round =>
    obtain ⟨j,hj,rfl,hd⟩:=hrel
    have HD:=Lib.hid hd
    clear hd
    by_cases hjs : j < s.size
    · have hl : j < s.data.toList.length:=by rw [← Lib.size_eq]; exact hjs
      have htk : digB (s.data.toList.take (j + 1)) = (decide (48 ≤ (s.data.toList[j]).toNat) && decide ((s.data.toList[j]).toNat ≤ 57)):=by
        rw [List.take_succ_eq_append_getElem hl]
        have h:=HD.out
        unfold digB at h ⊢
        rw [List.all_append,h]
        simp
      have hall : digB s.data.toList = true → digB (s.data.toList.take (j + 1)) = true:=fun h=>by
        unfold digB at h ⊢
        exact List.all_eq_true.2 fun x hx=>List.all_eq_true.1 h x (List.mem_of_mem_take hx)
      have e : s.data.toList[j] = s[j]:=rfl
      rw [e] at htk
      have HTK:=Lib.hid htk
      have HALL:=Lib.hid hall
      clear htk hall
      by_cases h1 : s[j].toNat < 48
      · go_wp2_with (fail)
        go_ret
        have hf : digB s.data.toList = false:=by
          cases hb : digB s.data.toList with
          | false=>rfl
          | true=>have h3:=(HTK.out).symm.trans (HALL.out hb); simp at h3; omega
        rw [hf]
        exact ⟨rfl,rfl⟩
      · by_cases h2 : 57 < s[j].toNat
        · go_wp2_with (fail)
          go_ret
          have hf : digB s.data.toList = false:=by
            cases hb : digB s.data.toList with
            | false=>rfl
            | true=>have h3:=(HTK.out).symm.trans (HALL.out hb); simp at h3; omega
          rw [hf]
          exact ⟨rfl,rfl⟩
        · go_wp2_with (fail)
          go_round
          case rel=>exact ⟨j + 1,by omega,by go_num,by rw [HTK.out]; simp; omega⟩
          case measure=>simp [natV2]; omega
    · obtain rfl : j = s.size:=by omega
      go_wp2_with (fail)
      go_ret
      have h3:=HD.out
      rw [List.take_of_length_le (by rw [← Lib.size_eq]; exact Nat.le_refl _)] at h3
      rw [h3]
      exact ⟨rfl,rfl⟩
theorem extract_all (s : ByteArray) : s.extract 0 s.size = s:=by
  cases s with
  | mk a=>simp [ByteArray.extract,ByteArray.copySlice,ByteArray.size]
theorem cut_in (s : ByteArray) (c : UInt8) (w : World) (hs : s.size ≤ 4611686018427387904) (n : Nat) (hn : Lib.indexByte s.data.toList c = (n : Int)) (hns : n < s.size) :
    Calls Tryz.prog 119 #[.string s,.string ⟨#[c]⟩] w fun e w'=>e = .returned (.tuple #[.string (s.extract 0 n),.string (s.extract (n + 1) s.size),.bool true])∧∃ k,w' = w.drewN k:=by
  have hi:=fun W=>Tryz.stringslite_Index_one s c W
  rw [hn] at hi
  have HI:=Lib.hid hi
  clear hn hi
  go_enter Tryz.func119,Tryz.ntmps119
  go_wp2_with (fail)
  refine (HI.out _).mono ?_
  rintro e w' ⟨rfl,rfl⟩
  go_wp2_with (fail)
  go_quiet (fail)
  go_wp2_with (fail)
  go_returns
  exact ⟨rfl,_,rfl⟩
theorem cut_no (s : ByteArray) (c : UInt8) (w : World) (hs : s.size ≤ 4611686018427387904) (hn : Lib.indexByte s.data.toList c = -1) :
    Calls Tryz.prog 119 #[.string s,.string ⟨#[c]⟩] w fun e w'=>e = .returned (.tuple #[.string s,.string ⟨#[]⟩,.bool false])∧w = w':=by
  have hi:=fun W=>Tryz.stringslite_Index_one s c W
  rw [hn] at hi
  have HI:=Lib.hid hi
  clear hn hi
  go_enter Tryz.func119,Tryz.ntmps119
  go_wp2_with (fail)
  refine (HI.out _).mono ?_
  rintro e w' ⟨rfl,rfl⟩
  go_wp2
  go_returns
  exact ⟨rfl,rfl⟩
theorem scut_in (s : ByteArray) (c : UInt8) (w : World) (hs : s.size ≤ 4611686018427387904) (n : Nat) (hn : Lib.indexByte s.data.toList c = (n : Int)) (hns : n < s.size) :
    Calls Tryz.prog 105 #[.string s,.string ⟨#[c]⟩] w fun e w'=>e = .returned (.tuple #[.string (s.extract 0 n),.string (s.extract (n + 1) s.size),.bool true])∧∃ k,w' = w.drewN k:=by
  have HC:=Lib.hid (cut_in s c w hs n hn hns)
  clear hn
  go_enter Tryz.func105,Tryz.ntmps105
  go_wp2_with (fail)
  refine HC.out.mono ?_
  rintro e w' ⟨rfl,k,rfl⟩
  go_wp2
  go_returns
  exact ⟨rfl,k,rfl⟩
theorem scut_no (s : ByteArray) (c : UInt8) (w : World) (hs : s.size ≤ 4611686018427387904) (hn : Lib.indexByte s.data.toList c = -1) :
    Calls Tryz.prog 105 #[.string s,.string ⟨#[c]⟩] w fun e w'=>e = .returned (.tuple #[.string s,.string ⟨#[]⟩,.bool false])∧w = w':=by
  have HC:=Lib.hid (cut_no s c w hs hn)
  clear hn
  go_enter Tryz.func105,Tryz.ntmps105
  go_wp2_with (fail)
  refine HC.out.mono ?_
  rintro e w' ⟨rfl,rfl⟩
  go_wp2
  go_returns
  exact ⟨rfl,rfl⟩
def unsigB : List UInt8 → List UInt8
  | []=>[]
  | c :: l=>if c = 43 ∨ c = 45 then l else c :: l
theorem unsigned_any (s : ByteArray) (w : World) (hs : s.size ≤ 4611686018427387904) :
    Calls Tryz.prog 165 #[.string s] w fun e w'=>(∃ t,e = .returned (.string t)∧t.data.toList = unsigB s.data.toList∧t.size ≤ s.size)∧∃ k,w' = w.drewN k:=by
  have h1:=fun W=>Tryz.strings_HasPrefix s ⟨#[43]⟩ W
  have h2:=fun W=>Tryz.strings_HasPrefix s ⟨#[45]⟩ W
  have hsz:=Lib.size_eq s
  rcases hl : s.data.toList with _ | ⟨c,l⟩
  · rw [hl] at h1 h2
    have H1 : Hid (∀ W,Calls Tryz.prog 152 #[.string s,.string ⟨#[43]⟩] W fun e w'=>e = .returned (.bool false)∧w' = W):=Lib.hid h1
    have H2 : Hid (∀ W,Calls Tryz.prog 152 #[.string s,.string ⟨#[45]⟩] W fun e w'=>e = .returned (.bool false)∧w' = W):=Lib.hid h2
    have HL:=Lib.hid hl
    clear h1 h2 hl hsz
    go_enter Tryz.func165,Tryz.ntmps165
    go_wp2_with (first
      | (refine (H1.out _).mono ?_; rintro e w' ⟨rfl,rfl⟩)
      | (refine (H2.out _).mono ?_; rintro e w' ⟨rfl,rfl⟩))
    go_ret
    exact ⟨⟨s,rfl,by rw [HL.out]; rfl,Nat.le_refl _⟩,0,rfl⟩
  · rw [hl] at h1 h2 hsz
    have hs1 : 1 ≤ s.size:=by rw [hsz]; simp
    have hrest : (s.extract 1 s.size).data.toList = l:=by
      rw [Lib.extract_data,hl,hsz]
      simp
    have hres : (s.extract 1 s.size).size ≤ s.size:=by rw [Lib.size_eq,hrest,hsz]; simp
    have HR:=Lib.hid hrest
    have HS:=Lib.hid hres
    have HL:=Lib.hid hl
    clear hrest hres hsz hl
    by_cases hc : c = 43
    · subst hc
      have H1 : Hid (∀ W,Calls Tryz.prog 152 #[.string s,.string ⟨#[43]⟩] W fun e w'=>e = .returned (.bool true)∧w' = W):=Lib.hid (by
        have e : hasPrefix (43 :: l) [43] = true:=by simp [hasPrefix,List.isPrefixOf]
        intro W; have h:=h1 W; rw [e] at h; exact h)
      clear h1 h2
      go_enter Tryz.func165,Tryz.ntmps165
      go_wp2_with (refine (H1.out _).mono ?_; rintro e w' ⟨rfl,rfl⟩)
      go_ret
      exact ⟨⟨_,rfl,by rw [HR.out]; simp [unsigB],HS.out⟩,0,rfl⟩
    · have e1 : hasPrefix (c :: l) [43] = false:=by
        have h43 : (43 == c) = false:=by rw [beq_eq_false_iff_ne]; exact fun h=>hc h.symm
        simp [hasPrefix,List.isPrefixOf,h43]
      have H1 : Hid (∀ W,Calls Tryz.prog 152 #[.string s,.string ⟨#[43]⟩] W fun e w'=>e = .returned (.bool false)∧w' = W):=Lib.hid (by
        intro W; have h:=h1 W; rw [e1] at h; exact h)
      by_cases hc2 : c = 45
      · subst hc2
        have H2 : Hid (∀ W,Calls Tryz.prog 152 #[.string s,.string ⟨#[45]⟩] W fun e w'=>e = .returned (.bool true)∧w' = W):=Lib.hid (by
          have e : hasPrefix (45 :: l) [45] = true:=by simp [hasPrefix,List.isPrefixOf]
          intro W; have h:=h2 W; rw [e] at h; exact h)
        clear h1 h2 e1
        go_enter Tryz.func165,Tryz.ntmps165
        go_wp2_with (first
          | (refine (H1.out _).mono ?_; rintro e w' ⟨rfl,rfl⟩)
          | (refine (H2.out _).mono ?_; rintro e w' ⟨rfl,rfl⟩))
        go_ret
        exact ⟨⟨_,rfl,by rw [HR.out]; simp [unsigB],HS.out⟩,0,rfl⟩
      · have e2 : hasPrefix (c :: l) [45] = false:=by
          have h45 : (45 == c) = false:=by rw [beq_eq_false_iff_ne]; exact fun h=>hc2 h.symm
          simp [hasPrefix,List.isPrefixOf,h45]
        have H2 : Hid (∀ W,Calls Tryz.prog 152 #[.string s,.string ⟨#[45]⟩] W fun e w'=>e = .returned (.bool false)∧w' = W):=Lib.hid (by
          intro W; have h:=h2 W; rw [e2] at h; exact h)
        have HC : Hid (unsigB (c :: l) = c :: l):=Lib.hid (by simp [unsigB,hc,hc2])
        clear h1 h2 e1 e2
        go_enter Tryz.func165,Tryz.ntmps165
        go_wp2_with (first
          | (refine (H1.out _).mono ?_; rintro e w' ⟨rfl,rfl⟩)
          | (refine (H2.out _).mono ?_; rintro e w' ⟨rfl,rfl⟩))
        go_ret
        exact ⟨⟨s,rfl,by rw [HL.out,HC.out],Nat.le_refl _⟩,0,rfl⟩
end LM
namespace LM
theorem byte_at {s : ByteArray} {l : List UInt8} (h : s.data.toList = l) (j : Nat) (hj : j < s.size) (c : UInt8) (hc : l[j]? = some c) : s[j].toNat = c.toNat:=by
  subst h
  have h2 : s.data.toList[j]? = some s[j]:=by
    rw [Array.getElem?_toList]
    exact Array.getElem?_eq_getElem hj
  rw [h2] at hc
  injection hc with hc
  rw [hc]
end LM
end Go.Proofs.YtihbgghlnppkiaaGreatDoor
