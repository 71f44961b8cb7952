import Derived.Test.YtaonablbgicmpaaGreatDoorProg
import Derived.Test.YtaonablbgicmpaaGreatDoorE02
import Derived.Test.YtaonablbgicmpaaGreatDoorE09
import Derived.Handy
import Derived.Test.YtaonablbgicmpaaGreatDoorE22
import Derived.Laws.FloatArith
import Derived.Laws.BitsAllLaws
import Derived.Deep.LoopGhost
set_option linter.unusedVariables false
set_option linter.unusedSimpArgs false
set_option maxRecDepth 100000
set_option maxHeartbeats 16000000
namespace Go.Proofs.YtaonablbgicmpaaGreatDoor
open Go Go.Shelf Go.RowKit Go.Sort Go.Lib
namespace LM
def digB (l : List UInt8) : Bool:=l.all fun c=>decide (48 ≤ c.toNat) && decide (c.toNat ≤ 57)
theorem extract_all (s : ByteArray) : s.extract 0 s.size = s:=by
 cases s with
 | mk a=>simp [ByteArray.extract,ByteArray.copySlice,ByteArray.size]
def unsigB : List UInt8 → List UInt8
 | []=>[]
 | c :: l=>if c = 43 ∨ c = 45 then l else c :: l
end LM
namespace LM
theorem byte_at {s : ByteArray} {l : List UInt8} (h : s.data.toList = l) (j : Nat) (hj : j < s.size) (c : UInt8) (hc : l[j]? = some c) : s[j].toNat = c.toNat:=by
 subst h
 have h2 : s.data.toList[j]? = some s[j]:=by
  rw [Array.getElem?_toList]
  exact Array.getElem?_eq_getElem hj
 rw [h2] at hc
 injection hc with hc
 rw [hc]
end LM
end Go.Proofs.YtaonablbgicmpaaGreatDoor
