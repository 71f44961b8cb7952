import Derived.Deep.OwnRows
import Derived.Laws.CopyOwn
import Derived.Test.YtaonablbgicmpaaGreatDoorE03
import Derived.Test.YtaonablbgicmpaaGreatDoorE01
import Derived.Deep.RegionWith
import Derived.Maps.AppendAt
set_option linter.unusedVariables false
set_option linter.unusedSimpArgs false
set_option maxRecDepth 100000
set_option maxHeartbeats 16000000
namespace Go.Proofs.YtaonablbgicmpaaGreatDoor
open Go.RowKit
namespace LM
theorem u32_info : (Tryz.prog.info? 159).map (fun i=>(i.zero,i.size,i.bytes)) = some (some (.int .u32 0),1,4):=by kernel_rfl
theorem addr_add (b off j : Nat) : Addr.add ⟨b,off,none⟩ j = ⟨b,off + j,none⟩:=by
 unfold Addr.add; split <;> simp_all
end LM
namespace LM
end LM
namespace LM
end LM
namespace LM
end LM
namespace LM
theorem own_cases {w : World} {base : Nat} {v : Value} {xs : List Nat} (h : w.ownsRow base 159 1 v xs.length (U xs)) :
  (v = .slice none 0 0∧xs = []) ∨ ∃ g cap rest,v = .slice (some ⟨g,0,none⟩) xs.length cap∧base ≤ g∧Blk w g (U xs ++ rest)∧xs.length ≤ cap∧cap ≤ maxLen∧(U xs ++ rest).length = cap:=by
 obtain ⟨_,h | ⟨g,cap,cur,rfl,hb,hh,hn,hc,hs,ht⟩⟩:=h
 ·exact .inl ⟨h.1,List.eq_nil_of_length_eq_zero h.2⟩
 ·refine .inr ⟨g,cap,cur.toList.drop xs.length,rfl,hb,?_,hn,hc,?_⟩
  ·unfold Blk
   rw [← ht,Nat.mul_one,List.take_append_drop]
   exact hh
  ·rw [← ht,Nat.mul_one,List.take_append_drop]
   simpa using hs
theorem u_one (xs : List Nat) : ∀ v ∈ U xs,v.oneCell' = true:=by
 intro v hv
 simp only [U,List.mem_map] at hv
 obtain ⟨x,_,rfl⟩:=hv
 rfl
end LM
namespace LM
end LM
namespace LM
end LM
namespace LM
end LM
end Go.Proofs.YtaonablbgicmpaaGreatDoor
