/- Walks of the library: strconv.FormatUint at base 10; the builder's contracts at this program. -/
import Derived.Test.YtdhjbhcfkajfdaaGreatDoorC09
import Derived.Test.YtdhjbhcfkajfdaaGreatDoorC05
import Derived.Test.YtdhjbhcfkajfdaaGreatDoorC11
import Derived.Lib.OthersKept
namespace Go.Proofs.YtdhjbhcfkajfdaaGreatDoor
open Go Go.Shelf Go.RowKit Go.Sort Go.Lib
namespace LM

theorem wstr_any (B b : Nat) (bs : List Value) (s : ByteArray) (w : World) (h : Lib.IsBuilderF 112 5 B b bs w) (hlen : bs.length + s.size ≤ 140737488355328) (hBw : B ≤ w.heap.size) :
    Calls Tryz.prog 104 #[.pointer (some ⟨b, 0, none⟩), .string s] w fun e w' => e = .returned (.tuple #[.int .i64 s.size, .nilIface]) ∧ (Lib.BuilderAtF 112 5 B b (.pointer (some ⟨b, 0, none⟩)) (bs ++ Lib.strCells s) w' ∧ Below B w w' ∧ Lib.OthersKept 5 (some b) w w') :=
  Any.Builder_WriteString_k { Tryz.lays105 with } Tryz.Builder_Extra_105 B b bs s w h hlen hBw

end LM
end Go.Proofs.YtdhjbhcfkajfdaaGreatDoor
