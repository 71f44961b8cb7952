/- From what a row lists of the package variables to what the walks of package flo ask of them. -/
import Derived.Test.YtmocnoiieiakhaaGreatDoorV33
import Derived.Sort.AtCallIn
import Derived.Lib.BitFns
import Derived.Test.YtmocnoiieiakhaaGreatDoorV07
import Derived.Test.YtmocnoiieiakhaaGreatDoorV01
import Derived.Shelf.Strings.Builder1
import Derived.Shelf.Strings.Builder2
import Derived.Shelf.Small.Utf8
import Derived.Shelf.Small.Strs
import Derived.Shelf.Small.Wraps
import Derived.Shelf.Strings.BuilderF
import Derived.Shelf.Strings.BuilderK
import Derived.Shelf.Utf8.RuneCount
import Derived.Shelf.Strconv.Atoi
import Derived.Shelf.Strconv.Itoa0
import Derived.Shelf.Strconv.Itoa1
import Derived.Shelf.LaysM
import Derived.Shelf.Strconv.Itoa2
import Derived.Shelf.Strconv.Itoa3
import Derived.Shelf.Strconv.Clone
import Derived.Shelf.Strconv.Lower
import Derived.Shelf.Strconv.ParseUint10
import Derived.Shelf.Strconv.ParseUint10Empty
import Derived.Shelf.Strconv.ParseUint10Any
import Derived.Shelf.Strconv.RangeError
import Derived.Shelf.LaysC
import Derived.Shelf.Strconv.ToErrorRange
import Derived.Shelf.Strconv.ParseUintEmpty
import Derived.Shelf.Strconv.ParseUint10b64
import Derived.Shelf.Strconv.ParseUint10b32
import Derived.Shelf.Strconv.ParseUint10b16
import Derived.Shelf.Strconv.ParseUint10b8
import Derived.Shelf.Strconv.ParseUint10At
import Derived.Ground.MpProg
import Derived.Shelf.Pu.ParseUintPublic10
import Derived.Shelf.Pu.ErrVarParseUint
import Derived.Shelf.Strings.Search1
import Derived.Shelf.Strings.Search2
import Derived.Shelf.Strings.Search3
import Derived.Shelf.Strings.Cut
import Derived.Shelf.Strings.Shaped
import Derived.Shelf.Strings.Prefix
import Derived.Shelf.Strings.Fields
import Derived.Shelf.Strings.SplitShaped
import Derived.Shelf.Unicode.Latin
import Derived.Shelf.Strings.Runes
import Derived.Shelf.Strings.RuneCount
import Derived.Shelf.Strings.IndexAny
import Derived.Shelf.Strings.AsciiSet
import Derived.Shelf.Strings.IndexAnyAll
import Derived.Shelf.Bits.Mul64
import Derived.Shelf.Strings.Repeat
import Derived.Shelf.Unicode.Is16White
import Derived.Shelf.Unicode.IsSpaceAny
import Derived.Shelf.Unicode.Is16Any
import Derived.Shelf.Unicode.Is32Any
import Derived.Shelf.Unicode.ExclAny
import Derived.Test.YtmocnoiieiakhaaGreatDoorProg
import Derived.Deep.OwnRows
import Derived.Laws.CopyOwn
import Derived.Test.YtmocnoiieiakhaaGreatDoorV02
import Derived.Deep.RegionWith
import Derived.Maps.AppendAt
import Derived.Test.YtmocnoiieiakhaaGreatDoorV06
import Derived.Test.YtmocnoiieiakhaaGreatDoorV05
import Derived.Test.YtmocnoiieiakhaaGreatDoorV11
import Derived.Lib.OthersKept
import Derived.Lib.ParseIntBCases
import Derived.Lib.AtoiErrMem
import Derived.LaidSub
import Derived.Lib.LaidTab
import Derived.ChangeArms
import Derived.LaidMore
namespace Go.Proofs.YtmocnoiieiakhaaGreatDoor
open Go Go.RowKit Go.ChangeShapes
namespace LM
set_option linter.unusedVariables false

/-- what is listed under a name -/
theorem listed_of {l : List (String × DataW Unit)} {W : World} {nm : String} {d : DataW Unit} (h : laidMetH Tryz.prog l W)
    (he : ((l.filter fun x => x.2.handleName?.isNone).filter fun x => x.1 == nm) = [(nm, d)]) : laidMet Tryz.prog [(nm, d)] W := by
  have h1 := (laidMetH_iff.1 h).1.filter fun x => x.1 == nm
  rw [he] at h1
  exact h1

end LM
end Go.Proofs.YtmocnoiieiakhaaGreatDoor
