import Derived.Shelf.Strings.SlTrimAscii
import Derived.Shelf.Unicode.ValidAny
import Derived.Shelf.SlicesE.Clone
import Derived.Test.YtihbgghlnppkiaaGreatDoorProg
import Derived.Test.YtihbgghlnppkiaaGreatDoorR09
import Derived.Shelf.Strings.Builder1
import Derived.Shelf.Strings.Builder2
import Derived.Shelf.Small.Strs
import Derived.Shelf.Small.Wraps
import Derived.Shelf.Strings.BuilderF
import Derived.Shelf.Strings.BuilderK
import Derived.Shelf.Utf8.RuneCount
import Derived.Shelf.Strconv.Atoi
import Derived.Shelf.Strconv.Itoa0
import Derived.Shelf.Strconv.Itoa1
import Derived.Shelf.LaysM
import Derived.Shelf.Strconv.Itoa2
import Derived.Shelf.Strconv.Itoa3
import Derived.Shelf.Strconv.Clone
import Derived.Shelf.Strconv.Lower
import Derived.Shelf.Strconv.ParseUint10
import Derived.Shelf.Strconv.ParseUint10Empty
import Derived.Shelf.Strconv.ParseUint10Any
import Derived.Shelf.Strconv.RangeError
import Derived.Shelf.LaysC
import Derived.Shelf.Strconv.ToErrorRange
import Derived.Shelf.Strconv.ParseUintEmpty
import Derived.Shelf.Strconv.ParseUint10b64
import Derived.Shelf.Strconv.ParseUint10b32
import Derived.Shelf.Strconv.ParseUint10b16
import Derived.Shelf.Strconv.ParseUint10b8
import Derived.Shelf.Strconv.ParseUint10At
import Derived.Ground.MpProg
import Derived.Shelf.Pu.ParseUintPublic10
import Derived.Shelf.Pu.ErrVarParseUint
import Derived.Shelf.Strings.Search1
import Derived.Shelf.Strings.Search2
import Derived.Shelf.Strings.Search3
import Derived.Shelf.Strings.Prefix
import Derived.Shelf.Strings.Fields
import Derived.Shelf.Unicode.Latin
import Derived.Shelf.Strings.Runes
import Derived.Shelf.Strings.IndexAny
import Derived.Shelf.Strings.AsciiSet
import Derived.Shelf.Strings.IndexAnyAll
import Derived.Shelf.Bits.Mul64
import Derived.Shelf.Strings.Repeat
import Derived.Shelf.Unicode.Is16White
import Derived.Shelf.Unicode.IsSpaceAny
import Derived.Shelf.Unicode.Is16WhiteD
import Derived.Shelf.Unicode.IsSpaceAnyD
import Derived.Shelf.Strings.FieldsAny
import Derived.Shelf.Strings.FieldsFuncAny
set_option linter.unusedVariables false
set_option linter.unusedSimpArgs false
set_option maxRecDepth 100000
set_option maxHeartbeats 16000000
namespace Go.Proofs
open Go.Shelf
def Tryz.lays196_ren : Go.Shelf.Ren:=⟨fun | 196=>80 | 259=>95 | n=>n,fun | 9=>9 | 4=>4 | 3=>3 | 5=>5 | 12=>12 | 119=>67 | 0=>0 | 46=>97 | 139=>162 | 138=>161 | 53=>131 | n=>n,fun | 3=>2 | 4=>3 | n=>n⟩
theorem Tryz.lays196 : Go.Proofs.Lays.n196 Tryz.prog Tryz.lays196_ren:={
  mixed:=by kernel_rfl
  f196:=Tryz.func80.trans (congrArg some (by kernel_rfl))
  f259:=Tryz.func95.trans (congrArg some (by kernel_rfl))
  t0:=Tryz.underlying0
  a0:=Tryz.isAgg0
  z0:=Tryz.sizeOf0
  v0:=Tryz.zeroValue0
  t3:=Tryz.underlying3
  a3:=Tryz.isAgg3
  z3:=Tryz.sizeOf3
  v3:=Tryz.zeroValue3
  t4:=Tryz.underlying4
  a4:=Tryz.isAgg4
  z4:=Tryz.sizeOf4
  v4:=Tryz.zeroValue4
  t5:=Tryz.underlying5
  a5:=Tryz.isAgg5
  z5:=Tryz.sizeOf5
  v5:=Tryz.zeroValue5
  t9:=Tryz.underlying9
  a9:=Tryz.isAgg9
  z9:=Tryz.sizeOf9
  v9:=Tryz.zeroValue9
  t12:=Tryz.underlying12
  a12:=Tryz.isAgg12
  z12:=Tryz.sizeOf12
  v12:=Tryz.zeroValue12
  t46:=Tryz.underlying97
  a46:=Tryz.isAgg97
  z46:=Tryz.sizeOf97
  v46:=Tryz.zeroValue97
  t53:=Tryz.underlying131
  a53:=Tryz.isAgg131
  z53:=Tryz.sizeOf131
  v53:=Tryz.zeroValue131
  t119:=Tryz.underlying67
  a119:=Tryz.isAgg67
  z119:=Tryz.sizeOf67
  t138:=Tryz.underlying161
  a138:=Tryz.isAgg161
  z138:=Tryz.sizeOf161
  v138:=Tryz.zeroValue161
  t139:=Tryz.underlying162
  a139:=Tryz.isAgg162
  z139:=Tryz.sizeOf162
  v139:=Tryz.zeroValue162
  g3:=by kernel_rfl
  g4:=by kernel_rfl }
open Go.RowKit Go.Lib in
theorem Tryz.utf8_ValidString (s : ByteArray) (w : World) (hs : s.size ≤ 9223372036854775807) (hT : Lib.Utf8Tabs 2 3 w) :
    Calls Tryz.prog 80 #[.string s] w fun e w'=>e = .returned (.bool (Lib.validD s.data.toList))∧Below w.heap.size w w':=Any.utf8_ValidString Tryz.lays196 s w hs hT
end Go.Proofs
namespace Go.Proofs
open Go.Shelf
def Tryz.lays195_ren : Go.Shelf.Ren:=⟨fun | 195=>81 | n=>n,fun | 9=>9 | 3=>3 | 0=>0 | 4=>4 | n=>n,fun | n=>n⟩
theorem Tryz.lays195 : Go.Proofs.Lays.n195 Tryz.prog Tryz.lays195_ren:={
  mixed:=by kernel_rfl
  f195:=Tryz.func81.trans (congrArg some (by kernel_rfl))
  t0:=Tryz.underlying0
  a0:=Tryz.isAgg0
  z0:=Tryz.sizeOf0
  v0:=Tryz.zeroValue0
  t3:=Tryz.underlying3
  a3:=Tryz.isAgg3
  z3:=Tryz.sizeOf3
  v3:=Tryz.zeroValue3
  t4:=Tryz.underlying4
  a4:=Tryz.isAgg4
  z4:=Tryz.sizeOf4
  v4:=Tryz.zeroValue4
  t9:=Tryz.underlying9
  a9:=Tryz.isAgg9
  z9:=Tryz.sizeOf9
  v9:=Tryz.zeroValue9 }
open Go.RowKit in
theorem Tryz.utf8_RuneCountInString (s : ByteArray) (w : World) (hs : s.size < 9223372036854775807) :
    Calls Tryz.prog 81 #[.string s] w fun e w'=>e = .returned (.int .i64 (Lib.runeCount s))∧∃ pos,w' = w.iter s pos:=Any.utf8_RuneCountInString Tryz.lays195 s w hs
end Go.Proofs
namespace Go.Proofs
open Go.Shelf
end Go.Proofs
namespace Go.Proofs
open Go.Shelf
def Tryz.lays157_ren : Go.Shelf.Ren:=⟨fun | 157=>12 | 229=>23 | 199=>24 | 261=>42 | 311=>60 | 312=>61 | n=>n,fun | 9=>9 | 31=>24 | 3=>3 | 5=>5 | 4=>4 | 119=>67 | 0=>0 | 40=>69 | 152=>89 | 21=>21 | 154=>91 | 51=>92 | 141=>94 | 196=>121 | 193=>118 | 198=>124 | 49=>122 | 194=>119 | 201=>127 | 226=>148 | 46=>97 | 227=>149 | n=>n,fun | 0=>0 | 6=>1 | n=>n⟩
theorem Tryz.lays157 : Go.Proofs.Lays.n157 Tryz.prog Tryz.lays157_ren:={
  mixed:=by kernel_rfl
  f157:=Tryz.func12.trans (congrArg some (by kernel_rfl))
  f199:=Tryz.func24.trans (congrArg some (by kernel_rfl))
  f229:=Tryz.func23.trans (congrArg some (by kernel_rfl))
  f261:=Tryz.func42.trans (congrArg some (by kernel_rfl))
  f311:=Tryz.func60.trans (congrArg some (by kernel_rfl))
  f312:=Tryz.func61.trans (congrArg some (by kernel_rfl))
  t0:=Tryz.underlying0
  a0:=Tryz.isAgg0
  z0:=Tryz.sizeOf0
  v0:=Tryz.zeroValue0
  t3:=Tryz.underlying3
  a3:=Tryz.isAgg3
  z3:=Tryz.sizeOf3
  v3:=Tryz.zeroValue3
  t4:=Tryz.underlying4
  a4:=Tryz.isAgg4
  z4:=Tryz.sizeOf4
  v4:=Tryz.zeroValue4
  t5:=Tryz.underlying5
  a5:=Tryz.isAgg5
  z5:=Tryz.sizeOf5
  v5:=Tryz.zeroValue5
  t9:=Tryz.underlying9
  a9:=Tryz.isAgg9
  z9:=Tryz.sizeOf9
  v9:=Tryz.zeroValue9
  t21:=Tryz.underlying21
  a21:=Tryz.isAgg21
  z21:=Tryz.sizeOf21
  v21:=Tryz.zeroValue21
  t31:=Tryz.underlying24
  a31:=Tryz.isAgg24
  z31:=Tryz.sizeOf24
  v31:=Tryz.zeroValue24
  t40:=Tryz.underlying69
  a40:=Tryz.isAgg69
  z40:=Tryz.sizeOf69
  v40:=Tryz.zeroValue69
  t46:=Tryz.underlying97
  a46:=Tryz.isAgg97
  z46:=Tryz.sizeOf97
  v46:=Tryz.zeroValue97
  t49:=Tryz.underlying122
  a49:=Tryz.isAgg122
  z49:=Tryz.sizeOf122
  v49:=Tryz.zeroValue122
  t51:=Tryz.underlying92
  a51:=Tryz.isAgg92
  z51:=Tryz.sizeOf92
  v51:=Tryz.zeroValue92
  t119:=Tryz.underlying67
  a119:=Tryz.isAgg67
  z119:=Tryz.sizeOf67
  t141:=Tryz.underlying94
  a141:=Tryz.isAgg94
  z141:=Tryz.sizeOf94
  v141:=Tryz.zeroValue94
  t152:=Tryz.underlying89
  a152:=Tryz.isAgg89
  z152:=Tryz.sizeOf89
  v152:=Tryz.zeroValue89
  t154:=Tryz.underlying91
  a154:=Tryz.isAgg91
  z154:=Tryz.sizeOf91
  v154:=Tryz.zeroValue91
  t193:=Tryz.underlying118
  a193:=Tryz.isAgg118
  z193:=Tryz.sizeOf118
  v193:=Tryz.zeroValue118
  t194:=Tryz.underlying119
  a194:=Tryz.isAgg119
  z194:=Tryz.sizeOf119
  v194:=Tryz.zeroValue119
  t196:=Tryz.underlying121
  a196:=Tryz.isAgg121
  z196:=Tryz.sizeOf121
  v196:=Tryz.zeroValue121
  t198:=Tryz.underlying124
  a198:=Tryz.isAgg124
  z198:=Tryz.sizeOf124
  v198:=Tryz.zeroValue124
  t201:=Tryz.underlying127
  a201:=Tryz.isAgg127
  z201:=Tryz.sizeOf127
  v201:=Tryz.zeroValue127
  t226:=Tryz.underlying148
  a226:=Tryz.isAgg148
  z226:=Tryz.sizeOf148
  v226:=Tryz.zeroValue148
  t227:=Tryz.underlying149
  a227:=Tryz.isAgg149
  z227:=Tryz.sizeOf149
  v227:=Tryz.zeroValue149
  g0:=by kernel_rfl
  g6:=by kernel_rfl }
open Go.RowKit Go.Lib in
theorem Tryz.strings_Fields (s : ByteArray) (w : World) (hs : s.size < 4294967281) (hascii : ∀ (j : Nat) b, s.data.toList[j]? = some b → b.toNat < 128) (htab : Lib.TabIs Tryz.prog w "strings.asciiSpace" .u8 Lib.asciiSpaceTab) :
    Calls Tryz.prog 12 #[.string s] w fun e w' =>
      e = .returned (.slice (some ⟨w.heap.size,0,none⟩) (Lib.fields s.data.toList).length (Lib.fields s.data.toList).length)∧w' = w.alloc (.cells ((Lib.fields s.data.toList).map fun l=>Value.string ⟨l.toArray⟩).toArray 9):=Any.strings_Fields Tryz.lays157 (by kernel_rfl) (by kernel_rfl) s w hs hascii htab
def Tryz.lays212_ren : Go.Shelf.Ren:=⟨fun | 212=>45 | 263=>62 | 264=>63 | n=>n,fun | 46=>97 | 51=>92 | 146=>129 | 53=>131 | 148=>132 | n=>n,fun | n=>n⟩
theorem Tryz.lays212 : Go.Proofs.Lays.n212 Tryz.prog Tryz.lays212_ren:={
  mixed:=by kernel_rfl
  f212:=Tryz.func45.trans (congrArg some (by kernel_rfl))
  f263:=Tryz.func62.trans (congrArg some (by kernel_rfl))
  f264:=Tryz.func63.trans (congrArg some (by kernel_rfl))
  t46:=Tryz.underlying97
  a46:=Tryz.isAgg97
  z46:=Tryz.sizeOf97
  v46:=Tryz.zeroValue97
  t51:=Tryz.underlying92
  a51:=Tryz.isAgg92
  z51:=Tryz.sizeOf92
  v51:=Tryz.zeroValue92
  t53:=Tryz.underlying131
  a53:=Tryz.isAgg131
  z53:=Tryz.sizeOf131
  v53:=Tryz.zeroValue131
  t146:=Tryz.underlying129
  a146:=Tryz.isAgg129
  z146:=Tryz.sizeOf129
  v146:=Tryz.zeroValue129
  t148:=Tryz.underlying132
  a148:=Tryz.isAgg132
  z148:=Tryz.sizeOf132
  v148:=Tryz.zeroValue132 }
open Go.RowKit Go.Lib in
theorem Tryz.bits_Mul (x y : Nat) (hx : x < 18446744073709551616) (hy : y < 18446744073709551616) (w : World) :
    Calls Tryz.prog 45 #[.int .u64 x,.int .u64 y] w fun e w'=>e = .returned (.tuple #[.int .u64 ((x * y / 18446744073709551616 : Nat) : Int),.int .u64 ((x * y % 18446744073709551616 : Nat) : Int)])∧w' = w:=Any.bits_Mul Tryz.lays212 x y hx hy w
end Go.Proofs
