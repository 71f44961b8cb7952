import Derived.Shelf.Strings.Builder1
import Derived.Shelf.Strings.Builder2
import Derived.Shelf.Small.Strs
import Derived.Shelf.Small.Wraps
import Derived.Shelf.Strings.BuilderF
import Derived.Shelf.Strings.BuilderK
import Derived.Shelf.Utf8.RuneCount
import Derived.Shelf.Strconv.Atoi
import Derived.Shelf.Strconv.Itoa0
import Derived.Shelf.Strconv.Itoa1
import Derived.Shelf.LaysM
import Derived.Shelf.Strconv.Itoa2
import Derived.Shelf.Strconv.Itoa3
import Derived.Shelf.Strconv.Clone
import Derived.Shelf.Strconv.Lower
import Derived.Shelf.Strconv.ParseUint10
import Derived.Shelf.Strconv.ParseUint10Empty
import Derived.Shelf.Strconv.ParseUint10Any
import Derived.Shelf.Strconv.RangeError
import Derived.Shelf.LaysC
import Derived.Shelf.Strconv.ToErrorRange
import Derived.Shelf.Strconv.ParseUintEmpty
import Derived.Shelf.Strconv.ParseUint10b64
import Derived.Shelf.Strconv.ParseUint10b32
import Derived.Shelf.Strconv.ParseUint10b16
import Derived.Shelf.Strconv.ParseUint10b8
import Derived.Shelf.Strconv.ParseUint10At
import Derived.Ground.MpProg
import Derived.Shelf.Pu.ParseUintPublic10
import Derived.Shelf.Pu.ErrVarParseUint
import Derived.Shelf.Strings.Search1
import Derived.Shelf.Strings.Search2
import Derived.Shelf.Strings.Search3
import Derived.Shelf.Strings.Prefix
import Derived.Shelf.Strings.Fields
import Derived.Shelf.Unicode.Latin
import Derived.Shelf.Strings.Runes
import Derived.Shelf.Strings.IndexAny
import Derived.Shelf.Strings.AsciiSet
import Derived.Shelf.Strings.IndexAnyAll
import Derived.Shelf.Bits.Mul64
import Derived.Shelf.Strings.Repeat
import Derived.Shelf.Unicode.Is16White
import Derived.Shelf.Unicode.IsSpaceAny
import Derived.Shelf.Unicode.Is16WhiteD
import Derived.Shelf.Unicode.IsSpaceAnyD
import Derived.Shelf.Strings.FieldsAny
import Derived.Shelf.Strings.FieldsFuncAny
import Derived.Test.YtihbgghlnppkiaaGreatDoorProg
set_option linter.unusedVariables false
set_option linter.unusedSimpArgs false
set_option maxRecDepth 100000
set_option maxHeartbeats 16000000
namespace Go.Proofs
open Go.Shelf
def Tryz.lays170_ren : Go.Shelf.Ren:=⟨fun | 170=>127 | n=>n,fun | 70=>112 | 3=>3 | 0=>0 | 72=>115 | 37=>113 | 5=>5 | n=>n,fun | n=>n⟩
theorem Tryz.lays170 : Go.Proofs.Lays.n170 Tryz.prog Tryz.lays170_ren:={
  mixed:=by kernel_rfl
  f170:=Tryz.func127.trans (congrArg some (by kernel_rfl))
  t0:=Tryz.underlying0
  a0:=Tryz.isAgg0
  z0:=Tryz.sizeOf0
  v0:=Tryz.zeroValue0
  t3:=Tryz.underlying3
  a3:=Tryz.isAgg3
  z3:=Tryz.sizeOf3
  v3:=Tryz.zeroValue3
  t37:=Tryz.underlying113
  a37:=Tryz.isAgg113
  z37:=Tryz.sizeOf113
  v37:=Tryz.zeroValue113
  t70:=Tryz.underlying112
  a70:=Tryz.isAgg112
  z70:=Tryz.sizeOf112
  v70:=Tryz.zeroValue112
  t72:=Tryz.underlying115
  a72:=Tryz.isAgg115
  z72:=Tryz.sizeOf115
  v72:=Tryz.zeroValue115 }
def Tryz.lays169_ren : Go.Shelf.Ren:=⟨fun | 169=>59 | n=>n,fun | 70=>112 | 9=>9 | 0=>0 | 72=>115 | 37=>113 | 127=>147 | 3=>3 | 5=>5 | n=>n,fun | n=>n⟩
theorem Tryz.lays169 : Go.Proofs.Lays.n169 Tryz.prog Tryz.lays169_ren:={
  mixed:=by kernel_rfl
  f169:=Tryz.func59.trans (congrArg some (by kernel_rfl))
  t0:=Tryz.underlying0
  a0:=Tryz.isAgg0
  z0:=Tryz.sizeOf0
  v0:=Tryz.zeroValue0
  t3:=Tryz.underlying3
  a3:=Tryz.isAgg3
  z3:=Tryz.sizeOf3
  v3:=Tryz.zeroValue3
  t9:=Tryz.underlying9
  a9:=Tryz.isAgg9
  z9:=Tryz.sizeOf9
  v9:=Tryz.zeroValue9
  t37:=Tryz.underlying113
  a37:=Tryz.isAgg113
  z37:=Tryz.sizeOf113
  v37:=Tryz.zeroValue113
  t70:=Tryz.underlying112
  a70:=Tryz.isAgg112
  z70:=Tryz.sizeOf112
  v70:=Tryz.zeroValue112
  t72:=Tryz.underlying115
  a72:=Tryz.isAgg115
  z72:=Tryz.sizeOf115
  v72:=Tryz.zeroValue115
  t127:=Tryz.underlying147
  a127:=Tryz.isAgg147
  z127:=Tryz.sizeOf147
  v127:=Tryz.zeroValue147 }
theorem Tryz.Builder_Extra_169 : Builder.Extra Tryz.prog Tryz.lays169_ren:={
  sizeBuilder:=by kernel_rfl
  liesBuilder:=by kernel_rfl
  t5:=Tryz.underlying5
  a5:=Tryz.isAgg5
  z5:=Tryz.sizeOf5
  v5:=Tryz.zeroValue5
  infoByte:=by kernel_rfl
  cellsByte:=by kernel_rfl
  sizeByte:=by kernel_rfl
  neB5:=by decide }
def Tryz.lays137_ren : Go.Shelf.Ren:=⟨fun | 137=>111 | 217=>130 | 266=>158 | n=>n,fun | 9=>9 | 5=>5 | 3=>3 | n=>n,fun | n=>n⟩
theorem Tryz.lays137 : Go.Proofs.Lays.n137 Tryz.prog Tryz.lays137_ren:={
  mixed:=by kernel_rfl
  f137:=Tryz.func111.trans (congrArg some (by kernel_rfl))
  f217:=Tryz.func130.trans (congrArg some (by kernel_rfl))
  f266:=Tryz.func158.trans (congrArg some (by kernel_rfl))
  t3:=Tryz.underlying3
  a3:=Tryz.isAgg3
  z3:=Tryz.sizeOf3
  v3:=Tryz.zeroValue3
  t5:=Tryz.underlying5
  a5:=Tryz.isAgg5
  z5:=Tryz.sizeOf5
  v5:=Tryz.zeroValue5
  t9:=Tryz.underlying9
  a9:=Tryz.isAgg9
  z9:=Tryz.sizeOf9
  v9:=Tryz.zeroValue9 }
open Go.RowKit in
theorem Tryz.strings_IndexByte (s : ByteArray) (c : Int) (w : World) :
    Calls Tryz.prog 111 #[.string s,.int .u8 c] w fun e w'=>e = .returned (.int .i64 (Lib.indexByte s.data.toList c.toNat.toUInt8))∧w' = w:=Any.strings_IndexByte Tryz.lays137 s c w
open Go.RowKit in
theorem Tryz.Builder_Len_f (B b : Nat) (bs : List Value) (w : World) (h : Lib.IsBuilderF 115 5 B b bs w) :
    Calls Tryz.prog 127 #[.pointer (some ⟨b,0,none⟩)] w fun e w'=>e = .returned (.int .i64 bs.length)∧w' = w:=Any.Builder_Len_f Tryz.lays170 B b bs w h
open Go.RowKit in
theorem Tryz.Builder_String_any_k (B b : Nat) (l : List UInt8) (w : World) (h : Lib.IsBuilderF 115 5 B b (Lib.byteCells l) w) (hBw : B ≤ w.heap.size) :
    Calls Tryz.prog 59 #[.pointer (some ⟨b,0,none⟩)] w fun e w'=>e = .returned (.string ⟨l.toArray⟩)∧(Lib.IsBuilderF 115 5 B b (Lib.byteCells l) w'∧Below B w w'∧Lib.OthersKept 5 (some b) w w'):=Any.Builder_String_any_k Tryz.lays169 Tryz.Builder_Extra_169 B b l w h hBw
def Tryz.lays172_ren : Go.Shelf.Ren:=⟨fun | 172=>106 | 244=>120 | 245=>121 | 247=>142 | 279=>143 | 280=>144 | 281=>145 | 282=>146 | 287=>185 | 316=>186 | 171=>107 | 205=>187 | 321=>200 | 322=>218 | 243=>122 | 246=>129 | 283=>154 | 284=>155 | 285=>156 | 286=>157 | 129=>173 | 317=>176 | 318=>193 | 319=>194 | 320=>195 | 337=>220 | 338=>221 | n=>n,fun | 9=>9 | 3=>3 | 75=>140 | 76=>141 | 4=>4 | 5=>5 | 167=>207 | 37=>113 | 0=>0 | 85=>208 | 2=>2 | 168=>210 | 53=>131 | 175=>224 | 46=>97 | 210=>244 | 127=>147 | 145=>273 | 143=>271 | 21=>21 | 171=>219 | 173=>222 | 212=>250 | 51=>92 | 20=>20 | 213=>251 | 232=>233 | 233=>293 | 80=>117 | n=>n,fun | 15=>7 | 16=>8 | 17=>9 | 18=>13 | 19=>14 | n=>n⟩
theorem Tryz.lays172 : Go.Proofs.Lays.n172 Tryz.prog Tryz.lays172_ren:={
  mixed:=by kernel_rfl
  f129:=Tryz.func173.trans (congrArg some (by kernel_rfl))
  f171:=Tryz.func107.trans (congrArg some (by kernel_rfl))
  f172:=Tryz.func106.trans (congrArg some (by kernel_rfl))
  f205:=Tryz.func187.trans (congrArg some (by kernel_rfl))
  f243:=Tryz.func122.trans (congrArg some (by kernel_rfl))
  f244:=Tryz.func120.trans (congrArg some (by kernel_rfl))
  f245:=Tryz.func121.trans (congrArg some (by kernel_rfl))
  f246:=Tryz.func129.trans (congrArg some (by kernel_rfl))
  f247:=Tryz.func142.trans (congrArg some (by kernel_rfl))
  f279:=Tryz.func143.trans (congrArg some (by kernel_rfl))
  f280:=Tryz.func144.trans (congrArg some (by kernel_rfl))
  f281:=Tryz.func145.trans (congrArg some (by kernel_rfl))
  f282:=Tryz.func146.trans (congrArg some (by kernel_rfl))
  f283:=Tryz.func154.trans (congrArg some (by kernel_rfl))
  f284:=Tryz.func155.trans (congrArg some (by kernel_rfl))
  f285:=Tryz.func156.trans (congrArg some (by kernel_rfl))
  f286:=Tryz.func157.trans (congrArg some (by kernel_rfl))
  f287:=Tryz.func185.trans (congrArg some (by kernel_rfl))
  f316:=Tryz.func186.trans (congrArg some (by kernel_rfl))
  f317:=Tryz.func176.trans (congrArg some (by kernel_rfl))
  f318:=Tryz.func193.trans (congrArg some (by kernel_rfl))
  f319:=Tryz.func194.trans (congrArg some (by kernel_rfl))
  f320:=Tryz.func195.trans (congrArg some (by kernel_rfl))
  f321:=Tryz.func200.trans (congrArg some (by kernel_rfl))
  f322:=Tryz.func218.trans (congrArg some (by kernel_rfl))
  f337:=Tryz.func220.trans (congrArg some (by kernel_rfl))
  f338:=Tryz.func221.trans (congrArg some (by kernel_rfl))
  t0:=Tryz.underlying0
  a0:=Tryz.isAgg0
  z0:=Tryz.sizeOf0
  v0:=Tryz.zeroValue0
  t2:=Tryz.underlying2
  a2:=Tryz.isAgg2
  z2:=Tryz.sizeOf2
  v2:=Tryz.zeroValue2
  t3:=Tryz.underlying3
  a3:=Tryz.isAgg3
  z3:=Tryz.sizeOf3
  v3:=Tryz.zeroValue3
  t4:=Tryz.underlying4
  a4:=Tryz.isAgg4
  z4:=Tryz.sizeOf4
  v4:=Tryz.zeroValue4
  t5:=Tryz.underlying5
  a5:=Tryz.isAgg5
  z5:=Tryz.sizeOf5
  v5:=Tryz.zeroValue5
  t9:=Tryz.underlying9
  a9:=Tryz.isAgg9
  z9:=Tryz.sizeOf9
  v9:=Tryz.zeroValue9
  t20:=Tryz.underlying20
  a20:=Tryz.isAgg20
  z20:=Tryz.sizeOf20
  v20:=Tryz.zeroValue20
  t21:=Tryz.underlying21
  a21:=Tryz.isAgg21
  z21:=Tryz.sizeOf21
  v21:=Tryz.zeroValue21
  t37:=Tryz.underlying113
  a37:=Tryz.isAgg113
  z37:=Tryz.sizeOf113
  v37:=Tryz.zeroValue113
  t46:=Tryz.underlying97
  a46:=Tryz.isAgg97
  z46:=Tryz.sizeOf97
  v46:=Tryz.zeroValue97
  t51:=Tryz.underlying92
  a51:=Tryz.isAgg92
  z51:=Tryz.sizeOf92
  v51:=Tryz.zeroValue92
  t53:=Tryz.underlying131
  a53:=Tryz.isAgg131
  z53:=Tryz.sizeOf131
  v53:=Tryz.zeroValue131
  t75:=Tryz.underlying140
  a75:=Tryz.isAgg140
  z75:=Tryz.sizeOf140
  v75:=Tryz.zeroValue140
  t76:=Tryz.underlying141
  a76:=Tryz.isAgg141
  z76:=Tryz.sizeOf141
  v76:=Tryz.zeroValue141
  t85:=Tryz.underlying208
  a85:=Tryz.isAgg208
  z85:=Tryz.sizeOf208
  v85:=Tryz.zeroValue208
  t127:=Tryz.underlying147
  a127:=Tryz.isAgg147
  z127:=Tryz.sizeOf147
  v127:=Tryz.zeroValue147
  t143:=Tryz.underlying271
  a143:=Tryz.isAgg271
  z143:=Tryz.sizeOf271
  v143:=Tryz.zeroValue271
  t145:=Tryz.underlying273
  a145:=Tryz.isAgg273
  z145:=Tryz.sizeOf273
  v145:=Tryz.zeroValue273
  t167:=Tryz.underlying207
  a167:=Tryz.isAgg207
  z167:=Tryz.sizeOf207
  v167:=Tryz.zeroValue207
  t168:=Tryz.underlying210
  a168:=Tryz.isAgg210
  z168:=Tryz.sizeOf210
  v168:=Tryz.zeroValue210
  t171:=Tryz.underlying219
  a171:=Tryz.isAgg219
  z171:=Tryz.sizeOf219
  v171:=Tryz.zeroValue219
  t173:=Tryz.underlying222
  a173:=Tryz.isAgg222
  z173:=Tryz.sizeOf222
  v173:=Tryz.zeroValue222
  t175:=Tryz.underlying224
  a175:=Tryz.isAgg224
  z175:=Tryz.sizeOf224
  v175:=Tryz.zeroValue224
  t210:=Tryz.underlying244
  a210:=Tryz.isAgg244
  z210:=Tryz.sizeOf244
  v210:=Tryz.zeroValue244
  t212:=Tryz.underlying250
  a212:=Tryz.isAgg250
  z212:=Tryz.sizeOf250
  v212:=Tryz.zeroValue250
  t213:=Tryz.underlying251
  a213:=Tryz.isAgg251
  z213:=Tryz.sizeOf251
  t232:=Tryz.underlying233
  a232:=Tryz.isAgg233
  z232:=Tryz.sizeOf233
  v232:=Tryz.zeroValue233
  t233:=Tryz.underlying293
  a233:=Tryz.isAgg293
  z233:=Tryz.sizeOf293
  v233:=Tryz.zeroValue293
  g15:=by kernel_rfl
  g16:=by kernel_rfl
  g17:=by kernel_rfl
  g18:=by kernel_rfl
  g19:=by kernel_rfl }
open Go.RowKit in
theorem Tryz.strconv_Atoi (s : ByteArray) (n : Int) (hl : s.size ≤ 18) (h : Lib.atoi s.data.toList = some n) (w : World) :
    Calls Tryz.prog 106 #[.string s] w fun e w'=>e = .returned (.tuple #[.int .i64 n,.nilIface])∧∃ t,w' = Lib.bytesWorld w 5 t:=Any.strconv_Atoi Tryz.lays172 s n hl h w
def Tryz.lays129_ren : Go.Shelf.Ren:=⟨fun | 129=>173 | n=>n,fun | 53=>131 | 3=>3 | 4=>4 | 46=>97 | 5=>5 | 9=>9 | n=>n,fun | n=>n⟩
theorem Tryz.lays129 : Go.Proofs.Lays.n129 Tryz.prog Tryz.lays129_ren:={
  mixed:=by kernel_rfl
  f129:=Tryz.func173.trans (congrArg some (by kernel_rfl))
  t3:=Tryz.underlying3
  a3:=Tryz.isAgg3
  z3:=Tryz.sizeOf3
  v3:=Tryz.zeroValue3
  t4:=Tryz.underlying4
  a4:=Tryz.isAgg4
  z4:=Tryz.sizeOf4
  v4:=Tryz.zeroValue4
  t5:=Tryz.underlying5
  a5:=Tryz.isAgg5
  z5:=Tryz.sizeOf5
  v5:=Tryz.zeroValue5
  t9:=Tryz.underlying9
  a9:=Tryz.isAgg9
  z9:=Tryz.sizeOf9
  v9:=Tryz.zeroValue9
  t46:=Tryz.underlying97
  a46:=Tryz.isAgg97
  z46:=Tryz.sizeOf97
  v46:=Tryz.zeroValue97
  t53:=Tryz.underlying131
  a53:=Tryz.isAgg131
  z53:=Tryz.sizeOf131
  v53:=Tryz.zeroValue131 }
theorem Tryz.bits_Len64 (x : Int) (w : World) (h0 : 0 ≤ x) (h1 : x ≤ 18446744073709551615) :
    Calls Tryz.prog 173 #[.int .u64 x] w fun e w'=>e = .returned (.int .i64 (Lib.bitLen x.toNat))∧w' = w:=Any.bits_Len64 Tryz.lays129 x w h0 h1
def Tryz.lays283_ren : Go.Shelf.Ren:=⟨fun | 283=>154 | n=>n,fun | 3=>3 | 9=>9 | 4=>4 | n=>n,fun | n=>n⟩
theorem Tryz.lays283 : Go.Proofs.Lays.n283 Tryz.prog Tryz.lays283_ren:={
  mixed:=by kernel_rfl
  f283:=Tryz.func154.trans (congrArg some (by kernel_rfl))
  t3:=Tryz.underlying3
  a3:=Tryz.isAgg3
  z3:=Tryz.sizeOf3
  v3:=Tryz.zeroValue3
  t4:=Tryz.underlying4
  a4:=Tryz.isAgg4
  z4:=Tryz.sizeOf4
  v4:=Tryz.zeroValue4
  t9:=Tryz.underlying9
  a9:=Tryz.isAgg9
  z9:=Tryz.sizeOf9
  v9:=Tryz.zeroValue9 }
open Go.Lib in
theorem Tryz.internal_strconv_small (i : Nat) (h : i < 100) (w : World) :
    Calls Tryz.prog 154 #[.int .i64 i] w fun e w'=>e = .returned (.string ⟨(Lib.decDigits i).toArray⟩)∧w' = w:=Any.internal_strconv_small Tryz.lays283 i h w
def Tryz.laysM284_ren : Go.Shelf.Ren:=⟨fun | 284=>155 | 129=>173 | 317=>176 | 318=>193 | n=>n,fun | 53=>131 | 3=>3 | 212=>250 | 0=>0 | 4=>4 | 46=>97 | 5=>5 | 9=>9 | n=>n,fun | 17=>9 | n=>n⟩
theorem Tryz.laysM284 : Go.Proofs.LaysM.n284 Tryz.prog Tryz.laysM284_ren:={
  mixed:=by kernel_rfl
  f129:=Tryz.func173.trans (congrArg some (by kernel_rfl))
  f284:=Tryz.func155.trans (congrArg some (by kernel_rfl))
  f317:=Tryz.func176.trans (congrArg some (by kernel_rfl))
  f318:=Tryz.func193.trans (congrArg some (by kernel_rfl))
  t0:=Tryz.underlying0
  a0:=Tryz.isAgg0
  z0:=Tryz.sizeOf0
  v0:=Tryz.zeroValue0
  t3:=Tryz.underlying3
  a3:=Tryz.isAgg3
  z3:=Tryz.sizeOf3
  v3:=Tryz.zeroValue3
  t4:=Tryz.underlying4
  a4:=Tryz.isAgg4
  z4:=Tryz.sizeOf4
  v4:=Tryz.zeroValue4
  t5:=Tryz.underlying5
  a5:=Tryz.isAgg5
  z5:=Tryz.sizeOf5
  v5:=Tryz.zeroValue5
  t9:=Tryz.underlying9
  a9:=Tryz.isAgg9
  z9:=Tryz.sizeOf9
  v9:=Tryz.zeroValue9
  t46:=Tryz.underlying97
  a46:=Tryz.isAgg97
  z46:=Tryz.sizeOf97
  v46:=Tryz.zeroValue97
  t53:=Tryz.underlying131
  a53:=Tryz.isAgg131
  z53:=Tryz.sizeOf131
  v53:=Tryz.zeroValue131
  t212:=Tryz.underlying250
  a212:=Tryz.isAgg250
  z212:=Tryz.sizeOf250
  v212:=Tryz.zeroValue250
  g17:=by kernel_rfl
  i0:=by kernel_rfl
  i3:=by kernel_rfl
  i4:=by kernel_rfl
  i5:=by kernel_rfl
  i9:=by kernel_rfl
  i46:=by kernel_rfl
  i53:=by kernel_rfl
  i212:=by kernel_rfl
  m17:=by kernel_rfl }
open Go.Lib in
theorem Tryz.internal_strconv_numDigits (u : Nat) (h1 : 1 ≤ u) (h2 : u < 18446744073709551616) (w : World) (htab : Lib.TabIs Tryz.prog w "internal/strconv.uint64pow10" .u64 Lib.pow10Tab) :
    Calls Tryz.prog 155 #[.int .u64 u] w fun e w'=>e = .returned (.int .i64 (Lib.nDigits u))∧w' = w:=Any.internal_strconv_numDigits Tryz.laysM284 u h1 h2 w htab
def Tryz.lays285_ren : Go.Shelf.Ren:=⟨fun | 285=>156 | n=>n,fun | 37=>113 | 53=>131 | 3=>3 | 4=>4 | 51=>92 | 9=>9 | 5=>5 | 0=>0 | n=>n,fun | n=>n⟩
theorem Tryz.lays285 : Go.Proofs.Lays.n285 Tryz.prog Tryz.lays285_ren:={
  mixed:=by kernel_rfl
  f285:=Tryz.func156.trans (congrArg some (by kernel_rfl))
  t0:=Tryz.underlying0
  a0:=Tryz.isAgg0
  z0:=Tryz.sizeOf0
  v0:=Tryz.zeroValue0
  t3:=Tryz.underlying3
  a3:=Tryz.isAgg3
  z3:=Tryz.sizeOf3
  v3:=Tryz.zeroValue3
  t4:=Tryz.underlying4
  a4:=Tryz.isAgg4
  z4:=Tryz.sizeOf4
  v4:=Tryz.zeroValue4
  t5:=Tryz.underlying5
  a5:=Tryz.isAgg5
  z5:=Tryz.sizeOf5
  v5:=Tryz.zeroValue5
  t9:=Tryz.underlying9
  a9:=Tryz.isAgg9
  z9:=Tryz.sizeOf9
  v9:=Tryz.zeroValue9
  t37:=Tryz.underlying113
  a37:=Tryz.isAgg113
  z37:=Tryz.sizeOf113
  v37:=Tryz.zeroValue113
  t51:=Tryz.underlying92
  a51:=Tryz.isAgg92
  z51:=Tryz.sizeOf92
  v51:=Tryz.zeroValue92
  t53:=Tryz.underlying131
  a53:=Tryz.isAgg131
  z53:=Tryz.sizeOf131
  v53:=Tryz.zeroValue131 }
open Go.RowKit Go.Sort Go.Lib in
theorem Tryz.internal_strconv_formatBase10 (blk off cap : Nat) (u : Nat) (d : Array UInt8) (w : World) (hH : Holds (fun (b : UInt8)=>Value.int .u8 (b.toNat : Int)) w blk off d) (hu : u < 10 ^ d.size) (hu64 : u < 18446744073709551616) (hsz : d.size < 4611686018427387904) :
    Calls Tryz.prog 156 #[.slice (some ⟨blk,off,none⟩) d.size cap,.int .u64 u] w fun e w' =>
      e = .returned (.tuple #[])∧∃ (n v' : Nat) (dk : Array UInt8),w' = (putRow (fun (b : UInt8)=>Value.int .u8 (b.toNat : Int)) w blk off dk).drewN n∧FmtInv d.size u 0 v' dk:=Any.internal_strconv_formatBase10 Tryz.lays285 blk off cap u d w hH hu hu64 hsz
def Tryz.laysM171_ren : Go.Shelf.Ren:=⟨fun | 171=>107 | 243=>122 | 246=>129 | 283=>154 | 284=>155 | 285=>156 | 286=>157 | 129=>173 | 317=>176 | 318=>193 | 319=>194 | 320=>195 | 337=>220 | 338=>221 | n=>n,fun | 3=>3 | 9=>9 | 2=>2 | 4=>4 | 171=>219 | 0=>0 | 53=>131 | 37=>113 | 5=>5 | 173=>222 | 212=>250 | 51=>92 | 20=>20 | 213=>251 | 46=>97 | 232=>233 | 233=>293 | n=>n,fun | 17=>9 | 18=>13 | 19=>14 | n=>n⟩
theorem Tryz.laysM171 : Go.Proofs.LaysM.n171 Tryz.prog Tryz.laysM171_ren:={
  mixed:=by kernel_rfl
  f129:=Tryz.func173.trans (congrArg some (by kernel_rfl))
  f171:=Tryz.func107.trans (congrArg some (by kernel_rfl))
  f243:=Tryz.func122.trans (congrArg some (by kernel_rfl))
  f246:=Tryz.func129.trans (congrArg some (by kernel_rfl))
  f283:=Tryz.func154.trans (congrArg some (by kernel_rfl))
  f284:=Tryz.func155.trans (congrArg some (by kernel_rfl))
  f285:=Tryz.func156.trans (congrArg some (by kernel_rfl))
  f286:=Tryz.func157.trans (congrArg some (by kernel_rfl))
  f317:=Tryz.func176.trans (congrArg some (by kernel_rfl))
  f318:=Tryz.func193.trans (congrArg some (by kernel_rfl))
  f319:=Tryz.func194.trans (congrArg some (by kernel_rfl))
  f320:=Tryz.func195.trans (congrArg some (by kernel_rfl))
  f337:=Tryz.func220.trans (congrArg some (by kernel_rfl))
  f338:=Tryz.func221.trans (congrArg some (by kernel_rfl))
  t0:=Tryz.underlying0
  a0:=Tryz.isAgg0
  z0:=Tryz.sizeOf0
  v0:=Tryz.zeroValue0
  t2:=Tryz.underlying2
  a2:=Tryz.isAgg2
  z2:=Tryz.sizeOf2
  v2:=Tryz.zeroValue2
  t3:=Tryz.underlying3
  a3:=Tryz.isAgg3
  z3:=Tryz.sizeOf3
  v3:=Tryz.zeroValue3
  t4:=Tryz.underlying4
  a4:=Tryz.isAgg4
  z4:=Tryz.sizeOf4
  v4:=Tryz.zeroValue4
  t5:=Tryz.underlying5
  a5:=Tryz.isAgg5
  z5:=Tryz.sizeOf5
  v5:=Tryz.zeroValue5
  t9:=Tryz.underlying9
  a9:=Tryz.isAgg9
  z9:=Tryz.sizeOf9
  v9:=Tryz.zeroValue9
  t20:=Tryz.underlying20
  a20:=Tryz.isAgg20
  z20:=Tryz.sizeOf20
  v20:=Tryz.zeroValue20
  t37:=Tryz.underlying113
  a37:=Tryz.isAgg113
  z37:=Tryz.sizeOf113
  v37:=Tryz.zeroValue113
  t46:=Tryz.underlying97
  a46:=Tryz.isAgg97
  z46:=Tryz.sizeOf97
  v46:=Tryz.zeroValue97
  t51:=Tryz.underlying92
  a51:=Tryz.isAgg92
  z51:=Tryz.sizeOf92
  v51:=Tryz.zeroValue92
  t53:=Tryz.underlying131
  a53:=Tryz.isAgg131
  z53:=Tryz.sizeOf131
  v53:=Tryz.zeroValue131
  t171:=Tryz.underlying219
  a171:=Tryz.isAgg219
  z171:=Tryz.sizeOf219
  v171:=Tryz.zeroValue219
  t173:=Tryz.underlying222
  a173:=Tryz.isAgg222
  z173:=Tryz.sizeOf222
  v173:=Tryz.zeroValue222
  t212:=Tryz.underlying250
  a212:=Tryz.isAgg250
  z212:=Tryz.sizeOf250
  v212:=Tryz.zeroValue250
  t213:=Tryz.underlying251
  a213:=Tryz.isAgg251
  z213:=Tryz.sizeOf251
  t232:=Tryz.underlying233
  a232:=Tryz.isAgg233
  z232:=Tryz.sizeOf233
  v232:=Tryz.zeroValue233
  t233:=Tryz.underlying293
  a233:=Tryz.isAgg293
  z233:=Tryz.sizeOf293
  v233:=Tryz.zeroValue293
  g17:=by kernel_rfl
  g18:=by kernel_rfl
  g19:=by kernel_rfl
  i0:=by kernel_rfl
  i2:=by kernel_rfl
  i3:=by kernel_rfl
  i4:=by kernel_rfl
  i5:=by kernel_rfl
  i9:=by kernel_rfl
  i20:=by kernel_rfl
  i37:=by kernel_rfl
  i46:=by kernel_rfl
  i51:=by kernel_rfl
  i53:=by kernel_rfl
  i171:=by kernel_rfl
  i173:=by kernel_rfl
  i212:=by kernel_rfl
  i232:=by kernel_rfl
  i233:=by kernel_rfl
  m17:=by kernel_rfl
  m18:=by kernel_rfl
  m19:=by kernel_rfl }
open Go.RowKit Go.Sort Go.Lib in
theorem Tryz.strconv_Itoa (n : Int) (h0 : -9223372036854775808 ≤ n) (h1 : n ≤ 9223372036854775807) (w : World) (htab : Lib.TabIs Tryz.prog w "internal/strconv.uint64pow10" .u64 Lib.pow10Tab) :
    Calls Tryz.prog 107 #[.int .i64 n] w fun e w'=>e = .returned (.string ⟨(Lib.itoa n).toArray⟩)∧∃ k os,w' = grow (w.drewN k) os:=Any.strconv_Itoa Tryz.laysM171 n h0 h1 w htab
def Tryz.lays219_ren : Go.Shelf.Ren:=⟨fun | 219=>141 | 217=>130 | 225=>182 | 224=>183 | 267=>184 | 266=>158 | 314=>217 | n=>n,fun | 9=>9 | 3=>3 | 4=>4 | 5=>5 | 46=>97 | 146=>129 | 51=>92 | n=>n,fun | 1=>6 | n=>n⟩
theorem Tryz.lays219 : Go.Proofs.Lays.n219 Tryz.prog Tryz.lays219_ren:={
  mixed:=by kernel_rfl
  f217:=Tryz.func130.trans (congrArg some (by kernel_rfl))
  f219:=Tryz.func141.trans (congrArg some (by kernel_rfl))
  f224:=Tryz.func183.trans (congrArg some (by kernel_rfl))
  f225:=Tryz.func182.trans (congrArg some (by kernel_rfl))
  f266:=Tryz.func158.trans (congrArg some (by kernel_rfl))
  f267:=Tryz.func184.trans (congrArg some (by kernel_rfl))
  f314:=Tryz.func217.trans (congrArg some (by kernel_rfl))
  t3:=Tryz.underlying3
  a3:=Tryz.isAgg3
  z3:=Tryz.sizeOf3
  v3:=Tryz.zeroValue3
  t4:=Tryz.underlying4
  a4:=Tryz.isAgg4
  z4:=Tryz.sizeOf4
  v4:=Tryz.zeroValue4
  t5:=Tryz.underlying5
  a5:=Tryz.isAgg5
  z5:=Tryz.sizeOf5
  v5:=Tryz.zeroValue5
  t9:=Tryz.underlying9
  a9:=Tryz.isAgg9
  z9:=Tryz.sizeOf9
  v9:=Tryz.zeroValue9
  t46:=Tryz.underlying97
  a46:=Tryz.isAgg97
  z46:=Tryz.sizeOf97
  v46:=Tryz.zeroValue97
  t51:=Tryz.underlying92
  a51:=Tryz.isAgg92
  z51:=Tryz.sizeOf92
  v51:=Tryz.zeroValue92
  t146:=Tryz.underlying129
  a146:=Tryz.isAgg129
  z146:=Tryz.sizeOf129
  v146:=Tryz.zeroValue129
  g1:=by kernel_rfl }
open Go.RowKit Go.Lib in
theorem Tryz.stringslite_Index_one (s : ByteArray) (c : UInt8) (w : World) :
    Calls Tryz.prog 141 #[.string s,.string ⟨#[c]⟩] w fun e w'=>e = .returned (.int .i64 (Lib.indexByte s.data.toList c))∧w' = w:=Any.stringslite_Index_one Tryz.lays219 s c w
def Tryz.lays144_ren : Go.Shelf.Ren:=⟨fun | 144=>117 | 143=>138 | 219=>141 | 217=>130 | 225=>182 | 224=>183 | 267=>184 | 266=>158 | 314=>217 | n=>n,fun | 9=>9 | 4=>4 | 3=>3 | 5=>5 | 46=>97 | 146=>129 | 51=>92 | n=>n,fun | 1=>6 | n=>n⟩
theorem Tryz.lays144 : Go.Proofs.Lays.n144 Tryz.prog Tryz.lays144_ren:={
  mixed:=by kernel_rfl
  f143:=Tryz.func138.trans (congrArg some (by kernel_rfl))
  f144:=Tryz.func117.trans (congrArg some (by kernel_rfl))
  f217:=Tryz.func130.trans (congrArg some (by kernel_rfl))
  f219:=Tryz.func141.trans (congrArg some (by kernel_rfl))
  f224:=Tryz.func183.trans (congrArg some (by kernel_rfl))
  f225:=Tryz.func182.trans (congrArg some (by kernel_rfl))
  f266:=Tryz.func158.trans (congrArg some (by kernel_rfl))
  f267:=Tryz.func184.trans (congrArg some (by kernel_rfl))
  f314:=Tryz.func217.trans (congrArg some (by kernel_rfl))
  t3:=Tryz.underlying3
  a3:=Tryz.isAgg3
  z3:=Tryz.sizeOf3
  v3:=Tryz.zeroValue3
  t4:=Tryz.underlying4
  a4:=Tryz.isAgg4
  z4:=Tryz.sizeOf4
  v4:=Tryz.zeroValue4
  t5:=Tryz.underlying5
  a5:=Tryz.isAgg5
  z5:=Tryz.sizeOf5
  v5:=Tryz.zeroValue5
  t9:=Tryz.underlying9
  a9:=Tryz.isAgg9
  z9:=Tryz.sizeOf9
  v9:=Tryz.zeroValue9
  t46:=Tryz.underlying97
  a46:=Tryz.isAgg97
  z46:=Tryz.sizeOf97
  v46:=Tryz.zeroValue97
  t51:=Tryz.underlying92
  a51:=Tryz.isAgg92
  z51:=Tryz.sizeOf92
  v51:=Tryz.zeroValue92
  t146:=Tryz.underlying129
  a146:=Tryz.isAgg129
  z146:=Tryz.sizeOf129
  v146:=Tryz.zeroValue129
  g1:=by kernel_rfl }
open Go.RowKit Go.Lib in
theorem Tryz.strings_Contains_one (s : ByteArray) (c : UInt8) (w : World) :
    Calls Tryz.prog 117 #[.string s,.string ⟨#[c]⟩] w fun e w'=>e = .returned (.bool (decide (0 ≤ Lib.indexByte s.data.toList c)))∧w' = w:=Any.strings_Contains_one Tryz.lays144 s c w
def Tryz.lays99_ren : Go.Shelf.Ren:=⟨fun | 99=>152 | 206=>191 | n=>n,fun | 9=>9 | 4=>4 | 3=>3 | n=>n,fun | n=>n⟩
theorem Tryz.lays99 : Go.Proofs.Lays.n99 Tryz.prog Tryz.lays99_ren:={
  mixed:=by kernel_rfl
  f99:=Tryz.func152.trans (congrArg some (by kernel_rfl))
  f206:=Tryz.func191.trans (congrArg some (by kernel_rfl))
  t3:=Tryz.underlying3
  a3:=Tryz.isAgg3
  z3:=Tryz.sizeOf3
  v3:=Tryz.zeroValue3
  t4:=Tryz.underlying4
  a4:=Tryz.isAgg4
  z4:=Tryz.sizeOf4
  v4:=Tryz.zeroValue4
  t9:=Tryz.underlying9
  a9:=Tryz.isAgg9
  z9:=Tryz.sizeOf9
  v9:=Tryz.zeroValue9 }
open Go.RowKit Go.Lib in
theorem Tryz.strings_HasPrefix (s p : ByteArray) (w : World) :
    Calls Tryz.prog 152 #[.string s,.string p] w fun e w'=>e = .returned (.bool (Lib.hasPrefix s.data.toList p.data.toList))∧w' = w:=Any.strings_HasPrefix Tryz.lays99 s p w
def Tryz.lays153_ren : Go.Shelf.Ren:=⟨fun | 153=>196 | 152=>222 | 226=>223 | 227=>224 | 228=>225 | 137=>111 | 119=>94 | 224=>183 | 225=>182 | 217=>130 | 266=>158 | n=>n,fun | 9=>9 | 3=>3 | 4=>4 | 5=>5 | 21=>21 | 117=>279 | 116=>278 | 0=>0 | 46=>97 | 124=>294 | n=>n,fun | n=>n⟩
theorem Tryz.lays153 : Go.Proofs.Lays.n153 Tryz.prog Tryz.lays153_ren:={
  mixed:=by kernel_rfl
  f119:=Tryz.func94.trans (congrArg some (by kernel_rfl))
  f137:=Tryz.func111.trans (congrArg some (by kernel_rfl))
  f152:=Tryz.func222.trans (congrArg some (by kernel_rfl))
  f153:=Tryz.func196.trans (congrArg some (by kernel_rfl))
  f217:=Tryz.func130.trans (congrArg some (by kernel_rfl))
  f224:=Tryz.func183.trans (congrArg some (by kernel_rfl))
  f225:=Tryz.func182.trans (congrArg some (by kernel_rfl))
  f226:=Tryz.func223.trans (congrArg some (by kernel_rfl))
  f227:=Tryz.func224.trans (congrArg some (by kernel_rfl))
  f228:=Tryz.func225.trans (congrArg some (by kernel_rfl))
  f266:=Tryz.func158.trans (congrArg some (by kernel_rfl))
  t0:=Tryz.underlying0
  a0:=Tryz.isAgg0
  z0:=Tryz.sizeOf0
  v0:=Tryz.zeroValue0
  t3:=Tryz.underlying3
  a3:=Tryz.isAgg3
  z3:=Tryz.sizeOf3
  v3:=Tryz.zeroValue3
  t4:=Tryz.underlying4
  a4:=Tryz.isAgg4
  z4:=Tryz.sizeOf4
  v4:=Tryz.zeroValue4
  t5:=Tryz.underlying5
  a5:=Tryz.isAgg5
  z5:=Tryz.sizeOf5
  v5:=Tryz.zeroValue5
  t9:=Tryz.underlying9
  a9:=Tryz.isAgg9
  z9:=Tryz.sizeOf9
  v9:=Tryz.zeroValue9
  t21:=Tryz.underlying21
  a21:=Tryz.isAgg21
  z21:=Tryz.sizeOf21
  v21:=Tryz.zeroValue21
  t46:=Tryz.underlying97
  a46:=Tryz.isAgg97
  z46:=Tryz.sizeOf97
  v46:=Tryz.zeroValue97
  t116:=Tryz.underlying278
  a116:=Tryz.isAgg278
  z116:=Tryz.sizeOf278
  t117:=Tryz.underlying279
  a117:=Tryz.isAgg279
  z117:=Tryz.sizeOf279
  v117:=Tryz.zeroValue279
  t124:=Tryz.underlying294
  a124:=Tryz.isAgg294
  z124:=Tryz.sizeOf294
  v124:=Tryz.zeroValue294 }
def Tryz.lays264_ren : Go.Shelf.Ren:=⟨fun | 264=>63 | n=>n,fun | 53=>131 | 46=>97 | n=>n,fun | n=>n⟩
theorem Tryz.lays264 : Go.Proofs.Lays.n264 Tryz.prog Tryz.lays264_ren:={
  mixed:=by kernel_rfl
  f264:=Tryz.func63.trans (congrArg some (by kernel_rfl))
  t46:=Tryz.underlying97
  a46:=Tryz.isAgg97
  z46:=Tryz.sizeOf97
  v46:=Tryz.zeroValue97
  t53:=Tryz.underlying131
  a53:=Tryz.isAgg131
  z53:=Tryz.sizeOf131
  v53:=Tryz.zeroValue131 }
open Go.RowKit Go.Lib in
theorem Tryz.bits_Mul64 (x y : Nat) (hx : x < 18446744073709551616) (hy : y < 18446744073709551616) (w : World) :
    Calls Tryz.prog 63 #[.int .u64 x,.int .u64 y] w fun e w'=>e = .returned (.tuple #[.int .u64 ((x * y / 18446744073709551616 : Nat) : Int),.int .u64 ((x * y % 18446744073709551616 : Nat) : Int)])∧w' = w:=Any.bits_Mul64 Tryz.lays264 x y hx hy w
def Tryz.lays105_ren : Go.Shelf.Ren:=⟨fun | 105=>128 | 212=>45 | 99=>152 | 165=>153 | 166=>70 | 170=>127 | 169=>59 | 263=>62 | 264=>63 | 206=>191 | 240=>85 | 241=>192 | 276=>99 | 277=>219 | n=>n,fun | 9=>9 | 3=>3 | 4=>4 | 20=>20 | 0=>0 | 46=>97 | 109=>98 | 5=>5 | 72=>115 | 76=>141 | 51=>92 | 146=>129 | 53=>131 | 148=>132 | 70=>112 | 37=>113 | 75=>140 | 127=>147 | 164=>166 | 80=>117 | n=>n,fun | n=>n⟩
theorem Tryz.lays105 : Go.Proofs.Lays.n105 Tryz.prog Tryz.lays105_ren:={
  mixed:=by kernel_rfl
  f99:=Tryz.func152.trans (congrArg some (by kernel_rfl))
  f105:=Tryz.func128.trans (congrArg some (by kernel_rfl))
  f165:=Tryz.func153.trans (congrArg some (by kernel_rfl))
  f166:=Tryz.func70.trans (congrArg some (by kernel_rfl))
  f169:=Tryz.func59.trans (congrArg some (by kernel_rfl))
  f170:=Tryz.func127.trans (congrArg some (by kernel_rfl))
  f206:=Tryz.func191.trans (congrArg some (by kernel_rfl))
  f212:=Tryz.func45.trans (congrArg some (by kernel_rfl))
  f240:=Tryz.func85.trans (congrArg some (by kernel_rfl))
  f241:=Tryz.func192.trans (congrArg some (by kernel_rfl))
  f263:=Tryz.func62.trans (congrArg some (by kernel_rfl))
  f264:=Tryz.func63.trans (congrArg some (by kernel_rfl))
  f276:=Tryz.func99.trans (congrArg some (by kernel_rfl))
  f277:=Tryz.func219.trans (congrArg some (by kernel_rfl))
  t0:=Tryz.underlying0
  a0:=Tryz.isAgg0
  z0:=Tryz.sizeOf0
  v0:=Tryz.zeroValue0
  t3:=Tryz.underlying3
  a3:=Tryz.isAgg3
  z3:=Tryz.sizeOf3
  v3:=Tryz.zeroValue3
  t4:=Tryz.underlying4
  a4:=Tryz.isAgg4
  z4:=Tryz.sizeOf4
  v4:=Tryz.zeroValue4
  t5:=Tryz.underlying5
  a5:=Tryz.isAgg5
  z5:=Tryz.sizeOf5
  v5:=Tryz.zeroValue5
  t9:=Tryz.underlying9
  a9:=Tryz.isAgg9
  z9:=Tryz.sizeOf9
  v9:=Tryz.zeroValue9
  t20:=Tryz.underlying20
  a20:=Tryz.isAgg20
  z20:=Tryz.sizeOf20
  v20:=Tryz.zeroValue20
  t37:=Tryz.underlying113
  a37:=Tryz.isAgg113
  z37:=Tryz.sizeOf113
  v37:=Tryz.zeroValue113
  t46:=Tryz.underlying97
  a46:=Tryz.isAgg97
  z46:=Tryz.sizeOf97
  v46:=Tryz.zeroValue97
  t51:=Tryz.underlying92
  a51:=Tryz.isAgg92
  z51:=Tryz.sizeOf92
  v51:=Tryz.zeroValue92
  t53:=Tryz.underlying131
  a53:=Tryz.isAgg131
  z53:=Tryz.sizeOf131
  v53:=Tryz.zeroValue131
  t70:=Tryz.underlying112
  a70:=Tryz.isAgg112
  z70:=Tryz.sizeOf112
  v70:=Tryz.zeroValue112
  t72:=Tryz.underlying115
  a72:=Tryz.isAgg115
  z72:=Tryz.sizeOf115
  v72:=Tryz.zeroValue115
  t75:=Tryz.underlying140
  a75:=Tryz.isAgg140
  z75:=Tryz.sizeOf140
  v75:=Tryz.zeroValue140
  t76:=Tryz.underlying141
  a76:=Tryz.isAgg141
  z76:=Tryz.sizeOf141
  v76:=Tryz.zeroValue141
  t109:=Tryz.underlying98
  a109:=Tryz.isAgg98
  z109:=Tryz.sizeOf98
  v109:=Tryz.zeroValue98
  t127:=Tryz.underlying147
  a127:=Tryz.isAgg147
  z127:=Tryz.sizeOf147
  v127:=Tryz.zeroValue147
  t146:=Tryz.underlying129
  a146:=Tryz.isAgg129
  z146:=Tryz.sizeOf129
  v146:=Tryz.zeroValue129
  t148:=Tryz.underlying132
  a148:=Tryz.isAgg132
  z148:=Tryz.sizeOf132
  v148:=Tryz.zeroValue132
  t164:=Tryz.underlying166
  a164:=Tryz.isAgg166
  z164:=Tryz.sizeOf166
  v164:=Tryz.zeroValue166 }
theorem Tryz.Builder_Extra_105 : Builder.Extra Tryz.prog Tryz.lays105_ren:={
  sizeBuilder:=by kernel_rfl
  liesBuilder:=by kernel_rfl
  t5:=Tryz.underlying5
  a5:=Tryz.isAgg5
  z5:=Tryz.sizeOf5
  v5:=Tryz.zeroValue5
  infoByte:=by kernel_rfl
  cellsByte:=by kernel_rfl
  sizeByte:=by kernel_rfl
  neB5:=by decide }
open Go.RowKit Go.Lib in
theorem Tryz.strings_Repeat (s : ByteArray) (c : Nat) (w : World) (hc : c ≤ 9223372036854775807) (hlen : s.size * c ≤ 140737488355328) :
    Calls Tryz.prog 128 #[.string s,.int .i64 c] w fun e w'=>e = .returned (.string ⟨(Lib.repeatL s.data.toList c).toArray⟩)∧Below w.heap.size w w':=Any.strings_Repeat Tryz.lays105 Tryz.Builder_Extra_105 s c w hc hlen
end Go.Proofs
namespace Go.Proofs
open Go.Shelf
def Tryz.laysPu14_ren : Go.Shelf.Ren:=⟨fun | 14=>161 | 16=>185 | 17=>121 | 19=>200 | 20=>218 | 21=>143 | 22=>144 | 23=>145 | 24=>146 | 25=>186 | 27=>107 | 26=>187 | 28=>122 | 29=>129 | 30=>154 | 31=>155 | 32=>156 | 33=>157 | 35=>173 | 34=>176 | 36=>193 | 37=>194 | 38=>195 | 39=>220 | 40=>221 | n=>n,fun | 9=>9 | 3=>3 | 22=>131 | 24=>140 | 25=>224 | 4=>4 | 34=>207 | 5=>5 | 36=>97 | 37=>113 | 0=>0 | 39=>210 | 21=>21 | 44=>244 | 47=>147 | 50=>273 | 48=>271 | 2=>2 | 52=>219 | 55=>222 | 59=>250 | 60=>92 | 20=>20 | 61=>251 | 65=>233 | 66=>293 | 67=>117 | n=>n,fun | 0=>7 | 1=>8 | 2=>9 | 3=>13 | 4=>14 | n=>n⟩
theorem Tryz.laysPu14 : Go.Proofs.LaysPu.n14 Tryz.prog Tryz.laysPu14_ren:={
  mixed:=by kernel_rfl
  f14:=Tryz.func161.trans (congrArg some (by kernel_rfl))
  f16:=Tryz.func185.trans (congrArg some (by kernel_rfl))
  f17:=Tryz.func121.trans (congrArg some (by kernel_rfl))
  f19:=Tryz.func200.trans (congrArg some (by kernel_rfl))
  f20:=Tryz.func218.trans (congrArg some (by kernel_rfl))
  f21:=Tryz.func143.trans (congrArg some (by kernel_rfl))
  f22:=Tryz.func144.trans (congrArg some (by kernel_rfl))
  f23:=Tryz.func145.trans (congrArg some (by kernel_rfl))
  f24:=Tryz.func146.trans (congrArg some (by kernel_rfl))
  f25:=Tryz.func186.trans (congrArg some (by kernel_rfl))
  f26:=Tryz.func187.trans (congrArg some (by kernel_rfl))
  f27:=Tryz.func107.trans (congrArg some (by kernel_rfl))
  f28:=Tryz.func122.trans (congrArg some (by kernel_rfl))
  f29:=Tryz.func129.trans (congrArg some (by kernel_rfl))
  f30:=Tryz.func154.trans (congrArg some (by kernel_rfl))
  f31:=Tryz.func155.trans (congrArg some (by kernel_rfl))
  f32:=Tryz.func156.trans (congrArg some (by kernel_rfl))
  f33:=Tryz.func157.trans (congrArg some (by kernel_rfl))
  f34:=Tryz.func176.trans (congrArg some (by kernel_rfl))
  f35:=Tryz.func173.trans (congrArg some (by kernel_rfl))
  f36:=Tryz.func193.trans (congrArg some (by kernel_rfl))
  f37:=Tryz.func194.trans (congrArg some (by kernel_rfl))
  f38:=Tryz.func195.trans (congrArg some (by kernel_rfl))
  f39:=Tryz.func220.trans (congrArg some (by kernel_rfl))
  f40:=Tryz.func221.trans (congrArg some (by kernel_rfl))
  t0:=Tryz.underlying0
  a0:=Tryz.isAgg0
  z0:=Tryz.sizeOf0
  v0:=Tryz.zeroValue0
  i0:=by kernel_rfl
  t2:=Tryz.underlying2
  a2:=Tryz.isAgg2
  z2:=Tryz.sizeOf2
  v2:=Tryz.zeroValue2
  i2:=by kernel_rfl
  t3:=Tryz.underlying3
  a3:=Tryz.isAgg3
  z3:=Tryz.sizeOf3
  v3:=Tryz.zeroValue3
  i3:=by kernel_rfl
  t4:=Tryz.underlying4
  a4:=Tryz.isAgg4
  z4:=Tryz.sizeOf4
  v4:=Tryz.zeroValue4
  i4:=by kernel_rfl
  t5:=Tryz.underlying5
  a5:=Tryz.isAgg5
  z5:=Tryz.sizeOf5
  v5:=Tryz.zeroValue5
  i5:=by kernel_rfl
  t9:=Tryz.underlying9
  a9:=Tryz.isAgg9
  z9:=Tryz.sizeOf9
  v9:=Tryz.zeroValue9
  i9:=by kernel_rfl
  t20:=Tryz.underlying20
  a20:=Tryz.isAgg20
  z20:=Tryz.sizeOf20
  v20:=Tryz.zeroValue20
  i20:=by kernel_rfl
  t21:=Tryz.underlying21
  a21:=Tryz.isAgg21
  z21:=Tryz.sizeOf21
  v21:=Tryz.zeroValue21
  i21:=by kernel_rfl
  t22:=Tryz.underlying131
  a22:=Tryz.isAgg131
  z22:=Tryz.sizeOf131
  v22:=Tryz.zeroValue131
  i22:=by kernel_rfl
  t24:=Tryz.underlying140
  a24:=Tryz.isAgg140
  z24:=Tryz.sizeOf140
  v24:=Tryz.zeroValue140
  i24:=by kernel_rfl
  t25:=Tryz.underlying224
  a25:=Tryz.isAgg224
  z25:=Tryz.sizeOf224
  v25:=Tryz.zeroValue224
  i25:=by kernel_rfl
  t34:=Tryz.underlying207
  a34:=Tryz.isAgg207
  z34:=Tryz.sizeOf207
  v34:=Tryz.zeroValue207
  i34:=by kernel_rfl
  c34:=by kernel_rfl
  t36:=Tryz.underlying97
  a36:=Tryz.isAgg97
  z36:=Tryz.sizeOf97
  v36:=Tryz.zeroValue97
  i36:=by kernel_rfl
  t37:=Tryz.underlying113
  a37:=Tryz.isAgg113
  z37:=Tryz.sizeOf113
  v37:=Tryz.zeroValue113
  i37:=by kernel_rfl
  t39:=Tryz.underlying210
  a39:=Tryz.isAgg210
  z39:=Tryz.sizeOf210
  v39:=Tryz.zeroValue210
  i39:=by kernel_rfl
  t44:=Tryz.underlying244
  a44:=Tryz.isAgg244
  z44:=Tryz.sizeOf244
  v44:=Tryz.zeroValue244
  i44:=by kernel_rfl
  t47:=Tryz.underlying147
  a47:=Tryz.isAgg147
  z47:=Tryz.sizeOf147
  v47:=Tryz.zeroValue147
  i47:=by kernel_rfl
  t48:=Tryz.underlying271
  a48:=Tryz.isAgg271
  z48:=Tryz.sizeOf271
  v48:=Tryz.zeroValue271
  i48:=by kernel_rfl
  t50:=Tryz.underlying273
  a50:=Tryz.isAgg273
  z50:=Tryz.sizeOf273
  v50:=Tryz.zeroValue273
  i50:=by kernel_rfl
  t52:=Tryz.underlying219
  a52:=Tryz.isAgg219
  z52:=Tryz.sizeOf219
  v52:=Tryz.zeroValue219
  i52:=by kernel_rfl
  t55:=Tryz.underlying222
  a55:=Tryz.isAgg222
  z55:=Tryz.sizeOf222
  v55:=Tryz.zeroValue222
  i55:=by kernel_rfl
  t59:=Tryz.underlying250
  a59:=Tryz.isAgg250
  z59:=Tryz.sizeOf250
  v59:=Tryz.zeroValue250
  i59:=by kernel_rfl
  t60:=Tryz.underlying92
  a60:=Tryz.isAgg92
  z60:=Tryz.sizeOf92
  v60:=Tryz.zeroValue92
  i60:=by kernel_rfl
  t61:=Tryz.underlying251
  a61:=Tryz.isAgg251
  z61:=Tryz.sizeOf251
  t65:=Tryz.underlying233
  a65:=Tryz.isAgg233
  z65:=Tryz.sizeOf233
  v65:=Tryz.zeroValue233
  i65:=by kernel_rfl
  t66:=Tryz.underlying293
  a66:=Tryz.isAgg293
  z66:=Tryz.sizeOf293
  v66:=Tryz.zeroValue293
  i66:=by kernel_rfl
  t67:=Tryz.underlying117
  a67:=Tryz.isAgg117
  z67:=Tryz.sizeOf117
  v67:=Tryz.zeroValue117
  i67:=by kernel_rfl
  g0:=by kernel_rfl
  m0:=by kernel_rfl
  g1:=by kernel_rfl
  m1:=by kernel_rfl
  g2:=by kernel_rfl
  m2:=by kernel_rfl
  g3:=by kernel_rfl
  m3:=by kernel_rfl
  g4:=by kernel_rfl
  m4:=by kernel_rfl }
open Go.RowKit in
theorem Tryz.strconv_ParseUint_10_at32_ok (s : ByteArray) (hmax : s.size ≤ 9223372036854775806) (u : Nat) (h : Lib.parseUintB 32 s.data.toList = .ok u) (w : World) :
    Calls Tryz.prog 161 #[.string s,.int .i64 10,.int .i64 32] w fun e w'=>e = .returned (.tuple #[.int .u64 u,.nilIface])∧(w' = w ∨ w' = Lib.bytesWorld w 5 s):=Any.strconv_ParseUint_10_at32_ok Tryz.laysPu14 s hmax u h w
end Go.Proofs
namespace Go.Proofs
open Go.Shelf
def Tryz.lays103_ren : Go.Shelf.Ren:=⟨fun | 103=>131 | 210=>159 | 206=>191 | n=>n,fun | 9=>9 | 4=>4 | 24=>194 | 3=>3 | n=>n,fun | n=>n⟩
theorem Tryz.lays103 : Go.Proofs.Lays.n103 Tryz.prog Tryz.lays103_ren:={
  mixed:=by kernel_rfl
  f103:=Tryz.func131.trans (congrArg some (by kernel_rfl))
  f206:=Tryz.func191.trans (congrArg some (by kernel_rfl))
  f210:=Tryz.func159.trans (congrArg some (by kernel_rfl))
  t3:=Tryz.underlying3
  a3:=Tryz.isAgg3
  z3:=Tryz.sizeOf3
  v3:=Tryz.zeroValue3
  t4:=Tryz.underlying4
  a4:=Tryz.isAgg4
  z4:=Tryz.sizeOf4
  v4:=Tryz.zeroValue4
  t9:=Tryz.underlying9
  a9:=Tryz.isAgg9
  z9:=Tryz.sizeOf9
  v9:=Tryz.zeroValue9
  t24:=Tryz.underlying194
  a24:=Tryz.isAgg194
  z24:=Tryz.sizeOf194
  v24:=Tryz.zeroValue194 }
open Go.RowKit in
theorem Tryz.strings_CutPrefix (s p : ByteArray) (w : World) :
    Calls Tryz.prog 131 #[.string s,.string p] w fun e w'=>e = .returned (.tuple #[.string ⟨(Lib.trimPrefix s.data.toList p.data.toList).toArray⟩,.bool (Lib.hasPrefix s.data.toList p.data.toList)])∧w' = w:=Any.strings_CutPrefix Tryz.lays103 s p w
def Tryz.lays101_ren : Go.Shelf.Ren:=⟨fun | 101=>132 | 208=>160 | 206=>191 | n=>n,fun | 9=>9 | 4=>4 | 3=>3 | n=>n,fun | n=>n⟩
theorem Tryz.lays101 : Go.Proofs.Lays.n101 Tryz.prog Tryz.lays101_ren:={
  mixed:=by kernel_rfl
  f101:=Tryz.func132.trans (congrArg some (by kernel_rfl))
  f206:=Tryz.func191.trans (congrArg some (by kernel_rfl))
  f208:=Tryz.func160.trans (congrArg some (by kernel_rfl))
  t3:=Tryz.underlying3
  a3:=Tryz.isAgg3
  z3:=Tryz.sizeOf3
  v3:=Tryz.zeroValue3
  t4:=Tryz.underlying4
  a4:=Tryz.isAgg4
  z4:=Tryz.sizeOf4
  v4:=Tryz.zeroValue4
  t9:=Tryz.underlying9
  a9:=Tryz.isAgg9
  z9:=Tryz.sizeOf9
  v9:=Tryz.zeroValue9 }
open Go.RowKit Go.Lib in
theorem Tryz.strings_TrimPrefix (s p : ByteArray) (w : World) :
    Calls Tryz.prog 132 #[.string s,.string p] w fun e w'=>e = .returned (.string ⟨(Lib.trimPrefix s.data.toList p.data.toList).toArray⟩)∧w' = w:=Any.strings_TrimPrefix Tryz.lays101 s p w
end Go.Proofs
namespace Go.Proofs
open Go.Shelf
open Go.RowKit Go.Lib in
theorem Tryz.strings_IndexAny_laid (s chars : ByteArray) (w : World) (hs : s.size < 4294967281) (hcs : chars.size < 4294967281) (has : ∀ (j : Nat) b,s.data.toList[j]? = some b → b.toNat < 128) (hac : ∀ (j : Nat) b,chars.data.toList[j]? = some b → b.toNat < 128) :
    Calls Tryz.prog 196 #[.string s,.string chars] w fun e w'=>e = .returned (.int .i64 (Lib.indexAny s.data.toList chars.data.toList))∧Below w.heap.size w w':=Any.strings_IndexAny_laid Tryz.lays153 (by kernel_rfl) s chars w hs hcs has hac
end Go.Proofs
namespace Go.Proofs
open Go.Shelf
def Tryz.laysC245_ren : Go.Shelf.Ren:=⟨fun | 245=>121 | 279=>143 | 280=>144 | 281=>145 | 282=>146 | 316=>186 | 171=>107 | 205=>187 | 243=>122 | 246=>129 | 283=>154 | 284=>155 | 285=>156 | 286=>157 | 129=>173 | 317=>176 | 318=>193 | 319=>194 | 320=>195 | 337=>220 | 338=>221 | n=>n,fun | 9=>9 | 3=>3 | 75=>140 | 167=>207 | 4=>4 | 168=>210 | 210=>244 | 37=>113 | 0=>0 | 127=>147 | 145=>273 | 143=>271 | 2=>2 | 171=>219 | 53=>131 | 5=>5 | 173=>222 | 212=>250 | 51=>92 | 20=>20 | 213=>251 | 46=>97 | 232=>233 | 233=>293 | 80=>117 | n=>n,fun | 15=>7 | 16=>8 | 17=>9 | 18=>13 | 19=>14 | n=>n⟩
theorem Tryz.laysC245 : Go.Proofs.LaysC.n245 Tryz.prog Tryz.laysC245_ren:={
  mixed:=by kernel_rfl
  f129:=Tryz.func173.trans (congrArg some (by kernel_rfl))
  f171:=Tryz.func107.trans (congrArg some (by kernel_rfl))
  f205:=Tryz.func187.trans (congrArg some (by kernel_rfl))
  f243:=Tryz.func122.trans (congrArg some (by kernel_rfl))
  f245:=Tryz.func121.trans (congrArg some (by kernel_rfl))
  f246:=Tryz.func129.trans (congrArg some (by kernel_rfl))
  f279:=Tryz.func143.trans (congrArg some (by kernel_rfl))
  f280:=Tryz.func144.trans (congrArg some (by kernel_rfl))
  f281:=Tryz.func145.trans (congrArg some (by kernel_rfl))
  f282:=Tryz.func146.trans (congrArg some (by kernel_rfl))
  f283:=Tryz.func154.trans (congrArg some (by kernel_rfl))
  f284:=Tryz.func155.trans (congrArg some (by kernel_rfl))
  f285:=Tryz.func156.trans (congrArg some (by kernel_rfl))
  f286:=Tryz.func157.trans (congrArg some (by kernel_rfl))
  f316:=Tryz.func186.trans (congrArg some (by kernel_rfl))
  f317:=Tryz.func176.trans (congrArg some (by kernel_rfl))
  f318:=Tryz.func193.trans (congrArg some (by kernel_rfl))
  f319:=Tryz.func194.trans (congrArg some (by kernel_rfl))
  f320:=Tryz.func195.trans (congrArg some (by kernel_rfl))
  f337:=Tryz.func220.trans (congrArg some (by kernel_rfl))
  f338:=Tryz.func221.trans (congrArg some (by kernel_rfl))
  t0:=Tryz.underlying0
  a0:=Tryz.isAgg0
  z0:=Tryz.sizeOf0
  v0:=Tryz.zeroValue0
  t2:=Tryz.underlying2
  a2:=Tryz.isAgg2
  z2:=Tryz.sizeOf2
  v2:=Tryz.zeroValue2
  t3:=Tryz.underlying3
  a3:=Tryz.isAgg3
  z3:=Tryz.sizeOf3
  v3:=Tryz.zeroValue3
  t4:=Tryz.underlying4
  a4:=Tryz.isAgg4
  z4:=Tryz.sizeOf4
  v4:=Tryz.zeroValue4
  t5:=Tryz.underlying5
  a5:=Tryz.isAgg5
  z5:=Tryz.sizeOf5
  v5:=Tryz.zeroValue5
  t9:=Tryz.underlying9
  a9:=Tryz.isAgg9
  z9:=Tryz.sizeOf9
  v9:=Tryz.zeroValue9
  t20:=Tryz.underlying20
  a20:=Tryz.isAgg20
  z20:=Tryz.sizeOf20
  v20:=Tryz.zeroValue20
  t37:=Tryz.underlying113
  a37:=Tryz.isAgg113
  z37:=Tryz.sizeOf113
  v37:=Tryz.zeroValue113
  t46:=Tryz.underlying97
  a46:=Tryz.isAgg97
  z46:=Tryz.sizeOf97
  v46:=Tryz.zeroValue97
  t51:=Tryz.underlying92
  a51:=Tryz.isAgg92
  z51:=Tryz.sizeOf92
  v51:=Tryz.zeroValue92
  t53:=Tryz.underlying131
  a53:=Tryz.isAgg131
  z53:=Tryz.sizeOf131
  v53:=Tryz.zeroValue131
  t75:=Tryz.underlying140
  a75:=Tryz.isAgg140
  z75:=Tryz.sizeOf140
  v75:=Tryz.zeroValue140
  t127:=Tryz.underlying147
  a127:=Tryz.isAgg147
  z127:=Tryz.sizeOf147
  v127:=Tryz.zeroValue147
  t143:=Tryz.underlying271
  a143:=Tryz.isAgg271
  z143:=Tryz.sizeOf271
  v143:=Tryz.zeroValue271
  t145:=Tryz.underlying273
  a145:=Tryz.isAgg273
  z145:=Tryz.sizeOf273
  v145:=Tryz.zeroValue273
  t167:=Tryz.underlying207
  a167:=Tryz.isAgg207
  z167:=Tryz.sizeOf207
  v167:=Tryz.zeroValue207
  t168:=Tryz.underlying210
  a168:=Tryz.isAgg210
  z168:=Tryz.sizeOf210
  v168:=Tryz.zeroValue210
  t171:=Tryz.underlying219
  a171:=Tryz.isAgg219
  z171:=Tryz.sizeOf219
  v171:=Tryz.zeroValue219
  t173:=Tryz.underlying222
  a173:=Tryz.isAgg222
  z173:=Tryz.sizeOf222
  v173:=Tryz.zeroValue222
  t210:=Tryz.underlying244
  a210:=Tryz.isAgg244
  z210:=Tryz.sizeOf244
  v210:=Tryz.zeroValue244
  t212:=Tryz.underlying250
  a212:=Tryz.isAgg250
  z212:=Tryz.sizeOf250
  v212:=Tryz.zeroValue250
  t213:=Tryz.underlying251
  a213:=Tryz.isAgg251
  z213:=Tryz.sizeOf251
  t232:=Tryz.underlying233
  a232:=Tryz.isAgg233
  z232:=Tryz.sizeOf233
  v232:=Tryz.zeroValue233
  t233:=Tryz.underlying293
  a233:=Tryz.isAgg293
  z233:=Tryz.sizeOf293
  v233:=Tryz.zeroValue293
  g15:=by kernel_rfl
  g16:=by kernel_rfl
  g17:=by kernel_rfl
  g18:=by kernel_rfl
  g19:=by kernel_rfl
  t80:=Tryz.underlying117
  a80:=Tryz.isAgg117
  z80:=Tryz.sizeOf117
  v80:=Tryz.zeroValue117
  i0:=by kernel_rfl
  i2:=by kernel_rfl
  i3:=by kernel_rfl
  i4:=by kernel_rfl
  i5:=by kernel_rfl
  i9:=by kernel_rfl
  i20:=by kernel_rfl
  i37:=by kernel_rfl
  i46:=by kernel_rfl
  i51:=by kernel_rfl
  i53:=by kernel_rfl
  i75:=by kernel_rfl
  i80:=by kernel_rfl
  i127:=by kernel_rfl
  i143:=by kernel_rfl
  i145:=by kernel_rfl
  i167:=by kernel_rfl
  i168:=by kernel_rfl
  i171:=by kernel_rfl
  i173:=by kernel_rfl
  i210:=by kernel_rfl
  i212:=by kernel_rfl
  i232:=by kernel_rfl
  i233:=by kernel_rfl
  m15:=by kernel_rfl
  m16:=by kernel_rfl
  m17:=by kernel_rfl
  m18:=by kernel_rfl
  m19:=by kernel_rfl
  c0:=by kernel_rfl
  c2:=by kernel_rfl
  c3:=by kernel_rfl
  c4:=by kernel_rfl
  c5:=by kernel_rfl
  c9:=by kernel_rfl
  c20:=by kernel_rfl
  c37:=by kernel_rfl
  c46:=by kernel_rfl
  c51:=by kernel_rfl
  c53:=by kernel_rfl
  c75:=by kernel_rfl
  c80:=by kernel_rfl
  c127:=by kernel_rfl
  c143:=by kernel_rfl
  c145:=by kernel_rfl
  c167:=by kernel_rfl
  c168:=by kernel_rfl
  c171:=by kernel_rfl
  c173:=by kernel_rfl
  c210:=by kernel_rfl
  c212:=by kernel_rfl
  c213:=by kernel_rfl
  c232:=by kernel_rfl
  c233:=by kernel_rfl }
open Go.RowKit in
theorem Tryz.strconv_toError_range (fn s : ByteArray) (base bits : Int) (ev : Value) (w : World) (hlim : s.size ≤ 281474976710656) (hv : w.cell? ⟨8,0,none⟩ = some ev) (hev : ev = .nilIface ∨ ∃ te pe,ev = .iface te pe) :
    Calls Tryz.prog 121 #[.string fn,.string s,.int .i64 base,.int .i64 bits,.iface 207 (.int .i64 1)] w fun e w'=>∃ N,e = .returned (.iface 210 (.pointer (some ⟨N,0,none⟩)))∧w.heap.size ≤ N∧w'.heap[N]? = some (.cells #[.string fn,.string s,ev] 244 (0,0))∧Below w.heap.size w w':=Any.strconv_toError_range Tryz.laysC245 fn s base bits ev w hlim hv hev
end Go.Proofs
