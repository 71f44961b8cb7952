import Derived.Shelf.Strings.Builder1
import Derived.Shelf.Strings.Builder2
import Derived.Shelf.Small.Utf8
import Derived.Shelf.Small.Strs
import Derived.Shelf.Small.Wraps
import Derived.Shelf.Strings.BuilderF
import Derived.Shelf.Strings.BuilderK
import Derived.Shelf.Utf8.RuneCount
import Derived.Shelf.Strconv.Atoi
import Derived.Shelf.Strconv.Itoa0
import Derived.Shelf.Strconv.Itoa1
import Derived.Shelf.LaysM
import Derived.Shelf.Strconv.Itoa2
import Derived.Shelf.Strconv.Itoa3
import Derived.Shelf.Strconv.Clone
import Derived.Shelf.Strconv.Lower
import Derived.Shelf.Strconv.ParseUint10
import Derived.Shelf.Strconv.ParseUint10Empty
import Derived.Shelf.Strconv.ParseUint10Any
import Derived.Shelf.Strconv.RangeError
import Derived.Shelf.LaysC
import Derived.Shelf.Strconv.ToErrorRange
import Derived.Shelf.Strconv.ParseUintEmpty
import Derived.Shelf.Strconv.ParseUint10b64
import Derived.Shelf.Strconv.ParseUint10b32
import Derived.Shelf.Strconv.ParseUint10b16
import Derived.Shelf.Strconv.ParseUint10b8
import Derived.Shelf.Strconv.ParseUint10At
import Derived.Ground.MpProg
import Derived.Shelf.Pu.ParseUintPublic10
import Derived.Shelf.Pu.ErrVarParseUint
import Derived.Shelf.Strings.Search1
import Derived.Shelf.Strings.Search2
import Derived.Shelf.Strings.Search3
import Derived.Shelf.Strings.Cut
import Derived.Shelf.Strings.Shaped
import Derived.Shelf.Strings.Prefix
import Derived.Shelf.Strings.Runes
import Derived.Shelf.Strings.IndexAny
import Derived.Shelf.Strings.AsciiSet
import Derived.Shelf.Strings.IndexAnyAll
import Derived.Shelf.Bits.Mul64
import Derived.Shelf.Strings.Repeat
import Derived.Ground.SlgnProg
import Derived.Shelf.SlicesE.Clone
import Derived.Test.YtnpmfailpgbggaaGreatDoorProg
set_option linter.unusedVariables false
set_option linter.unusedSimpArgs false
set_option maxRecDepth 100000
set_option maxHeartbeats 16000000
namespace Go.Proofs
open Go.Shelf
def Tryz.lays170_ren : Go.Shelf.Ren:=⟨fun | 170=>134 | n=>n,fun | 70=>47 | 3=>3 | 0=>0 | 72=>50 | 37=>48 | 5=>5 | n=>n,fun | n=>n⟩
theorem Tryz.lays170 : Go.Proofs.Lays.n170 Tryz.prog Tryz.lays170_ren:={
  mixed:=by kernel_rfl
  f170:=Tryz.func134.trans (congrArg some (by kernel_rfl))
  t0:=Tryz.underlying0
  a0:=Tryz.isAgg0
  z0:=Tryz.sizeOf0
  v0:=Tryz.zeroValue0
  t3:=Tryz.underlying3
  a3:=Tryz.isAgg3
  z3:=Tryz.sizeOf3
  v3:=Tryz.zeroValue3
  t37:=Tryz.underlying48
  a37:=Tryz.isAgg48
  z37:=Tryz.sizeOf48
  v37:=Tryz.zeroValue48
  t70:=Tryz.underlying47
  a70:=Tryz.isAgg47
  z70:=Tryz.sizeOf47
  v70:=Tryz.zeroValue47
  t72:=Tryz.underlying50
  a72:=Tryz.isAgg50
  z72:=Tryz.sizeOf50
  v72:=Tryz.zeroValue50 }
def Tryz.lays169_ren : Go.Shelf.Ren:=⟨fun | 169=>26 | n=>n,fun | 70=>47 | 9=>9 | 0=>0 | 72=>50 | 37=>48 | 127=>69 | 3=>3 | 5=>5 | n=>n,fun | n=>n⟩
theorem Tryz.lays169 : Go.Proofs.Lays.n169 Tryz.prog Tryz.lays169_ren:={
  mixed:=by kernel_rfl
  f169:=Tryz.func26.trans (congrArg some (by kernel_rfl))
  t0:=Tryz.underlying0
  a0:=Tryz.isAgg0
  z0:=Tryz.sizeOf0
  v0:=Tryz.zeroValue0
  t3:=Tryz.underlying3
  a3:=Tryz.isAgg3
  z3:=Tryz.sizeOf3
  v3:=Tryz.zeroValue3
  t9:=Tryz.underlying9
  a9:=Tryz.isAgg9
  z9:=Tryz.sizeOf9
  v9:=Tryz.zeroValue9
  t37:=Tryz.underlying48
  a37:=Tryz.isAgg48
  z37:=Tryz.sizeOf48
  v37:=Tryz.zeroValue48
  t70:=Tryz.underlying47
  a70:=Tryz.isAgg47
  z70:=Tryz.sizeOf47
  v70:=Tryz.zeroValue47
  t72:=Tryz.underlying50
  a72:=Tryz.isAgg50
  z72:=Tryz.sizeOf50
  v72:=Tryz.zeroValue50
  t127:=Tryz.underlying69
  a127:=Tryz.isAgg69
  z127:=Tryz.sizeOf69
  v127:=Tryz.zeroValue69 }
theorem Tryz.Builder_Extra_169 : Builder.Extra Tryz.prog Tryz.lays169_ren:={
  sizeBuilder:=by kernel_rfl
  liesBuilder:=by kernel_rfl
  t5:=Tryz.underlying5
  a5:=Tryz.isAgg5
  z5:=Tryz.sizeOf5
  v5:=Tryz.zeroValue5
  infoByte:=by kernel_rfl
  cellsByte:=by kernel_rfl
  sizeByte:=by kernel_rfl
  neB5:=by decide }
def Tryz.lays137_ren : Go.Shelf.Ren:=⟨fun | 137=>114 | 217=>138 | 266=>172 | n=>n,fun | 9=>9 | 5=>5 | 3=>3 | n=>n,fun | n=>n⟩
theorem Tryz.lays137 : Go.Proofs.Lays.n137 Tryz.prog Tryz.lays137_ren:={
  mixed:=by kernel_rfl
  f137:=Tryz.func114.trans (congrArg some (by kernel_rfl))
  f217:=Tryz.func138.trans (congrArg some (by kernel_rfl))
  f266:=Tryz.func172.trans (congrArg some (by kernel_rfl))
  t3:=Tryz.underlying3
  a3:=Tryz.isAgg3
  z3:=Tryz.sizeOf3
  v3:=Tryz.zeroValue3
  t5:=Tryz.underlying5
  a5:=Tryz.isAgg5
  z5:=Tryz.sizeOf5
  v5:=Tryz.zeroValue5
  t9:=Tryz.underlying9
  a9:=Tryz.isAgg9
  z9:=Tryz.sizeOf9
  v9:=Tryz.zeroValue9 }
open Go.RowKit in
theorem Tryz.strings_IndexByte (s : ByteArray) (c : Int) (w : World) :
    Calls Tryz.prog 114 #[.string s,.int .u8 c] w fun e w'=>e = .returned (.int .i64 (Lib.indexByte s.data.toList c.toNat.toUInt8))∧w' = w:=Any.strings_IndexByte Tryz.lays137 s c w
open Go.RowKit in
theorem Tryz.Builder_Len_f (B b : Nat) (bs : List Value) (w : World) (h : Lib.IsBuilderF 50 5 B b bs w) :
    Calls Tryz.prog 134 #[.pointer (some ⟨b,0,none⟩)] w fun e w'=>e = .returned (.int .i64 bs.length)∧w' = w:=Any.Builder_Len_f Tryz.lays170 B b bs w h
open Go.RowKit in
theorem Tryz.Builder_String_any_k (B b : Nat) (l : List UInt8) (w : World) (h : Lib.IsBuilderF 50 5 B b (Lib.byteCells l) w) (hBw : B ≤ w.heap.size) :
    Calls Tryz.prog 26 #[.pointer (some ⟨b,0,none⟩)] w fun e w'=>e = .returned (.string ⟨l.toArray⟩)∧(Lib.IsBuilderF 50 5 B b (Lib.byteCells l) w'∧Below B w w'∧Lib.OthersKept 5 (some b) w w'):=Any.Builder_String_any_k Tryz.lays169 Tryz.Builder_Extra_169 B b l w h hBw
def Tryz.lays172_ren : Go.Shelf.Ren:=⟨fun | 172=>109 | 244=>128 | 245=>129 | 247=>155 | 279=>156 | 280=>157 | 281=>158 | 282=>159 | 287=>203 | 316=>67 | 171=>110 | 205=>204 | 321=>223 | 322=>241 | 243=>130 | 246=>136 | 283=>168 | 284=>169 | 285=>170 | 286=>171 | 129=>191 | 317=>194 | 318=>212 | 319=>213 | 320=>214 | 337=>243 | 338=>244 | n=>n,fun | 9=>9 | 3=>3 | 75=>62 | 76=>63 | 4=>4 | 5=>5 | 167=>158 | 37=>48 | 0=>0 | 85=>159 | 2=>2 | 168=>161 | 53=>89 | 175=>177 | 46=>97 | 210=>203 | 127=>69 | 145=>236 | 143=>234 | 21=>21 | 171=>172 | 173=>175 | 212=>213 | 51=>60 | 20=>20 | 213=>214 | 232=>190 | 233=>256 | 80=>52 | n=>n,fun | 15=>5 | 16=>6 | 17=>7 | 18=>11 | 19=>12 | n=>n⟩
theorem Tryz.lays172 : Go.Proofs.Lays.n172 Tryz.prog Tryz.lays172_ren:={
  mixed:=by kernel_rfl
  f129:=Tryz.func191.trans (congrArg some (by kernel_rfl))
  f171:=Tryz.func110.trans (congrArg some (by kernel_rfl))
  f172:=Tryz.func109.trans (congrArg some (by kernel_rfl))
  f205:=Tryz.func204.trans (congrArg some (by kernel_rfl))
  f243:=Tryz.func130.trans (congrArg some (by kernel_rfl))
  f244:=Tryz.func128.trans (congrArg some (by kernel_rfl))
  f245:=Tryz.func129.trans (congrArg some (by kernel_rfl))
  f246:=Tryz.func136.trans (congrArg some (by kernel_rfl))
  f247:=Tryz.func155.trans (congrArg some (by kernel_rfl))
  f279:=Tryz.func156.trans (congrArg some (by kernel_rfl))
  f280:=Tryz.func157.trans (congrArg some (by kernel_rfl))
  f281:=Tryz.func158.trans (congrArg some (by kernel_rfl))
  f282:=Tryz.func159.trans (congrArg some (by kernel_rfl))
  f283:=Tryz.func168.trans (congrArg some (by kernel_rfl))
  f284:=Tryz.func169.trans (congrArg some (by kernel_rfl))
  f285:=Tryz.func170.trans (congrArg some (by kernel_rfl))
  f286:=Tryz.func171.trans (congrArg some (by kernel_rfl))
  f287:=Tryz.func203.trans (congrArg some (by kernel_rfl))
  f316:=Tryz.func67.trans (congrArg some (by kernel_rfl))
  f317:=Tryz.func194.trans (congrArg some (by kernel_rfl))
  f318:=Tryz.func212.trans (congrArg some (by kernel_rfl))
  f319:=Tryz.func213.trans (congrArg some (by kernel_rfl))
  f320:=Tryz.func214.trans (congrArg some (by kernel_rfl))
  f321:=Tryz.func223.trans (congrArg some (by kernel_rfl))
  f322:=Tryz.func241.trans (congrArg some (by kernel_rfl))
  f337:=Tryz.func243.trans (congrArg some (by kernel_rfl))
  f338:=Tryz.func244.trans (congrArg some (by kernel_rfl))
  t0:=Tryz.underlying0
  a0:=Tryz.isAgg0
  z0:=Tryz.sizeOf0
  v0:=Tryz.zeroValue0
  t2:=Tryz.underlying2
  a2:=Tryz.isAgg2
  z2:=Tryz.sizeOf2
  v2:=Tryz.zeroValue2
  t3:=Tryz.underlying3
  a3:=Tryz.isAgg3
  z3:=Tryz.sizeOf3
  v3:=Tryz.zeroValue3
  t4:=Tryz.underlying4
  a4:=Tryz.isAgg4
  z4:=Tryz.sizeOf4
  v4:=Tryz.zeroValue4
  t5:=Tryz.underlying5
  a5:=Tryz.isAgg5
  z5:=Tryz.sizeOf5
  v5:=Tryz.zeroValue5
  t9:=Tryz.underlying9
  a9:=Tryz.isAgg9
  z9:=Tryz.sizeOf9
  v9:=Tryz.zeroValue9
  t20:=Tryz.underlying20
  a20:=Tryz.isAgg20
  z20:=Tryz.sizeOf20
  v20:=Tryz.zeroValue20
  t21:=Tryz.underlying21
  a21:=Tryz.isAgg21
  z21:=Tryz.sizeOf21
  v21:=Tryz.zeroValue21
  t37:=Tryz.underlying48
  a37:=Tryz.isAgg48
  z37:=Tryz.sizeOf48
  v37:=Tryz.zeroValue48
  t46:=Tryz.underlying97
  a46:=Tryz.isAgg97
  z46:=Tryz.sizeOf97
  v46:=Tryz.zeroValue97
  t51:=Tryz.underlying60
  a51:=Tryz.isAgg60
  z51:=Tryz.sizeOf60
  v51:=Tryz.zeroValue60
  t53:=Tryz.underlying89
  a53:=Tryz.isAgg89
  z53:=Tryz.sizeOf89
  v53:=Tryz.zeroValue89
  t75:=Tryz.underlying62
  a75:=Tryz.isAgg62
  z75:=Tryz.sizeOf62
  v75:=Tryz.zeroValue62
  t76:=Tryz.underlying63
  a76:=Tryz.isAgg63
  z76:=Tryz.sizeOf63
  v76:=Tryz.zeroValue63
  t85:=Tryz.underlying159
  a85:=Tryz.isAgg159
  z85:=Tryz.sizeOf159
  v85:=Tryz.zeroValue159
  t127:=Tryz.underlying69
  a127:=Tryz.isAgg69
  z127:=Tryz.sizeOf69
  v127:=Tryz.zeroValue69
  t143:=Tryz.underlying234
  a143:=Tryz.isAgg234
  z143:=Tryz.sizeOf234
  v143:=Tryz.zeroValue234
  t145:=Tryz.underlying236
  a145:=Tryz.isAgg236
  z145:=Tryz.sizeOf236
  v145:=Tryz.zeroValue236
  t167:=Tryz.underlying158
  a167:=Tryz.isAgg158
  z167:=Tryz.sizeOf158
  v167:=Tryz.zeroValue158
  t168:=Tryz.underlying161
  a168:=Tryz.isAgg161
  z168:=Tryz.sizeOf161
  v168:=Tryz.zeroValue161
  t171:=Tryz.underlying172
  a171:=Tryz.isAgg172
  z171:=Tryz.sizeOf172
  v171:=Tryz.zeroValue172
  t173:=Tryz.underlying175
  a173:=Tryz.isAgg175
  z173:=Tryz.sizeOf175
  v173:=Tryz.zeroValue175
  t175:=Tryz.underlying177
  a175:=Tryz.isAgg177
  z175:=Tryz.sizeOf177
  v175:=Tryz.zeroValue177
  t210:=Tryz.underlying203
  a210:=Tryz.isAgg203
  z210:=Tryz.sizeOf203
  v210:=Tryz.zeroValue203
  t212:=Tryz.underlying213
  a212:=Tryz.isAgg213
  z212:=Tryz.sizeOf213
  v212:=Tryz.zeroValue213
  t213:=Tryz.underlying214
  a213:=Tryz.isAgg214
  z213:=Tryz.sizeOf214
  t232:=Tryz.underlying190
  a232:=Tryz.isAgg190
  z232:=Tryz.sizeOf190
  v232:=Tryz.zeroValue190
  t233:=Tryz.underlying256
  a233:=Tryz.isAgg256
  z233:=Tryz.sizeOf256
  v233:=Tryz.zeroValue256
  g15:=by kernel_rfl
  g16:=by kernel_rfl
  g17:=by kernel_rfl
  g18:=by kernel_rfl
  g19:=by kernel_rfl }
open Go.RowKit in
theorem Tryz.strconv_Atoi (s : ByteArray) (n : Int) (hl : s.size ≤ 18) (h : Lib.atoi s.data.toList = some n) (w : World) :
    Calls Tryz.prog 109 #[.string s] w fun e w'=>e = .returned (.tuple #[.int .i64 n,.nilIface])∧∃ t,w' = Lib.bytesWorld w 5 t:=Any.strconv_Atoi Tryz.lays172 s n hl h w
def Tryz.lays129_ren : Go.Shelf.Ren:=⟨fun | 129=>191 | n=>n,fun | 53=>89 | 3=>3 | 4=>4 | 46=>97 | 5=>5 | 9=>9 | n=>n,fun | n=>n⟩
theorem Tryz.lays129 : Go.Proofs.Lays.n129 Tryz.prog Tryz.lays129_ren:={
  mixed:=by kernel_rfl
  f129:=Tryz.func191.trans (congrArg some (by kernel_rfl))
  t3:=Tryz.underlying3
  a3:=Tryz.isAgg3
  z3:=Tryz.sizeOf3
  v3:=Tryz.zeroValue3
  t4:=Tryz.underlying4
  a4:=Tryz.isAgg4
  z4:=Tryz.sizeOf4
  v4:=Tryz.zeroValue4
  t5:=Tryz.underlying5
  a5:=Tryz.isAgg5
  z5:=Tryz.sizeOf5
  v5:=Tryz.zeroValue5
  t9:=Tryz.underlying9
  a9:=Tryz.isAgg9
  z9:=Tryz.sizeOf9
  v9:=Tryz.zeroValue9
  t46:=Tryz.underlying97
  a46:=Tryz.isAgg97
  z46:=Tryz.sizeOf97
  v46:=Tryz.zeroValue97
  t53:=Tryz.underlying89
  a53:=Tryz.isAgg89
  z53:=Tryz.sizeOf89
  v53:=Tryz.zeroValue89 }
theorem Tryz.bits_Len64 (x : Int) (w : World) (h0 : 0 ≤ x) (h1 : x ≤ 18446744073709551615) :
    Calls Tryz.prog 191 #[.int .u64 x] w fun e w'=>e = .returned (.int .i64 (Lib.bitLen x.toNat))∧w' = w:=Any.bits_Len64 Tryz.lays129 x w h0 h1
def Tryz.lays283_ren : Go.Shelf.Ren:=⟨fun | 283=>168 | n=>n,fun | 3=>3 | 9=>9 | 4=>4 | n=>n,fun | n=>n⟩
theorem Tryz.lays283 : Go.Proofs.Lays.n283 Tryz.prog Tryz.lays283_ren:={
  mixed:=by kernel_rfl
  f283:=Tryz.func168.trans (congrArg some (by kernel_rfl))
  t3:=Tryz.underlying3
  a3:=Tryz.isAgg3
  z3:=Tryz.sizeOf3
  v3:=Tryz.zeroValue3
  t4:=Tryz.underlying4
  a4:=Tryz.isAgg4
  z4:=Tryz.sizeOf4
  v4:=Tryz.zeroValue4
  t9:=Tryz.underlying9
  a9:=Tryz.isAgg9
  z9:=Tryz.sizeOf9
  v9:=Tryz.zeroValue9 }
open Go.Lib in
theorem Tryz.internal_strconv_small (i : Nat) (h : i < 100) (w : World) :
    Calls Tryz.prog 168 #[.int .i64 i] w fun e w'=>e = .returned (.string ⟨(Lib.decDigits i).toArray⟩)∧w' = w:=Any.internal_strconv_small Tryz.lays283 i h w
def Tryz.laysM284_ren : Go.Shelf.Ren:=⟨fun | 284=>169 | 129=>191 | 317=>194 | 318=>212 | n=>n,fun | 53=>89 | 3=>3 | 212=>213 | 0=>0 | 4=>4 | 46=>97 | 5=>5 | 9=>9 | n=>n,fun | 17=>7 | n=>n⟩
theorem Tryz.laysM284 : Go.Proofs.LaysM.n284 Tryz.prog Tryz.laysM284_ren:={
  mixed:=by kernel_rfl
  f129:=Tryz.func191.trans (congrArg some (by kernel_rfl))
  f284:=Tryz.func169.trans (congrArg some (by kernel_rfl))
  f317:=Tryz.func194.trans (congrArg some (by kernel_rfl))
  f318:=Tryz.func212.trans (congrArg some (by kernel_rfl))
  t0:=Tryz.underlying0
  a0:=Tryz.isAgg0
  z0:=Tryz.sizeOf0
  v0:=Tryz.zeroValue0
  t3:=Tryz.underlying3
  a3:=Tryz.isAgg3
  z3:=Tryz.sizeOf3
  v3:=Tryz.zeroValue3
  t4:=Tryz.underlying4
  a4:=Tryz.isAgg4
  z4:=Tryz.sizeOf4
  v4:=Tryz.zeroValue4
  t5:=Tryz.underlying5
  a5:=Tryz.isAgg5
  z5:=Tryz.sizeOf5
  v5:=Tryz.zeroValue5
  t9:=Tryz.underlying9
  a9:=Tryz.isAgg9
  z9:=Tryz.sizeOf9
  v9:=Tryz.zeroValue9
  t46:=Tryz.underlying97
  a46:=Tryz.isAgg97
  z46:=Tryz.sizeOf97
  v46:=Tryz.zeroValue97
  t53:=Tryz.underlying89
  a53:=Tryz.isAgg89
  z53:=Tryz.sizeOf89
  v53:=Tryz.zeroValue89
  t212:=Tryz.underlying213
  a212:=Tryz.isAgg213
  z212:=Tryz.sizeOf213
  v212:=Tryz.zeroValue213
  g17:=by kernel_rfl
  i0:=by kernel_rfl
  i3:=by kernel_rfl
  i4:=by kernel_rfl
  i5:=by kernel_rfl
  i9:=by kernel_rfl
  i46:=by kernel_rfl
  i53:=by kernel_rfl
  i212:=by kernel_rfl
  m17:=by kernel_rfl }
open Go.Lib in
theorem Tryz.internal_strconv_numDigits (u : Nat) (h1 : 1 ≤ u) (h2 : u < 18446744073709551616) (w : World) (htab : Lib.TabIs Tryz.prog w "internal/strconv.uint64pow10" .u64 Lib.pow10Tab) :
    Calls Tryz.prog 169 #[.int .u64 u] w fun e w'=>e = .returned (.int .i64 (Lib.nDigits u))∧w' = w:=Any.internal_strconv_numDigits Tryz.laysM284 u h1 h2 w htab
def Tryz.lays285_ren : Go.Shelf.Ren:=⟨fun | 285=>170 | n=>n,fun | 37=>48 | 53=>89 | 3=>3 | 4=>4 | 51=>60 | 9=>9 | 5=>5 | 0=>0 | n=>n,fun | n=>n⟩
theorem Tryz.lays285 : Go.Proofs.Lays.n285 Tryz.prog Tryz.lays285_ren:={
  mixed:=by kernel_rfl
  f285:=Tryz.func170.trans (congrArg some (by kernel_rfl))
  t0:=Tryz.underlying0
  a0:=Tryz.isAgg0
  z0:=Tryz.sizeOf0
  v0:=Tryz.zeroValue0
  t3:=Tryz.underlying3
  a3:=Tryz.isAgg3
  z3:=Tryz.sizeOf3
  v3:=Tryz.zeroValue3
  t4:=Tryz.underlying4
  a4:=Tryz.isAgg4
  z4:=Tryz.sizeOf4
  v4:=Tryz.zeroValue4
  t5:=Tryz.underlying5
  a5:=Tryz.isAgg5
  z5:=Tryz.sizeOf5
  v5:=Tryz.zeroValue5
  t9:=Tryz.underlying9
  a9:=Tryz.isAgg9
  z9:=Tryz.sizeOf9
  v9:=Tryz.zeroValue9
  t37:=Tryz.underlying48
  a37:=Tryz.isAgg48
  z37:=Tryz.sizeOf48
  v37:=Tryz.zeroValue48
  t51:=Tryz.underlying60
  a51:=Tryz.isAgg60
  z51:=Tryz.sizeOf60
  v51:=Tryz.zeroValue60
  t53:=Tryz.underlying89
  a53:=Tryz.isAgg89
  z53:=Tryz.sizeOf89
  v53:=Tryz.zeroValue89 }
open Go.RowKit Go.Sort Go.Lib in
theorem Tryz.internal_strconv_formatBase10 (blk off cap : Nat) (u : Nat) (d : Array UInt8) (w : World) (hH : Holds (fun (b : UInt8)=>Value.int .u8 (b.toNat : Int)) w blk off d) (hu : u < 10 ^ d.size) (hu64 : u < 18446744073709551616) (hsz : d.size < 4611686018427387904) :
    Calls Tryz.prog 170 #[.slice (some ⟨blk,off,none⟩) d.size cap,.int .u64 u] w fun e w' =>
      e = .returned (.tuple #[])∧∃ (n v' : Nat) (dk : Array UInt8),w' = (putRow (fun (b : UInt8)=>Value.int .u8 (b.toNat : Int)) w blk off dk).drewN n∧FmtInv d.size u 0 v' dk:=Any.internal_strconv_formatBase10 Tryz.lays285 blk off cap u d w hH hu hu64 hsz
def Tryz.laysM171_ren : Go.Shelf.Ren:=⟨fun | 171=>110 | 243=>130 | 246=>136 | 283=>168 | 284=>169 | 285=>170 | 286=>171 | 129=>191 | 317=>194 | 318=>212 | 319=>213 | 320=>214 | 337=>243 | 338=>244 | n=>n,fun | 3=>3 | 9=>9 | 2=>2 | 4=>4 | 171=>172 | 0=>0 | 53=>89 | 37=>48 | 5=>5 | 173=>175 | 212=>213 | 51=>60 | 20=>20 | 213=>214 | 46=>97 | 232=>190 | 233=>256 | n=>n,fun | 17=>7 | 18=>11 | 19=>12 | n=>n⟩
theorem Tryz.laysM171 : Go.Proofs.LaysM.n171 Tryz.prog Tryz.laysM171_ren:={
  mixed:=by kernel_rfl
  f129:=Tryz.func191.trans (congrArg some (by kernel_rfl))
  f171:=Tryz.func110.trans (congrArg some (by kernel_rfl))
  f243:=Tryz.func130.trans (congrArg some (by kernel_rfl))
  f246:=Tryz.func136.trans (congrArg some (by kernel_rfl))
  f283:=Tryz.func168.trans (congrArg some (by kernel_rfl))
  f284:=Tryz.func169.trans (congrArg some (by kernel_rfl))
  f285:=Tryz.func170.trans (congrArg some (by kernel_rfl))
  f286:=Tryz.func171.trans (congrArg some (by kernel_rfl))
  f317:=Tryz.func194.trans (congrArg some (by kernel_rfl))
  f318:=Tryz.func212.trans (congrArg some (by kernel_rfl))
  f319:=Tryz.func213.trans (congrArg some (by kernel_rfl))
  f320:=Tryz.func214.trans (congrArg some (by kernel_rfl))
  f337:=Tryz.func243.trans (congrArg some (by kernel_rfl))
  f338:=Tryz.func244.trans (congrArg some (by kernel_rfl))
  t0:=Tryz.underlying0
  a0:=Tryz.isAgg0
  z0:=Tryz.sizeOf0
  v0:=Tryz.zeroValue0
  t2:=Tryz.underlying2
  a2:=Tryz.isAgg2
  z2:=Tryz.sizeOf2
  v2:=Tryz.zeroValue2
  t3:=Tryz.underlying3
  a3:=Tryz.isAgg3
  z3:=Tryz.sizeOf3
  v3:=Tryz.zeroValue3
  t4:=Tryz.underlying4
  a4:=Tryz.isAgg4
  z4:=Tryz.sizeOf4
  v4:=Tryz.zeroValue4
  t5:=Tryz.underlying5
  a5:=Tryz.isAgg5
  z5:=Tryz.sizeOf5
  v5:=Tryz.zeroValue5
  t9:=Tryz.underlying9
  a9:=Tryz.isAgg9
  z9:=Tryz.sizeOf9
  v9:=Tryz.zeroValue9
  t20:=Tryz.underlying20
  a20:=Tryz.isAgg20
  z20:=Tryz.sizeOf20
  v20:=Tryz.zeroValue20
  t37:=Tryz.underlying48
  a37:=Tryz.isAgg48
  z37:=Tryz.sizeOf48
  v37:=Tryz.zeroValue48
  t46:=Tryz.underlying97
  a46:=Tryz.isAgg97
  z46:=Tryz.sizeOf97
  v46:=Tryz.zeroValue97
  t51:=Tryz.underlying60
  a51:=Tryz.isAgg60
  z51:=Tryz.sizeOf60
  v51:=Tryz.zeroValue60
  t53:=Tryz.underlying89
  a53:=Tryz.isAgg89
  z53:=Tryz.sizeOf89
  v53:=Tryz.zeroValue89
  t171:=Tryz.underlying172
  a171:=Tryz.isAgg172
  z171:=Tryz.sizeOf172
  v171:=Tryz.zeroValue172
  t173:=Tryz.underlying175
  a173:=Tryz.isAgg175
  z173:=Tryz.sizeOf175
  v173:=Tryz.zeroValue175
  t212:=Tryz.underlying213
  a212:=Tryz.isAgg213
  z212:=Tryz.sizeOf213
  v212:=Tryz.zeroValue213
  t213:=Tryz.underlying214
  a213:=Tryz.isAgg214
  z213:=Tryz.sizeOf214
  t232:=Tryz.underlying190
  a232:=Tryz.isAgg190
  z232:=Tryz.sizeOf190
  v232:=Tryz.zeroValue190
  t233:=Tryz.underlying256
  a233:=Tryz.isAgg256
  z233:=Tryz.sizeOf256
  v233:=Tryz.zeroValue256
  g17:=by kernel_rfl
  g18:=by kernel_rfl
  g19:=by kernel_rfl
  i0:=by kernel_rfl
  i2:=by kernel_rfl
  i3:=by kernel_rfl
  i4:=by kernel_rfl
  i5:=by kernel_rfl
  i9:=by kernel_rfl
  i20:=by kernel_rfl
  i37:=by kernel_rfl
  i46:=by kernel_rfl
  i51:=by kernel_rfl
  i53:=by kernel_rfl
  i171:=by kernel_rfl
  i173:=by kernel_rfl
  i212:=by kernel_rfl
  i232:=by kernel_rfl
  i233:=by kernel_rfl
  m17:=by kernel_rfl
  m18:=by kernel_rfl
  m19:=by kernel_rfl }
open Go.RowKit Go.Sort Go.Lib in
theorem Tryz.strconv_Itoa (n : Int) (h0 : -9223372036854775808 ≤ n) (h1 : n ≤ 9223372036854775807) (w : World) (htab : Lib.TabIs Tryz.prog w "internal/strconv.uint64pow10" .u64 Lib.pow10Tab) :
    Calls Tryz.prog 110 #[.int .i64 n] w fun e w'=>e = .returned (.string ⟨(Lib.itoa n).toArray⟩)∧∃ k os,w' = grow (w.drewN k) os:=Any.strconv_Itoa Tryz.laysM171 n h0 h1 w htab
def Tryz.lays219_ren : Go.Shelf.Ren:=⟨fun | 219=>154 | 217=>138 | 225=>200 | 224=>201 | 267=>202 | 266=>172 | 314=>240 | n=>n,fun | 9=>9 | 3=>3 | 4=>4 | 5=>5 | 46=>97 | 146=>206 | 51=>60 | n=>n,fun | 1=>4 | n=>n⟩
theorem Tryz.lays219 : Go.Proofs.Lays.n219 Tryz.prog Tryz.lays219_ren:={
  mixed:=by kernel_rfl
  f217:=Tryz.func138.trans (congrArg some (by kernel_rfl))
  f219:=Tryz.func154.trans (congrArg some (by kernel_rfl))
  f224:=Tryz.func201.trans (congrArg some (by kernel_rfl))
  f225:=Tryz.func200.trans (congrArg some (by kernel_rfl))
  f266:=Tryz.func172.trans (congrArg some (by kernel_rfl))
  f267:=Tryz.func202.trans (congrArg some (by kernel_rfl))
  f314:=Tryz.func240.trans (congrArg some (by kernel_rfl))
  t3:=Tryz.underlying3
  a3:=Tryz.isAgg3
  z3:=Tryz.sizeOf3
  v3:=Tryz.zeroValue3
  t4:=Tryz.underlying4
  a4:=Tryz.isAgg4
  z4:=Tryz.sizeOf4
  v4:=Tryz.zeroValue4
  t5:=Tryz.underlying5
  a5:=Tryz.isAgg5
  z5:=Tryz.sizeOf5
  v5:=Tryz.zeroValue5
  t9:=Tryz.underlying9
  a9:=Tryz.isAgg9
  z9:=Tryz.sizeOf9
  v9:=Tryz.zeroValue9
  t46:=Tryz.underlying97
  a46:=Tryz.isAgg97
  z46:=Tryz.sizeOf97
  v46:=Tryz.zeroValue97
  t51:=Tryz.underlying60
  a51:=Tryz.isAgg60
  z51:=Tryz.sizeOf60
  v51:=Tryz.zeroValue60
  t146:=Tryz.underlying206
  a146:=Tryz.isAgg206
  z146:=Tryz.sizeOf206
  v146:=Tryz.zeroValue206
  g1:=by kernel_rfl }
open Go.RowKit Go.Lib in
theorem Tryz.stringslite_Index_one (s : ByteArray) (c : UInt8) (w : World) :
    Calls Tryz.prog 154 #[.string s,.string ⟨#[c]⟩] w fun e w'=>e = .returned (.int .i64 (Lib.indexByte s.data.toList c))∧w' = w:=Any.stringslite_Index_one Tryz.lays219 s c w
def Tryz.lays144_ren : Go.Shelf.Ren:=⟨fun | 144=>125 | 143=>151 | 219=>154 | 217=>138 | 225=>200 | 224=>201 | 267=>202 | 266=>172 | 314=>240 | n=>n,fun | 9=>9 | 4=>4 | 3=>3 | 5=>5 | 46=>97 | 146=>206 | 51=>60 | n=>n,fun | 1=>4 | n=>n⟩
theorem Tryz.lays144 : Go.Proofs.Lays.n144 Tryz.prog Tryz.lays144_ren:={
  mixed:=by kernel_rfl
  f143:=Tryz.func151.trans (congrArg some (by kernel_rfl))
  f144:=Tryz.func125.trans (congrArg some (by kernel_rfl))
  f217:=Tryz.func138.trans (congrArg some (by kernel_rfl))
  f219:=Tryz.func154.trans (congrArg some (by kernel_rfl))
  f224:=Tryz.func201.trans (congrArg some (by kernel_rfl))
  f225:=Tryz.func200.trans (congrArg some (by kernel_rfl))
  f266:=Tryz.func172.trans (congrArg some (by kernel_rfl))
  f267:=Tryz.func202.trans (congrArg some (by kernel_rfl))
  f314:=Tryz.func240.trans (congrArg some (by kernel_rfl))
  t3:=Tryz.underlying3
  a3:=Tryz.isAgg3
  z3:=Tryz.sizeOf3
  v3:=Tryz.zeroValue3
  t4:=Tryz.underlying4
  a4:=Tryz.isAgg4
  z4:=Tryz.sizeOf4
  v4:=Tryz.zeroValue4
  t5:=Tryz.underlying5
  a5:=Tryz.isAgg5
  z5:=Tryz.sizeOf5
  v5:=Tryz.zeroValue5
  t9:=Tryz.underlying9
  a9:=Tryz.isAgg9
  z9:=Tryz.sizeOf9
  v9:=Tryz.zeroValue9
  t46:=Tryz.underlying97
  a46:=Tryz.isAgg97
  z46:=Tryz.sizeOf97
  v46:=Tryz.zeroValue97
  t51:=Tryz.underlying60
  a51:=Tryz.isAgg60
  z51:=Tryz.sizeOf60
  v51:=Tryz.zeroValue60
  t146:=Tryz.underlying206
  a146:=Tryz.isAgg206
  z146:=Tryz.sizeOf206
  v146:=Tryz.zeroValue206
  g1:=by kernel_rfl }
open Go.RowKit Go.Lib in
theorem Tryz.strings_Contains_one (s : ByteArray) (c : UInt8) (w : World) :
    Calls Tryz.prog 125 #[.string s,.string ⟨#[c]⟩] w fun e w'=>e = .returned (.bool (decide (0 ≤ Lib.indexByte s.data.toList c)))∧w' = w:=Any.strings_Contains_one Tryz.lays144 s c w
def Tryz.lays99_ren : Go.Shelf.Ren:=⟨fun | 99=>166 | 206=>210 | n=>n,fun | 9=>9 | 4=>4 | 3=>3 | n=>n,fun | n=>n⟩
theorem Tryz.lays99 : Go.Proofs.Lays.n99 Tryz.prog Tryz.lays99_ren:={
  mixed:=by kernel_rfl
  f99:=Tryz.func166.trans (congrArg some (by kernel_rfl))
  f206:=Tryz.func210.trans (congrArg some (by kernel_rfl))
  t3:=Tryz.underlying3
  a3:=Tryz.isAgg3
  z3:=Tryz.sizeOf3
  v3:=Tryz.zeroValue3
  t4:=Tryz.underlying4
  a4:=Tryz.isAgg4
  z4:=Tryz.sizeOf4
  v4:=Tryz.zeroValue4
  t9:=Tryz.underlying9
  a9:=Tryz.isAgg9
  z9:=Tryz.sizeOf9
  v9:=Tryz.zeroValue9 }
open Go.RowKit Go.Lib in
theorem Tryz.strings_HasPrefix (s p : ByteArray) (w : World) :
    Calls Tryz.prog 166 #[.string s,.string p] w fun e w'=>e = .returned (.bool (Lib.hasPrefix s.data.toList p.data.toList))∧w' = w:=Any.strings_HasPrefix Tryz.lays99 s p w
def Tryz.lays153_ren : Go.Shelf.Ren:=⟨fun | 153=>215 | 152=>245 | 226=>246 | 227=>247 | 228=>248 | 137=>114 | 119=>82 | 224=>201 | 225=>200 | 217=>138 | 266=>172 | n=>n,fun | 9=>9 | 3=>3 | 4=>4 | 5=>5 | 21=>21 | 117=>242 | 116=>241 | 0=>0 | 46=>97 | 124=>257 | n=>n,fun | n=>n⟩
theorem Tryz.lays153 : Go.Proofs.Lays.n153 Tryz.prog Tryz.lays153_ren:={
  mixed:=by kernel_rfl
  f119:=Tryz.func82.trans (congrArg some (by kernel_rfl))
  f137:=Tryz.func114.trans (congrArg some (by kernel_rfl))
  f152:=Tryz.func245.trans (congrArg some (by kernel_rfl))
  f153:=Tryz.func215.trans (congrArg some (by kernel_rfl))
  f217:=Tryz.func138.trans (congrArg some (by kernel_rfl))
  f224:=Tryz.func201.trans (congrArg some (by kernel_rfl))
  f225:=Tryz.func200.trans (congrArg some (by kernel_rfl))
  f226:=Tryz.func246.trans (congrArg some (by kernel_rfl))
  f227:=Tryz.func247.trans (congrArg some (by kernel_rfl))
  f228:=Tryz.func248.trans (congrArg some (by kernel_rfl))
  f266:=Tryz.func172.trans (congrArg some (by kernel_rfl))
  t0:=Tryz.underlying0
  a0:=Tryz.isAgg0
  z0:=Tryz.sizeOf0
  v0:=Tryz.zeroValue0
  t3:=Tryz.underlying3
  a3:=Tryz.isAgg3
  z3:=Tryz.sizeOf3
  v3:=Tryz.zeroValue3
  t4:=Tryz.underlying4
  a4:=Tryz.isAgg4
  z4:=Tryz.sizeOf4
  v4:=Tryz.zeroValue4
  t5:=Tryz.underlying5
  a5:=Tryz.isAgg5
  z5:=Tryz.sizeOf5
  v5:=Tryz.zeroValue5
  t9:=Tryz.underlying9
  a9:=Tryz.isAgg9
  z9:=Tryz.sizeOf9
  v9:=Tryz.zeroValue9
  t21:=Tryz.underlying21
  a21:=Tryz.isAgg21
  z21:=Tryz.sizeOf21
  v21:=Tryz.zeroValue21
  t46:=Tryz.underlying97
  a46:=Tryz.isAgg97
  z46:=Tryz.sizeOf97
  v46:=Tryz.zeroValue97
  t116:=Tryz.underlying241
  a116:=Tryz.isAgg241
  z116:=Tryz.sizeOf241
  t117:=Tryz.underlying242
  a117:=Tryz.isAgg242
  z117:=Tryz.sizeOf242
  v117:=Tryz.zeroValue242
  t124:=Tryz.underlying257
  a124:=Tryz.isAgg257
  z124:=Tryz.sizeOf257
  v124:=Tryz.zeroValue257 }
open Go.RowKit Go.Lib in
theorem Tryz.strings_IndexAny_short (s chars : ByteArray) (w : World) (h2 : 2 ≤ chars.size) (h8 : s.size ≤ 8) (hascii : ∀ (j : Nat) b,s.data.toList[j]? = some b → b.toNat < 128) :
    Calls Tryz.prog 215 #[.string s,.string chars] w fun e w'=>e = .returned (.int .i64 (Lib.indexAny s.data.toList chars.data.toList))∧∃ pos,w' = w.iter s pos:=Any.strings_IndexAny_short Tryz.lays153 s chars w h2 h8 hascii
def Tryz.lays264_ren : Go.Shelf.Ren:=⟨fun | 264=>209 | n=>n,fun | 53=>89 | 46=>97 | n=>n,fun | n=>n⟩
theorem Tryz.lays264 : Go.Proofs.Lays.n264 Tryz.prog Tryz.lays264_ren:={
  mixed:=by kernel_rfl
  f264:=Tryz.func209.trans (congrArg some (by kernel_rfl))
  t46:=Tryz.underlying97
  a46:=Tryz.isAgg97
  z46:=Tryz.sizeOf97
  v46:=Tryz.zeroValue97
  t53:=Tryz.underlying89
  a53:=Tryz.isAgg89
  z53:=Tryz.sizeOf89
  v53:=Tryz.zeroValue89 }
open Go.RowKit Go.Lib in
theorem Tryz.bits_Mul64 (x y : Nat) (hx : x < 18446744073709551616) (hy : y < 18446744073709551616) (w : World) :
    Calls Tryz.prog 209 #[.int .u64 x,.int .u64 y] w fun e w'=>e = .returned (.tuple #[.int .u64 ((x * y / 18446744073709551616 : Nat) : Int),.int .u64 ((x * y % 18446744073709551616 : Nat) : Int)])∧w' = w:=Any.bits_Mul64 Tryz.lays264 x y hx hy w
def Tryz.lays105_ren : Go.Shelf.Ren:=⟨fun | 105=>135 | 212=>165 | 99=>166 | 165=>167 | 166=>39 | 170=>134 | 169=>26 | 263=>208 | 264=>209 | 206=>210 | 240=>70 | 241=>211 | 276=>102 | 277=>242 | n=>n,fun | 9=>9 | 3=>3 | 4=>4 | 20=>20 | 0=>0 | 46=>97 | 109=>169 | 5=>5 | 72=>50 | 76=>63 | 51=>60 | 146=>206 | 53=>89 | 148=>210 | 70=>47 | 37=>48 | 75=>62 | 127=>69 | 164=>109 | 80=>52 | n=>n,fun | n=>n⟩
theorem Tryz.lays105 : Go.Proofs.Lays.n105 Tryz.prog Tryz.lays105_ren:={
  mixed:=by kernel_rfl
  f99:=Tryz.func166.trans (congrArg some (by kernel_rfl))
  f105:=Tryz.func135.trans (congrArg some (by kernel_rfl))
  f165:=Tryz.func167.trans (congrArg some (by kernel_rfl))
  f166:=Tryz.func39.trans (congrArg some (by kernel_rfl))
  f169:=Tryz.func26.trans (congrArg some (by kernel_rfl))
  f170:=Tryz.func134.trans (congrArg some (by kernel_rfl))
  f206:=Tryz.func210.trans (congrArg some (by kernel_rfl))
  f212:=Tryz.func165.trans (congrArg some (by kernel_rfl))
  f240:=Tryz.func70.trans (congrArg some (by kernel_rfl))
  f241:=Tryz.func211.trans (congrArg some (by kernel_rfl))
  f263:=Tryz.func208.trans (congrArg some (by kernel_rfl))
  f264:=Tryz.func209.trans (congrArg some (by kernel_rfl))
  f276:=Tryz.func102.trans (congrArg some (by kernel_rfl))
  f277:=Tryz.func242.trans (congrArg some (by kernel_rfl))
  t0:=Tryz.underlying0
  a0:=Tryz.isAgg0
  z0:=Tryz.sizeOf0
  v0:=Tryz.zeroValue0
  t3:=Tryz.underlying3
  a3:=Tryz.isAgg3
  z3:=Tryz.sizeOf3
  v3:=Tryz.zeroValue3
  t4:=Tryz.underlying4
  a4:=Tryz.isAgg4
  z4:=Tryz.sizeOf4
  v4:=Tryz.zeroValue4
  t5:=Tryz.underlying5
  a5:=Tryz.isAgg5
  z5:=Tryz.sizeOf5
  v5:=Tryz.zeroValue5
  t9:=Tryz.underlying9
  a9:=Tryz.isAgg9
  z9:=Tryz.sizeOf9
  v9:=Tryz.zeroValue9
  t20:=Tryz.underlying20
  a20:=Tryz.isAgg20
  z20:=Tryz.sizeOf20
  v20:=Tryz.zeroValue20
  t37:=Tryz.underlying48
  a37:=Tryz.isAgg48
  z37:=Tryz.sizeOf48
  v37:=Tryz.zeroValue48
  t46:=Tryz.underlying97
  a46:=Tryz.isAgg97
  z46:=Tryz.sizeOf97
  v46:=Tryz.zeroValue97
  t51:=Tryz.underlying60
  a51:=Tryz.isAgg60
  z51:=Tryz.sizeOf60
  v51:=Tryz.zeroValue60
  t53:=Tryz.underlying89
  a53:=Tryz.isAgg89
  z53:=Tryz.sizeOf89
  v53:=Tryz.zeroValue89
  t70:=Tryz.underlying47
  a70:=Tryz.isAgg47
  z70:=Tryz.sizeOf47
  v70:=Tryz.zeroValue47
  t72:=Tryz.underlying50
  a72:=Tryz.isAgg50
  z72:=Tryz.sizeOf50
  v72:=Tryz.zeroValue50
  t75:=Tryz.underlying62
  a75:=Tryz.isAgg62
  z75:=Tryz.sizeOf62
  v75:=Tryz.zeroValue62
  t76:=Tryz.underlying63
  a76:=Tryz.isAgg63
  z76:=Tryz.sizeOf63
  v76:=Tryz.zeroValue63
  t109:=Tryz.underlying169
  a109:=Tryz.isAgg169
  z109:=Tryz.sizeOf169
  v109:=Tryz.zeroValue169
  t127:=Tryz.underlying69
  a127:=Tryz.isAgg69
  z127:=Tryz.sizeOf69
  v127:=Tryz.zeroValue69
  t146:=Tryz.underlying206
  a146:=Tryz.isAgg206
  z146:=Tryz.sizeOf206
  v146:=Tryz.zeroValue206
  t148:=Tryz.underlying210
  a148:=Tryz.isAgg210
  z148:=Tryz.sizeOf210
  v148:=Tryz.zeroValue210
  t164:=Tryz.underlying109
  a164:=Tryz.isAgg109
  z164:=Tryz.sizeOf109
  v164:=Tryz.zeroValue109 }
theorem Tryz.Builder_Extra_105 : Builder.Extra Tryz.prog Tryz.lays105_ren:={
  sizeBuilder:=by kernel_rfl
  liesBuilder:=by kernel_rfl
  t5:=Tryz.underlying5
  a5:=Tryz.isAgg5
  z5:=Tryz.sizeOf5
  v5:=Tryz.zeroValue5
  infoByte:=by kernel_rfl
  cellsByte:=by kernel_rfl
  sizeByte:=by kernel_rfl
  neB5:=by decide }
open Go.RowKit Go.Lib in
theorem Tryz.strings_Repeat (s : ByteArray) (c : Nat) (w : World) (hc : c ≤ 9223372036854775807) (hlen : s.size * c ≤ 140737488355328) :
    Calls Tryz.prog 135 #[.string s,.int .i64 c] w fun e w'=>e = .returned (.string ⟨(Lib.repeatL s.data.toList c).toArray⟩)∧Below w.heap.size w w':=Any.strings_Repeat Tryz.lays105 Tryz.Builder_Extra_105 s c w hc hlen
end Go.Proofs
namespace Go.Proofs
open Go.Shelf
def Tryz.laysPu14_ren : Go.Shelf.Ren:=⟨fun | 14=>175 | 16=>203 | 17=>129 | 19=>223 | 20=>241 | 21=>156 | 22=>157 | 23=>158 | 24=>159 | 25=>67 | 27=>110 | 26=>204 | 28=>130 | 29=>136 | 30=>168 | 31=>169 | 32=>170 | 33=>171 | 35=>191 | 34=>194 | 36=>212 | 37=>213 | 38=>214 | 39=>243 | 40=>244 | n=>n,fun | 9=>9 | 3=>3 | 22=>89 | 24=>62 | 25=>177 | 4=>4 | 34=>158 | 5=>5 | 36=>97 | 37=>48 | 0=>0 | 39=>161 | 21=>21 | 44=>203 | 47=>69 | 50=>236 | 48=>234 | 2=>2 | 52=>172 | 55=>175 | 59=>213 | 60=>60 | 20=>20 | 61=>214 | 65=>190 | 66=>256 | 67=>52 | n=>n,fun | 0=>5 | 1=>6 | 2=>7 | 3=>11 | 4=>12 | n=>n⟩
theorem Tryz.laysPu14 : Go.Proofs.LaysPu.n14 Tryz.prog Tryz.laysPu14_ren:={
  mixed:=by kernel_rfl
  f14:=Tryz.func175.trans (congrArg some (by kernel_rfl))
  f16:=Tryz.func203.trans (congrArg some (by kernel_rfl))
  f17:=Tryz.func129.trans (congrArg some (by kernel_rfl))
  f19:=Tryz.func223.trans (congrArg some (by kernel_rfl))
  f20:=Tryz.func241.trans (congrArg some (by kernel_rfl))
  f21:=Tryz.func156.trans (congrArg some (by kernel_rfl))
  f22:=Tryz.func157.trans (congrArg some (by kernel_rfl))
  f23:=Tryz.func158.trans (congrArg some (by kernel_rfl))
  f24:=Tryz.func159.trans (congrArg some (by kernel_rfl))
  f25:=Tryz.func67.trans (congrArg some (by kernel_rfl))
  f26:=Tryz.func204.trans (congrArg some (by kernel_rfl))
  f27:=Tryz.func110.trans (congrArg some (by kernel_rfl))
  f28:=Tryz.func130.trans (congrArg some (by kernel_rfl))
  f29:=Tryz.func136.trans (congrArg some (by kernel_rfl))
  f30:=Tryz.func168.trans (congrArg some (by kernel_rfl))
  f31:=Tryz.func169.trans (congrArg some (by kernel_rfl))
  f32:=Tryz.func170.trans (congrArg some (by kernel_rfl))
  f33:=Tryz.func171.trans (congrArg some (by kernel_rfl))
  f34:=Tryz.func194.trans (congrArg some (by kernel_rfl))
  f35:=Tryz.func191.trans (congrArg some (by kernel_rfl))
  f36:=Tryz.func212.trans (congrArg some (by kernel_rfl))
  f37:=Tryz.func213.trans (congrArg some (by kernel_rfl))
  f38:=Tryz.func214.trans (congrArg some (by kernel_rfl))
  f39:=Tryz.func243.trans (congrArg some (by kernel_rfl))
  f40:=Tryz.func244.trans (congrArg some (by kernel_rfl))
  t0:=Tryz.underlying0
  a0:=Tryz.isAgg0
  z0:=Tryz.sizeOf0
  v0:=Tryz.zeroValue0
  i0:=by kernel_rfl
  t2:=Tryz.underlying2
  a2:=Tryz.isAgg2
  z2:=Tryz.sizeOf2
  v2:=Tryz.zeroValue2
  i2:=by kernel_rfl
  t3:=Tryz.underlying3
  a3:=Tryz.isAgg3
  z3:=Tryz.sizeOf3
  v3:=Tryz.zeroValue3
  i3:=by kernel_rfl
  t4:=Tryz.underlying4
  a4:=Tryz.isAgg4
  z4:=Tryz.sizeOf4
  v4:=Tryz.zeroValue4
  i4:=by kernel_rfl
  t5:=Tryz.underlying5
  a5:=Tryz.isAgg5
  z5:=Tryz.sizeOf5
  v5:=Tryz.zeroValue5
  i5:=by kernel_rfl
  t9:=Tryz.underlying9
  a9:=Tryz.isAgg9
  z9:=Tryz.sizeOf9
  v9:=Tryz.zeroValue9
  i9:=by kernel_rfl
  t20:=Tryz.underlying20
  a20:=Tryz.isAgg20
  z20:=Tryz.sizeOf20
  v20:=Tryz.zeroValue20
  i20:=by kernel_rfl
  t21:=Tryz.underlying21
  a21:=Tryz.isAgg21
  z21:=Tryz.sizeOf21
  v21:=Tryz.zeroValue21
  i21:=by kernel_rfl
  t22:=Tryz.underlying89
  a22:=Tryz.isAgg89
  z22:=Tryz.sizeOf89
  v22:=Tryz.zeroValue89
  i22:=by kernel_rfl
  t24:=Tryz.underlying62
  a24:=Tryz.isAgg62
  z24:=Tryz.sizeOf62
  v24:=Tryz.zeroValue62
  i24:=by kernel_rfl
  t25:=Tryz.underlying177
  a25:=Tryz.isAgg177
  z25:=Tryz.sizeOf177
  v25:=Tryz.zeroValue177
  i25:=by kernel_rfl
  t34:=Tryz.underlying158
  a34:=Tryz.isAgg158
  z34:=Tryz.sizeOf158
  v34:=Tryz.zeroValue158
  i34:=by kernel_rfl
  c34:=by kernel_rfl
  t36:=Tryz.underlying97
  a36:=Tryz.isAgg97
  z36:=Tryz.sizeOf97
  v36:=Tryz.zeroValue97
  i36:=by kernel_rfl
  t37:=Tryz.underlying48
  a37:=Tryz.isAgg48
  z37:=Tryz.sizeOf48
  v37:=Tryz.zeroValue48
  i37:=by kernel_rfl
  t39:=Tryz.underlying161
  a39:=Tryz.isAgg161
  z39:=Tryz.sizeOf161
  v39:=Tryz.zeroValue161
  i39:=by kernel_rfl
  t44:=Tryz.underlying203
  a44:=Tryz.isAgg203
  z44:=Tryz.sizeOf203
  v44:=Tryz.zeroValue203
  i44:=by kernel_rfl
  t47:=Tryz.underlying69
  a47:=Tryz.isAgg69
  z47:=Tryz.sizeOf69
  v47:=Tryz.zeroValue69
  i47:=by kernel_rfl
  t48:=Tryz.underlying234
  a48:=Tryz.isAgg234
  z48:=Tryz.sizeOf234
  v48:=Tryz.zeroValue234
  i48:=by kernel_rfl
  t50:=Tryz.underlying236
  a50:=Tryz.isAgg236
  z50:=Tryz.sizeOf236
  v50:=Tryz.zeroValue236
  i50:=by kernel_rfl
  t52:=Tryz.underlying172
  a52:=Tryz.isAgg172
  z52:=Tryz.sizeOf172
  v52:=Tryz.zeroValue172
  i52:=by kernel_rfl
  t55:=Tryz.underlying175
  a55:=Tryz.isAgg175
  z55:=Tryz.sizeOf175
  v55:=Tryz.zeroValue175
  i55:=by kernel_rfl
  t59:=Tryz.underlying213
  a59:=Tryz.isAgg213
  z59:=Tryz.sizeOf213
  v59:=Tryz.zeroValue213
  i59:=by kernel_rfl
  t60:=Tryz.underlying60
  a60:=Tryz.isAgg60
  z60:=Tryz.sizeOf60
  v60:=Tryz.zeroValue60
  i60:=by kernel_rfl
  t61:=Tryz.underlying214
  a61:=Tryz.isAgg214
  z61:=Tryz.sizeOf214
  t65:=Tryz.underlying190
  a65:=Tryz.isAgg190
  z65:=Tryz.sizeOf190
  v65:=Tryz.zeroValue190
  i65:=by kernel_rfl
  t66:=Tryz.underlying256
  a66:=Tryz.isAgg256
  z66:=Tryz.sizeOf256
  v66:=Tryz.zeroValue256
  i66:=by kernel_rfl
  t67:=Tryz.underlying52
  a67:=Tryz.isAgg52
  z67:=Tryz.sizeOf52
  v67:=Tryz.zeroValue52
  i67:=by kernel_rfl
  g0:=by kernel_rfl
  m0:=by kernel_rfl
  g1:=by kernel_rfl
  m1:=by kernel_rfl
  g2:=by kernel_rfl
  m2:=by kernel_rfl
  g3:=by kernel_rfl
  m3:=by kernel_rfl
  g4:=by kernel_rfl
  m4:=by kernel_rfl }
open Go.RowKit in
theorem Tryz.strconv_ParseUint_10_at32_ok (s : ByteArray) (hmax : s.size ≤ 9223372036854775806) (u : Nat) (h : Lib.parseUintB 32 s.data.toList = .ok u) (w : World) :
    Calls Tryz.prog 175 #[.string s,.int .i64 10,.int .i64 32] w fun e w'=>e = .returned (.tuple #[.int .u64 u,.nilIface])∧(w' = w ∨ w' = Lib.bytesWorld w 5 s):=Any.strconv_ParseUint_10_at32_ok Tryz.laysPu14 s hmax u h w
end Go.Proofs
namespace Go.Proofs
open Go.Shelf
def Tryz.lays103_ren : Go.Shelf.Ren:=⟨fun | 103=>139 | 210=>173 | 206=>210 | n=>n,fun | 9=>9 | 4=>4 | 24=>139 | 3=>3 | n=>n,fun | n=>n⟩
theorem Tryz.lays103 : Go.Proofs.Lays.n103 Tryz.prog Tryz.lays103_ren:={
  mixed:=by kernel_rfl
  f103:=Tryz.func139.trans (congrArg some (by kernel_rfl))
  f206:=Tryz.func210.trans (congrArg some (by kernel_rfl))
  f210:=Tryz.func173.trans (congrArg some (by kernel_rfl))
  t3:=Tryz.underlying3
  a3:=Tryz.isAgg3
  z3:=Tryz.sizeOf3
  v3:=Tryz.zeroValue3
  t4:=Tryz.underlying4
  a4:=Tryz.isAgg4
  z4:=Tryz.sizeOf4
  v4:=Tryz.zeroValue4
  t9:=Tryz.underlying9
  a9:=Tryz.isAgg9
  z9:=Tryz.sizeOf9
  v9:=Tryz.zeroValue9
  t24:=Tryz.underlying139
  a24:=Tryz.isAgg139
  z24:=Tryz.sizeOf139
  v24:=Tryz.zeroValue139 }
open Go.RowKit in
theorem Tryz.strings_CutPrefix (s p : ByteArray) (w : World) :
    Calls Tryz.prog 139 #[.string s,.string p] w fun e w'=>e = .returned (.tuple #[.string ⟨(Lib.trimPrefix s.data.toList p.data.toList).toArray⟩,.bool (Lib.hasPrefix s.data.toList p.data.toList)])∧w' = w:=Any.strings_CutPrefix Tryz.lays103 s p w
def Tryz.lays101_ren : Go.Shelf.Ren:=⟨fun | 101=>140 | 208=>174 | 206=>210 | n=>n,fun | 9=>9 | 4=>4 | 3=>3 | n=>n,fun | n=>n⟩
theorem Tryz.lays101 : Go.Proofs.Lays.n101 Tryz.prog Tryz.lays101_ren:={
  mixed:=by kernel_rfl
  f101:=Tryz.func140.trans (congrArg some (by kernel_rfl))
  f206:=Tryz.func210.trans (congrArg some (by kernel_rfl))
  f208:=Tryz.func174.trans (congrArg some (by kernel_rfl))
  t3:=Tryz.underlying3
  a3:=Tryz.isAgg3
  z3:=Tryz.sizeOf3
  v3:=Tryz.zeroValue3
  t4:=Tryz.underlying4
  a4:=Tryz.isAgg4
  z4:=Tryz.sizeOf4
  v4:=Tryz.zeroValue4
  t9:=Tryz.underlying9
  a9:=Tryz.isAgg9
  z9:=Tryz.sizeOf9
  v9:=Tryz.zeroValue9 }
open Go.RowKit Go.Lib in
theorem Tryz.strings_TrimPrefix (s p : ByteArray) (w : World) :
    Calls Tryz.prog 140 #[.string s,.string p] w fun e w'=>e = .returned (.string ⟨(Lib.trimPrefix s.data.toList p.data.toList).toArray⟩)∧w' = w:=Any.strings_TrimPrefix Tryz.lays101 s p w
end Go.Proofs
namespace Go.Proofs
open Go.Shelf
open Go.RowKit Go.Lib in
theorem Tryz.strings_IndexAny_laid (s chars : ByteArray) (w : World) (hs : s.size < 4294967281) (hcs : chars.size < 4294967281) (has : ∀ (j : Nat) b,s.data.toList[j]? = some b → b.toNat < 128) (hac : ∀ (j : Nat) b,chars.data.toList[j]? = some b → b.toNat < 128) :
    Calls Tryz.prog 215 #[.string s,.string chars] w fun e w'=>e = .returned (.int .i64 (Lib.indexAny s.data.toList chars.data.toList))∧Below w.heap.size w w':=Any.strings_IndexAny_laid Tryz.lays153 (by kernel_rfl) s chars w hs hcs has hac
end Go.Proofs
namespace Go.Proofs
open Go.Shelf
def Tryz.laysC245_ren : Go.Shelf.Ren:=⟨fun | 245=>129 | 279=>156 | 280=>157 | 281=>158 | 282=>159 | 316=>67 | 171=>110 | 205=>204 | 243=>130 | 246=>136 | 283=>168 | 284=>169 | 285=>170 | 286=>171 | 129=>191 | 317=>194 | 318=>212 | 319=>213 | 320=>214 | 337=>243 | 338=>244 | n=>n,fun | 9=>9 | 3=>3 | 75=>62 | 167=>158 | 4=>4 | 168=>161 | 210=>203 | 37=>48 | 0=>0 | 127=>69 | 145=>236 | 143=>234 | 2=>2 | 171=>172 | 53=>89 | 5=>5 | 173=>175 | 212=>213 | 51=>60 | 20=>20 | 213=>214 | 46=>97 | 232=>190 | 233=>256 | 80=>52 | n=>n,fun | 15=>5 | 16=>6 | 17=>7 | 18=>11 | 19=>12 | n=>n⟩
theorem Tryz.laysC245 : Go.Proofs.LaysC.n245 Tryz.prog Tryz.laysC245_ren:={
  mixed:=by kernel_rfl
  f129:=Tryz.func191.trans (congrArg some (by kernel_rfl))
  f171:=Tryz.func110.trans (congrArg some (by kernel_rfl))
  f205:=Tryz.func204.trans (congrArg some (by kernel_rfl))
  f243:=Tryz.func130.trans (congrArg some (by kernel_rfl))
  f245:=Tryz.func129.trans (congrArg some (by kernel_rfl))
  f246:=Tryz.func136.trans (congrArg some (by kernel_rfl))
  f279:=Tryz.func156.trans (congrArg some (by kernel_rfl))
  f280:=Tryz.func157.trans (congrArg some (by kernel_rfl))
  f281:=Tryz.func158.trans (congrArg some (by kernel_rfl))
  f282:=Tryz.func159.trans (congrArg some (by kernel_rfl))
  f283:=Tryz.func168.trans (congrArg some (by kernel_rfl))
  f284:=Tryz.func169.trans (congrArg some (by kernel_rfl))
  f285:=Tryz.func170.trans (congrArg some (by kernel_rfl))
  f286:=Tryz.func171.trans (congrArg some (by kernel_rfl))
  f316:=Tryz.func67.trans (congrArg some (by kernel_rfl))
  f317:=Tryz.func194.trans (congrArg some (by kernel_rfl))
  f318:=Tryz.func212.trans (congrArg some (by kernel_rfl))
  f319:=Tryz.func213.trans (congrArg some (by kernel_rfl))
  f320:=Tryz.func214.trans (congrArg some (by kernel_rfl))
  f337:=Tryz.func243.trans (congrArg some (by kernel_rfl))
  f338:=Tryz.func244.trans (congrArg some (by kernel_rfl))
  t0:=Tryz.underlying0
  a0:=Tryz.isAgg0
  z0:=Tryz.sizeOf0
  v0:=Tryz.zeroValue0
  t2:=Tryz.underlying2
  a2:=Tryz.isAgg2
  z2:=Tryz.sizeOf2
  v2:=Tryz.zeroValue2
  t3:=Tryz.underlying3
  a3:=Tryz.isAgg3
  z3:=Tryz.sizeOf3
  v3:=Tryz.zeroValue3
  t4:=Tryz.underlying4
  a4:=Tryz.isAgg4
  z4:=Tryz.sizeOf4
  v4:=Tryz.zeroValue4
  t5:=Tryz.underlying5
  a5:=Tryz.isAgg5
  z5:=Tryz.sizeOf5
  v5:=Tryz.zeroValue5
  t9:=Tryz.underlying9
  a9:=Tryz.isAgg9
  z9:=Tryz.sizeOf9
  v9:=Tryz.zeroValue9
  t20:=Tryz.underlying20
  a20:=Tryz.isAgg20
  z20:=Tryz.sizeOf20
  v20:=Tryz.zeroValue20
  t37:=Tryz.underlying48
  a37:=Tryz.isAgg48
  z37:=Tryz.sizeOf48
  v37:=Tryz.zeroValue48
  t46:=Tryz.underlying97
  a46:=Tryz.isAgg97
  z46:=Tryz.sizeOf97
  v46:=Tryz.zeroValue97
  t51:=Tryz.underlying60
  a51:=Tryz.isAgg60
  z51:=Tryz.sizeOf60
  v51:=Tryz.zeroValue60
  t53:=Tryz.underlying89
  a53:=Tryz.isAgg89
  z53:=Tryz.sizeOf89
  v53:=Tryz.zeroValue89
  t75:=Tryz.underlying62
  a75:=Tryz.isAgg62
  z75:=Tryz.sizeOf62
  v75:=Tryz.zeroValue62
  t127:=Tryz.underlying69
  a127:=Tryz.isAgg69
  z127:=Tryz.sizeOf69
  v127:=Tryz.zeroValue69
  t143:=Tryz.underlying234
  a143:=Tryz.isAgg234
  z143:=Tryz.sizeOf234
  v143:=Tryz.zeroValue234
  t145:=Tryz.underlying236
  a145:=Tryz.isAgg236
  z145:=Tryz.sizeOf236
  v145:=Tryz.zeroValue236
  t167:=Tryz.underlying158
  a167:=Tryz.isAgg158
  z167:=Tryz.sizeOf158
  v167:=Tryz.zeroValue158
  t168:=Tryz.underlying161
  a168:=Tryz.isAgg161
  z168:=Tryz.sizeOf161
  v168:=Tryz.zeroValue161
  t171:=Tryz.underlying172
  a171:=Tryz.isAgg172
  z171:=Tryz.sizeOf172
  v171:=Tryz.zeroValue172
  t173:=Tryz.underlying175
  a173:=Tryz.isAgg175
  z173:=Tryz.sizeOf175
  v173:=Tryz.zeroValue175
  t210:=Tryz.underlying203
  a210:=Tryz.isAgg203
  z210:=Tryz.sizeOf203
  v210:=Tryz.zeroValue203
  t212:=Tryz.underlying213
  a212:=Tryz.isAgg213
  z212:=Tryz.sizeOf213
  v212:=Tryz.zeroValue213
  t213:=Tryz.underlying214
  a213:=Tryz.isAgg214
  z213:=Tryz.sizeOf214
  t232:=Tryz.underlying190
  a232:=Tryz.isAgg190
  z232:=Tryz.sizeOf190
  v232:=Tryz.zeroValue190
  t233:=Tryz.underlying256
  a233:=Tryz.isAgg256
  z233:=Tryz.sizeOf256
  v233:=Tryz.zeroValue256
  g15:=by kernel_rfl
  g16:=by kernel_rfl
  g17:=by kernel_rfl
  g18:=by kernel_rfl
  g19:=by kernel_rfl
  t80:=Tryz.underlying52
  a80:=Tryz.isAgg52
  z80:=Tryz.sizeOf52
  v80:=Tryz.zeroValue52
  i0:=by kernel_rfl
  i2:=by kernel_rfl
  i3:=by kernel_rfl
  i4:=by kernel_rfl
  i5:=by kernel_rfl
  i9:=by kernel_rfl
  i20:=by kernel_rfl
  i37:=by kernel_rfl
  i46:=by kernel_rfl
  i51:=by kernel_rfl
  i53:=by kernel_rfl
  i75:=by kernel_rfl
  i80:=by kernel_rfl
  i127:=by kernel_rfl
  i143:=by kernel_rfl
  i145:=by kernel_rfl
  i167:=by kernel_rfl
  i168:=by kernel_rfl
  i171:=by kernel_rfl
  i173:=by kernel_rfl
  i210:=by kernel_rfl
  i212:=by kernel_rfl
  i232:=by kernel_rfl
  i233:=by kernel_rfl
  m15:=by kernel_rfl
  m16:=by kernel_rfl
  m17:=by kernel_rfl
  m18:=by kernel_rfl
  m19:=by kernel_rfl
  c0:=by kernel_rfl
  c2:=by kernel_rfl
  c3:=by kernel_rfl
  c4:=by kernel_rfl
  c5:=by kernel_rfl
  c9:=by kernel_rfl
  c20:=by kernel_rfl
  c37:=by kernel_rfl
  c46:=by kernel_rfl
  c51:=by kernel_rfl
  c53:=by kernel_rfl
  c75:=by kernel_rfl
  c80:=by kernel_rfl
  c127:=by kernel_rfl
  c143:=by kernel_rfl
  c145:=by kernel_rfl
  c167:=by kernel_rfl
  c168:=by kernel_rfl
  c171:=by kernel_rfl
  c173:=by kernel_rfl
  c210:=by kernel_rfl
  c212:=by kernel_rfl
  c213:=by kernel_rfl
  c232:=by kernel_rfl
  c233:=by kernel_rfl }
open Go.RowKit in
theorem Tryz.strconv_toError_range (fn s : ByteArray) (base bits : Int) (ev : Value) (w : World) (hlim : s.size ≤ 281474976710656) (hv : w.cell? ⟨6,0,none⟩ = some ev) (hev : ev = .nilIface ∨ ∃ te pe,ev = .iface te pe) :
    Calls Tryz.prog 129 #[.string fn,.string s,.int .i64 base,.int .i64 bits,.iface 158 (.int .i64 1)] w fun e w'=>∃ N,e = .returned (.iface 161 (.pointer (some ⟨N,0,none⟩)))∧w.heap.size ≤ N∧w'.heap[N]? = some (.cells #[.string fn,.string s,ev] 203 (0,0))∧Below w.heap.size w w':=Any.strconv_toError_range Tryz.laysC245 fn s base bits ev w hlim hv hev
end Go.Proofs
