import Derived.Shelf.Strings.Builder1
import Derived.Shelf.Strings.Builder2
import Derived.Shelf.Small.Strs
import Derived.Shelf.Small.Wraps
import Derived.Shelf.Strings.BuilderF
import Derived.Shelf.Utf8.RuneCount
import Derived.Shelf.Strconv.Itoa0
import Derived.Shelf.Strconv.Itoa1
import Derived.Shelf.LaysM
import Derived.Shelf.Strconv.Itoa2
import Derived.Shelf.Strconv.Itoa3
import Derived.Shelf.Strconv.Clone
import Derived.Shelf.Strings.Search1
import Derived.Shelf.Strings.Search2
import Derived.Shelf.Strings.Search3
import Derived.Shelf.Strings.Count
import Derived.Shelf.Strings.Shaped
import Derived.Shelf.Strings.Prefix
import Derived.Shelf.Strings.Split
import Derived.Shelf.Strings.Replace
import Derived.Shelf.Strings.SplitShaped
import Derived.Shelf.Unicode.Decode
import Derived.Shelf.Strings.RuneCount
import Derived.Shelf.Unicode.DecodeSlow
import Derived.Shelf.Unicode.DecodeAny
import Derived.Test.YtbiiicbfpcfgdaaGreatDoorProg
import Derived.Test.YtbiiicbfpcfgdaaGreatDoorSpn
import Derived.Lib.IndexAny
import Derived.Lib.AppendIntMem
import Derived.Test.YtbiiicbfpcfgdaaGreatDoorNof
import Derived.Test.YtbiiicbfpcfgdaaGreatDoorFnk
namespace Go.Proofs
open Go.Shelf
def Tryz.lays137_ren:Go.Shelf.Ren:=⟨fun | 137=>35 | 217=>55 | 266=>82 | n=>n,fun | 9=>9 | 5=>5 | 3=>3 | n=>n,fun | n=>n⟩
theorem Tryz.lays137:Go.Proofs.Lays.n137 Tryz.prog Tryz.lays137_ren:={
 mixed:=by kernel_rfl
 f137:=Tryz.func35.trans (congrArg some (by kernel_rfl))
 f217:=Tryz.func55.trans (congrArg some (by kernel_rfl))
 f266:=Tryz.func82.trans (congrArg some (by kernel_rfl))
 t3:=Tryz.underlying3
 a3:=Tryz.isAgg3
 z3:=Tryz.sizeOf3
 v3:=Tryz.zeroValue3
 t5:=Tryz.underlying5
 a5:=Tryz.isAgg5
 z5:=Tryz.sizeOf5
 v5:=Tryz.zeroValue5
 t9:=Tryz.underlying9
 a9:=Tryz.isAgg9
 z9:=Tryz.sizeOf9
 v9:=Tryz.zeroValue9 }
open Go.RowKit in
theorem Tryz.strings_IndexByte (s:ByteArray) (c:Int) (w:World) :
  Calls Tryz.prog 35 #[.string s,.int .u8 c] w fun e w'=>e=.returned (.int .i64 (Lib.indexByte s.data.toList c.toNat.toUInt8))/\w'=w:=Any.strings_IndexByte Tryz.lays137 s c w
def Tryz.lays103_ren:Go.Shelf.Ren:=⟨fun | 103=>84 | 210=>100 | 206=>83 | n=>n,fun | 9=>9 | 4=>4 | 24=>28 | 3=>3 | n=>n,fun | n=>n⟩
theorem Tryz.lays103:Go.Proofs.Lays.n103 Tryz.prog Tryz.lays103_ren:={
 mixed:=by kernel_rfl
 f103:=Tryz.func84.trans (congrArg some (by kernel_rfl))
 f206:=Tryz.func83.trans (congrArg some (by kernel_rfl))
 f210:=Tryz.func100.trans (congrArg some (by kernel_rfl))
 t3:=Tryz.underlying3
 a3:=Tryz.isAgg3
 z3:=Tryz.sizeOf3
 v3:=Tryz.zeroValue3
 t4:=Tryz.underlying4
 a4:=Tryz.isAgg4
 z4:=Tryz.sizeOf4
 v4:=Tryz.zeroValue4
 t9:=Tryz.underlying9
 a9:=Tryz.isAgg9
 z9:=Tryz.sizeOf9
 v9:=Tryz.zeroValue9
 t24:=Tryz.underlying28
 a24:=Tryz.isAgg28
 z24:=Tryz.sizeOf28
 v24:=Tryz.zeroValue28 }
open Go.RowKit in
theorem Tryz.strings_CutPrefix (s p:ByteArray) (w:World) :
  Calls Tryz.prog 84 #[.string s,.string p] w fun e w'=>e=.returned (.tuple #[.string ⟨(Lib.trimPrefix s.data.toList p.data.toList).toArray⟩,.bool (Lib.hasPrefix s.data.toList p.data.toList)])/\w'=w:=Any.strings_CutPrefix Tryz.lays103 s p w
def Tryz.laysM171_ren:Go.Shelf.Ren:=⟨fun | 171=>125 | 243=>134 | 246=>140 | 283=>145 | 284=>146 | 285=>147 | 286=>148 | 129=>151 | 317=>150 | 318=>152 | 319=>153 | 320=>154 | 337=>155 | 338=>156 | n=>n,fun | 3=>3 | 9=>9 | 2=>2 | 4=>4 | 171=>185 | 0=>0 | 53=>186 | 37=>22 | 5=>5 | 173=>189 | 212=>195 | 51=>191 | 20=>20 | 213=>196 | 46=>180 | 232=>199 | 233=>200 | n=>n,fun | 17=>4 | 18=>5 | 19=>6 | n=>n⟩
theorem Tryz.laysM171:Go.Proofs.LaysM.n171 Tryz.prog Tryz.laysM171_ren:={
 mixed:=by kernel_rfl
 f129:=Tryz.func151.trans (congrArg some (by kernel_rfl))
 f171:=Tryz.func125.trans (congrArg some (by kernel_rfl))
 f243:=Tryz.func134.trans (congrArg some (by kernel_rfl))
 f246:=Tryz.func140.trans (congrArg some (by kernel_rfl))
 f283:=Tryz.func145.trans (congrArg some (by kernel_rfl))
 f284:=Tryz.func146.trans (congrArg some (by kernel_rfl))
 f285:=Tryz.func147.trans (congrArg some (by kernel_rfl))
 f286:=Tryz.func148.trans (congrArg some (by kernel_rfl))
 f317:=Tryz.func150.trans (congrArg some (by kernel_rfl))
 f318:=Tryz.func152.trans (congrArg some (by kernel_rfl))
 f319:=Tryz.func153.trans (congrArg some (by kernel_rfl))
 f320:=Tryz.func154.trans (congrArg some (by kernel_rfl))
 f337:=Tryz.func155.trans (congrArg some (by kernel_rfl))
 f338:=Tryz.func156.trans (congrArg some (by kernel_rfl))
 t0:=Tryz.underlying0
 a0:=Tryz.isAgg0
 z0:=Tryz.sizeOf0
 v0:=Tryz.zeroValue0
 t2:=Tryz.underlying2
 a2:=Tryz.isAgg2
 z2:=Tryz.sizeOf2
 v2:=Tryz.zeroValue2
 t3:=Tryz.underlying3
 a3:=Tryz.isAgg3
 z3:=Tryz.sizeOf3
 v3:=Tryz.zeroValue3
 t4:=Tryz.underlying4
 a4:=Tryz.isAgg4
 z4:=Tryz.sizeOf4
 v4:=Tryz.zeroValue4
 t5:=Tryz.underlying5
 a5:=Tryz.isAgg5
 z5:=Tryz.sizeOf5
 v5:=Tryz.zeroValue5
 t9:=Tryz.underlying9
 a9:=Tryz.isAgg9
 z9:=Tryz.sizeOf9
 v9:=Tryz.zeroValue9
 t20:=Tryz.underlying20
 a20:=Tryz.isAgg20
 z20:=Tryz.sizeOf20
 v20:=Tryz.zeroValue20
 t37:=Tryz.underlying22
 a37:=Tryz.isAgg22
 z37:=Tryz.sizeOf22
 v37:=Tryz.zeroValue22
 t46:=Tryz.underlying180
 a46:=Tryz.isAgg180
 z46:=Tryz.sizeOf180
 v46:=Tryz.zeroValue180
 t51:=Tryz.underlying191
 a51:=Tryz.isAgg191
 z51:=Tryz.sizeOf191
 v51:=Tryz.zeroValue191
 t53:=Tryz.underlying186
 a53:=Tryz.isAgg186
 z53:=Tryz.sizeOf186
 v53:=Tryz.zeroValue186
 t171:=Tryz.underlying185
 a171:=Tryz.isAgg185
 z171:=Tryz.sizeOf185
 v171:=Tryz.zeroValue185
 t173:=Tryz.underlying189
 a173:=Tryz.isAgg189
 z173:=Tryz.sizeOf189
 v173:=Tryz.zeroValue189
 t212:=Tryz.underlying195
 a212:=Tryz.isAgg195
 z212:=Tryz.sizeOf195
 v212:=Tryz.zeroValue195
 t213:=Tryz.underlying196
 a213:=Tryz.isAgg196
 z213:=Tryz.sizeOf196
 t232:=Tryz.underlying199
 a232:=Tryz.isAgg199
 z232:=Tryz.sizeOf199
 v232:=Tryz.zeroValue199
 t233:=Tryz.underlying200
 a233:=Tryz.isAgg200
 z233:=Tryz.sizeOf200
 v233:=Tryz.zeroValue200
 g17:=by kernel_rfl
 g18:=by kernel_rfl
 g19:=by kernel_rfl
 i0:=by kernel_rfl
 i2:=by kernel_rfl
 i3:=by kernel_rfl
 i4:=by kernel_rfl
 i5:=by kernel_rfl
 i9:=by kernel_rfl
 i20:=by kernel_rfl
 i37:=by kernel_rfl
 i46:=by kernel_rfl
 i51:=by kernel_rfl
 i53:=by kernel_rfl
 i171:=by kernel_rfl
 i173:=by kernel_rfl
 i212:=by kernel_rfl
 i232:=by kernel_rfl
 i233:=by kernel_rfl
 m17:=by kernel_rfl
 m18:=by kernel_rfl
 m19:=by kernel_rfl }
open Go.RowKit Go.Sort Go.Lib in
theorem Tryz.strconv_Itoa (n : Int) (h0 : -9223372036854775808 <= n) (h1 : n <= 9223372036854775807) (w : World) (htab : Lib.TabIs Tryz.prog w "internal/strconv.uint64pow10" .u64 Lib.pow10Tab) :
  Calls Tryz.prog 125 #[.int .i64 n] w fun e w'=>e=.returned (.string ⟨(Lib.itoa n).toArray⟩)/\∃k os,w'=grow (w.drewN k) os:=Any.strconv_Itoa Tryz.laysM171 n h0 h1 w htab
def Tryz.laysM316_ren:Go.Shelf.Ren:=⟨fun | 316=>88 | n=>n,fun | 9=>9 | 3=>3 | 4=>4 | 37=>22 | 0=>0 | 127=>128 | 5=>5 | n=>n,fun | n=>n⟩
theorem Tryz.laysM316:Go.Proofs.LaysM.n316 Tryz.prog Tryz.laysM316_ren:={
 mixed:=by kernel_rfl
 f316:=Tryz.func88.trans (congrArg some (by kernel_rfl))
 t0:=Tryz.underlying0
 a0:=Tryz.isAgg0
 z0:=Tryz.sizeOf0
 v0:=Tryz.zeroValue0
 t3:=Tryz.underlying3
 a3:=Tryz.isAgg3
 z3:=Tryz.sizeOf3
 v3:=Tryz.zeroValue3
 t4:=Tryz.underlying4
 a4:=Tryz.isAgg4
 z4:=Tryz.sizeOf4
 v4:=Tryz.zeroValue4
 t9:=Tryz.underlying9
 a9:=Tryz.isAgg9
 z9:=Tryz.sizeOf9
 v9:=Tryz.zeroValue9
 t37:=Tryz.underlying22
 a37:=Tryz.isAgg22
 z37:=Tryz.sizeOf22
 v37:=Tryz.zeroValue22
 t127:=Tryz.underlying128
 a127:=Tryz.isAgg128
 z127:=Tryz.sizeOf128
 v127:=Tryz.zeroValue128
 t5:=Tryz.underlying5
 a5:=Tryz.isAgg5
 z5:=Tryz.sizeOf5
 v5:=Tryz.zeroValue5
 i0:=by kernel_rfl
 i3:=by kernel_rfl
 i4:=by kernel_rfl
 i5:=by kernel_rfl
 i9:=by kernel_rfl
 i37:=by kernel_rfl
 i127:=by kernel_rfl }
open Go.RowKit in
theorem Tryz.stringslite_Clone (s:ByteArray) (w:World) (hlim:s.size<=281474976710656) :
  Calls Tryz.prog 88 #[.string s] w fun e w'=>e=.returned (.string s)/\Below w.heap.size w w':=Any.stringslite_Clone Tryz.laysM316 s w hlim
def Tryz.lays99_ren:Go.Shelf.Ren:=⟨fun | 99=>58 | 206=>83 | n=>n,fun | 9=>9 | 4=>4 | 3=>3 | n=>n,fun | n=>n⟩
theorem Tryz.lays99:Go.Proofs.Lays.n99 Tryz.prog Tryz.lays99_ren:={
 mixed:=by kernel_rfl
 f99:=Tryz.func58.trans (congrArg some (by kernel_rfl))
 f206:=Tryz.func83.trans (congrArg some (by kernel_rfl))
 t3:=Tryz.underlying3
 a3:=Tryz.isAgg3
 z3:=Tryz.sizeOf3
 v3:=Tryz.zeroValue3
 t4:=Tryz.underlying4
 a4:=Tryz.isAgg4
 z4:=Tryz.sizeOf4
 v4:=Tryz.zeroValue4
 t9:=Tryz.underlying9
 a9:=Tryz.isAgg9
 z9:=Tryz.sizeOf9
 v9:=Tryz.zeroValue9 }
open Go.RowKit Go.Lib in
theorem Tryz.strings_HasPrefix (s p:ByteArray) (w:World) :
  Calls Tryz.prog 58 #[.string s,.string p] w fun e w'=>e=.returned (.bool (Lib.hasPrefix s.data.toList p.data.toList))/\w'=w:=Any.strings_HasPrefix Tryz.lays99 s p w
def Tryz.lays154_ren:Go.Shelf.Ren:=⟨fun | 154=>124 | 138=>130 | 165=>131 | 143=>132 | 166=>47 | 197=>133 | 169=>49 | 195=>135 | 218=>136 | 240=>77 | 241=>137 | 219=>138 | 260=>139 | 276=>95 | 277=>141 | 217=>55 | 225=>142 | 224=>143 | 267=>144 | 266=>82 | 314=>149 | n=>n,fun | 9=>9 | 3=>3 | 4=>4 | 72=>98 | 0=>0 | 76=>102 | 105=>175 | 21=>21 | 5=>5 | 70=>96 | 20=>20 | 37=>22 | 75=>101 | 127=>128 | 164=>143 | 46=>180 | 119=>181 | 139=>184 | 138=>183 | 146=>192 | 51=>191 | 80=>105 | n=>n,fun | 1=>0 | 3=>2 | 4=>3 | n=>n⟩
theorem Tryz.lays154:Go.Proofs.Lays.n154 Tryz.prog Tryz.lays154_ren:={
 mixed:=by kernel_rfl
 f138:=Tryz.func130.trans (congrArg some (by kernel_rfl))
 f143:=Tryz.func132.trans (congrArg some (by kernel_rfl))
 f154:=Tryz.func124.trans (congrArg some (by kernel_rfl))
 f165:=Tryz.func131.trans (congrArg some (by kernel_rfl))
 f166:=Tryz.func47.trans (congrArg some (by kernel_rfl))
 f169:=Tryz.func49.trans (congrArg some (by kernel_rfl))
 f195:=Tryz.func135.trans (congrArg some (by kernel_rfl))
 f197:=Tryz.func133.trans (congrArg some (by kernel_rfl))
 f217:=Tryz.func55.trans (congrArg some (by kernel_rfl))
 f218:=Tryz.func136.trans (congrArg some (by kernel_rfl))
 f219:=Tryz.func138.trans (congrArg some (by kernel_rfl))
 f224:=Tryz.func143.trans (congrArg some (by kernel_rfl))
 f225:=Tryz.func142.trans (congrArg some (by kernel_rfl))
 f240:=Tryz.func77.trans (congrArg some (by kernel_rfl))
 f241:=Tryz.func137.trans (congrArg some (by kernel_rfl))
 f260:=Tryz.func139.trans (congrArg some (by kernel_rfl))
 f266:=Tryz.func82.trans (congrArg some (by kernel_rfl))
 f267:=Tryz.func144.trans (congrArg some (by kernel_rfl))
 f276:=Tryz.func95.trans (congrArg some (by kernel_rfl))
 f277:=Tryz.func141.trans (congrArg some (by kernel_rfl))
 f314:=Tryz.func149.trans (congrArg some (by kernel_rfl))
 t0:=Tryz.underlying0
 a0:=Tryz.isAgg0
 z0:=Tryz.sizeOf0
 v0:=Tryz.zeroValue0
 t3:=Tryz.underlying3
 a3:=Tryz.isAgg3
 z3:=Tryz.sizeOf3
 v3:=Tryz.zeroValue3
 t4:=Tryz.underlying4
 a4:=Tryz.isAgg4
 z4:=Tryz.sizeOf4
 v4:=Tryz.zeroValue4
 t5:=Tryz.underlying5
 a5:=Tryz.isAgg5
 z5:=Tryz.sizeOf5
 v5:=Tryz.zeroValue5
 t9:=Tryz.underlying9
 a9:=Tryz.isAgg9
 z9:=Tryz.sizeOf9
 v9:=Tryz.zeroValue9
 t20:=Tryz.underlying20
 a20:=Tryz.isAgg20
 z20:=Tryz.sizeOf20
 v20:=Tryz.zeroValue20
 t21:=Tryz.underlying21
 a21:=Tryz.isAgg21
 z21:=Tryz.sizeOf21
 v21:=Tryz.zeroValue21
 t37:=Tryz.underlying22
 a37:=Tryz.isAgg22
 z37:=Tryz.sizeOf22
 v37:=Tryz.zeroValue22
 t46:=Tryz.underlying180
 a46:=Tryz.isAgg180
 z46:=Tryz.sizeOf180
 v46:=Tryz.zeroValue180
 t51:=Tryz.underlying191
 a51:=Tryz.isAgg191
 z51:=Tryz.sizeOf191
 v51:=Tryz.zeroValue191
 t70:=Tryz.underlying96
 a70:=Tryz.isAgg96
 z70:=Tryz.sizeOf96
 v70:=Tryz.zeroValue96
 t72:=Tryz.underlying98
 a72:=Tryz.isAgg98
 z72:=Tryz.sizeOf98
 v72:=Tryz.zeroValue98
 t75:=Tryz.underlying101
 a75:=Tryz.isAgg101
 z75:=Tryz.sizeOf101
 v75:=Tryz.zeroValue101
 t76:=Tryz.underlying102
 a76:=Tryz.isAgg102
 z76:=Tryz.sizeOf102
 v76:=Tryz.zeroValue102
 t105:=Tryz.underlying175
 a105:=Tryz.isAgg175
 z105:=Tryz.sizeOf175
 v105:=Tryz.zeroValue175
 t119:=Tryz.underlying181
 a119:=Tryz.isAgg181
 z119:=Tryz.sizeOf181
 t127:=Tryz.underlying128
 a127:=Tryz.isAgg128
 z127:=Tryz.sizeOf128
 v127:=Tryz.zeroValue128
 t138:=Tryz.underlying183
 a138:=Tryz.isAgg183
 z138:=Tryz.sizeOf183
 v138:=Tryz.zeroValue183
 t139:=Tryz.underlying184
 a139:=Tryz.isAgg184
 z139:=Tryz.sizeOf184
 v139:=Tryz.zeroValue184
 t146:=Tryz.underlying192
 a146:=Tryz.isAgg192
 z146:=Tryz.sizeOf192
 v146:=Tryz.zeroValue192
 t164:=Tryz.underlying143
 a164:=Tryz.isAgg143
 z164:=Tryz.sizeOf143
 v164:=Tryz.zeroValue143
 g1:=by kernel_rfl
 g3:=by kernel_rfl
 g4:=by kernel_rfl }
theorem Tryz.Builder_Extra_154:Builder.Extra Tryz.prog Tryz.lays154_ren:={
 sizeBuilder:=by kernel_rfl
 liesBuilder:=by kernel_rfl
 t5:=Tryz.underlying5
 a5:=Tryz.isAgg5
 z5:=Tryz.sizeOf5
 v5:=Tryz.zeroValue5
 infoByte:=by kernel_rfl
 cellsByte:=by kernel_rfl
 sizeByte:=by kernel_rfl
 neB5:=by decide }
open Go.RowKit Go.Lib in
theorem Tryz.strings_Replace (s old new:ByteArray) (n:Int) (m:Int) (w:World) (hs:s.size<4294967281) (hm:w.cell? ⟨0,0,none⟩=some (.int .i64 m)) (h1:1<=old.size) (hlen:s.size+Lib.countB s old * new.size<=140737488355328) :
  Calls Tryz.prog 124 #[.string s,.string old,.string new,.int .i64 n] w fun e w' =>
   e=.returned (.string ⟨(Lib.replace s.data.toList old.data.toList new.data.toList n).toArray⟩)/\Below w.heap.size w w':=Any.strings_Replace Tryz.lays154 Tryz.Builder_Extra_154 s old new n m w hs hm h1 hlen
end Go.Proofs
namespace Go.Proofs.YtbiiicbfpcfgdaaGreatDoor
open Go.RowKit
set_option maxRecDepth 100000
set_option maxHeartbeats 16000000
set_option linter.unusedVariables false
namespace Pl
theorem drop_ext (s:ByteArray) (i:Nat):(⟨(s.data.toList.drop i).toArray⟩:ByteArray)=s.extract i s.size:=by
 have h:(s.extract i s.size).data=s.data.extract i s.size:=ByteArray.data_extract
 have h2:(s.data.toList.drop i).toArray=s.data.extract i s.size:=by
  exact Array.ext sI (fun j h1 h2=>by simp)
 rw[h2,<- h]
theorem at_list (s:ByteArray) (i:Nat) (h:i<s.size):bt s i=((s.data.toList[i]'(by simpa using h)).toNat:Int):=by
 unfold bt
 have hs:i<s.data.size:=h
 rw[getElem!_pos s.data i hs]
 simp
theorem pre_two {s:ByteArray}{i:Nat}(hi:i<s.size):Lib.hasPrefix (s.extract i s.size).data.toList [58,61]=decide (bt s i=58/\i+1<s.size/\bt s (i+1)=61):=by
 rw[<- drop_ext]
 show Lib.hasPrefix (s.data.toList.drop i) [58,61]=_
 have hl:i<s.data.toList.length:=by simpa using hi
 rw[List.drop_eq_getElem_cons hl,at_list s i hi]
 by_cases h2:i+1<s.size
 ·have hl2:i+1<s.data.toList.length:=by simpa using h2
  rw[List.drop_eq_getElem_cons hl2,at_list s (i+1) h2]
  generalize s.data.toList[i]=x
  generalize s.data.toList[i+1]=y
  rw[Bool.eq_iff_iff]
  simp only[Lib.hasPrefix,List.isPrefixOf,Bool.and_true,Bool.and_eq_true,beq_iff_eq,decide_eq_true_eq,h2,true_and]
  constructor
  ·rintro ⟨rfl,rfl⟩;exact⟨rfl,rfl⟩
  rintro ⟨a,b⟩
  exact⟨(UInt8.toNat_inj.1 (by have h:(58:UInt8).toNat=58:=rfl;omega)).symm,(UInt8.toNat_inj.1 (by have h:(61:UInt8).toNat=61:=rfl;omega)).symm⟩
 rw[List.drop_of_length_le (by simp at *;omega)]
 simp[Lib.hasPrefix,List.isPrefixOf,h2]
theorem pre_one {s:ByteArray}(h0:0<s.size):Lib.hasPrefix s.data.toList [95]=decide (bt s 0=95):=by
 rw[at_list s 0 h0]
 have key:∀(l:List UInt8) (hl:0<l.length),Lib.hasPrefix l [95]=decide (((l[0]'hl).toNat:Int)=95):=by
  intro l hl
  cases l with
  |nil=>cases hl
  |cons x l =>
   rw[Bool.eq_iff_iff]
   simp only[Lib.hasPrefix,List.isPrefixOf,Bool.and_true,beq_iff_eq,decide_eq_true_eq,List.getElem_cons_zero]
   constructor
   ·rintro rfl;rfl
   intro a
   exact(UInt8.toNat_inj.1 (by have h:(95:UInt8).toNat=95:=rfl;omega)).symm
 exact key _ _
theorem idx_sg {L:List UInt8}{M:List Int}(hM:M=L.map (fun c=>(c.toNat:Int))) {x:Int}(h0:0<=x) (h1:x<256):decide (0<=Lib.indexByte L x.toNat.toUInt8)=decide (x∈M):=by
 rw[<- Lib.contains_iff_indexByte,hM,Bool.eq_iff_iff]
 simp only[List.contains_iff_mem,decide_eq_true_eq,List.mem_map]
 have hx:((x.toNat.toUInt8).toNat:Int)=x:=by
  have h:(x.toNat.toUInt8).toNat=x.toNat:=by
   show (UInt8.ofNat x.toNat).toNat=_
   rw[UInt8.toNat_ofNat']
   omega
  rw[h]
  omega
 constructor
 ·intro h
  exact⟨_,h,hx⟩
 rintro ⟨c,hc,e⟩
 have:c=x.toNat.toUInt8:=UInt8.toNat_inj.1 oM
 exact this ▸ hc
theorem bt_lt (s:ByteArray) (i:Nat):0<=bt s i/\bt s i<256:=by
 have:=UInt8.toNat_lt (s.data[i]!)
 unfold bt
 omega
end Pl
theorem clone_any (s:ByteArray) (w:World) (hl:s.size<=281474976710656):Calls Tryz.prog 63 #[.string s] w fun e w'=>e=.returned (.string s)/\Below w.heap.size w w':=by
 have K:Hid (∀w,Calls Tryz.prog 88 #[.string s] w fun e w'=>e=.returned (.string s)/\Below w.heap.size w w'):=fun w=>Tryz.stringslite_Clone s w hl
 go_enter Tryz.func63,Tryz.ntmps63
 go_wp2_with (go_at_call 88;refine(K.out _).mono ?_;rintro e w' ⟨rfl,hb⟩)
 go_ret
 exact⟨rfl,hb⟩
theorem tIle3 {P:Prop}(h:P:=by
 rw[HR.out]
 clear HE HR h95 h2 hld K45
 generalize Pl.bt s i=x at *
 go_enter Tryz.func36,Tryz.ntmps36
 go_wp2_with (first | (go_at_call 56;refine(K44.out _).mono ?_;rintro e w' ⟨rfl,rfl⟩) | (go_at_call 58;refine(K46.out _).mono ?_;rintro e w' ⟨rfl,rfl⟩))
 go_ret
 exact⟨ret_int oM,rfl⟩
 ):P:=h
theorem tIle4 {P:Prop}(h:P:=by
 go_enter Tryz.func36,Tryz.ntmps36
 go_wp2_with (first | (go_at_call 56;refine(K44.out _).mono ?_;rintro e w' ⟨rfl,rfl⟩) | (go_at_call 57;refine(K45.out _).mono ?_;rintro e w' ⟨rfl,rfl⟩))
 go_ret
 exact⟨rfl,rfl⟩
 ):P:=h
theorem tokenEnd_any (s:ByteArray) (i:Nat) (w:World) (hi:i<s.size) (hl:s.size<=1048576) :
  Calls Tryz.prog 36 #[.string s,.int .i64 i] w fun e w'=>e=.returned (.int .i64 (Pl.endI s i:Nat))/\w'=w:=by
 have hix:=idx_str s i hi
 have K44:Hid (∀w,Calls Tryz.prog 56 #[.int .u8 (Pl.bt s i)] w fun e w'=>e=.returned (.bool (Pl.ldI (Pl.bt s i)))/\w'=w):=fun w=>by
  have h:=isLetterOrDigit_any (Pl.bt s i) w
  rw[Bool.or_comm] at h
  exact h
 have K45:Hid (∀w,Calls Tryz.prog 57 #[.string s,.int .i64 i] w fun e w'=>e=.returned (.int .i64 (Pl.stre s (s.size-(i+1)) (i+1):Nat))/\w'=w):=fun w=>stretchEnd_any s i w hi oM
 have K46:Hid (∀w,Calls Tryz.prog 58 #[.string (s.extract i s.size),.string ⟨#[58,61]⟩] w fun e w'=>e=.returned (.bool (decide (Pl.bt s i=58/\i+1<s.size/\Pl.bt s (i+1)=61)))/\w'=w):=fun w=>by
  have h:=Tryz.strings_HasPrefix (s.extract i s.size) ⟨#[58,61]⟩ w
  rw[<- Pl.pre_two hi]
  exact h
 have HE:Hid (Pl.endI s i=if Pl.bt s i=95\/Pl.ldI (Pl.bt s i)=true then Pl.stre s (s.size-(i+1)) (i+1) else if Pl.bt s i=58/\i+1<s.size/\Pl.bt s (i+1)=61 then i+2 else i+1):=rfl
 by_cases h95:Pl.bt s i=95
 ·rw[h95] at hix K44
  have HR:Hid (Pl.endI s i=Pl.stre s (s.size-(i+1)) (i+1)):=by show _=_;rw[HE.out,if_pos (.inl h95)]
  rw[HR.out]
  clear HE HR K46 h95
  generalize Pl.stre s (s.size-(i+1)) (i+1)=r at *
  exact tIle4
 have h95':(Pl.bt s i == 95)=false:=by simpa using h95
 cases hld:Pl.ldI (Pl.bt s i)
 ·rw[hld] at K44
  cases h2:decide (Pl.bt s i=58/\i+1<s.size/\Pl.bt s (i+1)=61)
  ·rw[h2] at K46
   have HR:Hid (Pl.endI s i=i+1):=by show _=_;rw[HE.out,if_neg (by rw[hld];simp[h95]),if_neg (of_decide_eq_false h2)]
   exact tIle3
  rw[h2] at K46
  have HR:Hid (Pl.endI s i=i+2):=by show _=_;rw[HE.out,if_neg (by rw[hld];simp[h95]),if_pos (of_decide_eq_true h2)]
  exact tIle3
 rw[hld] at K44
 have HR:Hid (Pl.endI s i=Pl.stre s (s.size-(i+1)) (i+1)):=by show _=_;rw[HE.out,if_pos (.inr hld)]
 rw[HR.out]
 clear HE HR h95 hld K46
 generalize Pl.stre s (s.size-(i+1)) (i+1)=r at *
 generalize Pl.bt s i=x at *
 exact tIle4
theorem tIle1 {P:Prop}(h:P:=by
 have hix:=HX.out k hlt
 have hlt':(k:Int)<(n:Int):=by omega
 have K:Hid (∀w,Calls Tryz.prog 59 #[.int .u8 (Pl.bt u k)] w fun e w'=>e=.returned (.bool (Pl.digI (Pl.bt u k)))/\w'=w):=isDigit_any _
 cases hd:Pl.digI (Pl.bt u k)
 ·rw[hd] at K
  have HR:Hid (R=(0,false)):=by
   show _=_
   rw[HV.out,if_neg]
   rintro ⟨h1,_⟩
   rw[h1 k hlt] at hd
   cases hd
  clear HV HX HD hd
  generalize Pl.bt u k=x at *
  generalize Pl.dv u k=d at *
  go_wp2_with (go_at_call 59;refine(K.out _).mono ?_;rintro e w' ⟨rfl,rfl⟩)
  refine bodyPost_ret (v:=.tuple #[.int .i64 0,.bool false]) (by simp[results,Tryz.results60,go_sem]) rfl ⟨by rw[HR.out] <;> rfl,rfl⟩
 ·rw[hd] at K
  have HG:=zH (show Pl.digs u (k+1) from fun j hj=>by
   rcases Nat.lt_or_ge j k with h|h
   ·exact hdg.out j h
   obtain rfl:j=k:=by omega
   exact hd)
  have hb:=Pl.digI_iff.1 hd
  have hdb:=HD.out k hdg.out oM
  have HS:=zH (show Pl.dv u (k+1)=Pl.dv u k * 10+(Pl.bt u k-48) from rfl)
  clear HV HX HD hd
  generalize Pl.bt u k=x at *
  generalize Pl.dv u k=d at *
  go_wp2_with (go_at_call 59;refine(K.out _).mono ?_;rintro e w' ⟨rfl,rfl⟩)
  go_roundw
  case rel=>exact⟨k+1,by omega,by go_num,HG,by rw[HS.out,Int.mul_comm]⟩
  simp[intOf];omega
 ):P:=h
theorem tIle2 {P:Prop}(h:P:=by
 go_enter Tryz.func60,Tryz.ntmps60
 go_wp2_with (go_at_call 84;refine(K64.out _).mono ?_;rintro e w' ⟨rfl,rfl⟩)
 refine bodyPost_ret (v:=.tuple #[.int .i64 0,.bool false]) (by simp[results,Tryz.results60,go_sem]) rfl ⟨rfl,rfl⟩
 ):P:=h
theorem numberOf_core (s u:ByteArray) (b:Bool) (w:World) (hl:u.size<=9223372036854775807) (K64:Hid (∀w,Calls Tryz.prog 84 #[.string s,.string ⟨#[95]⟩] w fun e w'=>e=.returned (.tuple #[.string u,.bool b])/\w'=w)) :
  Calls Tryz.prog 60 #[.string s] w fun e w'=>e=.returned (.tuple #[.int .i64 (match b with | true=>-(Pl.numR u).1 | false=>(Pl.numR u).1),.bool (Pl.numR u).2])/\w'=w:=by
 have HV:Hid (Pl.numR u=if Pl.digs u u.size/\u.size<=10 then (Pl.dv u u.size,decide (0<u.size) && decide (Pl.dv u u.size<=3000000000)) else (0,false)):=rfl
 have HX:Hid (∀k,k<u.size->∀w,(Instr.index 9 (.string u) (.int .i64 k)).run Tryz.prog w=.ok (.int .u8 (Pl.bt u k)) w):=fun k hk w=>idx_str u k hk w
 have HD:Hid (∀k,Pl.digs u k->k<=10->0<=Pl.dv u k/\Pl.dv u k<=10000000000):=fun k h hk=>by
  have h1:=Pl.dv_lt k h
  have h2:=Pl.p10_le k hk
  omega
 generalize Pl.numR u=R at *
 generalize hn:u.size=n at *
 have HN:Hid (u.size=n):=hn
 by_cases hz:n<1
 ·have HR:Hid (R=(0,false)):=by
   show _=_
   obtain rfl:n=0:=by omega
   rw[HV.out,if_pos ⟨fun j hj=>absurd hj oM,by omega⟩]
   rfl
  rw[HR.out]
  have hz':(n:Int)<1:=by omega
  clear HV HX HD HR
  cases b
  ·exact tIle2
  exact tIle2
 have hz':¬(n:Int)<1:=by omega
 by_cases h10:n<=10
 rotate_left
 ·have HR:Hid (R=(0,false)):=by
   show _=_
   rw[HV.out,if_neg (fun h=>h10 h.2)]
  rw[HR.out]
  have h10':(10:Int)<(n:Int):=by omega
  clear HV HX HD HR
  cases b
  ·exact tIle2
  exact tIle2
 have h10':¬(10:Int)<(n:Int):=by omega
 cases b
 ·go_enter Tryz.func60,Tryz.ntmps60
  go_wp2_with (go_at_call 84;refine(K64.out _).mono ?_;rintro e w' ⟨rfl,rfl⟩)
  go_loop [6,23] (fun v i=>∃k:Nat,k<=n/\i=.int .i64 k/\Hid (Pl.digs u k)/\v=.int .i64 (Pl.dv u k)) (fun _ i=>n-(intOf i).toNat)
  case atStart=>exact⟨0,Nat.zero_le _,rfl,fun j hj=>absurd hj oM,rfl⟩
  obtain⟨k,hk,rfl,hdg,rfl⟩:=hrel
  by_cases hlt:k<n
  ·exact tIle1
  obtain rfl:k=n:=by omega
  have HR:=zH (show R=(Pl.dv u k,decide (0<k) && decide (Pl.dv u k<=3000000000)) by rw[HV.out,if_pos ⟨hdg.out,by omega⟩])
  have hdb:=HD.out k hdg.out oM
  have hp:0<k:=by omega
  clear HV HX HD
  generalize Pl.dv u k=d at *
  skip
  have K65:Hid (∀w,Calls Tryz.prog 85 #[.int .i64 (d)] w fun e w'=>e=.returned (.bool (decide (d<=3000000000)))/\w'=w):=fun w=>by
   have h:=valueFits_any (d) w
   have e:(decide (-3000000000<=d) && decide (d<=3000000000))=decide (d<=3000000000):=by rw[Bool.eq_iff_iff];simp;omega
   rw[e] at h
   exact h
  go_wp2_with (go_at_call 85;refine(K65.out _).mono ?_;rintro e w' ⟨rfl,rfl⟩)
  refine bodyPost_ret (v:=.tuple #[.int .i64 (d),.bool (decide (d<=3000000000))]) (by simp[results,Tryz.results60,go_sem]) rfl ⟨by rw[HR.out];simp[hp],rfl⟩
 go_enter Tryz.func60,Tryz.ntmps60
 go_wp2_with (go_at_call 84;refine(K64.out _).mono ?_;rintro e w' ⟨rfl,rfl⟩)
 go_loop [6,23] (fun v i=>∃k:Nat,k<=n/\i=.int .i64 k/\Hid (Pl.digs u k)/\v=.int .i64 (Pl.dv u k)) (fun _ i=>n-(intOf i).toNat)
 case atStart=>exact⟨0,Nat.zero_le _,rfl,fun j hj=>absurd hj oM,rfl⟩
 obtain⟨k,hk,rfl,hdg,rfl⟩:=hrel
 by_cases hlt:k<n
 ·exact tIle1
 obtain rfl:k=n:=by omega
 have HR:=zH (show R=(Pl.dv u k,decide (0<k) && decide (Pl.dv u k<=3000000000)) by rw[HV.out,if_pos ⟨hdg.out,by omega⟩])
 have hdb:=HD.out k hdg.out oM
 have hp:0<k:=by omega
 clear HV HX HD
 generalize Pl.dv u k=d at *
 skip
 have K65:Hid (∀w,Calls Tryz.prog 85 #[.int .i64 (-d)] w fun e w'=>e=.returned (.bool (decide (d<=3000000000)))/\w'=w):=fun w=>by
  have h:=valueFits_any (-d) w
  have e:(decide (-3000000000<=-d) && decide (-d<=3000000000))=decide (d<=3000000000):=by rw[Bool.eq_iff_iff];simp;omega
  rw[e] at h
  exact h
 go_wp2_with (go_at_call 85;refine(K65.out _).mono ?_;rintro e w' ⟨rfl,rfl⟩)
 refine bodyPost_ret (v:=.tuple #[.int .i64 (-d),.bool (decide (d<=3000000000))]) (by simp[results,Tryz.results60,go_sem]) rfl ⟨by rw[HR.out];simp[hp],rfl⟩
theorem numberOf_any (s:ByteArray) (w:World) (h0:0<s.size) (hl:s.size<=1048576) :
  Calls Tryz.prog 60 #[.string s] w fun e w'=>e=.returned (.tuple #[.int .i64 (Pl.numS s).1,.bool (Pl.numS s).2])/\w'=w:=by
 have h:=fun w=>Tryz.strings_CutPrefix s ⟨#[95]⟩ w
 have e1:Lib.hasPrefix s.data.toList (⟨#[95]⟩:ByteArray).data.toList=decide (Pl.bt s 0=95):=Pl.pre_one h0
 by_cases h95:Pl.bt s 0=95
 ·have e2:(⟨(Lib.trimPrefix s.data.toList (⟨#[95]⟩:ByteArray).data.toList).toArray⟩:ByteArray)=s.extract 1 s.size:=by
   unfold Lib.trimPrefix
   rw[e1,decide_eq_true h95,if_pos rfl]
   exact Pl.drop_ext s 1
  rw[e1,e2,decide_eq_true h95] at h
  have hs:(s.extract 1 s.size).size<=9223372036854775807:=by simp;omega
  have:=numberOf_core s (s.extract 1 s.size) true w hs h
  unfold Pl.numS
  rw[if_pos h95]
  exact this
 have e2:(⟨(Lib.trimPrefix s.data.toList (⟨#[95]⟩:ByteArray).data.toList).toArray⟩:ByteArray)=s:=by
  unfold Lib.trimPrefix
  rw[e1,decide_eq_false h95]
  rfl
 rw[e1,e2,decide_eq_false h95] at h
 have:=numberOf_core s s false w oM h
 unfold Pl.numS
 rw[if_neg h95]
 exact this
abbrev Tab (w : World) : Prop := Lib.TabIs Tryz.prog w "internal/strconv.uint64pow10" .u64 Lib.pow10Tab
theorem Tab.keep {w w':World}(h:Tab w) (hb:Below w.heap.size w w'):Tab w':=Lib.tabBelow_of_tabIs h w' hb
structure Ev (w:World) (mb mo cp:Nat):Prop where
 mt:Mt w mb mo cp
 tb:Tab w
theorem Ev.keep {w w':World}{mb mo cp:Nat}(h:Ev w mb mo cp) (hb:Below w.heap.size w w'):Ev w' mb mo cp:=⟨h.mt.keep hb,h.tb.keep hb⟩
theorem itoa_len (x:Int) (h0:-9223372036854775808<=x) (h1:x<=9223372036854775807):(Lib.itoa x).length<=21:=by
 unfold Lib.itoa
 split
 ·rw[List.length_cons,Lib.decDigits_length]
  have:=Lib.nDigits_le20 x.natAbs oM
  omega
 rw[Lib.decDigits_length]
 have:=Lib.nDigits_le20 x.toNat oM
 omega
theorem numberToken_any (x:Int) (mb mo cp:Nat) (w:World) (h0:-9223372036854775808<=x) (h1:x<=9223372036854775807) (he:Ev w mb mo cp) :
  Calls Tryz.prog 110 #[.int .i64 x] w fun e w'=>e=.returned (.string (Pl.ba (Pl.nt x)))/\Below w.heap.size w w':=by
 have K1:Hid (Calls Tryz.prog 125 #[.int .i64 x] w fun e w'=>e=.returned (.string ⟨(Lib.itoa x).toArray⟩)/\Below w.heap.size w w'):=by
  refine(Tryz.strconv_Itoa x h0 h1 w he.tb).mono ?_
  rintro e w' ⟨rfl,k,os,rfl⟩
  exact⟨rfl,Lib.below_grow _ _ (Nat.le_refl _) _ _⟩
 have hlen:=itoa_len x h0 h1
 have K2:Hid (∀w',Below w.heap.size w w'->Calls Tryz.prog 124 #[.string ⟨(Lib.itoa x).toArray⟩,.string ⟨#[45]⟩,.string ⟨#[95]⟩,.int .i64 1] w' fun e w2=>e=.returned (.string (Pl.ba (Pl.nt x)))/\Below w'.heap.size w' w2):=fun w' h=>by
  obtain⟨m,hm⟩:=(he.keep h).mt.ml
  have hs:(⟨(Lib.itoa x).toArray⟩:ByteArray).size=(Lib.itoa x).length:=by show (Lib.itoa x).toArray.size=_;simp
  have hc:Lib.countB ⟨(Lib.itoa x).toArray⟩ ⟨#[45]⟩<=1:=Pl.count_nt x
  have hz:(⟨#[95]⟩:ByteArray).size=1:=rfl
  have:=Tryz.strings_Replace ⟨(Lib.itoa x).toArray⟩ ⟨#[45]⟩ ⟨#[95]⟩ 1 m w' (by rw[hs];omega) hm (by decide) (by rw[hs,hz];omega)
  have e:Lib.replace (⟨(Lib.itoa x).toArray⟩:ByteArray).data.toList (⟨#[45]⟩:ByteArray).data.toList (⟨#[95]⟩:ByteArray).data.toList 1=Pl.nt x:=Pl.rep_nt x
  rw[e] at this
  exact this
 clear he
 generalize (⟨(Lib.itoa x).toArray⟩:ByteArray)=s at *
 generalize Pl.ba (Pl.nt x)=r at *
 go_enter Tryz.func110,Tryz.ntmps110
 go_wp2_with fail
 refine K1.out.mono ?_
 rintro e w1 ⟨rfl,hb1⟩
 have H1:=zH hb1
 clear hb1
 go_wp2_with (go_at_call 124;refine(K2.out _ H1.out).mono ?_;rintro e w2 ⟨rfl,hb2⟩)
 go_ret
 exact⟨rfl,H1.out.trans (hb2.mono H1.out.size)⟩
theorem Tryz.info9:(Tryz.prog.info? 9).map (fun i=>(i.zero,i.size,i.bytes))=some (some (.string ByteArray.empty),1,16):=by kernel_rfl
theorem und99:Tryz.prog.underlying 71=some (.slice 9):=by kernel_rfl
def tv (t:List UInt8):Value:=.string (Pl.ba t)
def Ok9 (w w':World):Prop:=w.heap.size<=w'.heap.size/\∀(b:Nat) (cs:Array Value) (t:TypeId) (f:Nat × Nat),w.heap[b]? = some (.cells cs t f)->t ≠ 9->w'.heap[b]? = some (.cells cs t f)
theorem Ok9.refl (w:World):Ok9 w w:=⟨Nat.le_refl _,fun _ _ _ _ h _=>h⟩
theorem Ok9.trans {a b c:World}(h1:Ok9 a b) (h2:Ok9 b c):Ok9 a c:=⟨Nat.le_trans h1.1 h2.1,fun k cs t f h ht=>h2.2 k cs t f (h1.2 k cs t f h ht) ht⟩
theorem Ok9.of_below {w w':World}(h:Below w.heap.size w w'):Ok9 w w':=⟨h.size,fun b cs t f hb _=>(h.block b (Array.getElem?_eq_some_iff.1 hb).1).trans hb⟩
theorem Ok9.of_grown {w w':World}{base n:Nat}{v:Value}{xs:List Value}(ho:w.ownsRow base 9 1 v n xs) (hg:w.grownBy w' v.ownBlock):Ok9 w w':=by
 refine⟨hg.size,fun b cs t f hb ht=>(hg.block b (Array.getElem?_eq_some_iff.1 hb).1 ?_).trans hb⟩
 intro e
 rcases ho.2 with ⟨rfl,_⟩|⟨g,cp,cur,rfl,_,hg2,_⟩
 ·cases e
 have e:b=g:=Option.some.inj e
 subst e
 rw[hg2] at hb
 injection hb with hb
 injection hb with _ hb _
 exact ht hb.symm
theorem Ok9.cell {w w':World}(h:Ok9 w w') {b:Nat}{cs:Array Value}{t:TypeId}{f:Nat × Nat}(hb:w.heap[b]? = some (.cells cs t f)) (ht:t ≠ 9) (j:Nat):w'.cell? ⟨b,j,none⟩=cs[j]?:=cell_blk (h.2 b cs t f hb ht) j
theorem wpList_append9 {base:Nat}(w:World) {ops:Array Oper}{rest:List Oper}{o:Oper}{a:Act}{Q:Exit->Act->World->Prop}(hg:o.guard=none) (s x:Operand)
  (hop:o.op=Op.call { callee:=Callee.builtin Builtin.append,args:=#[s,x],argTypes:=#[71,71] }) (v u:Value) (hs:a.eval s=v) (hx:a.eval x=u) (bs ys:List (List UInt8)) (n b cap:Nat) (hn:n=ys.length) (hu:u=.slice (some ⟨b,0,none⟩) n cap)
  (hown:w.ownsRow base 9 1 v bs.length (bs.map tv)) (hc:∀(j:Nat) (t:List UInt8),ys[j]? = some t->w.cell? ⟨b,j,none⟩=some (.string (Pl.ba t))) (hbd:bs.length+ys.length<=4000000000) (hbase:base<=w.heap.size)
  (hK:∀v' w',w'.ownsRow base 9 1 v' (bs++ys).length ((bs++ys).map tv)->Below base w w'->Ok9 w w'->wpList Tryz.prog ops Q rest (a.put o.dst v') w'):wpList Tryz.prog ops Q (o::rest) a w:=by
 obtain⟨i0,hi,hz0,hz1,hz2⟩:=info_parts Tryz.info9
 subst hu
 obtain⟨v',w',hr,ho,hg',_⟩:=run_append_own (P:=Tryz.prog) w base 71 o.type 9 i0 (.string ByteArray.empty) 1 16 und99 hi hz0 hz1 hz2 rfl (by decide) v bs.length _ hown ⟨b,0,none⟩ n cap (ys.map tv) (by simp[hn])
  (by
   intro j y hj
   rw[Addr.add_lit,Nat.zero_add]
   rw[List.getElem?_map] at hj
   obtain⟨t,ht,rfl⟩:=Option.map_eq_some_iff.1 hj
   exact hc j t ht)
  (by
   intro y hy
   obtain⟨z,_,rfl⟩:=List.mem_map.1 hy
   rfl) (by unfold maxLen;omega) oM hbase
 refine wpList_plain hg fun K hK'=>?_
 unfold Oper.wp
 simp[execOp,hop,resolve,invoke,builtin,hs,hx,hr,Result.andThen]
 refine hK' _ _ (hK v' w' ?_ ((Below.refl _ _).grown hg' hbase (fun k hk=>(hown.lt k hk).1)) (Ok9.of_grown hown hg'))
 rw[List.length_append,List.map_append,<- hn]
 exact ho
def TokPost (base:Nat) (l0 new:List (List UInt8)) (w:World) (e:Ending) (w':World):Prop :=
 ∃v',e=.returned v'/\w'.ownsRow base 9 1 v' (l0++new).length ((l0++new).map tv)/\Below base w w'/\Ok9 w w'
structure Tk (w0 w:World) (base:Nat) (v0:Value) (l0:List (List UInt8)):Prop where
 hw:Below w0.heap.size w0 w
 b0:w0.heap.size<=base
 b1:base<=w.heap.size
 ow:w.ownsRow base 9 1 v0 l0.length (l0.map tv)
 ln:l0.length<=100000000
theorem ta121_121 (p:Value) (w:World):(Instr.typeAssert (.iface 160 p) 135 160 true).run Tryz.prog w=.ok (.tuple #[p,.bool true]) w:=by kernel_rfl
theorem ta123_121 (p:Value) (w:World):(Instr.typeAssert (.iface 162 p) 135 160 true).run Tryz.prog w=.ok (.tuple #[.agg #[.slice none 0 0],.bool false]) w:=by kernel_rfl
theorem ta123_123 (p:Value) (w:World):(Instr.typeAssert (.iface 162 p) 135 162 true).run Tryz.prog w=.ok (.tuple #[p,.bool true]) w:=by kernel_rfl
theorem ta125_121 (p:Value) (w:World):(Instr.typeAssert (.iface 153 p) 135 160 true).run Tryz.prog w=.ok (.tuple #[.agg #[.slice none 0 0],.bool false]) w:=by kernel_rfl
theorem ta125_123 (p:Value) (w:World):(Instr.typeAssert (.iface 153 p) 135 162 true).run Tryz.prog w=.ok (.tuple #[.agg #[.string ⟨#[]⟩],.bool false]) w:=by kernel_rfl
theorem ta125_125 (p:Value) (w:World):(Instr.typeAssert (.iface 153 p) 135 153 true).run Tryz.prog w=.ok (.tuple #[p,.bool true]) w:=by kernel_rfl
theorem ta128_121 (p:Value) (w:World):(Instr.typeAssert (.iface 155 p) 135 160 true).run Tryz.prog w=.ok (.tuple #[.agg #[.slice none 0 0],.bool false]) w:=by kernel_rfl
theorem ta128_123 (p:Value) (w:World):(Instr.typeAssert (.iface 155 p) 135 162 true).run Tryz.prog w=.ok (.tuple #[.agg #[.string ⟨#[]⟩],.bool false]) w:=by kernel_rfl
theorem ta128_125 (p:Value) (w:World):(Instr.typeAssert (.iface 155 p) 135 153 true).run Tryz.prog w=.ok (.tuple #[.agg #[.int .i64 0,.int .i64 0,.int .i64 0,.string ⟨#[]⟩,.nilIface],.bool false]) w:=by kernel_rfl
theorem ta128_128 (p:Value) (w:World):(Instr.typeAssert (.iface 155 p) 135 155 true).run Tryz.prog w=.ok (.tuple #[p,.bool true]) w:=by kernel_rfl
theorem nodeTokens_name (s:Pl.Sv) (w0 w:World) (base:Nat) (v0:Value) (l0:List (List UInt8)) (h:Tk w0 w base v0 l0) :
  Calls Tryz.prog 94 #[v0,.iface 162 (.agg #[.string (Pl.ba s.nm)])] w (TokPost base l0 [s.nm] w):=by
 obtain⟨hw,b0,b1,ow,ln⟩:=h
 obtain⟨xo,yo,rfl,hyo⟩:=owns_form ow
 have OW:=zH ow
 clear ow
 have t1:=ta123_121 (.agg #[.string (Pl.ba s.nm)])
 have t2:=ta123_123 (.agg #[.string (Pl.ba s.nm)])
 have HB2:Hid (∀o o2,Below w.heap.size w ((w.alloc o).alloc o2)):=fun o o2=>((Below.refl _ _).alloc (Nat.le_refl _) _).alloc sI _
 have HCX:Hid (∀(o:Obj) (j:Nat) (t:List UInt8),([s.nm]:List (List UInt8))[j]? = some t->((w.alloc o).alloc (.cells #[.string (Pl.ba s.nm)] 9)).cell? ⟨w.heap.size+1,j,none⟩=some (.string (Pl.ba t))):=fun o j t hj=>by
  match j,hj with
  |0,hj=>simp at hj;subst hj;simp[go_sem]
  |j+1,hj=>simp at hj
 have HP:Hid (∀(o o2:Obj) v' w',w'.ownsRow base 9 1 v' (l0++[s.nm]).length ((l0++[s.nm]).map tv)->Below base ((w.alloc o).alloc o2) w'->Ok9 ((w.alloc o).alloc o2) w'->TokPost base l0 [s.nm] w (.returned v') w'):=fun o o2 v' w' h1 h2 h3=>⟨v',rfl,h1,((HB2.out o o2).mono b1).trans h2,(Ok9.of_below (HB2.out o o2)).trans h3⟩
 have HO:Hid (∀o o2,((w.alloc o).alloc o2).ownsRow base 9 1 (.slice xo l0.length yo) l0.length (l0.map tv)):=fun o o2=>owns_keep OW.out (HB2.out o o2)
 have HL:Hid (l0.length+([s.nm]:List (List UInt8)).length<=4000000000):=by show _<=_;simp;omega
 have HZ:Hid (∀o o2,base<=((w.alloc o).alloc o2).heap.size):=fun o o2=>by simp;omega
 generalize Pl.ba s.nm=nm at *
 go_enter Tryz.func94,Tryz.ntmps94
 go_wp2_with (at_builtin;refine wpList_append9 (base:=base) _ rfl (.tmp 31) (.tmp 34) rfl (.slice xo l0.length yo) (.slice (some ⟨w.heap.size+1,0,none⟩) 1 1) rfl rfl l0 [s.nm] 1 (w.heap.size+1) 1 rfl rfl (HO.out _ _) (HCX.out _) HL.out (HZ.out _ _) ?_)
 intro v' w' h1 h2 h3
 have H:=zH (HP.out _ _ v' w' (by simpa using h1) h2 h3)
 clear h1 h2 h3
 go_wp2_with fail
 go_ret
 exact H.out
theorem nodeTokens_nums (s:Pl.Sv) (an:Option Addr) (cn mb mo cp:Nat) (w0 w:World) (he:Ev w0 mb mo cp) (hr:RdI w0.heap.size w0 an s.nums) (hv:∀x∈s.nums,-3000000000<=x/\x<=3000000000) (hln:s.nums.length<=1000) (base:Nat) (v0:Value) (l0:List (List UInt8)) (h:Tk w0 w base v0 l0) :
  Calls Tryz.prog 94 #[v0,.iface 160 (.agg #[.slice an s.nums.length cn])] w (TokPost base l0 (s.nums.map Pl.nt) w):=by
 obtain⟨hw,b0,b1,ow,ln⟩:=h
 obtain⟨xo,yo,rfl,hyo⟩:=owns_form ow
 have t1:=ta121_121 (.agg #[.slice an s.nums.length cn])
 obtain⟨W1,hW1⟩:∃W1,w.alloc (.cells #[.slice an s.nums.length cn] 160)=W1:=⟨_,rfl⟩
 have HB1:Hid (Below w.heap.size w W1):=by show Below _ _ _;rw[<- hW1];exact(Below.refl _ _).alloc (Nat.le_refl _) _
 have OW:Hid (W1.ownsRow base 9 1 (.slice xo l0.length yo) (l0++(s.nums.take 0).map Pl.nt).length ((l0++(s.nums.take 0).map Pl.nt).map tv)):=by
  show World.ownsRow _ _ _ _ _ _ _
  simp only[List.take_zero,List.map_nil,List.append_nil]
  exact owns_keep ow HB1.out
 have R1:Hid (Below base W1 W1/\Ok9 W1 W1):=⟨Below.refl _ _,Ok9.refl _⟩
 have HF:Hid (∀wr,Below base W1 wr->Below w0.heap.size w0 wr):=fun wr h=>hw.trans ((HB1.out.mono oM).trans (h.mono b0))
 have HZ:Hid (∀wr,Below base W1 wr->base<=wr.heap.size):=fun wr h=>by have:=HB1.out.size;have:=h.size;omega
 have HI:Hid (∀k,k<s.nums.length->∃x nb no,s.nums[k]? = some x/\an=some ⟨nb,no,none⟩/\(-3000000000<=x/\x<=3000000000)/\(∀wr,Below base W1 wr->wr.cell? ⟨nb,no+k,none⟩=some (.int .i64 x))/\s.nums.take (k+1)=s.nums.take k++[x]):=fun k hk=>by
  obtain⟨nb,no,h1,h2,h3⟩:=hr.resolve_left (fun e=>by rw[e] at hk;cases hk)
  refine⟨s.nums[k],nb,no,List.getElem?_eq_getElem hk,h2,hv _ (List.getElem_mem hk),fun wr h=>((HF.out wr h).cell (p:=⟨nb,no+k,none⟩) h1).trans (h3 k _ (List.getElem?_eq_getElem hk)),?_⟩
  rw[List.take_add_one,List.getElem?_eq_getElem hk]
  rfl
 have KN:Hid (∀x,-3000000000<=x->x<=3000000000->∀wr,Below base W1 wr->Calls Tryz.prog 110 #[.int .i64 x] wr fun e w'=>e=.returned (.string (Pl.ba (Pl.nt x)))/\Below wr.heap.size wr w'):=fun x h1 h2 wr h=>numberToken_any x mb mo cp wr oM oM (he.keep (HF.out wr h))
 have HEND:Hid (∀v' wr,wr.ownsRow base 9 1 v' (l0++(s.nums.take s.nums.length).map Pl.nt).length ((l0++(s.nums.take s.nums.length).map Pl.nt).map tv)->Below base W1 wr/\Ok9 W1 wr->TokPost base l0 (s.nums.map Pl.nt) w (.returned v') wr):=fun v' wr h1 h2=>by
  rw[List.take_length] at h1
  exact⟨v',rfl,h1,(HB1.out.mono b1).trans h2.1,(Ok9.of_below HB1.out).trans h2.2⟩
 have HW1:=zH hW1
 clear ow hW1 he hr hv
 generalize hL:s.nums.length=n at *
 clear hL
 go_enter Tryz.func94,Tryz.ntmps94
 go_wp2_with fail
 rw[HW1.out]
 go_loopw [0,18] (fun sv iv wr=>∃k:Nat,k<=n/\iv=.int .i64 k/\Hid (wr.ownsRow base 9 1 sv (l0++(s.nums.take k).map Pl.nt).length ((l0++(s.nums.take k).map Pl.nt).map tv))/\Hid (Below base W1 wr/\Ok9 W1 wr)) (fun _ iv _=>n-(intOf iv).toNat)
 case atStart=>exact⟨0,Nat.zero_le _,rfl,OW,R1⟩
 obtain⟨k,hk,rfl,hO,BB⟩:=hrel
 obtain⟨x2,y2,eo,hy2⟩:=owns_form hO.out
 subst eo
 by_cases hlt:k<n
 rotate_left 1
 ·obtain rfl:k=n:=by omega
  have H:=zH (HEND.out _ _ hO.out BB.out)
  clear HI KN HF HZ HEND
  generalize l0++(s.nums.take k).map Pl.nt=lk at *
  go_wp2_with fail
  go_ret
  exact H.out
 obtain⟨x,nb,no,hx,rfl,hxr,hcx,htk⟩:=HI.out k hlt
 have cx:=hcx _ BB.out.1
 have K:=zH (KN.out x hxr.1 hxr.2 wr BB.out.1)
 have HTK:=zH htk
 have hz:=HZ.out _ BB.out.1
 have HL:Hid ((l0++(s.nums.take k).map Pl.nt).length+([Pl.nt x]:List (List UInt8)).length<=4000000000):=by
  show _<=_
  simp only[List.length_append,List.length_map,List.length_take,List.length_cons,List.length_nil]
  omega
 have HCX:Hid (∀(w2:World) (j:Nat) (t:List UInt8),([Pl.nt x]:List (List UInt8))[j]? = some t->(w2.alloc (.cells #[.string (Pl.ba (Pl.nt x))] 9)).cell? ⟨w2.heap.size,j,none⟩=some (.string (Pl.ba t))):=fun w2 j t hj=>by
  match j,hj with
  |0,hj=>simp at hj;subst hj;simp[go_sem]
  |j+1,hj=>simp at hj
 have HNX:Hid (∀(w2:World),Below wr.heap.size wr w2->∀v' w',w'.ownsRow base 9 1 v' ((l0++(s.nums.take k).map Pl.nt)++[Pl.nt x]).length (((l0++(s.nums.take k).map Pl.nt)++[Pl.nt x]).map tv)->Below base (w2.alloc (.cells #[.string (Pl.ba (Pl.nt x))] 9)) w'->Ok9 (w2.alloc (.cells #[.string (Pl.ba (Pl.nt x))] 9)) w'->w'.ownsRow base 9 1 v' (l0++(s.nums.take (k+1)).map Pl.nt).length ((l0++(s.nums.take (k+1)).map Pl.nt).map tv)/\Below base W1 w'/\Ok9 W1 w'):=fun w2 h v' w' h1 h2 h3=>by
  have e:l0++(s.nums.take (k+1)).map Pl.nt=(l0++(s.nums.take k).map Pl.nt)++[Pl.nt x]:=by rw[HTK.out];simp
  rw[e]
  have hb:Below wr.heap.size wr (w2.alloc (.cells #[.string (Pl.ba (Pl.nt x))] 9)):=h.alloc h.size _
  exact⟨h1,BB.out.1.trans ((hb.mono hz).trans h2),BB.out.2.trans ((Ok9.of_below hb).trans h3)⟩
 have HO2:Hid (∀(w2:World),Below wr.heap.size wr w2->∀o,(w2.alloc o).ownsRow base 9 1 (.slice x2 (l0++(s.nums.take k).map Pl.nt).length y2) (l0++(s.nums.take k).map Pl.nt).length ((l0++(s.nums.take k).map Pl.nt).map tv)/\base<=(w2.alloc o).heap.size):=fun w2 h o=>⟨owns_keep hO.out (h.alloc h.size o),by have:=h.size;simp;omega⟩
 clear hx hcx htk HI KN HF HZ hxr HEND
 generalize hnm:Pl.ba (Pl.nt x)=nm at *
 generalize hq:Pl.nt x=q at *
 clear hnm hq
 generalize l0++(s.nums.take k).map Pl.nt=lk at *
 go_wp2_with fail
 refine K.out.mono ?_
 rintro e w2 ⟨rfl,hb2⟩
 have H2:=zH hb2
 clear hb2
 go_wp2_with (at_builtin;refine wpList_append9 (base:=base) _ rfl (.tmp 22) (.tmp 25) rfl (.slice x2 lk.length y2) (.slice (some ⟨w2.heap.size,0,none⟩) 1 1) rfl rfl lk [q] 1 w2.heap.size 1 rfl rfl (HO2.out _ H2.out _).1 (HCX.out _) HL.out (HO2.out _ H2.out _).2 ?_)
 intro v' w' h1 h2 h3
 have H:=zH (HNX.out _ H2.out v' w' (by simpa using h1) h2 h3)
 clear h1 h2 h3
 go_wp2_with fail
 go_roundw
 case rel=>exact⟨k+1,by omega,by go_num,H.out.1,H.out.2⟩
 simp[intOf];omega
theorem Tk.keep {w0 w w':World}{base:Nat}{v0:Value}{l0:List (List UInt8)}(h:Tk w0 w base v0 l0) (hb:Below w.heap.size w w'):Tk w0 w' base v0 l0 :=
 ⟨h.hw.trans (hb.mono h.hw.size),h.b0,Nat.le_trans h.b1 hb.size,owns_keep h.ow hb,h.ln⟩
theorem Tk.next {w0 w w':World}{base:Nat}{v0 v':Value}{l0 l1:List (List UInt8)}(h:Tk w0 w base v0 l0) (ho:w'.ownsRow base 9 1 v' l1.length (l1.map tv)) (hb:Below base w w') (hl:l1.length<=100000000):Tk w0 w' base v' l1 :=
 ⟨h.hw.trans (hb.mono h.b0),h.b0,Nat.le_trans h.b1 hb.size,ho,hl⟩
theorem TokPost.after {base:Nat}{l0 a b:List (List UInt8)}{w w1 w':World}{e:Ending}(h:TokPost base (l0++a) b w1 e w') (hb:Below base w w1) (ho:Ok9 w w1):TokPost base l0 (a++b) w e w':=by
 obtain⟨v',rfl,h1,h2,h3⟩:=h
 rw[List.append_assoc] at h1
 exact⟨v',rfl,h1,hb.trans h2,ho.trans h3⟩
theorem fnk_cells {l:List (List UInt8)}{w w':World}{b:Nat}(h:∀(j:Nat) (t:List UInt8),l[j]? = some t->w'.cell? ⟨b,j,none⟩=some (.string (Pl.ba t))):∀(j:Nat) (t:List UInt8),l[j]? = some t->w'.cell? ⟨b,j,none⟩=some (.string (Pl.ba t)):=h
def TkC (w0:World) (t:Pl.Nd Pl.Sv) (v:Value):Prop:=∀(w:World) (base:Nat) (v0:Value) (l0:List (List UInt8)),Tk w0 w base v0 l0->l0.length+(Pl.toks (Pl.fa Pl.nt) Pl.ff t).length<=100000000->Calls Tryz.prog 94 #[v0,v] w (TokPost base l0 (Pl.toks (Pl.fa Pl.nt) Pl.ff t) w)
def opT (t:Pl.Nd Pl.Sv):List (List UInt8):=match Pl.bareN t with | true=>Pl.toks (Pl.fa Pl.nt) Pl.ff t | false=>[40]::(Pl.toks (Pl.fa Pl.nt) Pl.ff t++[[41]])
end Go.Proofs.YtbiiicbfpcfgdaaGreatDoor
