import Derived.Shelf.Strings.Builder1
import Derived.Shelf.Strings.Builder2
import Derived.Shelf.Small.Strs
import Derived.Shelf.Small.Wraps
import Derived.Shelf.Strings.BuilderF
import Derived.Shelf.Strconv.Itoa0
import Derived.Shelf.Strconv.Itoa1
import Derived.Shelf.LaysM
import Derived.Shelf.Strconv.Itoa2
import Derived.Shelf.Strconv.Itoa3
import Derived.Shelf.Strconv.Clone
import Derived.Shelf.Strings.Search1
import Derived.Shelf.Strings.Search2
import Derived.Shelf.Strings.Search3
import Derived.Shelf.Strings.Count
import Derived.Shelf.Strings.Shaped
import Derived.Shelf.Strings.Prefix
import Derived.Shelf.Strings.Split
import Derived.Shelf.Strings.Replace
import Derived.Shelf.Strings.SplitShaped
import Derived.Shelf.Strings.RuneCount
import Derived.Shelf.Unicode.DecodeSlow
import Derived.Shelf.Unicode.DecodeAny
import Derived.Test.YthhfpcdbgndioaaGreatDoorProg
import Derived.Test.YthhfpcdbgndioaaGreatDoorRt4
import Derived.Lib.IndexAny
namespace Go.Proofs
open Go.Shelf
def Tryz.lays137_ren : Go.Shelf.Ren := ⟨fun | 137 => 29 | 217 => 49 | 266 => 76 | n => n, fun | 9 => 9 | 5 => 5 | 3 => 3 | n => n, fun | n => n⟩
theorem Tryz.lays137 : Go.Proofs.Lays.n137 Tryz.prog Tryz.lays137_ren := {
  mixed := by kernel_rfl
  f137 := Tryz.func29.trans (congrArg some (by kernel_rfl))
  f217 := Tryz.func49.trans (congrArg some (by kernel_rfl))
  f266 := Tryz.func76.trans (congrArg some (by kernel_rfl))
  t3 := Tryz.underlying3
  a3 := Tryz.isAgg3
  z3 := Tryz.sizeOf3
  v3 := Tryz.zeroValue3
  t5 := Tryz.underlying5
  a5 := Tryz.isAgg5
  z5 := Tryz.sizeOf5
  v5 := Tryz.zeroValue5
  t9 := Tryz.underlying9
  a9 := Tryz.isAgg9
  z9 := Tryz.sizeOf9
  v9 := Tryz.zeroValue9 }
open Go.RowKit in
theorem Tryz.strings_IndexByte (s : ByteArray) (c : Int) (w : World) :
    Calls Tryz.prog 29 #[.string s, .int .u8 c] w fun e w' => e = .returned (.int .i64 (Lib.indexByte s.data.toList c.toNat.toUInt8)) ∧ w' = w := Any.strings_IndexByte Tryz.lays137 s c w
def Tryz.lays103_ren : Go.Shelf.Ren := ⟨fun | 103 => 78 | 210 => 92 | 206 => 77 | n => n, fun | 9 => 9 | 4 => 4 | 24 => 25 | 3 => 3 | n => n, fun | n => n⟩
theorem Tryz.lays103 : Go.Proofs.Lays.n103 Tryz.prog Tryz.lays103_ren := {
  mixed := by kernel_rfl
  f103 := Tryz.func78.trans (congrArg some (by kernel_rfl))
  f206 := Tryz.func77.trans (congrArg some (by kernel_rfl))
  f210 := Tryz.func92.trans (congrArg some (by kernel_rfl))
  t3 := Tryz.underlying3
  a3 := Tryz.isAgg3
  z3 := Tryz.sizeOf3
  v3 := Tryz.zeroValue3
  t4 := Tryz.underlying4
  a4 := Tryz.isAgg4
  z4 := Tryz.sizeOf4
  v4 := Tryz.zeroValue4
  t9 := Tryz.underlying9
  a9 := Tryz.isAgg9
  z9 := Tryz.sizeOf9
  v9 := Tryz.zeroValue9
  t24 := Tryz.underlying25
  a24 := Tryz.isAgg25
  z24 := Tryz.sizeOf25
  v24 := Tryz.zeroValue25 }
open Go.RowKit in
theorem Tryz.strings_CutPrefix (s p : ByteArray) (w : World) :
    Calls Tryz.prog 78 #[.string s, .string p] w fun e w' => e = .returned (.tuple #[.string ⟨(Lib.trimPrefix s.data.toList p.data.toList).toArray⟩, .bool (Lib.hasPrefix s.data.toList p.data.toList)]) ∧ w' = w := Any.strings_CutPrefix Tryz.lays103 s p w
def Tryz.laysM171_ren : Go.Shelf.Ren := ⟨fun | 171 => 101 | 243 => 116 | 246 => 122 | 283 => 127 | 284 => 128 | 285 => 129 | 286 => 130 | 129 => 133 | 317 => 132 | 318 => 134 | 319 => 135 | 320 => 136 | 337 => 137 | 338 => 138 | n => n, fun | 3 => 3 | 9 => 9 | 2 => 2 | 4 => 4 | 171 => 164 | 0 => 0 | 53 => 165 | 37 => 22 | 5 => 5 | 173 => 168 | 212 => 174 | 51 => 170 | 20 => 20 | 213 => 175 | 46 => 159 | 232 => 178 | 233 => 179 | n => n, fun | 17 => 4 | 18 => 5 | 19 => 6 | n => n⟩
theorem Tryz.laysM171 : Go.Proofs.LaysM.n171 Tryz.prog Tryz.laysM171_ren := {
  mixed := by kernel_rfl
  f129 := Tryz.func133.trans (congrArg some (by kernel_rfl))
  f171 := Tryz.func101.trans (congrArg some (by kernel_rfl))
  f243 := Tryz.func116.trans (congrArg some (by kernel_rfl))
  f246 := Tryz.func122.trans (congrArg some (by kernel_rfl))
  f283 := Tryz.func127.trans (congrArg some (by kernel_rfl))
  f284 := Tryz.func128.trans (congrArg some (by kernel_rfl))
  f285 := Tryz.func129.trans (congrArg some (by kernel_rfl))
  f286 := Tryz.func130.trans (congrArg some (by kernel_rfl))
  f317 := Tryz.func132.trans (congrArg some (by kernel_rfl))
  f318 := Tryz.func134.trans (congrArg some (by kernel_rfl))
  f319 := Tryz.func135.trans (congrArg some (by kernel_rfl))
  f320 := Tryz.func136.trans (congrArg some (by kernel_rfl))
  f337 := Tryz.func137.trans (congrArg some (by kernel_rfl))
  f338 := Tryz.func138.trans (congrArg some (by kernel_rfl))
  t0 := Tryz.underlying0
  a0 := Tryz.isAgg0
  z0 := Tryz.sizeOf0
  v0 := Tryz.zeroValue0
  t2 := Tryz.underlying2
  a2 := Tryz.isAgg2
  z2 := Tryz.sizeOf2
  v2 := Tryz.zeroValue2
  t3 := Tryz.underlying3
  a3 := Tryz.isAgg3
  z3 := Tryz.sizeOf3
  v3 := Tryz.zeroValue3
  t4 := Tryz.underlying4
  a4 := Tryz.isAgg4
  z4 := Tryz.sizeOf4
  v4 := Tryz.zeroValue4
  t5 := Tryz.underlying5
  a5 := Tryz.isAgg5
  z5 := Tryz.sizeOf5
  v5 := Tryz.zeroValue5
  t9 := Tryz.underlying9
  a9 := Tryz.isAgg9
  z9 := Tryz.sizeOf9
  v9 := Tryz.zeroValue9
  t20 := Tryz.underlying20
  a20 := Tryz.isAgg20
  z20 := Tryz.sizeOf20
  v20 := Tryz.zeroValue20
  t37 := Tryz.underlying22
  a37 := Tryz.isAgg22
  z37 := Tryz.sizeOf22
  v37 := Tryz.zeroValue22
  t46 := Tryz.underlying159
  a46 := Tryz.isAgg159
  z46 := Tryz.sizeOf159
  v46 := Tryz.zeroValue159
  t51 := Tryz.underlying170
  a51 := Tryz.isAgg170
  z51 := Tryz.sizeOf170
  v51 := Tryz.zeroValue170
  t53 := Tryz.underlying165
  a53 := Tryz.isAgg165
  z53 := Tryz.sizeOf165
  v53 := Tryz.zeroValue165
  t171 := Tryz.underlying164
  a171 := Tryz.isAgg164
  z171 := Tryz.sizeOf164
  v171 := Tryz.zeroValue164
  t173 := Tryz.underlying168
  a173 := Tryz.isAgg168
  z173 := Tryz.sizeOf168
  v173 := Tryz.zeroValue168
  t212 := Tryz.underlying174
  a212 := Tryz.isAgg174
  z212 := Tryz.sizeOf174
  v212 := Tryz.zeroValue174
  t213 := Tryz.underlying175
  a213 := Tryz.isAgg175
  z213 := Tryz.sizeOf175
  t232 := Tryz.underlying178
  a232 := Tryz.isAgg178
  z232 := Tryz.sizeOf178
  v232 := Tryz.zeroValue178
  t233 := Tryz.underlying179
  a233 := Tryz.isAgg179
  z233 := Tryz.sizeOf179
  v233 := Tryz.zeroValue179
  g17 := by kernel_rfl
  g18 := by kernel_rfl
  g19 := by kernel_rfl
  i0 := by kernel_rfl
  i2 := by kernel_rfl
  i3 := by kernel_rfl
  i4 := by kernel_rfl
  i5 := by kernel_rfl
  i9 := by kernel_rfl
  i20 := by kernel_rfl
  i37 := by kernel_rfl
  i46 := by kernel_rfl
  i51 := by kernel_rfl
  i53 := by kernel_rfl
  i171 := by kernel_rfl
  i173 := by kernel_rfl
  i212 := by kernel_rfl
  i232 := by kernel_rfl
  i233 := by kernel_rfl
  m17 := by kernel_rfl
  m18 := by kernel_rfl
  m19 := by kernel_rfl }
open Go.RowKit Go.Sort Go.Lib in
theorem Tryz.strconv_Itoa (n : Int) (h0 : -9223372036854775808 ≤ n) (h1 : n ≤ 9223372036854775807) (w : World) (htab : Lib.TabIs Tryz.prog w "internal/strconv.uint64pow10" .u64 Lib.pow10Tab) :
    Calls Tryz.prog 101 #[.int .i64 n] w fun e w' => e = .returned (.string ⟨(Lib.itoa n).toArray⟩) ∧ ∃ k os, w' = grow (w.drewN k) os := Any.strconv_Itoa Tryz.laysM171 n h0 h1 w htab
def Tryz.laysM316_ren : Go.Shelf.Ren := ⟨fun | 316 => 80 | n => n, fun | 9 => 9 | 3 => 3 | 4 => 4 | 37 => 22 | 0 => 0 | 127 => 98 | 5 => 5 | n => n, fun | n => n⟩
theorem Tryz.laysM316 : Go.Proofs.LaysM.n316 Tryz.prog Tryz.laysM316_ren := {
  mixed := by kernel_rfl
  f316 := Tryz.func80.trans (congrArg some (by kernel_rfl))
  t0 := Tryz.underlying0
  a0 := Tryz.isAgg0
  z0 := Tryz.sizeOf0
  v0 := Tryz.zeroValue0
  t3 := Tryz.underlying3
  a3 := Tryz.isAgg3
  z3 := Tryz.sizeOf3
  v3 := Tryz.zeroValue3
  t4 := Tryz.underlying4
  a4 := Tryz.isAgg4
  z4 := Tryz.sizeOf4
  v4 := Tryz.zeroValue4
  t9 := Tryz.underlying9
  a9 := Tryz.isAgg9
  z9 := Tryz.sizeOf9
  v9 := Tryz.zeroValue9
  t37 := Tryz.underlying22
  a37 := Tryz.isAgg22
  z37 := Tryz.sizeOf22
  v37 := Tryz.zeroValue22
  t127 := Tryz.underlying98
  a127 := Tryz.isAgg98
  z127 := Tryz.sizeOf98
  v127 := Tryz.zeroValue98
  t5 := Tryz.underlying5
  a5 := Tryz.isAgg5
  z5 := Tryz.sizeOf5
  v5 := Tryz.zeroValue5
  i0 := by kernel_rfl
  i3 := by kernel_rfl
  i4 := by kernel_rfl
  i5 := by kernel_rfl
  i9 := by kernel_rfl
  i37 := by kernel_rfl
  i127 := by kernel_rfl }
open Go.RowKit in
theorem Tryz.stringslite_Clone (s : ByteArray) (w : World) (hlim : s.size ≤ 281474976710656) :
    Calls Tryz.prog 80 #[.string s] w fun e w' => e = .returned (.string s) ∧ Below w.heap.size w w' := Any.stringslite_Clone Tryz.laysM316 s w hlim
def Tryz.lays99_ren : Go.Shelf.Ren := ⟨fun | 99 => 52 | 206 => 77 | n => n, fun | 9 => 9 | 4 => 4 | 3 => 3 | n => n, fun | n => n⟩
theorem Tryz.lays99 : Go.Proofs.Lays.n99 Tryz.prog Tryz.lays99_ren := {
  mixed := by kernel_rfl
  f99 := Tryz.func52.trans (congrArg some (by kernel_rfl))
  f206 := Tryz.func77.trans (congrArg some (by kernel_rfl))
  t3 := Tryz.underlying3
  a3 := Tryz.isAgg3
  z3 := Tryz.sizeOf3
  v3 := Tryz.zeroValue3
  t4 := Tryz.underlying4
  a4 := Tryz.isAgg4
  z4 := Tryz.sizeOf4
  v4 := Tryz.zeroValue4
  t9 := Tryz.underlying9
  a9 := Tryz.isAgg9
  z9 := Tryz.sizeOf9
  v9 := Tryz.zeroValue9 }
open Go.RowKit Go.Lib in
theorem Tryz.strings_HasPrefix (s p : ByteArray) (w : World) :
    Calls Tryz.prog 52 #[.string s, .string p] w fun e w' => e = .returned (.bool (Lib.hasPrefix s.data.toList p.data.toList)) ∧ w' = w := Any.strings_HasPrefix Tryz.lays99 s p w
def Tryz.lays154_ren : Go.Shelf.Ren := ⟨fun | 154 => 100 | 138 => 112 | 165 => 113 | 143 => 114 | 166 => 26 | 197 => 115 | 169 => 28 | 195 => 117 | 218 => 118 | 240 => 48 | 241 => 119 | 219 => 120 | 260 => 121 | 276 => 75 | 277 => 123 | 217 => 49 | 225 => 124 | 224 => 125 | 267 => 126 | 266 => 76 | 314 => 131 | n => n, fun | 9 => 9 | 3 => 3 | 4 => 4 | 72 => 68 | 0 => 0 | 76 => 72 | 105 => 154 | 21 => 21 | 5 => 5 | 70 => 66 | 20 => 20 | 37 => 22 | 75 => 71 | 127 => 98 | 164 => 120 | 46 => 159 | 119 => 160 | 139 => 163 | 138 => 162 | 146 => 171 | 51 => 170 | 80 => 75 | n => n, fun | 1 => 0 | 3 => 2 | 4 => 3 | n => n⟩
theorem Tryz.lays154 : Go.Proofs.Lays.n154 Tryz.prog Tryz.lays154_ren := {
  mixed := by kernel_rfl
  f138 := Tryz.func112.trans (congrArg some (by kernel_rfl))
  f143 := Tryz.func114.trans (congrArg some (by kernel_rfl))
  f154 := Tryz.func100.trans (congrArg some (by kernel_rfl))
  f165 := Tryz.func113.trans (congrArg some (by kernel_rfl))
  f166 := Tryz.func26.trans (congrArg some (by kernel_rfl))
  f169 := Tryz.func28.trans (congrArg some (by kernel_rfl))
  f195 := Tryz.func117.trans (congrArg some (by kernel_rfl))
  f197 := Tryz.func115.trans (congrArg some (by kernel_rfl))
  f217 := Tryz.func49.trans (congrArg some (by kernel_rfl))
  f218 := Tryz.func118.trans (congrArg some (by kernel_rfl))
  f219 := Tryz.func120.trans (congrArg some (by kernel_rfl))
  f224 := Tryz.func125.trans (congrArg some (by kernel_rfl))
  f225 := Tryz.func124.trans (congrArg some (by kernel_rfl))
  f240 := Tryz.func48.trans (congrArg some (by kernel_rfl))
  f241 := Tryz.func119.trans (congrArg some (by kernel_rfl))
  f260 := Tryz.func121.trans (congrArg some (by kernel_rfl))
  f266 := Tryz.func76.trans (congrArg some (by kernel_rfl))
  f267 := Tryz.func126.trans (congrArg some (by kernel_rfl))
  f276 := Tryz.func75.trans (congrArg some (by kernel_rfl))
  f277 := Tryz.func123.trans (congrArg some (by kernel_rfl))
  f314 := Tryz.func131.trans (congrArg some (by kernel_rfl))
  t0 := Tryz.underlying0
  a0 := Tryz.isAgg0
  z0 := Tryz.sizeOf0
  v0 := Tryz.zeroValue0
  t3 := Tryz.underlying3
  a3 := Tryz.isAgg3
  z3 := Tryz.sizeOf3
  v3 := Tryz.zeroValue3
  t4 := Tryz.underlying4
  a4 := Tryz.isAgg4
  z4 := Tryz.sizeOf4
  v4 := Tryz.zeroValue4
  t5 := Tryz.underlying5
  a5 := Tryz.isAgg5
  z5 := Tryz.sizeOf5
  v5 := Tryz.zeroValue5
  t9 := Tryz.underlying9
  a9 := Tryz.isAgg9
  z9 := Tryz.sizeOf9
  v9 := Tryz.zeroValue9
  t20 := Tryz.underlying20
  a20 := Tryz.isAgg20
  z20 := Tryz.sizeOf20
  v20 := Tryz.zeroValue20
  t21 := Tryz.underlying21
  a21 := Tryz.isAgg21
  z21 := Tryz.sizeOf21
  v21 := Tryz.zeroValue21
  t37 := Tryz.underlying22
  a37 := Tryz.isAgg22
  z37 := Tryz.sizeOf22
  v37 := Tryz.zeroValue22
  t46 := Tryz.underlying159
  a46 := Tryz.isAgg159
  z46 := Tryz.sizeOf159
  v46 := Tryz.zeroValue159
  t51 := Tryz.underlying170
  a51 := Tryz.isAgg170
  z51 := Tryz.sizeOf170
  v51 := Tryz.zeroValue170
  t70 := Tryz.underlying66
  a70 := Tryz.isAgg66
  z70 := Tryz.sizeOf66
  v70 := Tryz.zeroValue66
  t72 := Tryz.underlying68
  a72 := Tryz.isAgg68
  z72 := Tryz.sizeOf68
  v72 := Tryz.zeroValue68
  t75 := Tryz.underlying71
  a75 := Tryz.isAgg71
  z75 := Tryz.sizeOf71
  v75 := Tryz.zeroValue71
  t76 := Tryz.underlying72
  a76 := Tryz.isAgg72
  z76 := Tryz.sizeOf72
  v76 := Tryz.zeroValue72
  t105 := Tryz.underlying154
  a105 := Tryz.isAgg154
  z105 := Tryz.sizeOf154
  v105 := Tryz.zeroValue154
  t119 := Tryz.underlying160
  a119 := Tryz.isAgg160
  z119 := Tryz.sizeOf160
  t127 := Tryz.underlying98
  a127 := Tryz.isAgg98
  z127 := Tryz.sizeOf98
  v127 := Tryz.zeroValue98
  t138 := Tryz.underlying162
  a138 := Tryz.isAgg162
  z138 := Tryz.sizeOf162
  v138 := Tryz.zeroValue162
  t139 := Tryz.underlying163
  a139 := Tryz.isAgg163
  z139 := Tryz.sizeOf163
  v139 := Tryz.zeroValue163
  t146 := Tryz.underlying171
  a146 := Tryz.isAgg171
  z146 := Tryz.sizeOf171
  v146 := Tryz.zeroValue171
  t164 := Tryz.underlying120
  a164 := Tryz.isAgg120
  z164 := Tryz.sizeOf120
  v164 := Tryz.zeroValue120
  g1 := by kernel_rfl
  g3 := by kernel_rfl
  g4 := by kernel_rfl }
theorem Tryz.Builder_Extra_154 : Builder.Extra Tryz.prog Tryz.lays154_ren := {
  sizeBuilder := by kernel_rfl
  liesBuilder := by kernel_rfl
  t5 := Tryz.underlying5
  a5 := Tryz.isAgg5
  z5 := Tryz.sizeOf5
  v5 := Tryz.zeroValue5
  infoByte := by kernel_rfl
  cellsByte := by kernel_rfl
  sizeByte := by kernel_rfl
  neB5 := by decide }
open Go.RowKit Go.Lib in
theorem Tryz.strings_Replace (s old new : ByteArray) (n : Int) (m : Int) (w : World) (hs : s.size < 4294967281) (hm : w.cell? ⟨0, 0, none⟩ = some (.int .i64 m)) (h1 : 1 ≤ old.size) (hlen : s.size + Lib.countB s old * new.size ≤ 140737488355328) :
    Calls Tryz.prog 100 #[.string s, .string old, .string new, .int .i64 n] w fun e w' =>
      e = .returned (.string ⟨(Lib.replace s.data.toList old.data.toList new.data.toList n).toArray⟩) ∧ Below w.heap.size w w' := Any.strings_Replace Tryz.lays154 Tryz.Builder_Extra_154 s old new n m w hs hm h1 hlen
end Go.Proofs
namespace Go.Proofs.YthhfpcdbgndioaaGreatDoor
open Go.RowKit
set_option linter.unusedVariables false
set_option maxRecDepth 100000
namespace Pl
theorem drop_ext (s : ByteArray) (i : Nat) : (⟨(s.data.toList.drop i).toArray⟩ : ByteArray) = s.extract i s.size := by
  have h : (s.extract i s.size).data = s.data.extract i s.size := ByteArray.data_extract
  have h2 : (s.data.toList.drop i).toArray = s.data.extract i s.size := by
    exact Array.ext (by simp) (fun j h1 h2 => by simp)
  rw [h2, ← h]
theorem at_list (s : ByteArray) (i : Nat) (h : i < s.size) : bt s i = ((s.data.toList[i]'(by simpa using h)).toNat : Int) := by
  unfold bt
  have hs : i < s.data.size := h
  rw [getElem!_pos s.data i hs]
  simp
/-- the two signs of an assignment -/
theorem pre_two {s : ByteArray} {i : Nat} (hi : i < s.size) : Lib.hasPrefix (s.extract i s.size).data.toList [58, 61] = decide (bt s i = 58 ∧ i + 1 < s.size ∧ bt s (i + 1) = 61) := by
  rw [← drop_ext]
  show Lib.hasPrefix (s.data.toList.drop i) [58, 61] = _
  have hl : i < s.data.toList.length := by simpa using hi
  rw [List.drop_eq_getElem_cons hl, at_list s i hi]
  by_cases h2 : i + 1 < s.size
  · have hl2 : i + 1 < s.data.toList.length := by simpa using h2
    rw [List.drop_eq_getElem_cons hl2, at_list s (i + 1) h2]
    generalize s.data.toList[i] = x
    generalize s.data.toList[i + 1] = y
    rw [Bool.eq_iff_iff]
    simp only [Lib.hasPrefix, List.isPrefixOf, Bool.and_true, Bool.and_eq_true, beq_iff_eq, decide_eq_true_eq, h2, true_and]
    constructor
    · rintro ⟨rfl, rfl⟩; exact ⟨rfl, rfl⟩
    · rintro ⟨a, b⟩
      exact ⟨(UInt8.toNat_inj.1 (by have h : (58 : UInt8).toNat = 58 := rfl; omega)).symm, (UInt8.toNat_inj.1 (by have h : (61 : UInt8).toNat = 61 := rfl; omega)).symm⟩
  · rw [List.drop_of_length_le (by simp at *; omega)]
    simp [Lib.hasPrefix, List.isPrefixOf, h2]
/-- the sign in front of a number -/
theorem pre_one {s : ByteArray} (h0 : 0 < s.size) : Lib.hasPrefix s.data.toList [95] = decide (bt s 0 = 95) := by
  rw [at_list s 0 h0]
  have key : ∀ (l : List UInt8) (hl : 0 < l.length), Lib.hasPrefix l [95] = decide (((l[0]'hl).toNat : Int) = 95) := by
    intro l hl
    cases l with
    | nil => cases hl
    | cons x l =>
      rw [Bool.eq_iff_iff]
      simp only [Lib.hasPrefix, List.isPrefixOf, Bool.and_true, beq_iff_eq, decide_eq_true_eq, List.getElem_cons_zero]
      constructor
      · rintro rfl; rfl
      · intro a
        exact (UInt8.toNat_inj.1 (by have h : (95 : UInt8).toNat = 95 := rfl; omega)).symm
  exact key _ _
theorem idx_sg {L : List UInt8} {M : List Int} (hM : M = L.map (fun c => (c.toNat : Int))) {x : Int} (h0 : 0 ≤ x) (h1 : x < 256) : decide (0 ≤ Lib.indexByte L x.toNat.toUInt8) = decide (x ∈ M) := by
  rw [← Lib.contains_iff_indexByte, hM, Bool.eq_iff_iff]
  simp only [List.contains_iff_mem, decide_eq_true_eq, List.mem_map]
  have hx : ((x.toNat.toUInt8).toNat : Int) = x := by
    have h : (x.toNat.toUInt8).toNat = x.toNat := by
      show (UInt8.ofNat x.toNat).toNat = _
      rw [UInt8.toNat_ofNat']
      omega
    rw [h]
    omega
  constructor
  · intro h
    exact ⟨_, h, hx⟩
  · rintro ⟨c, hc, e⟩
    have : c = x.toNat.toUInt8 := UInt8.toNat_inj.1 (by omega)
    exact this ▸ hc
theorem bt_lt (s : ByteArray) (i : Nat) : 0 ≤ bt s i ∧ bt s i < 256 := by
  have := UInt8.toNat_lt (s.data[i]!)
  unfold bt
  omega
end Pl
/-- strings.Clone -/
theorem clone_any (s : ByteArray) (w : World) (hl : s.size ≤ 281474976710656) : Calls Tryz.prog 56 #[.string s] w fun e w' => e = .returned (.string s) ∧ Below w.heap.size w w' := by
  have K : Hid (∀ w, Calls Tryz.prog 80 #[.string s] w fun e w' => e = .returned (.string s) ∧ Below w.heap.size w w') := fun w => Tryz.stringslite_Clone s w hl
  go_enter Tryz.func56, Tryz.ntmps56
  go_wp2_with (go_at_call 80; refine (K.out _).mono ?_; rintro e w' ⟨rfl, hb⟩)
  go_ret
  exact ⟨rfl, hb⟩
/-- impl.tokenEnd -/
theorem tokenEnd_any (s : ByteArray) (i : Nat) (w : World) (hi : i < s.size) (hl : s.size ≤ 1048576) :
    Calls Tryz.prog 30 #[.string s, .int .i64 i] w fun e w' => e = .returned (.int .i64 (Pl.endI s i : Nat)) ∧ w' = w := by
  have hix := idx_str s i hi
  have K44 : Hid (∀ w, Calls Tryz.prog 50 #[.int .u8 (Pl.bt s i)] w fun e w' => e = .returned (.bool (Pl.ldI (Pl.bt s i))) ∧ w' = w) := fun w => by
    have h := isLetterOrDigit_any (Pl.bt s i) w
    rw [Bool.or_comm] at h
    exact h
  have K45 : Hid (∀ w, Calls Tryz.prog 51 #[.string s, .int .i64 i] w fun e w' => e = .returned (.int .i64 (Pl.stre s (s.size - (i + 1)) (i + 1) : Nat)) ∧ w' = w) := fun w => stretchEnd_any s i w hi (by omega)
  have K46 : Hid (∀ w, Calls Tryz.prog 52 #[.string (s.extract i s.size), .string ⟨#[58, 61]⟩] w fun e w' => e = .returned (.bool (decide (Pl.bt s i = 58 ∧ i + 1 < s.size ∧ Pl.bt s (i + 1) = 61))) ∧ w' = w) := fun w => by
    have h := Tryz.strings_HasPrefix (s.extract i s.size) ⟨#[58, 61]⟩ w
    rw [← Pl.pre_two hi]
    exact h
  have HE : Hid (Pl.endI s i = if Pl.bt s i = 95 ∨ Pl.ldI (Pl.bt s i) = true then Pl.stre s (s.size - (i + 1)) (i + 1) else if Pl.bt s i = 58 ∧ i + 1 < s.size ∧ Pl.bt s (i + 1) = 61 then i + 2 else i + 1) := rfl
  by_cases h95 : Pl.bt s i = 95
  · rw [h95] at hix K44
    have HR : Hid (Pl.endI s i = Pl.stre s (s.size - (i + 1)) (i + 1)) := by show _ = _; rw [HE.out, if_pos (.inl h95)]
    rw [HR.out]
    clear HE HR K46 h95
    generalize Pl.stre s (s.size - (i + 1)) (i + 1) = r at *
    go_enter Tryz.func30, Tryz.ntmps30
    go_wp2_with (first | (go_at_call 50; refine (K44.out _).mono ?_; rintro e w' ⟨rfl, rfl⟩) | (go_at_call 51; refine (K45.out _).mono ?_; rintro e w' ⟨rfl, rfl⟩))
    go_ret
    exact ⟨rfl, rfl⟩
  · have h95' : (Pl.bt s i == 95) = false := by simpa using h95
    cases hld : Pl.ldI (Pl.bt s i)
    · rw [hld] at K44
      cases h2 : decide (Pl.bt s i = 58 ∧ i + 1 < s.size ∧ Pl.bt s (i + 1) = 61)
      · rw [h2] at K46
        have HR : Hid (Pl.endI s i = i + 1) := by show _ = _; rw [HE.out, if_neg (by rw [hld]; simp [h95]), if_neg (of_decide_eq_false h2)]
        rw [HR.out]
        clear HE HR h95 h2 hld K45
        generalize Pl.bt s i = x at *
        go_enter Tryz.func30, Tryz.ntmps30
        go_wp2_with (first | (go_at_call 50; refine (K44.out _).mono ?_; rintro e w' ⟨rfl, rfl⟩) | (go_at_call 52; refine (K46.out _).mono ?_; rintro e w' ⟨rfl, rfl⟩))
        go_ret
        exact ⟨ret_int (by omega), rfl⟩
      · rw [h2] at K46
        have HR : Hid (Pl.endI s i = i + 2) := by show _ = _; rw [HE.out, if_neg (by rw [hld]; simp [h95]), if_pos (of_decide_eq_true h2)]
        rw [HR.out]
        clear HE HR h95 h2 hld K45
        generalize Pl.bt s i = x at *
        go_enter Tryz.func30, Tryz.ntmps30
        go_wp2_with (first | (go_at_call 50; refine (K44.out _).mono ?_; rintro e w' ⟨rfl, rfl⟩) | (go_at_call 52; refine (K46.out _).mono ?_; rintro e w' ⟨rfl, rfl⟩))
        go_ret
        exact ⟨ret_int (by omega), rfl⟩
    · rw [hld] at K44
      have HR : Hid (Pl.endI s i = Pl.stre s (s.size - (i + 1)) (i + 1)) := by show _ = _; rw [HE.out, if_pos (.inr hld)]
      rw [HR.out]
      clear HE HR h95 hld K46
      generalize Pl.stre s (s.size - (i + 1)) (i + 1) = r at *
      generalize Pl.bt s i = x at *
      go_enter Tryz.func30, Tryz.ntmps30
      go_wp2_with (first | (go_at_call 50; refine (K44.out _).mono ?_; rintro e w' ⟨rfl, rfl⟩) | (go_at_call 51; refine (K45.out _).mono ?_; rintro e w' ⟨rfl, rfl⟩))
      go_ret
      exact ⟨rfl, rfl⟩
set_option maxHeartbeats 2000000 in
theorem numberOf_core (s u : ByteArray) (b : Bool) (w : World) (hl : u.size ≤ 9223372036854775807) (K64 : Hid (∀ w, Calls Tryz.prog 78 #[.string s, .string ⟨#[95]⟩] w fun e w' => e = .returned (.tuple #[.string u, .bool b]) ∧ w' = w)) :
    Calls Tryz.prog 54 #[.string s] w fun e w' => e = .returned (.tuple #[.int .i64 (match b with | true => -(Pl.numR u).1 | false => (Pl.numR u).1), .bool (Pl.numR u).2]) ∧ w' = w := by
  have HV : Hid (Pl.numR u = if Pl.digs u u.size ∧ u.size ≤ 10 then (Pl.dv u u.size, decide (0 < u.size) && decide (Pl.dv u u.size ≤ 3000000000)) else (0, false)) := rfl
  have HX : Hid (∀ k, k < u.size → ∀ w, (Instr.index 9 (.string u) (.int .i64 k)).run Tryz.prog w = .ok (.int .u8 (Pl.bt u k)) w) := fun k hk w => idx_str u k hk w
  have HD : Hid (∀ k, Pl.digs u k → k ≤ 10 → 0 ≤ Pl.dv u k ∧ Pl.dv u k ≤ 10000000000) := fun k h hk => by
    have h1 := Pl.dv_lt k h
    have h2 := Pl.p10_le k hk
    omega
  generalize Pl.numR u = R at *
  generalize hn : u.size = n at *
  have HN : Hid (u.size = n) := hn
  by_cases hz : n < 1
  · have HR : Hid (R = (0, false)) := by
      show _ = _
      obtain rfl : n = 0 := by omega
      rw [HV.out, if_pos ⟨fun j hj => absurd hj (by omega), by omega⟩]
      rfl
    rw [HR.out]
    have hz' : (n : Int) < 1 := by omega
    clear HV HX HD HR
    cases b
    · go_enter Tryz.func54, Tryz.ntmps54
      go_wp2_with (go_at_call 78; refine (K64.out _).mono ?_; rintro e w' ⟨rfl, rfl⟩)
      refine bodyPost_ret (v := .tuple #[.int .i64 0, .bool false]) (by simp [results, Tryz.results54, go_sem]) rfl ⟨rfl, rfl⟩
    · go_enter Tryz.func54, Tryz.ntmps54
      go_wp2_with (go_at_call 78; refine (K64.out _).mono ?_; rintro e w' ⟨rfl, rfl⟩)
      refine bodyPost_ret (v := .tuple #[.int .i64 0, .bool false]) (by simp [results, Tryz.results54, go_sem]) rfl ⟨rfl, rfl⟩
  have hz' : ¬ (n : Int) < 1 := by omega
  by_cases h10 : n ≤ 10
  rotate_left
  · have HR : Hid (R = (0, false)) := by
      show _ = _
      rw [HV.out, if_neg (fun h => h10 h.2)]
    rw [HR.out]
    have h10' : (10 : Int) < (n : Int) := by omega
    clear HV HX HD HR
    cases b
    · go_enter Tryz.func54, Tryz.ntmps54
      go_wp2_with (go_at_call 78; refine (K64.out _).mono ?_; rintro e w' ⟨rfl, rfl⟩)
      refine bodyPost_ret (v := .tuple #[.int .i64 0, .bool false]) (by simp [results, Tryz.results54, go_sem]) rfl ⟨rfl, rfl⟩
    · go_enter Tryz.func54, Tryz.ntmps54
      go_wp2_with (go_at_call 78; refine (K64.out _).mono ?_; rintro e w' ⟨rfl, rfl⟩)
      refine bodyPost_ret (v := .tuple #[.int .i64 0, .bool false]) (by simp [results, Tryz.results54, go_sem]) rfl ⟨rfl, rfl⟩
  have h10' : ¬ (10 : Int) < (n : Int) := by omega
  cases b
  · go_enter Tryz.func54, Tryz.ntmps54
    go_wp2_with (go_at_call 78; refine (K64.out _).mono ?_; rintro e w' ⟨rfl, rfl⟩)
    go_loop [6, 23] (fun v i => ∃ k : Nat, k ≤ n ∧ i = .int .i64 k ∧ Hid (Pl.digs u k) ∧ v = .int .i64 (Pl.dv u k)) (fun _ i => n - (intOf i).toNat)
    case atStart => exact ⟨0, Nat.zero_le _, rfl, fun j hj => absurd hj (by omega), rfl⟩
    case round =>
      obtain ⟨k, hk, rfl, hdg, rfl⟩ := hrel
      by_cases hlt : k < n
      · have hix := HX.out k hlt
        have hlt' : (k : Int) < (n : Int) := by omega
        have K : Hid (∀ w, Calls Tryz.prog 53 #[.int .u8 (Pl.bt u k)] w fun e w' => e = .returned (.bool (Pl.digI (Pl.bt u k))) ∧ w' = w) := isDigit_any _
        cases hd : Pl.digI (Pl.bt u k)
        · rw [hd] at K
          have HR : Hid (R = (0, false)) := by
            show _ = _
            rw [HV.out, if_neg]
            rintro ⟨h1, _⟩
            rw [h1 k hlt] at hd
            cases hd
          clear HV HX HD hd
          generalize Pl.bt u k = x at *
          generalize Pl.dv u k = d at *
          go_wp2_with (go_at_call 53; refine (K.out _).mono ?_; rintro e w' ⟨rfl, rfl⟩)
          refine bodyPost_ret (v := .tuple #[.int .i64 0, .bool false]) (by simp [results, Tryz.results54, go_sem]) rfl ⟨by rw [HR.out] <;> rfl, rfl⟩
        · rw [hd] at K
          have HG := hideP (show Pl.digs u (k + 1) from fun j hj => by
            rcases Nat.lt_or_ge j k with h | h
            · exact hdg.out j h
            · obtain rfl : j = k := by omega
              exact hd)
          have hb := Pl.digI_iff.1 hd
          have hdb := HD.out k hdg.out (by omega)
          have HS := hideP (show Pl.dv u (k + 1) = Pl.dv u k * 10 + (Pl.bt u k - 48) from rfl)
          clear HV HX HD hd
          generalize Pl.bt u k = x at *
          generalize Pl.dv u k = d at *
          go_wp2_with (go_at_call 53; refine (K.out _).mono ?_; rintro e w' ⟨rfl, rfl⟩)
          go_roundw
          case rel => exact ⟨k + 1, by omega, by go_num, HG, by rw [HS.out, Int.mul_comm]⟩
          case measure => simp [intOf]; omega
      · obtain rfl : k = n := by omega
        have HR := hideP (show R = (Pl.dv u k, decide (0 < k) && decide (Pl.dv u k ≤ 3000000000)) by rw [HV.out, if_pos ⟨hdg.out, by omega⟩])
        have hdb := HD.out k hdg.out (by omega)
        have hp : 0 < k := by omega
        clear HV HX HD
        generalize Pl.dv u k = d at *
        · skip
          have K65 : Hid (∀ w, Calls Tryz.prog 79 #[.int .i64 (d)] w fun e w' => e = .returned (.bool (decide (d ≤ 3000000000))) ∧ w' = w) := fun w => by
            have h := valueFits_any (d) w
            have e : (decide (-3000000000 ≤ d) && decide (d ≤ 3000000000)) = decide (d ≤ 3000000000) := by rw [Bool.eq_iff_iff]; simp; omega
            rw [e] at h
            exact h
          go_wp2_with (go_at_call 79; refine (K65.out _).mono ?_; rintro e w' ⟨rfl, rfl⟩)
          refine bodyPost_ret (v := .tuple #[.int .i64 (d), .bool (decide (d ≤ 3000000000))]) (by simp [results, Tryz.results54, go_sem]) rfl ⟨by rw [HR.out]; simp [hp], rfl⟩
  · go_enter Tryz.func54, Tryz.ntmps54
    go_wp2_with (go_at_call 78; refine (K64.out _).mono ?_; rintro e w' ⟨rfl, rfl⟩)
    go_loop [6, 23] (fun v i => ∃ k : Nat, k ≤ n ∧ i = .int .i64 k ∧ Hid (Pl.digs u k) ∧ v = .int .i64 (Pl.dv u k)) (fun _ i => n - (intOf i).toNat)
    case atStart => exact ⟨0, Nat.zero_le _, rfl, fun j hj => absurd hj (by omega), rfl⟩
    case round =>
      obtain ⟨k, hk, rfl, hdg, rfl⟩ := hrel
      by_cases hlt : k < n
      · have hix := HX.out k hlt
        have hlt' : (k : Int) < (n : Int) := by omega
        have K : Hid (∀ w, Calls Tryz.prog 53 #[.int .u8 (Pl.bt u k)] w fun e w' => e = .returned (.bool (Pl.digI (Pl.bt u k))) ∧ w' = w) := isDigit_any _
        cases hd : Pl.digI (Pl.bt u k)
        · rw [hd] at K
          have HR : Hid (R = (0, false)) := by
            show _ = _
            rw [HV.out, if_neg]
            rintro ⟨h1, _⟩
            rw [h1 k hlt] at hd
            cases hd
          clear HV HX HD hd
          generalize Pl.bt u k = x at *
          generalize Pl.dv u k = d at *
          go_wp2_with (go_at_call 53; refine (K.out _).mono ?_; rintro e w' ⟨rfl, rfl⟩)
          refine bodyPost_ret (v := .tuple #[.int .i64 0, .bool false]) (by simp [results, Tryz.results54, go_sem]) rfl ⟨by rw [HR.out] <;> rfl, rfl⟩
        · rw [hd] at K
          have HG := hideP (show Pl.digs u (k + 1) from fun j hj => by
            rcases Nat.lt_or_ge j k with h | h
            · exact hdg.out j h
            · obtain rfl : j = k := by omega
              exact hd)
          have hb := Pl.digI_iff.1 hd
          have hdb := HD.out k hdg.out (by omega)
          have HS := hideP (show Pl.dv u (k + 1) = Pl.dv u k * 10 + (Pl.bt u k - 48) from rfl)
          clear HV HX HD hd
          generalize Pl.bt u k = x at *
          generalize Pl.dv u k = d at *
          go_wp2_with (go_at_call 53; refine (K.out _).mono ?_; rintro e w' ⟨rfl, rfl⟩)
          go_roundw
          case rel => exact ⟨k + 1, by omega, by go_num, HG, by rw [HS.out, Int.mul_comm]⟩
          case measure => simp [intOf]; omega
      · obtain rfl : k = n := by omega
        have HR := hideP (show R = (Pl.dv u k, decide (0 < k) && decide (Pl.dv u k ≤ 3000000000)) by rw [HV.out, if_pos ⟨hdg.out, by omega⟩])
        have hdb := HD.out k hdg.out (by omega)
        have hp : 0 < k := by omega
        clear HV HX HD
        generalize Pl.dv u k = d at *
        · skip
          have K65 : Hid (∀ w, Calls Tryz.prog 79 #[.int .i64 (-d)] w fun e w' => e = .returned (.bool (decide (d ≤ 3000000000))) ∧ w' = w) := fun w => by
            have h := valueFits_any (-d) w
            have e : (decide (-3000000000 ≤ -d) && decide (-d ≤ 3000000000)) = decide (d ≤ 3000000000) := by rw [Bool.eq_iff_iff]; simp; omega
            rw [e] at h
            exact h
          go_wp2_with (go_at_call 79; refine (K65.out _).mono ?_; rintro e w' ⟨rfl, rfl⟩)
          refine bodyPost_ret (v := .tuple #[.int .i64 (-d), .bool (decide (d ≤ 3000000000))]) (by simp [results, Tryz.results54, go_sem]) rfl ⟨by rw [HR.out]; simp [hp], rfl⟩
/-- impl.numberOf -/
theorem numberOf_any (s : ByteArray) (w : World) (h0 : 0 < s.size) (hl : s.size ≤ 1048576) :
    Calls Tryz.prog 54 #[.string s] w fun e w' => e = .returned (.tuple #[.int .i64 (Pl.numS s).1, .bool (Pl.numS s).2]) ∧ w' = w := by
  have h := fun w => Tryz.strings_CutPrefix s ⟨#[95]⟩ w
  have e1 : Lib.hasPrefix s.data.toList (⟨#[95]⟩ : ByteArray).data.toList = decide (Pl.bt s 0 = 95) := Pl.pre_one h0
  by_cases h95 : Pl.bt s 0 = 95
  · have e2 : (⟨(Lib.trimPrefix s.data.toList (⟨#[95]⟩ : ByteArray).data.toList).toArray⟩ : ByteArray) = s.extract 1 s.size := by
      unfold Lib.trimPrefix
      rw [e1, decide_eq_true h95, if_pos rfl]
      exact Pl.drop_ext s 1
    rw [e1, e2, decide_eq_true h95] at h
    have hs : (s.extract 1 s.size).size ≤ 9223372036854775807 := by simp; omega
    have := numberOf_core s (s.extract 1 s.size) true w hs h
    unfold Pl.numS
    rw [if_pos h95]
    exact this
  · have e2 : (⟨(Lib.trimPrefix s.data.toList (⟨#[95]⟩ : ByteArray).data.toList).toArray⟩ : ByteArray) = s := by
      unfold Lib.trimPrefix
      rw [e1, decide_eq_false h95]
      rfl
    rw [e1, e2, decide_eq_false h95] at h
    have := numberOf_core s s false w (by omega) h
    unfold Pl.numS
    rw [if_neg h95]
    exact this
end Go.Proofs.YthhfpcdbgndioaaGreatDoor
