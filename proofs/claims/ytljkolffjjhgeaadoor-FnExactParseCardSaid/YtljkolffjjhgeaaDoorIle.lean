import Derived.Shelf.Small.Strs
import Derived.Shelf.Small.Wraps
import Derived.Shelf.LaysM
import Derived.Shelf.Strconv.Clone
import Derived.Shelf.Strings.Search1
import Derived.Shelf.Strings.Prefix
import Derived.Test.YtljkolffjjhgeaaDoorProg
import Derived.Test.YtljkolffjjhgeaaDoorIlx
import Derived.Lib.IndexAny
namespace Go.Proofs
open Go.Shelf
def Tryd.lays137_ren : Go.Shelf.Ren := ⟨fun | 137 => 30 | 217 => 43 | 266 => 62 | n => n, fun | 9 => 9 | 5 => 5 | 3 => 3 | n => n, fun | n => n⟩
theorem Tryd.lays137 : Go.Proofs.Lays.n137 Tryd.prog Tryd.lays137_ren := {
  mixed := by kernel_rfl
  f137 := Tryd.func30.trans (congrArg some (by kernel_rfl))
  f217 := Tryd.func43.trans (congrArg some (by kernel_rfl))
  f266 := Tryd.func62.trans (congrArg some (by kernel_rfl))
  t3 := Tryd.underlying3
  a3 := Tryd.isAgg3
  z3 := Tryd.sizeOf3
  v3 := Tryd.zeroValue3
  t5 := Tryd.underlying5
  a5 := Tryd.isAgg5
  z5 := Tryd.sizeOf5
  v5 := Tryd.zeroValue5
  t9 := Tryd.underlying9
  a9 := Tryd.isAgg9
  z9 := Tryd.sizeOf9
  v9 := Tryd.zeroValue9 }
open Go.RowKit in
theorem Tryd.strings_IndexByte (s : ByteArray) (c : Int) (w : World) :
    Calls Tryd.prog 30 #[.string s, .int .u8 c] w fun e w' => e = .returned (.int .i64 (Lib.indexByte s.data.toList c.toNat.toUInt8)) ∧ w' = w := Any.strings_IndexByte Tryd.lays137 s c w
def Tryd.lays103_ren : Go.Shelf.Ren := ⟨fun | 103 => 64 | 210 => 73 | 206 => 63 | n => n, fun | 9 => 9 | 4 => 4 | 24 => 102 | 3 => 3 | n => n, fun | n => n⟩
theorem Tryd.lays103 : Go.Proofs.Lays.n103 Tryd.prog Tryd.lays103_ren := {
  mixed := by kernel_rfl
  f103 := Tryd.func64.trans (congrArg some (by kernel_rfl))
  f206 := Tryd.func63.trans (congrArg some (by kernel_rfl))
  f210 := Tryd.func73.trans (congrArg some (by kernel_rfl))
  t3 := Tryd.underlying3
  a3 := Tryd.isAgg3
  z3 := Tryd.sizeOf3
  v3 := Tryd.zeroValue3
  t4 := Tryd.underlying4
  a4 := Tryd.isAgg4
  z4 := Tryd.sizeOf4
  v4 := Tryd.zeroValue4
  t9 := Tryd.underlying9
  a9 := Tryd.isAgg9
  z9 := Tryd.sizeOf9
  v9 := Tryd.zeroValue9
  t24 := Tryd.underlying102
  a24 := Tryd.isAgg102
  z24 := Tryd.sizeOf102
  v24 := Tryd.zeroValue102 }
open Go.RowKit in
theorem Tryd.strings_CutPrefix (s p : ByteArray) (w : World) :
    Calls Tryd.prog 64 #[.string s, .string p] w fun e w' => e = .returned (.tuple #[.string ⟨(Lib.trimPrefix s.data.toList p.data.toList).toArray⟩, .bool (Lib.hasPrefix s.data.toList p.data.toList)]) ∧ w' = w := Any.strings_CutPrefix Tryd.lays103 s p w
def Tryd.laysM316_ren : Go.Shelf.Ren := ⟨fun | 316 => 68 | n => n, fun | 9 => 9 | 3 => 3 | 4 => 4 | 37 => 76 | 0 => 0 | 127 => 116 | 5 => 5 | n => n, fun | n => n⟩
theorem Tryd.laysM316 : Go.Proofs.LaysM.n316 Tryd.prog Tryd.laysM316_ren := {
  mixed := by kernel_rfl
  f316 := Tryd.func68.trans (congrArg some (by kernel_rfl))
  t0 := Tryd.underlying0
  a0 := Tryd.isAgg0
  z0 := Tryd.sizeOf0
  v0 := Tryd.zeroValue0
  t3 := Tryd.underlying3
  a3 := Tryd.isAgg3
  z3 := Tryd.sizeOf3
  v3 := Tryd.zeroValue3
  t4 := Tryd.underlying4
  a4 := Tryd.isAgg4
  z4 := Tryd.sizeOf4
  v4 := Tryd.zeroValue4
  t9 := Tryd.underlying9
  a9 := Tryd.isAgg9
  z9 := Tryd.sizeOf9
  v9 := Tryd.zeroValue9
  t37 := Tryd.underlying76
  a37 := Tryd.isAgg76
  z37 := Tryd.sizeOf76
  v37 := Tryd.zeroValue76
  t127 := Tryd.underlying116
  a127 := Tryd.isAgg116
  z127 := Tryd.sizeOf116
  v127 := Tryd.zeroValue116
  t5 := Tryd.underlying5
  a5 := Tryd.isAgg5
  z5 := Tryd.sizeOf5
  v5 := Tryd.zeroValue5
  i0 := by kernel_rfl
  i3 := by kernel_rfl
  i4 := by kernel_rfl
  i5 := by kernel_rfl
  i9 := by kernel_rfl
  i37 := by kernel_rfl
  i127 := by kernel_rfl }
open Go.RowKit in
theorem Tryd.stringslite_Clone (s : ByteArray) (w : World) (hlim : s.size ≤ 281474976710656) :
    Calls Tryd.prog 68 #[.string s] w fun e w' => e = .returned (.string s) ∧ Below w.heap.size w w' := Any.stringslite_Clone Tryd.laysM316 s w hlim
def Tryd.lays99_ren : Go.Shelf.Ren := ⟨fun | 99 => 46 | 206 => 63 | n => n, fun | 9 => 9 | 4 => 4 | 3 => 3 | n => n, fun | n => n⟩
theorem Tryd.lays99 : Go.Proofs.Lays.n99 Tryd.prog Tryd.lays99_ren := {
  mixed := by kernel_rfl
  f99 := Tryd.func46.trans (congrArg some (by kernel_rfl))
  f206 := Tryd.func63.trans (congrArg some (by kernel_rfl))
  t3 := Tryd.underlying3
  a3 := Tryd.isAgg3
  z3 := Tryd.sizeOf3
  v3 := Tryd.zeroValue3
  t4 := Tryd.underlying4
  a4 := Tryd.isAgg4
  z4 := Tryd.sizeOf4
  v4 := Tryd.zeroValue4
  t9 := Tryd.underlying9
  a9 := Tryd.isAgg9
  z9 := Tryd.sizeOf9
  v9 := Tryd.zeroValue9 }
open Go.RowKit Go.Lib in
theorem Tryd.strings_HasPrefix (s p : ByteArray) (w : World) :
    Calls Tryd.prog 46 #[.string s, .string p] w fun e w' => e = .returned (.bool (Lib.hasPrefix s.data.toList p.data.toList)) ∧ w' = w := Any.strings_HasPrefix Tryd.lays99 s p w
end Go.Proofs
namespace Go.Proofs.YtljkolffjjhgeaaDoor
open Go.RowKit
set_option linter.unusedVariables false
set_option maxRecDepth 100000
namespace Pl
theorem drop_ext (s : ByteArray) (i : Nat) : (⟨(s.data.toList.drop i).toArray⟩ : ByteArray) = s.extract i s.size := by
  have h : (s.extract i s.size).data = s.data.extract i s.size := ByteArray.data_extract
  have h2 : (s.data.toList.drop i).toArray = s.data.extract i s.size := by
    exact Array.ext (by simp) (fun j h1 h2 => by simp)
  rw [h2, ← h]
theorem at_list (s : ByteArray) (i : Nat) (h : i < s.size) : bt s i = ((s.data.toList[i]'(by simpa using h)).toNat : Int) := by
  unfold bt
  have hs : i < s.data.size := h
  rw [getElem!_pos s.data i hs]
  simp
/-- the two signs of an assignment -/
theorem pre_two {s : ByteArray} {i : Nat} (hi : i < s.size) : Lib.hasPrefix (s.extract i s.size).data.toList [58, 61] = decide (bt s i = 58 ∧ i + 1 < s.size ∧ bt s (i + 1) = 61) := by
  rw [← drop_ext]
  show Lib.hasPrefix (s.data.toList.drop i) [58, 61] = _
  have hl : i < s.data.toList.length := by simpa using hi
  rw [List.drop_eq_getElem_cons hl, at_list s i hi]
  by_cases h2 : i + 1 < s.size
  · have hl2 : i + 1 < s.data.toList.length := by simpa using h2
    rw [List.drop_eq_getElem_cons hl2, at_list s (i + 1) h2]
    generalize s.data.toList[i] = x
    generalize s.data.toList[i + 1] = y
    rw [Bool.eq_iff_iff]
    simp only [Lib.hasPrefix, List.isPrefixOf, Bool.and_true, Bool.and_eq_true, beq_iff_eq, decide_eq_true_eq, h2, true_and]
    constructor
    · rintro ⟨rfl, rfl⟩; exact ⟨rfl, rfl⟩
    · rintro ⟨a, b⟩
      exact ⟨(UInt8.toNat_inj.1 (by have h : (58 : UInt8).toNat = 58 := rfl; omega)).symm, (UInt8.toNat_inj.1 (by have h : (61 : UInt8).toNat = 61 := rfl; omega)).symm⟩
  · rw [List.drop_of_length_le (by simp at *; omega)]
    simp [Lib.hasPrefix, List.isPrefixOf, h2]
/-- the sign in front of a number -/
theorem pre_one {s : ByteArray} (h0 : 0 < s.size) : Lib.hasPrefix s.data.toList [95] = decide (bt s 0 = 95) := by
  rw [at_list s 0 h0]
  have key : ∀ (l : List UInt8) (hl : 0 < l.length), Lib.hasPrefix l [95] = decide (((l[0]'hl).toNat : Int) = 95) := by
    intro l hl
    cases l with
    | nil => cases hl
    | cons x l =>
      rw [Bool.eq_iff_iff]
      simp only [Lib.hasPrefix, List.isPrefixOf, Bool.and_true, beq_iff_eq, decide_eq_true_eq, List.getElem_cons_zero]
      constructor
      · rintro rfl; rfl
      · intro a
        exact (UInt8.toNat_inj.1 (by have h : (95 : UInt8).toNat = 95 := rfl; omega)).symm
  exact key _ _
theorem idx_sg {L : List UInt8} {M : List Int} (hM : M = L.map (fun c => (c.toNat : Int))) {x : Int} (h0 : 0 ≤ x) (h1 : x < 256) : decide (0 ≤ Lib.indexByte L x.toNat.toUInt8) = decide (x ∈ M) := by
  rw [← Lib.contains_iff_indexByte, hM, Bool.eq_iff_iff]
  simp only [List.contains_iff_mem, decide_eq_true_eq, List.mem_map]
  have hx : ((x.toNat.toUInt8).toNat : Int) = x := by
    have h : (x.toNat.toUInt8).toNat = x.toNat := by
      show (UInt8.ofNat x.toNat).toNat = _
      rw [UInt8.toNat_ofNat']
      omega
    rw [h]
    omega
  constructor
  · intro h
    exact ⟨_, h, hx⟩
  · rintro ⟨c, hc, e⟩
    have : c = x.toNat.toUInt8 := UInt8.toNat_inj.1 (by omega)
    exact this ▸ hc
theorem bt_lt (s : ByteArray) (i : Nat) : 0 ≤ bt s i ∧ bt s i < 256 := by
  have := UInt8.toNat_lt (s.data[i]!)
  unfold bt
  omega
end Pl
/-- strings.Clone -/
theorem clone_any (s : ByteArray) (w : World) (hl : s.size ≤ 281474976710656) : Calls Tryd.prog 51 #[.string s] w fun e w' => e = .returned (.string s) ∧ Below w.heap.size w w' := by
  have K : Hid (∀ w, Calls Tryd.prog 68 #[.string s] w fun e w' => e = .returned (.string s) ∧ Below w.heap.size w w') := fun w => Tryd.stringslite_Clone s w hl
  go_enter Tryd.func51, Tryd.ntmps51
  go_wp2_with (go_at_call 68; refine (K.out _).mono ?_; rintro e w' ⟨rfl, hb⟩)
  go_ret
  exact ⟨rfl, hb⟩
/-- impl.tokenEnd -/
theorem tokenEnd_any (s : ByteArray) (i : Nat) (w : World) (hi : i < s.size) (hl : s.size ≤ 1048576) :
    Calls Tryd.prog 31 #[.string s, .int .i64 i] w fun e w' => e = .returned (.int .i64 (Pl.endI s i : Nat)) ∧ w' = w := by
  have hix := idx_str s i hi
  have K44 : Hid (∀ w, Calls Tryd.prog 44 #[.int .u8 (Pl.bt s i)] w fun e w' => e = .returned (.bool (Pl.ldI (Pl.bt s i))) ∧ w' = w) := fun w => by
    have h := isLetterOrDigit_any (Pl.bt s i) w
    rw [Bool.or_comm] at h
    exact h
  have K45 : Hid (∀ w, Calls Tryd.prog 45 #[.string s, .int .i64 i] w fun e w' => e = .returned (.int .i64 (Pl.stre s (s.size - (i + 1)) (i + 1) : Nat)) ∧ w' = w) := fun w => stretchEnd_any s i w hi (by omega)
  have K46 : Hid (∀ w, Calls Tryd.prog 46 #[.string (s.extract i s.size), .string ⟨#[58, 61]⟩] w fun e w' => e = .returned (.bool (decide (Pl.bt s i = 58 ∧ i + 1 < s.size ∧ Pl.bt s (i + 1) = 61))) ∧ w' = w) := fun w => by
    have h := Tryd.strings_HasPrefix (s.extract i s.size) ⟨#[58, 61]⟩ w
    rw [← Pl.pre_two hi]
    exact h
  have HE : Hid (Pl.endI s i = if Pl.bt s i = 95 ∨ Pl.ldI (Pl.bt s i) = true then Pl.stre s (s.size - (i + 1)) (i + 1) else if Pl.bt s i = 58 ∧ i + 1 < s.size ∧ Pl.bt s (i + 1) = 61 then i + 2 else i + 1) := rfl
  by_cases h95 : Pl.bt s i = 95
  · rw [h95] at hix K44
    have HR : Hid (Pl.endI s i = Pl.stre s (s.size - (i + 1)) (i + 1)) := by show _ = _; rw [HE.out, if_pos (.inl h95)]
    rw [HR.out]
    clear HE HR K46 h95
    generalize Pl.stre s (s.size - (i + 1)) (i + 1) = r at *
    go_enter Tryd.func31, Tryd.ntmps31
    go_wp2_with (first | (go_at_call 44; refine (K44.out _).mono ?_; rintro e w' ⟨rfl, rfl⟩) | (go_at_call 45; refine (K45.out _).mono ?_; rintro e w' ⟨rfl, rfl⟩))
    go_ret
    exact ⟨rfl, rfl⟩
  · have h95' : (Pl.bt s i == 95) = false := by simpa using h95
    cases hld : Pl.ldI (Pl.bt s i)
    · rw [hld] at K44
      cases h2 : decide (Pl.bt s i = 58 ∧ i + 1 < s.size ∧ Pl.bt s (i + 1) = 61)
      · rw [h2] at K46
        have HR : Hid (Pl.endI s i = i + 1) := by show _ = _; rw [HE.out, if_neg (by rw [hld]; simp [h95]), if_neg (of_decide_eq_false h2)]
        rw [HR.out]
        clear HE HR h95 h2 hld K45
        generalize Pl.bt s i = x at *
        go_enter Tryd.func31, Tryd.ntmps31
        go_wp2_with (first | (go_at_call 44; refine (K44.out _).mono ?_; rintro e w' ⟨rfl, rfl⟩) | (go_at_call 46; refine (K46.out _).mono ?_; rintro e w' ⟨rfl, rfl⟩))
        go_ret
        exact ⟨ret_int (by omega), rfl⟩
      · rw [h2] at K46
        have HR : Hid (Pl.endI s i = i + 2) := by show _ = _; rw [HE.out, if_neg (by rw [hld]; simp [h95]), if_pos (of_decide_eq_true h2)]
        rw [HR.out]
        clear HE HR h95 h2 hld K45
        generalize Pl.bt s i = x at *
        go_enter Tryd.func31, Tryd.ntmps31
        go_wp2_with (first | (go_at_call 44; refine (K44.out _).mono ?_; rintro e w' ⟨rfl, rfl⟩) | (go_at_call 46; refine (K46.out _).mono ?_; rintro e w' ⟨rfl, rfl⟩))
        go_ret
        exact ⟨ret_int (by omega), rfl⟩
    · rw [hld] at K44
      have HR : Hid (Pl.endI s i = Pl.stre s (s.size - (i + 1)) (i + 1)) := by show _ = _; rw [HE.out, if_pos (.inr hld)]
      rw [HR.out]
      clear HE HR h95 hld K46
      generalize Pl.stre s (s.size - (i + 1)) (i + 1) = r at *
      generalize Pl.bt s i = x at *
      go_enter Tryd.func31, Tryd.ntmps31
      go_wp2_with (first | (go_at_call 44; refine (K44.out _).mono ?_; rintro e w' ⟨rfl, rfl⟩) | (go_at_call 45; refine (K45.out _).mono ?_; rintro e w' ⟨rfl, rfl⟩))
      go_ret
      exact ⟨rfl, rfl⟩
set_option maxHeartbeats 2000000 in
theorem numberOf_core (s u : ByteArray) (b : Bool) (w : World) (hl : u.size ≤ 9223372036854775807) (K64 : Hid (∀ w, Calls Tryd.prog 64 #[.string s, .string ⟨#[95]⟩] w fun e w' => e = .returned (.tuple #[.string u, .bool b]) ∧ w' = w)) :
    Calls Tryd.prog 48 #[.string s] w fun e w' => e = .returned (.tuple #[.int .i64 (match b with | true => -(Pl.numR u).1 | false => (Pl.numR u).1), .bool (Pl.numR u).2]) ∧ w' = w := by
  have HV : Hid (Pl.numR u = if Pl.digs u u.size ∧ u.size ≤ 10 then (Pl.dv u u.size, decide (0 < u.size) && decide (Pl.dv u u.size ≤ 3000000000)) else (0, false)) := rfl
  have HX : Hid (∀ k, k < u.size → ∀ w, (Instr.index 9 (.string u) (.int .i64 k)).run Tryd.prog w = .ok (.int .u8 (Pl.bt u k)) w) := fun k hk w => idx_str u k hk w
  have HD : Hid (∀ k, Pl.digs u k → k ≤ 10 → 0 ≤ Pl.dv u k ∧ Pl.dv u k ≤ 10000000000) := fun k h hk => by
    have h1 := Pl.dv_lt k h
    have h2 := Pl.p10_le k hk
    omega
  generalize Pl.numR u = R at *
  generalize hn : u.size = n at *
  have HN : Hid (u.size = n) := hn
  by_cases hz : n < 1
  · have HR : Hid (R = (0, false)) := by
      show _ = _
      obtain rfl : n = 0 := by omega
      rw [HV.out, if_pos ⟨fun j hj => absurd hj (by omega), by omega⟩]
      rfl
    rw [HR.out]
    have hz' : (n : Int) < 1 := by omega
    clear HV HX HD HR
    cases b
    · go_enter Tryd.func48, Tryd.ntmps48
      go_wp2_with (go_at_call 64; refine (K64.out _).mono ?_; rintro e w' ⟨rfl, rfl⟩)
      refine bodyPost_ret (v := .tuple #[.int .i64 0, .bool false]) (by simp [results, Tryd.results48, go_sem]) rfl ⟨rfl, rfl⟩
    · go_enter Tryd.func48, Tryd.ntmps48
      go_wp2_with (go_at_call 64; refine (K64.out _).mono ?_; rintro e w' ⟨rfl, rfl⟩)
      refine bodyPost_ret (v := .tuple #[.int .i64 0, .bool false]) (by simp [results, Tryd.results48, go_sem]) rfl ⟨rfl, rfl⟩
  have hz' : ¬ (n : Int) < 1 := by omega
  by_cases h10 : n ≤ 10
  rotate_left
  · have HR : Hid (R = (0, false)) := by
      show _ = _
      rw [HV.out, if_neg (fun h => h10 h.2)]
    rw [HR.out]
    have h10' : (10 : Int) < (n : Int) := by omega
    clear HV HX HD HR
    cases b
    · go_enter Tryd.func48, Tryd.ntmps48
      go_wp2_with (go_at_call 64; refine (K64.out _).mono ?_; rintro e w' ⟨rfl, rfl⟩)
      refine bodyPost_ret (v := .tuple #[.int .i64 0, .bool false]) (by simp [results, Tryd.results48, go_sem]) rfl ⟨rfl, rfl⟩
    · go_enter Tryd.func48, Tryd.ntmps48
      go_wp2_with (go_at_call 64; refine (K64.out _).mono ?_; rintro e w' ⟨rfl, rfl⟩)
      refine bodyPost_ret (v := .tuple #[.int .i64 0, .bool false]) (by simp [results, Tryd.results48, go_sem]) rfl ⟨rfl, rfl⟩
  have h10' : ¬ (10 : Int) < (n : Int) := by omega
  cases b
  · go_enter Tryd.func48, Tryd.ntmps48
    go_wp2_with (go_at_call 64; refine (K64.out _).mono ?_; rintro e w' ⟨rfl, rfl⟩)
    go_loop [6, 23] (fun v i => ∃ k : Nat, k ≤ n ∧ i = .int .i64 k ∧ Hid (Pl.digs u k) ∧ v = .int .i64 (Pl.dv u k)) (fun _ i => n - (intOf i).toNat)
    case atStart => exact ⟨0, Nat.zero_le _, rfl, fun j hj => absurd hj (by omega), rfl⟩
    case round =>
      obtain ⟨k, hk, rfl, hdg, rfl⟩ := hrel
      by_cases hlt : k < n
      · have hix := HX.out k hlt
        have hlt' : (k : Int) < (n : Int) := by omega
        have K : Hid (∀ w, Calls Tryd.prog 47 #[.int .u8 (Pl.bt u k)] w fun e w' => e = .returned (.bool (Pl.digI (Pl.bt u k))) ∧ w' = w) := isDigit_any _
        cases hd : Pl.digI (Pl.bt u k)
        · rw [hd] at K
          have HR : Hid (R = (0, false)) := by
            show _ = _
            rw [HV.out, if_neg]
            rintro ⟨h1, _⟩
            rw [h1 k hlt] at hd
            cases hd
          clear HV HX HD hd
          generalize Pl.bt u k = x at *
          generalize Pl.dv u k = d at *
          go_wp2_with (go_at_call 47; refine (K.out _).mono ?_; rintro e w' ⟨rfl, rfl⟩)
          refine bodyPost_ret (v := .tuple #[.int .i64 0, .bool false]) (by simp [results, Tryd.results48, go_sem]) rfl ⟨by rw [HR.out] <;> rfl, rfl⟩
        · rw [hd] at K
          have HG := hideP (show Pl.digs u (k + 1) from fun j hj => by
            rcases Nat.lt_or_ge j k with h | h
            · exact hdg.out j h
            · obtain rfl : j = k := by omega
              exact hd)
          have hb := Pl.digI_iff.1 hd
          have hdb := HD.out k hdg.out (by omega)
          have HS := hideP (show Pl.dv u (k + 1) = Pl.dv u k * 10 + (Pl.bt u k - 48) from rfl)
          clear HV HX HD hd
          generalize Pl.bt u k = x at *
          generalize Pl.dv u k = d at *
          go_wp2_with (go_at_call 47; refine (K.out _).mono ?_; rintro e w' ⟨rfl, rfl⟩)
          go_roundw
          case rel => exact ⟨k + 1, by omega, by go_num, HG, by rw [HS.out, Int.mul_comm]⟩
          case measure => simp [intOf]; omega
      · obtain rfl : k = n := by omega
        have HR := hideP (show R = (Pl.dv u k, decide (0 < k) && decide (Pl.dv u k ≤ 3000000000)) by rw [HV.out, if_pos ⟨hdg.out, by omega⟩])
        have hdb := HD.out k hdg.out (by omega)
        have hp : 0 < k := by omega
        clear HV HX HD
        generalize Pl.dv u k = d at *
        · skip
          have K65 : Hid (∀ w, Calls Tryd.prog 65 #[.int .i64 (d)] w fun e w' => e = .returned (.bool (decide (d ≤ 3000000000))) ∧ w' = w) := fun w => by
            have h := valueFits_any (d) w
            have e : (decide (-3000000000 ≤ d) && decide (d ≤ 3000000000)) = decide (d ≤ 3000000000) := by rw [Bool.eq_iff_iff]; simp; omega
            rw [e] at h
            exact h
          go_wp2_with (go_at_call 65; refine (K65.out _).mono ?_; rintro e w' ⟨rfl, rfl⟩)
          refine bodyPost_ret (v := .tuple #[.int .i64 (d), .bool (decide (d ≤ 3000000000))]) (by simp [results, Tryd.results48, go_sem]) rfl ⟨by rw [HR.out]; simp [hp], rfl⟩
  · go_enter Tryd.func48, Tryd.ntmps48
    go_wp2_with (go_at_call 64; refine (K64.out _).mono ?_; rintro e w' ⟨rfl, rfl⟩)
    go_loop [6, 23] (fun v i => ∃ k : Nat, k ≤ n ∧ i = .int .i64 k ∧ Hid (Pl.digs u k) ∧ v = .int .i64 (Pl.dv u k)) (fun _ i => n - (intOf i).toNat)
    case atStart => exact ⟨0, Nat.zero_le _, rfl, fun j hj => absurd hj (by omega), rfl⟩
    case round =>
      obtain ⟨k, hk, rfl, hdg, rfl⟩ := hrel
      by_cases hlt : k < n
      · have hix := HX.out k hlt
        have hlt' : (k : Int) < (n : Int) := by omega
        have K : Hid (∀ w, Calls Tryd.prog 47 #[.int .u8 (Pl.bt u k)] w fun e w' => e = .returned (.bool (Pl.digI (Pl.bt u k))) ∧ w' = w) := isDigit_any _
        cases hd : Pl.digI (Pl.bt u k)
        · rw [hd] at K
          have HR : Hid (R = (0, false)) := by
            show _ = _
            rw [HV.out, if_neg]
            rintro ⟨h1, _⟩
            rw [h1 k hlt] at hd
            cases hd
          clear HV HX HD hd
          generalize Pl.bt u k = x at *
          generalize Pl.dv u k = d at *
          go_wp2_with (go_at_call 47; refine (K.out _).mono ?_; rintro e w' ⟨rfl, rfl⟩)
          refine bodyPost_ret (v := .tuple #[.int .i64 0, .bool false]) (by simp [results, Tryd.results48, go_sem]) rfl ⟨by rw [HR.out] <;> rfl, rfl⟩
        · rw [hd] at K
          have HG := hideP (show Pl.digs u (k + 1) from fun j hj => by
            rcases Nat.lt_or_ge j k with h | h
            · exact hdg.out j h
            · obtain rfl : j = k := by omega
              exact hd)
          have hb := Pl.digI_iff.1 hd
          have hdb := HD.out k hdg.out (by omega)
          have HS := hideP (show Pl.dv u (k + 1) = Pl.dv u k * 10 + (Pl.bt u k - 48) from rfl)
          clear HV HX HD hd
          generalize Pl.bt u k = x at *
          generalize Pl.dv u k = d at *
          go_wp2_with (go_at_call 47; refine (K.out _).mono ?_; rintro e w' ⟨rfl, rfl⟩)
          go_roundw
          case rel => exact ⟨k + 1, by omega, by go_num, HG, by rw [HS.out, Int.mul_comm]⟩
          case measure => simp [intOf]; omega
      · obtain rfl : k = n := by omega
        have HR := hideP (show R = (Pl.dv u k, decide (0 < k) && decide (Pl.dv u k ≤ 3000000000)) by rw [HV.out, if_pos ⟨hdg.out, by omega⟩])
        have hdb := HD.out k hdg.out (by omega)
        have hp : 0 < k := by omega
        clear HV HX HD
        generalize Pl.dv u k = d at *
        · skip
          have K65 : Hid (∀ w, Calls Tryd.prog 65 #[.int .i64 (-d)] w fun e w' => e = .returned (.bool (decide (d ≤ 3000000000))) ∧ w' = w) := fun w => by
            have h := valueFits_any (-d) w
            have e : (decide (-3000000000 ≤ -d) && decide (-d ≤ 3000000000)) = decide (d ≤ 3000000000) := by rw [Bool.eq_iff_iff]; simp; omega
            rw [e] at h
            exact h
          go_wp2_with (go_at_call 65; refine (K65.out _).mono ?_; rintro e w' ⟨rfl, rfl⟩)
          refine bodyPost_ret (v := .tuple #[.int .i64 (-d), .bool (decide (d ≤ 3000000000))]) (by simp [results, Tryd.results48, go_sem]) rfl ⟨by rw [HR.out]; simp [hp], rfl⟩
/-- impl.numberOf -/
theorem numberOf_any (s : ByteArray) (w : World) (h0 : 0 < s.size) (hl : s.size ≤ 1048576) :
    Calls Tryd.prog 48 #[.string s] w fun e w' => e = .returned (.tuple #[.int .i64 (Pl.numS s).1, .bool (Pl.numS s).2]) ∧ w' = w := by
  have h := fun w => Tryd.strings_CutPrefix s ⟨#[95]⟩ w
  have e1 : Lib.hasPrefix s.data.toList (⟨#[95]⟩ : ByteArray).data.toList = decide (Pl.bt s 0 = 95) := Pl.pre_one h0
  by_cases h95 : Pl.bt s 0 = 95
  · have e2 : (⟨(Lib.trimPrefix s.data.toList (⟨#[95]⟩ : ByteArray).data.toList).toArray⟩ : ByteArray) = s.extract 1 s.size := by
      unfold Lib.trimPrefix
      rw [e1, decide_eq_true h95, if_pos rfl]
      exact Pl.drop_ext s 1
    rw [e1, e2, decide_eq_true h95] at h
    have hs : (s.extract 1 s.size).size ≤ 9223372036854775807 := by simp; omega
    have := numberOf_core s (s.extract 1 s.size) true w hs h
    unfold Pl.numS
    rw [if_pos h95]
    exact this
  · have e2 : (⟨(Lib.trimPrefix s.data.toList (⟨#[95]⟩ : ByteArray).data.toList).toArray⟩ : ByteArray) = s := by
      unfold Lib.trimPrefix
      rw [e1, decide_eq_false h95]
      rfl
    rw [e1, e2, decide_eq_false h95] at h
    have := numberOf_core s s false w (by omega) h
    unfold Pl.numS
    rw [if_neg h95]
    exact this
end Go.Proofs.YtljkolffjjhgeaaDoor
