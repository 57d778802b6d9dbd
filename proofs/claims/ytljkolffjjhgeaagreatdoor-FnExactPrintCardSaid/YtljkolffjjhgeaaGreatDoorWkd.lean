import Derived.Test.YtljkolffjjhgeaaGreatDoorPn
import Derived.WalkKit
import Derived.WalkSpells
import Derived.WalkLawsBesides
import Derived.WalkSmall
import Derived.Laws.Strings
import Derived.Below
namespace Go.Proofs.YtljkolffjjhgeaaGreatDoor
open Go.RowKit
set_option linter.unusedVariables false
namespace Pl
def lttI (x : Int) : Bool := decide (97 ≤ x ∧ x ≤ 122) || decide (65 ≤ x ∧ x ≤ 90)
def digI (x : Int) : Bool := decide (48 ≤ x ∧ x ≤ 57)
end Pl
theorem ret_int {k : IntKind} {a b : Int} (h : a = b) : Ending.returned (.int k a) = .returned (.int k b) := by rw [h]
theorem ret_bool {a b : Bool} (h : a = b) : Ending.returned (.bool a) = .returned (.bool b) := by rw [h]
theorem hideP {p : Prop} (h : p) : Hid p := h
/-- spec.l3Digit -/
theorem l3Digit_any (x : Int) (w : World) :
    Calls Tryz.prog 52 #[.int .u8 x] w fun e w' => e = .returned (.bool (Pl.digI x)) ∧ w' = w := by
  by_cases h0 : 48 ≤ x <;> by_cases h1 : x ≤ 57 <;>
  · go_enter Tryz.func52, Tryz.ntmps52
    go_wp2
    go_ret
    exact ⟨ret_bool (by simp [Pl.digI]; omega), rfl⟩
/-- impl.isDigit -/
theorem isDigit_any (x : Int) (w : World) :
    Calls Tryz.prog 86 #[.int .u8 x] w fun e w' => e = .returned (.bool (Pl.digI x)) ∧ w' = w := by
  by_cases h0 : 48 ≤ x <;> by_cases h1 : x ≤ 57 <;>
  · go_enter Tryz.func86, Tryz.ntmps86
    go_wp2
    go_ret
    exact ⟨ret_bool (by simp [Pl.digI]; omega), rfl⟩
/-- impl.isCapital -/
theorem isCapital_any (x : Int) (w : World) :
    Calls Tryz.prog 63 #[.int .u8 x] w fun e w' => e = .returned (.bool (decide (65 ≤ x ∧ x ≤ 90))) ∧ w' = w := by
  by_cases h0 : 65 ≤ x <;> by_cases h1 : x ≤ 90 <;>
  · go_enter Tryz.func63, Tryz.ntmps63
    go_wp2
    go_ret
    exact ⟨ret_bool (by simp; omega), rfl⟩
/-- spec.l3Letter -/
theorem l3Letter_any (x : Int) (w : World) :
    Calls Tryz.prog 35 #[.int .u8 x] w fun e w' => e = .returned (.bool (Pl.lttI x)) ∧ w' = w := by
  by_cases h0 : 97 ≤ x <;> by_cases h1 : x ≤ 122 <;> by_cases h2 : 65 ≤ x <;> by_cases h3 : x ≤ 90 <;> first
  | (exfalso; omega)
  | (go_enter Tryz.func35, Tryz.ntmps35
     go_wp2
     go_ret
     exact ⟨ret_bool (by simp [Pl.lttI]; omega), rfl⟩)
/-- impl.isLetter -/
theorem isLetter_any (x : Int) (w : World) :
    Calls Tryz.prog 61 #[.int .u8 x] w fun e w' => e = .returned (.bool (Pl.lttI x)) ∧ w' = w := by
  have K : Hid (∀ w, Calls Tryz.prog 63 #[.int .u8 x] w fun e w' => e = .returned (.bool (decide (65 ≤ x ∧ x ≤ 90))) ∧ w' = w) := isCapital_any x
  by_cases hc : 65 ≤ x ∧ x ≤ 90
  · have hd : decide (65 ≤ x ∧ x ≤ 90) = true := decide_eq_true hc
    rw [hd] at K
    clear hd
    go_enter Tryz.func61, Tryz.ntmps61
    go_wp2_with (go_at_call 63; refine (K.out _).mono ?_; rintro e w' ⟨rfl, rfl⟩)
    go_ret
    exact ⟨ret_bool (by first | (symm; simp only [Pl.lttI, Bool.or_eq_true, decide_eq_true_eq]; omega) | (symm; simp only [Pl.lttI, Bool.or_eq_false_iff, decide_eq_false_iff_not]; omega) | (rw [Bool.eq_iff_iff]; simp only [Pl.lttI, Bool.or_eq_true, decide_eq_true_eq]; omega)), rfl⟩
  · have hd : decide (65 ≤ x ∧ x ≤ 90) = false := decide_eq_false hc
    rw [hd] at K
    clear hd
    have HC := hideP hc
    clear hc
    by_cases h0 : 97 ≤ x <;> by_cases h1 : x ≤ 122 <;> first
    | (exfalso; omega)
    | (go_enter Tryz.func61, Tryz.ntmps61
       go_wp2_with (go_at_call 63; refine (K.out _).mono ?_; rintro e w' ⟨rfl, rfl⟩)
       go_ret
       have hc := HC.out
       exact ⟨ret_bool (by first | (symm; simp only [Pl.lttI, Bool.or_eq_true, decide_eq_true_eq]; omega) | (symm; simp only [Pl.lttI, Bool.or_eq_false_iff, decide_eq_false_iff_not]; omega) | (rw [Bool.eq_iff_iff]; simp only [Pl.lttI, Bool.or_eq_true, decide_eq_true_eq]; omega)), rfl⟩)
/-- impl.isLetterOrDigit -/
theorem isLetterOrDigit_any (x : Int) (w : World) :
    Calls Tryz.prog 76 #[.int .u8 x] w fun e w' => e = .returned (.bool (Pl.lttI x || Pl.digI x)) ∧ w' = w := by
  have K : Hid (∀ w, Calls Tryz.prog 61 #[.int .u8 x] w fun e w' => e = .returned (.bool (Pl.lttI x)) ∧ w' = w) := isLetter_any x
  have K2 : Hid (∀ w, Calls Tryz.prog 86 #[.int .u8 x] w fun e w' => e = .returned (.bool (Pl.digI x)) ∧ w' = w) := isDigit_any x
  cases hd : Pl.lttI x
  · rw [hd] at K
    clear hd
    generalize Pl.digI x = q at *
    go_enter Tryz.func76, Tryz.ntmps76
    go_wp2_with (first | (go_at_call 61; refine (K.out _).mono ?_; rintro e w' ⟨rfl, rfl⟩) | (go_at_call 86; refine (K2.out _).mono ?_; rintro e w' ⟨rfl, rfl⟩))
    go_ret
    exact ⟨ret_bool (by simp), rfl⟩
  · rw [hd] at K
    clear hd
    go_enter Tryz.func76, Tryz.ntmps76
    go_wp2_with (first | (go_at_call 61; refine (K.out _).mono ?_; rintro e w' ⟨rfl, rfl⟩) | (go_at_call 86; refine (K2.out _).mono ?_; rintro e w' ⟨rfl, rfl⟩))
    go_ret
    exact ⟨ret_bool (by simp), rfl⟩
namespace Pl
/-- a byte of a string as a number -/
def bt (s : ByteArray) (k : Nat) : Int := (s.data[k]!).toNat
def ldI (x : Int) : Bool := digI x || lttI x
/-- l3Stretch: the place behind the digits and letters from place k on -/
def stre (s : ByteArray) : Nat → Nat → Nat
  | 0, k => k
  | n + 1, k => if ldI (bt s k) = true then stre s n (k + 1) else k
theorem stre_yes {s : ByteArray} {k : Nat} (h : k < s.size) (hx : ldI (bt s k) = true) : stre s (s.size - k) k = stre s (s.size - (k + 1)) (k + 1) := by
  obtain ⟨m, hm⟩ : ∃ m, s.size - k = m + 1 := ⟨s.size - k - 1, by omega⟩
  rw [hm, stre, if_pos hx]
  congr 1
  omega
theorem stre_no {s : ByteArray} {k : Nat} (h : k < s.size) (hx : ldI (bt s k) = false) : stre s (s.size - k) k = k := by
  obtain ⟨m, hm⟩ : ∃ m, s.size - k = m + 1 := ⟨s.size - k - 1, by omega⟩
  rw [hm, stre, if_neg (by simp [hx])]
theorem stre_end {s : ByteArray} {k : Nat} (h : s.size ≤ k) : stre s (s.size - k) k = k := by
  have hm : s.size - k = 0 := by omega
  rw [hm, stre]
end Pl
theorem bt_of_lt (s : ByteArray) (k : Nat) (h : k < s.size) : ((s[k]'h).toNat : Int) = Pl.bt s k := by
  cases s with
  | mk d => exact congrArg (fun b : UInt8 => (b.toNat : Int)) (getElem!_pos d k h).symm
theorem und9 : Tryz.prog.underlying 9 = some .string := by kernel_rfl
theorem idx_str (s : ByteArray) (k : Nat) (h : k < s.size) (w : World) : (Instr.index 9 (.string s) (.int .i64 k)).run Tryz.prog w = .ok (.int .u8 (Pl.bt s k)) w := by
  rw [run_index_string w 9 s .i64 k und9, dif_pos ⟨by omega, by omega⟩]
  simp only [Int.toNat_natCast, bt_of_lt]
/-- spec.l3Stretch -/
theorem l3Stretch_any (s : ByteArray) (i : Nat) (w : World) (hi : i ≤ s.size) (hl : s.size ≤ 9223372036854775807) :
    Calls Tryz.prog 36 #[.string s, .int .i64 i] w fun e w' => e = .returned (.int .i64 (Pl.stre s (s.size - i) i : Nat)) ∧ w' = w := by
  have HY : Hid (∀ k, k < s.size → Pl.ldI (Pl.bt s k) = true → Pl.stre s (s.size - k) k = Pl.stre s (s.size - (k + 1)) (k + 1)) := fun k => Pl.stre_yes
  have HN : Hid (∀ k, k < s.size → Pl.ldI (Pl.bt s k) = false → Pl.stre s (s.size - k) k = k) := fun k => Pl.stre_no
  have HE : Hid (∀ k, s.size ≤ k → Pl.stre s (s.size - k) k = k) := fun k => Pl.stre_end
  generalize hn : s.size = n at *
  generalize hr : Pl.stre s (n - i) i = r at *
  have Hn : Hid (s.size = n) := hn
  have Hr := hideP hr
  clear hr
  go_enter Tryz.func36, Tryz.ntmps36
  go_wp2
  go_loop [1] (fun v => ∃ k : Nat, k ≤ n ∧ v = .int .i64 k ∧ Hid (Pl.stre s (n - k) k = r)) (fun v => n - (intOf v).toNat)
  case atStart => exact ⟨i, hi, rfl, Hr.out⟩
  case round =>
    obtain ⟨k, hk, rfl, hst⟩ := hrel
    by_cases hlt : k < n
    · have hix := idx_str s k (by omega)
      have Y := hideP (HY.out k hlt)
      have N := hideP (HN.out k hlt)
      clear HY HN HE
      generalize Pl.bt s k = x at *
      have K : Hid (∀ w, Calls Tryz.prog 52 #[.int .u8 x] w fun e w' => e = .returned (.bool (Pl.digI x)) ∧ w' = w) := l3Digit_any x
      have K2 : Hid (∀ w, Calls Tryz.prog 35 #[.int .u8 x] w fun e w' => e = .returned (.bool (Pl.lttI x)) ∧ w' = w) := l3Letter_any x
      cases h1 : Pl.digI x
      · cases h2 : Pl.lttI x
        · have HX := hideP (show Pl.ldI x = false by simp [Pl.ldI, h1, h2])
          rw [h1] at K
          rw [h2] at K2
          clear h1 h2
          go_wp2_with (first | (go_at_call 52; refine (K.out _).mono ?_; rintro e w' ⟨rfl, rfl⟩) | (go_at_call 35; refine (K2.out _).mono ?_; rintro e w' ⟨rfl, rfl⟩))
          go_ret
          exact ⟨ret_int (by rw [← hst.out, N.out HX.out]), rfl⟩
        · have HX := hideP (show Pl.ldI x = true by simp [Pl.ldI, h2])
          rw [h1] at K
          rw [h2] at K2
          clear h1 h2
          go_wp2_with (first | (go_at_call 52; refine (K.out _).mono ?_; rintro e w' ⟨rfl, rfl⟩) | (go_at_call 35; refine (K2.out _).mono ?_; rintro e w' ⟨rfl, rfl⟩))
          go_round
          case rel => exact ⟨k + 1, by omega, by go_num, by show _ = _; rw [← hst.out, Y.out HX.out]⟩
          case measure => simp [intOf]; omega
      · have HX := hideP (show Pl.ldI x = true by simp [Pl.ldI, h1])
        rw [h1] at K
        clear h1
        go_wp2_with (first | (go_at_call 52; refine (K.out _).mono ?_; rintro e w' ⟨rfl, rfl⟩) | (go_at_call 35; refine (K2.out _).mono ?_; rintro e w' ⟨rfl, rfl⟩))
        go_round
        case rel => exact ⟨k + 1, by omega, by go_num, by show _ = _; rw [← hst.out, Y.out HX.out]⟩
        case measure => simp [intOf]; omega
    · have E := hideP (HE.out k (by omega))
      clear HY HN HE
      go_wp2
      go_ret
      exact ⟨ret_int (by rw [← hst.out, E.out]), rfl⟩
/-- spec.l2OpOk -/
theorem l2OpOk_any (x : Int) (w : World) :
    Calls Tryz.prog 68 #[.int .i64 x] w fun e w' => e = .returned (.bool (Pl.opk x)) ∧ w' = w := by
  by_cases h0 : 1 ≤ x <;> by_cases h1 : x ≤ 10 <;>
  · go_enter Tryz.func68, Tryz.ntmps68
    go_wp2
    go_ret
    exact ⟨ret_bool (by simp [Pl.opk]; omega), rfl⟩
/-- impl.valueFits -/
theorem valueFits_any (x : Int) (w : World) :
    Calls Tryz.prog 88 #[.int .i64 x] w fun e w' => e = .returned (.bool (decide (-3000000000 ≤ x) && decide (x ≤ 3000000000))) ∧ w' = w := by
  by_cases h0 : -3000000000 ≤ x <;> by_cases h1 : x ≤ 3000000000 <;>
  · go_enter Tryz.func88, Tryz.ntmps88
    go_wp2
    go_ret
    exact ⟨ret_bool (by simp; omega), rfl⟩
/-- impl.stretchEnd -/
theorem stretchEnd_any (s : ByteArray) (i : Nat) (w : World) (hi : i < s.size) (hl : s.size ≤ 9223372036854775807) :
    Calls Tryz.prog 62 #[.string s, .int .i64 i] w fun e w' => e = .returned (.int .i64 (Pl.stre s (s.size - (i + 1)) (i + 1) : Nat)) ∧ w' = w := by
  have HY : Hid (∀ k, k < s.size → Pl.ldI (Pl.bt s k) = true → Pl.stre s (s.size - k) k = Pl.stre s (s.size - (k + 1)) (k + 1)) := fun k => Pl.stre_yes
  have HN : Hid (∀ k, k < s.size → Pl.ldI (Pl.bt s k) = false → Pl.stre s (s.size - k) k = k) := fun k => Pl.stre_no
  have HE : Hid (∀ k, s.size ≤ k → Pl.stre s (s.size - k) k = k) := fun k => Pl.stre_end
  generalize hn : s.size = n at *
  generalize hr : Pl.stre s (n - (i + 1)) (i + 1) = r at *
  have Hn : Hid (s.size = n) := hn
  have Hr := hideP hr
  clear hr
  go_enter Tryz.func62, Tryz.ntmps62
  go_wp2
  go_loop [5] (fun v => ∃ k : Nat, k ≤ n ∧ v = .int .i64 k ∧ Hid (Pl.stre s (n - k) k = r)) (fun v => n - (intOf v).toNat)
  case atStart => exact ⟨i + 1, hi, by go_num, Hr.out⟩
  case round =>
    obtain ⟨k, hk, rfl, hst⟩ := hrel
    by_cases hlt : k < n
    · have hix := idx_str s k (by omega)
      have Y := hideP (HY.out k hlt)
      have N := hideP (HN.out k hlt)
      clear HY HN HE
      generalize Pl.bt s k = x at *
      have K : Hid (∀ w, Calls Tryz.prog 76 #[.int .u8 x] w fun e w' => e = .returned (.bool (Pl.ldI x)) ∧ w' = w) := fun w => by
        have h := isLetterOrDigit_any x w
        rw [Bool.or_comm] at h
        exact h
      cases h1 : Pl.ldI x
      · rw [h1] at K
        have HX := hideP h1
        clear h1
        go_wp2_with (go_at_call 76; refine (K.out _).mono ?_; rintro e w' ⟨rfl, rfl⟩)
        go_ret
        exact ⟨ret_int (by rw [← hst.out, N.out HX.out]), rfl⟩
      · rw [h1] at K
        have HX := hideP h1
        clear h1
        go_wp2_with (go_at_call 76; refine (K.out _).mono ?_; rintro e w' ⟨rfl, rfl⟩)
        go_round
        case rel => exact ⟨k + 1, by omega, by go_num, by show _ = _; rw [← hst.out, Y.out HX.out]⟩
        case measure => simp [intOf]; omega
    · have E := hideP (HE.out k (by omega))
      clear HY HN HE
      go_wp2
      go_ret
      exact ⟨ret_int (by rw [← hst.out, E.out]), rfl⟩
namespace Pl
def hasB (L : List ByteArray) (s : ByteArray) (k : Nat) : Bool := (L.take k).any (fun x => decide (x = s))
theorem hasB_snoc {L : List ByteArray} {s : ByteArray} {k : Nat} (h : k < L.length) : hasB L s (k + 1) = (hasB L s k || decide (L.getD k default = s)) := by
  unfold hasB
  rw [List.take_add_one, List.any_append, List.getElem?_eq_getElem h]
  simp [List.getD_eq_getElem?_getD, List.getElem?_eq_getElem h]
theorem hasB_yes {L : List ByteArray} {s : ByteArray} {k : Nat} (h : k < L.length) (e : L.getD k default = s) : hasB L s L.length = true := by
  unfold hasB
  rw [List.take_length, List.any_eq_true]
  refine ⟨L[k], List.getElem_mem h, ?_⟩
  rw [← e]
  simp [List.getD_eq_getElem?_getD, List.getElem?_eq_getElem h]
end Pl
theorem ba_eq {a b : ByteArray} : (a.toList == b.toList) = decide (a = b) := by
  rw [ByteArray.toList_eq, ByteArray.toList_eq]
  by_cases h : a = b
  · subst h; simp
  · have : ¬ a.data.toList = b.data.toList := fun e => h (by cases a; cases b; simp at e ⊢; exact e)
    rw [decide_eq_false h]; exact beq_eq_false_iff_ne.2 this
/-- spec.l3Has -/
theorem l3Has_any (L : List ByteArray) (b o cap : Nat) (s : ByteArray) (w : World) (hl : L.length ≤ 1000000) (hc : ∀ j, j < L.length → w.cell? ⟨b, o + j, none⟩ = some (.string (L.getD j default))) :
    Calls Tryz.prog 53 #[.slice (some ⟨b, o, none⟩) L.length cap, .string s] w fun e w' => e = .returned (.bool (Pl.hasB L s L.length)) ∧ w' = w := by
  have HS : Hid (∀ k, k < L.length → Pl.hasB L s (k + 1) = (Pl.hasB L s k || decide (L.getD k default = s))) := fun k => Pl.hasB_snoc
  have HY : Hid (∀ k, k < L.length → L.getD k default = s → Pl.hasB L s L.length = true) := fun k => Pl.hasB_yes
  have HC := hideP hc
  clear hc
  generalize hn : L.length = n at *
  go_enter Tryz.func53, Tryz.ntmps53
  go_wp2
  go_loop [5] (fun v => ∃ k : Nat, k ≤ n ∧ v = .int .i64 k ∧ Hid (Pl.hasB L s k = false)) (fun v => n - (intOf v).toNat)
  case atStart => exact ⟨0, Nat.zero_le _, rfl, rfl⟩
  case round =>
    obtain ⟨k, hk, rfl, hst⟩ := hrel
    by_cases hlt : k < n
    · have hcell := HC.out k hlt
      have Y := hideP (HY.out k hlt)
      have N := hideP (HS.out k hlt)
      clear HY HS HC
      generalize L.getD k default = x at *
      by_cases hx : x = s
      · have HX := hideP (Y.out hx)
        have hq : (x.toList == s.toList) = true := by rw [ba_eq]; exact decide_eq_true hx
        clear hx Y N
        go_wp2
        go_ret
        exact ⟨ret_bool (by rw [HX.out]), rfl⟩
      · have HX := hideP (show Pl.hasB L s (k + 1) = false by rw [N.out, hst.out]; simp [hx])
        have hq : (x.toList == s.toList) = false := by rw [ba_eq]; exact decide_eq_false hx
        clear hx Y N
        go_wp2
        go_round
        case rel => exact ⟨k + 1, by omega, by go_num, HX.out⟩
        case measure => simp [intOf]; omega
    · obtain rfl : k = n := by omega
      go_wp2
      go_ret
      exact ⟨ret_bool (by rw [hst.out]), rfl⟩
set_option maxRecDepth 100000
namespace Pl
def words : List ByteArray := [⟨#[109, 97, 120]⟩, ⟨#[109, 105, 110]⟩, ⟨#[97, 98, 115]⟩, ⟨#[115, 105, 103, 110]⟩, ⟨#[105, 111, 116, 97]⟩, ⟨#[114, 104, 111]⟩, ⟨#[99, 97, 116]⟩, ⟨#[114, 101, 118]⟩, ⟨#[102, 108, 105, 112]⟩, ⟨#[103, 114, 97, 100, 101]⟩, ⟨#[99, 111, 117, 110, 116]⟩, ⟨#[116, 97, 107, 101]⟩, ⟨#[100, 114, 111, 112]⟩, ⟨#[102, 114, 111, 109]⟩, ⟨#[109, 97, 116, 99, 104]⟩, ⟨#[114, 111, 108, 108]⟩, ⟨#[115, 101, 108, 102]⟩]
/-- spec.l3WordKind -/
def wkS (s : ByteArray) : Int := if 20 < s.size then 120 else if s = ⟨#[115, 101, 108, 102]⟩ ∨ (65 ≤ bt s 0 ∧ bt s 0 ≤ 90) then 70 else if hasB words s 17 = true then 115 else 119
end Pl
/-- spec.l3Words -/
theorem l3Words_any (w : World) :
    Calls Tryz.prog 54 #[] w fun e w' => e = .returned (.slice (some ⟨w.heap.size, 0, none⟩) 17 17) ∧ w' = w.alloc (.cells (Pl.words.map Value.string).toArray 9) := by
  go_enter Tryz.func54, Tryz.ntmps54
  go_wp2
  go_ret
  exact ⟨rfl, rfl⟩
theorem words_at (j : Nat) (hj : j < Pl.words.length) : (Pl.words.map Value.string).toArray[0 + j]? = some (.string (Pl.words.getD j default)) := by
  simp [List.getD_eq_getElem?_getD, List.getElem?_eq_getElem hj]
theorem self_list : ByteArray.toList ⟨#[115, 101, 108, 102]⟩ = [115, 101, 108, 102] := by rw [ByteArray.toList_eq]
/-- spec.l3WordKind -/
theorem l3WordKind_any (s : ByteArray) (w : World) (h0 : 0 < s.size) (hl : s.size ≤ 9223372036854775807) :
    Calls Tryz.prog 37 #[.string s] w fun e w' => e = .returned (.int .u8 (Pl.wkS s)) ∧ Below w.heap.size w w' := by
  have hix : ∀ w, (Instr.index 9 (.string s) (.int .i64 0)).run Tryz.prog w = .ok (.int .u8 (Pl.bt s 0)) w := idx_str s 0 h0
  have HW : Hid (∀ x, Pl.bt s 0 = x → Pl.wkS s = if 20 < s.size then 120 else if s = ⟨#[115, 101, 108, 102]⟩ ∨ (65 ≤ x ∧ x ≤ 90) then 70 else if Pl.hasB Pl.words s 17 = true then 115 else 119) := fun x e => by rw [← e]; rfl
  generalize hx : Pl.bt s 0 = x at *
  have HW := hideP (HW.out x rfl)
  clear hx
  generalize Pl.wkS s = r at *
  generalize hn : s.size = n at *
  by_cases g1 : (20 : Int) < n
  · have HR := hideP (show r = 120 by rw [HW.out, if_pos (by omega)])
    go_enter Tryz.func37, Tryz.ntmps37
    go_wp2
    go_ret
    exact ⟨ret_int HR.out.symm, Below.refl _ _⟩
  have HW := hideP (show r = if s = ⟨#[115, 101, 108, 102]⟩ ∨ (65 ≤ x ∧ x ≤ 90) then 70 else if Pl.hasB Pl.words s 17 = true then 115 else 119 by rw [HW.out, if_neg (by omega)])
  by_cases g2 : s = ⟨#[115, 101, 108, 102]⟩
  · have HR := hideP (show r = 70 by rw [HW.out, if_pos (.inl g2)])
    have hq : (s.toList == [115, 101, 108, 102]) = true := by rw [← self_list, ba_eq]; exact decide_eq_true g2
    clear g2
    go_enter Tryz.func37, Tryz.ntmps37
    go_wp2
    go_ret
    exact ⟨ret_int HR.out.symm, Below.refl _ _⟩
  have hq : (s.toList == [115, 101, 108, 102]) = false := by rw [← self_list, ba_eq]; exact decide_eq_false g2
  by_cases g3 : 65 ≤ x ∧ x ≤ 90
  · have HR := hideP (show r = 70 by rw [HW.out, if_pos (.inr g3)])
    obtain ⟨g4, g5⟩ := g3
    clear g2
    go_enter Tryz.func37, Tryz.ntmps37
    go_wp2
    go_ret
    exact ⟨ret_int HR.out.symm, Below.refl _ _⟩
  have HW := hideP (show r = if Pl.hasB Pl.words s 17 = true then 115 else 119 by rw [HW.out, if_neg (by rintro (h | h); exact g2 h; exact g3 h)])
  have K : Hid (∀ w, Calls Tryz.prog 54 #[] w fun e w' => e = .returned (.slice (some ⟨w.heap.size, 0, none⟩) 17 17) ∧ w' = w.alloc (.cells (Pl.words.map Value.string).toArray 9)) := l3Words_any
  have K2 : Hid (∀ w : World, Calls Tryz.prog 53 #[.slice (some ⟨w.heap.size, 0, none⟩) 17 17, .string s] (w.alloc (.cells (Pl.words.map Value.string).toArray 9)) fun e w' => e = .returned (.bool (Pl.hasB Pl.words s 17)) ∧ w' = w.alloc (.cells (Pl.words.map Value.string).toArray 9)) := fun w => l3Has_any Pl.words w.heap.size 0 17 s _ (by decide) (by
    intro j hj
    rw [World.cell?_alloc_at _ _ _ _ (by simp)]
    exact words_at j hj)
  have HB : Hid (∀ o, Below w.heap.size w (w.alloc o)) := fun o => (Below.refl _ _).alloc (Nat.le_refl _) _
  generalize Obj.cells (Pl.words.map Value.string).toArray 9 = ob at *
  generalize Pl.hasB Pl.words s 17 = q at *
  have HG := hideP g2
  clear g2
  by_cases g4 : 65 ≤ x
  · have g5 : ¬ x ≤ 90 := fun h => g3 ⟨g4, h⟩
    clear g3
    cases q
    · have HR := hideP (show r = 119 by rw [HW.out]; rfl)
      go_enter Tryz.func37, Tryz.ntmps37
      go_wp2_with (first | (go_at_call 54; refine (K.out _).mono ?_; rintro e w' ⟨rfl, rfl⟩) | (go_at_call 53; refine (K2.out _).mono ?_; rintro e w' ⟨rfl, rfl⟩))
      go_ret
      exact ⟨ret_int HR.out.symm, HB.out _⟩
    · have HR := hideP (show r = 115 by rw [HW.out]; rfl)
      go_enter Tryz.func37, Tryz.ntmps37
      go_wp2_with (first | (go_at_call 54; refine (K.out _).mono ?_; rintro e w' ⟨rfl, rfl⟩) | (go_at_call 53; refine (K2.out _).mono ?_; rintro e w' ⟨rfl, rfl⟩))
      go_ret
      exact ⟨ret_int HR.out.symm, HB.out _⟩
  · clear g3
    cases q
    · have HR := hideP (show r = 119 by rw [HW.out]; rfl)
      go_enter Tryz.func37, Tryz.ntmps37
      go_wp2_with (first | (go_at_call 54; refine (K.out _).mono ?_; rintro e w' ⟨rfl, rfl⟩) | (go_at_call 53; refine (K2.out _).mono ?_; rintro e w' ⟨rfl, rfl⟩))
      go_ret
      exact ⟨ret_int HR.out.symm, HB.out _⟩
    · have HR := hideP (show r = 115 by rw [HW.out]; rfl)
      go_enter Tryz.func37, Tryz.ntmps37
      go_wp2_with (first | (go_at_call 54; refine (K.out _).mono ?_; rintro e w' ⟨rfl, rfl⟩) | (go_at_call 53; refine (K2.out _).mono ?_; rintro e w' ⟨rfl, rfl⟩))
      go_ret
      exact ⟨ret_int HR.out.symm, HB.out _⟩
end Go.Proofs.YtljkolffjjhgeaaGreatDoor
