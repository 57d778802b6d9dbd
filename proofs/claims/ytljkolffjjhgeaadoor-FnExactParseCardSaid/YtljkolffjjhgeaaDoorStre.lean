import Derived.Test.YtljkolffjjhgeaaDoorPn
import Derived.WalkKit
import Derived.WalkSpells
import Derived.WalkLawsBesides
import Derived.WalkSmall
import Derived.Laws.Strings
namespace Go.Proofs.YtljkolffjjhgeaaDoor
open Go.RowKit
set_option linter.unusedVariables false
namespace Pl
def lttI (x : Int) : Bool := decide (97 ≤ x ∧ x ≤ 122) || decide (65 ≤ x ∧ x ≤ 90)
def digI (x : Int) : Bool := decide (48 ≤ x ∧ x ≤ 57)
end Pl
theorem ret_int {k : IntKind} {a b : Int} (h : a = b) : Ending.returned (.int k a) = .returned (.int k b) := by rw [h]
theorem ret_bool {a b : Bool} (h : a = b) : Ending.returned (.bool a) = .returned (.bool b) := by rw [h]
theorem hideP {p : Prop} (h : p) : Hid p := h
/-- spec.l3Digit -/
theorem l3Digit_any (x : Int) (w : World) :
    Calls Tryd.prog 20 #[.int .u8 x] w fun e w' => e = .returned (.bool (Pl.digI x)) ∧ w' = w := by
  by_cases h0 : 48 ≤ x <;> by_cases h1 : x ≤ 57 <;>
  · go_enter Tryd.func20, Tryd.ntmps20
    go_wp2
    go_ret
    exact ⟨ret_bool (by simp [Pl.digI]; omega), rfl⟩
/-- impl.isDigit -/
theorem isDigit_any (x : Int) (w : World) :
    Calls Tryd.prog 47 #[.int .u8 x] w fun e w' => e = .returned (.bool (Pl.digI x)) ∧ w' = w := by
  by_cases h0 : 48 ≤ x <;> by_cases h1 : x ≤ 57 <;>
  · go_enter Tryd.func47, Tryd.ntmps47
    go_wp2
    go_ret
    exact ⟨ret_bool (by simp [Pl.digI]; omega), rfl⟩
/-- impl.isCapital -/
theorem isCapital_any (x : Int) (w : World) :
    Calls Tryd.prog 66 #[.int .u8 x] w fun e w' => e = .returned (.bool (decide (65 ≤ x ∧ x ≤ 90))) ∧ w' = w := by
  by_cases h0 : 65 ≤ x <;> by_cases h1 : x ≤ 90 <;>
  · go_enter Tryd.func66, Tryd.ntmps66
    go_wp2
    go_ret
    exact ⟨ret_bool (by simp; omega), rfl⟩
/-- spec.l3Letter -/
theorem l3Letter_any (x : Int) (w : World) :
    Calls Tryd.prog 23 #[.int .u8 x] w fun e w' => e = .returned (.bool (Pl.lttI x)) ∧ w' = w := by
  by_cases h0 : 97 ≤ x <;> by_cases h1 : x ≤ 122 <;> by_cases h2 : 65 ≤ x <;> by_cases h3 : x ≤ 90 <;> first
  | (exfalso; omega)
  | (go_enter Tryd.func23, Tryd.ntmps23
     go_wp2
     go_ret
     exact ⟨ret_bool (by simp [Pl.lttI]; omega), rfl⟩)
/-- impl.isLetter -/
theorem isLetter_any (x : Int) (w : World) :
    Calls Tryd.prog 49 #[.int .u8 x] w fun e w' => e = .returned (.bool (Pl.lttI x)) ∧ w' = w := by
  have K : Hid (∀ w, Calls Tryd.prog 66 #[.int .u8 x] w fun e w' => e = .returned (.bool (decide (65 ≤ x ∧ x ≤ 90))) ∧ w' = w) := isCapital_any x
  by_cases hc : 65 ≤ x ∧ x ≤ 90
  · have hd : decide (65 ≤ x ∧ x ≤ 90) = true := decide_eq_true hc
    rw [hd] at K
    clear hd
    go_enter Tryd.func49, Tryd.ntmps49
    go_wp2_with (go_at_call 66; refine (K.out _).mono ?_; rintro e w' ⟨rfl, rfl⟩)
    go_ret
    exact ⟨ret_bool (by first | (symm; simp only [Pl.lttI, Bool.or_eq_true, decide_eq_true_eq]; omega) | (symm; simp only [Pl.lttI, Bool.or_eq_false_iff, decide_eq_false_iff_not]; omega) | (rw [Bool.eq_iff_iff]; simp only [Pl.lttI, Bool.or_eq_true, decide_eq_true_eq]; omega)), rfl⟩
  · have hd : decide (65 ≤ x ∧ x ≤ 90) = false := decide_eq_false hc
    rw [hd] at K
    clear hd
    have HC := hideP hc
    clear hc
    by_cases h0 : 97 ≤ x <;> by_cases h1 : x ≤ 122 <;> first
    | (exfalso; omega)
    | (go_enter Tryd.func49, Tryd.ntmps49
       go_wp2_with (go_at_call 66; refine (K.out _).mono ?_; rintro e w' ⟨rfl, rfl⟩)
       go_ret
       have hc := HC.out
       exact ⟨ret_bool (by first | (symm; simp only [Pl.lttI, Bool.or_eq_true, decide_eq_true_eq]; omega) | (symm; simp only [Pl.lttI, Bool.or_eq_false_iff, decide_eq_false_iff_not]; omega) | (rw [Bool.eq_iff_iff]; simp only [Pl.lttI, Bool.or_eq_true, decide_eq_true_eq]; omega)), rfl⟩)
/-- impl.isLetterOrDigit -/
theorem isLetterOrDigit_any (x : Int) (w : World) :
    Calls Tryd.prog 44 #[.int .u8 x] w fun e w' => e = .returned (.bool (Pl.lttI x || Pl.digI x)) ∧ w' = w := by
  have K : Hid (∀ w, Calls Tryd.prog 49 #[.int .u8 x] w fun e w' => e = .returned (.bool (Pl.lttI x)) ∧ w' = w) := isLetter_any x
  have K2 : Hid (∀ w, Calls Tryd.prog 47 #[.int .u8 x] w fun e w' => e = .returned (.bool (Pl.digI x)) ∧ w' = w) := isDigit_any x
  cases hd : Pl.lttI x
  · rw [hd] at K
    clear hd
    generalize Pl.digI x = q at *
    go_enter Tryd.func44, Tryd.ntmps44
    go_wp2_with (first | (go_at_call 49; refine (K.out _).mono ?_; rintro e w' ⟨rfl, rfl⟩) | (go_at_call 47; refine (K2.out _).mono ?_; rintro e w' ⟨rfl, rfl⟩))
    go_ret
    exact ⟨ret_bool (by simp), rfl⟩
  · rw [hd] at K
    clear hd
    go_enter Tryd.func44, Tryd.ntmps44
    go_wp2_with (first | (go_at_call 49; refine (K.out _).mono ?_; rintro e w' ⟨rfl, rfl⟩) | (go_at_call 47; refine (K2.out _).mono ?_; rintro e w' ⟨rfl, rfl⟩))
    go_ret
    exact ⟨ret_bool (by simp), rfl⟩
namespace Pl
/-- a byte of a string as a number -/
def bt (s : ByteArray) (k : Nat) : Int := (s.data[k]!).toNat
def ldI (x : Int) : Bool := digI x || lttI x
/-- l3Stretch: the place behind the digits and letters from place k on -/
def stre (s : ByteArray) : Nat → Nat → Nat
  | 0, k => k
  | n + 1, k => if ldI (bt s k) = true then stre s n (k + 1) else k
theorem stre_yes {s : ByteArray} {k : Nat} (h : k < s.size) (hx : ldI (bt s k) = true) : stre s (s.size - k) k = stre s (s.size - (k + 1)) (k + 1) := by
  obtain ⟨m, hm⟩ : ∃ m, s.size - k = m + 1 := ⟨s.size - k - 1, by omega⟩
  rw [hm, stre, if_pos hx]
  congr 1
  omega
theorem stre_no {s : ByteArray} {k : Nat} (h : k < s.size) (hx : ldI (bt s k) = false) : stre s (s.size - k) k = k := by
  obtain ⟨m, hm⟩ : ∃ m, s.size - k = m + 1 := ⟨s.size - k - 1, by omega⟩
  rw [hm, stre, if_neg (by simp [hx])]
theorem stre_end {s : ByteArray} {k : Nat} (h : s.size ≤ k) : stre s (s.size - k) k = k := by
  have hm : s.size - k = 0 := by omega
  rw [hm, stre]
end Pl
theorem bt_of_lt (s : ByteArray) (k : Nat) (h : k < s.size) : ((s[k]'h).toNat : Int) = Pl.bt s k := by
  cases s with
  | mk d => exact congrArg (fun b : UInt8 => (b.toNat : Int)) (getElem!_pos d k h).symm
theorem und9 : Tryd.prog.underlying 9 = some .string := by kernel_rfl
theorem idx_str (s : ByteArray) (k : Nat) (h : k < s.size) (w : World) : (Instr.index 9 (.string s) (.int .i64 k)).run Tryd.prog w = .ok (.int .u8 (Pl.bt s k)) w := by
  rw [run_index_string w 9 s .i64 k und9, dif_pos ⟨by omega, by omega⟩]
  simp only [Int.toNat_natCast, bt_of_lt]
/-- spec.l3Stretch -/
theorem l3Stretch_any (s : ByteArray) (i : Nat) (w : World) (hi : i ≤ s.size) (hl : s.size ≤ 9223372036854775807) :
    Calls Tryd.prog 21 #[.string s, .int .i64 i] w fun e w' => e = .returned (.int .i64 (Pl.stre s (s.size - i) i : Nat)) ∧ w' = w := by
  have HY : Hid (∀ k, k < s.size → Pl.ldI (Pl.bt s k) = true → Pl.stre s (s.size - k) k = Pl.stre s (s.size - (k + 1)) (k + 1)) := fun k => Pl.stre_yes
  have HN : Hid (∀ k, k < s.size → Pl.ldI (Pl.bt s k) = false → Pl.stre s (s.size - k) k = k) := fun k => Pl.stre_no
  have HE : Hid (∀ k, s.size ≤ k → Pl.stre s (s.size - k) k = k) := fun k => Pl.stre_end
  generalize hn : s.size = n at *
  generalize hr : Pl.stre s (n - i) i = r at *
  have Hn : Hid (s.size = n) := hn
  have Hr := hideP hr
  clear hr
  go_enter Tryd.func21, Tryd.ntmps21
  go_wp2
  go_loop [1] (fun v => ∃ k : Nat, k ≤ n ∧ v = .int .i64 k ∧ Hid (Pl.stre s (n - k) k = r)) (fun v => n - (intOf v).toNat)
  case atStart => exact ⟨i, hi, rfl, Hr.out⟩
  case round =>
    obtain ⟨k, hk, rfl, hst⟩ := hrel
    by_cases hlt : k < n
    · have hix := idx_str s k (by omega)
      have Y := hideP (HY.out k hlt)
      have N := hideP (HN.out k hlt)
      clear HY HN HE
      generalize Pl.bt s k = x at *
      have K : Hid (∀ w, Calls Tryd.prog 20 #[.int .u8 x] w fun e w' => e = .returned (.bool (Pl.digI x)) ∧ w' = w) := l3Digit_any x
      have K2 : Hid (∀ w, Calls Tryd.prog 23 #[.int .u8 x] w fun e w' => e = .returned (.bool (Pl.lttI x)) ∧ w' = w) := l3Letter_any x
      cases h1 : Pl.digI x
      · cases h2 : Pl.lttI x
        · have HX := hideP (show Pl.ldI x = false by simp [Pl.ldI, h1, h2])
          rw [h1] at K
          rw [h2] at K2
          clear h1 h2
          go_wp2_with (first | (go_at_call 20; refine (K.out _).mono ?_; rintro e w' ⟨rfl, rfl⟩) | (go_at_call 23; refine (K2.out _).mono ?_; rintro e w' ⟨rfl, rfl⟩))
          go_ret
          exact ⟨ret_int (by rw [← hst.out, N.out HX.out]), rfl⟩
        · have HX := hideP (show Pl.ldI x = true by simp [Pl.ldI, h2])
          rw [h1] at K
          rw [h2] at K2
          clear h1 h2
          go_wp2_with (first | (go_at_call 20; refine (K.out _).mono ?_; rintro e w' ⟨rfl, rfl⟩) | (go_at_call 23; refine (K2.out _).mono ?_; rintro e w' ⟨rfl, rfl⟩))
          go_round
          case rel => exact ⟨k + 1, by omega, by go_num, by show _ = _; rw [← hst.out, Y.out HX.out]⟩
          case measure => simp [intOf]; omega
      · have HX := hideP (show Pl.ldI x = true by simp [Pl.ldI, h1])
        rw [h1] at K
        clear h1
        go_wp2_with (first | (go_at_call 20; refine (K.out _).mono ?_; rintro e w' ⟨rfl, rfl⟩) | (go_at_call 23; refine (K2.out _).mono ?_; rintro e w' ⟨rfl, rfl⟩))
        go_round
        case rel => exact ⟨k + 1, by omega, by go_num, by show _ = _; rw [← hst.out, Y.out HX.out]⟩
        case measure => simp [intOf]; omega
    · have E := hideP (HE.out k (by omega))
      clear HY HN HE
      go_wp2
      go_ret
      exact ⟨ret_int (by rw [← hst.out, E.out]), rfl⟩
end Go.Proofs.YtljkolffjjhgeaaDoor
