import Derived.Test.YtfangdhbadmolaaGreatDoorRows
import Derived.Test.YtfangdhbadmolaaGreatDoorPlain
import Derived.WalkKit
import Derived.WalkSpells
import Derived.WalkLawsBesides
import Derived.WalkSmall
import Derived.Laws.Strings
namespace Go.Proofs.YtfangdhbadmolaaGreatDoor
open Go.RowKit
set_option linter.unusedVariables false

theorem ret_int {k : IntKind} {a b : Int} (h : a = b) : Ending.returned (.int k a) = .returned (.int k b) := by rw [h]
theorem ret_bool {a b : Bool} (h : a = b) : Ending.returned (.bool a) = .returned (.bool b) := by rw [h]
theorem hideP {p : Prop} (h : p) : Hid p := h

/-- spec.l3Digit -/
theorem l3Digit_any (x : Int) (w : World) :
    Calls Tryz.prog 43 #[.int .u8 x] w fun e w' => e = .returned (.bool (Pl.digI x)) ∧ w' = w := by
  by_cases h0 : 48 ≤ x <;> by_cases h1 : x ≤ 57 <;>
  · go_enter Tryz.func43, Tryz.ntmps43
    go_wp2
    go_ret
    exact ⟨ret_bool (by simp [Pl.digI]; omega), rfl⟩

/-- impl.isDigit -/
theorem isDigit_any (x : Int) (w : World) :
    Calls Tryz.prog 72 #[.int .u8 x] w fun e w' => e = .returned (.bool (Pl.digI x)) ∧ w' = w := by
  by_cases h0 : 48 ≤ x <;> by_cases h1 : x ≤ 57 <;>
  · go_enter Tryz.func72, Tryz.ntmps72
    go_wp2
    go_ret
    exact ⟨ret_bool (by simp [Pl.digI]; omega), rfl⟩

/-- impl.isCapital -/
theorem isCapital_any (x : Int) (w : World) :
    Calls Tryz.prog 91 #[.int .u8 x] w fun e w' => e = .returned (.bool (decide (65 ≤ x ∧ x ≤ 90))) ∧ w' = w := by
  by_cases h0 : 65 ≤ x <;> by_cases h1 : x ≤ 90 <;>
  · go_enter Tryz.func91, Tryz.ntmps91
    go_wp2
    go_ret
    exact ⟨ret_bool (by simp; omega), rfl⟩

/-- spec.l3Letter -/
theorem l3Letter_any (x : Int) (w : World) :
    Calls Tryz.prog 44 #[.int .u8 x] w fun e w' => e = .returned (.bool (Pl.lttI x)) ∧ w' = w := by
  by_cases h0 : 97 ≤ x <;> by_cases h1 : x ≤ 122 <;> by_cases h2 : 65 ≤ x <;> by_cases h3 : x ≤ 90 <;> first
  | (exfalso; omega)
  | (go_enter Tryz.func44, Tryz.ntmps44
     go_wp2
     go_ret
     exact ⟨ret_bool (by simp [Pl.lttI]; omega), rfl⟩)

/-- impl.isLetter -/
theorem isLetter_any (x : Int) (w : World) :
    Calls Tryz.prog 71 #[.int .u8 x] w fun e w' => e = .returned (.bool (Pl.lttI x)) ∧ w' = w := by
  have K : Hid (∀ w, Calls Tryz.prog 91 #[.int .u8 x] w fun e w' => e = .returned (.bool (decide (65 ≤ x ∧ x ≤ 90))) ∧ w' = w) := isCapital_any x
  by_cases hc : 65 ≤ x ∧ x ≤ 90
  · have hd : decide (65 ≤ x ∧ x ≤ 90) = true := decide_eq_true hc
    rw [hd] at K
    clear hd
    go_enter Tryz.func71, Tryz.ntmps71
    go_wp2_with (go_at_call 91; refine (K.out _).mono ?_; rintro e w' ⟨rfl, rfl⟩)
    go_ret
    exact ⟨ret_bool (by first | (symm; simp only [Pl.lttI, Bool.or_eq_true, decide_eq_true_eq]; omega) | (symm; simp only [Pl.lttI, Bool.or_eq_false_iff, decide_eq_false_iff_not]; omega) | (rw [Bool.eq_iff_iff]; simp only [Pl.lttI, Bool.or_eq_true, decide_eq_true_eq]; omega)), rfl⟩
  · have hd : decide (65 ≤ x ∧ x ≤ 90) = false := decide_eq_false hc
    rw [hd] at K
    clear hd
    have HC := hideP hc
    clear hc
    by_cases h0 : 97 ≤ x <;> by_cases h1 : x ≤ 122 <;> first
    | (exfalso; omega)
    | (go_enter Tryz.func71, Tryz.ntmps71
       go_wp2_with (go_at_call 91; refine (K.out _).mono ?_; rintro e w' ⟨rfl, rfl⟩)
       go_ret
       have hc := HC.out
       exact ⟨ret_bool (by first | (symm; simp only [Pl.lttI, Bool.or_eq_true, decide_eq_true_eq]; omega) | (symm; simp only [Pl.lttI, Bool.or_eq_false_iff, decide_eq_false_iff_not]; omega) | (rw [Bool.eq_iff_iff]; simp only [Pl.lttI, Bool.or_eq_true, decide_eq_true_eq]; omega)), rfl⟩)

/-- impl.isLetterOrDigit -/
theorem isLetterOrDigit_any (x : Int) (w : World) :
    Calls Tryz.prog 56 #[.int .u8 x] w fun e w' => e = .returned (.bool (Pl.lttI x || Pl.digI x)) ∧ w' = w := by
  have K : Hid (∀ w, Calls Tryz.prog 71 #[.int .u8 x] w fun e w' => e = .returned (.bool (Pl.lttI x)) ∧ w' = w) := isLetter_any x
  have K2 : Hid (∀ w, Calls Tryz.prog 72 #[.int .u8 x] w fun e w' => e = .returned (.bool (Pl.digI x)) ∧ w' = w) := isDigit_any x
  cases hd : Pl.lttI x
  · rw [hd] at K
    clear hd
    generalize Pl.digI x = q at *
    go_enter Tryz.func56, Tryz.ntmps56
    go_wp2_with (first | (go_at_call 71; refine (K.out _).mono ?_; rintro e w' ⟨rfl, rfl⟩) | (go_at_call 72; refine (K2.out _).mono ?_; rintro e w' ⟨rfl, rfl⟩))
    go_ret
    exact ⟨ret_bool (by simp), rfl⟩
  · rw [hd] at K
    clear hd
    go_enter Tryz.func56, Tryz.ntmps56
    go_wp2_with (first | (go_at_call 71; refine (K.out _).mono ?_; rintro e w' ⟨rfl, rfl⟩) | (go_at_call 72; refine (K2.out _).mono ?_; rintro e w' ⟨rfl, rfl⟩))
    go_ret
    exact ⟨ret_bool (by simp), rfl⟩

end Go.Proofs.YtfangdhbadmolaaGreatDoor
