import Derived.Test.YtbmkbplgncoapaaDoorVd
namespace Go.Proofs.YtbmkbplgncoapaaDoor
open Go.RowKit
set_option linter.unusedVariables false

/-- spec.l3Digit -/
theorem l3Digit_any (x : Int) (w : World) :
    Calls Tryd.prog 94 #[.int .u8 x] w fun e w' => e = .returned (.bool (Pl.digI x)) ∧ w' = w := by
  by_cases h0 : 48 ≤ x <;> by_cases h1 : x ≤ 57 <;>
  · go_enter Tryd.func94, Tryd.ntmps94
    go_wp2
    go_ret
    exact ⟨ret_bool (by simp [Pl.digI]; omega), rfl⟩

/-- impl.isDigit -/
theorem isDigit_any (x : Int) (w : World) :
    Calls Tryd.prog 111 #[.int .u8 x] w fun e w' => e = .returned (.bool (Pl.digI x)) ∧ w' = w := by
  by_cases h0 : 48 ≤ x <;> by_cases h1 : x ≤ 57 <;>
  · go_enter Tryd.func111, Tryd.ntmps111
    go_wp2
    go_ret
    exact ⟨ret_bool (by simp [Pl.digI]; omega), rfl⟩

/-- impl.isCapital -/
theorem isCapital_any (x : Int) (w : World) :
    Calls Tryd.prog 129 #[.int .u8 x] w fun e w' => e = .returned (.bool (decide (65 ≤ x ∧ x ≤ 90))) ∧ w' = w := by
  by_cases h0 : 65 ≤ x <;> by_cases h1 : x ≤ 90 <;>
  · go_enter Tryd.func129, Tryd.ntmps129
    go_wp2
    go_ret
    exact ⟨ret_bool (by simp; omega), rfl⟩

/-- spec.l3Letter -/
theorem l3Letter_any (x : Int) (w : World) :
    Calls Tryd.prog 95 #[.int .u8 x] w fun e w' => e = .returned (.bool (Pl.lttI x)) ∧ w' = w := by
  by_cases h0 : 97 ≤ x <;> by_cases h1 : x ≤ 122 <;> by_cases h2 : 65 ≤ x <;> by_cases h3 : x ≤ 90 <;> first
  | (exfalso; omega)
  | (go_enter Tryd.func95, Tryd.ntmps95
     go_wp2
     go_ret
     exact ⟨ret_bool (by simp [Pl.lttI]; omega), rfl⟩)

/-- impl.isLetter -/
theorem isLetter_any (x : Int) (w : World) :
    Calls Tryd.prog 110 #[.int .u8 x] w fun e w' => e = .returned (.bool (Pl.lttI x)) ∧ w' = w := by
  have K : Hid (∀ w, Calls Tryd.prog 129 #[.int .u8 x] w fun e w' => e = .returned (.bool (decide (65 ≤ x ∧ x ≤ 90))) ∧ w' = w) := isCapital_any x
  by_cases hc : 65 ≤ x ∧ x ≤ 90
  · have hd : decide (65 ≤ x ∧ x ≤ 90) = true := decide_eq_true hc
    rw [hd] at K
    clear hd
    go_enter Tryd.func110, Tryd.ntmps110
    go_wp2_with (go_at_call 129; refine (K.out _).mono ?_; rintro e w' ⟨rfl, rfl⟩)
    go_ret
    exact ⟨ret_bool (by first | (symm; simp only [Pl.lttI, Bool.or_eq_true, decide_eq_true_eq]; omega) | (symm; simp only [Pl.lttI, Bool.or_eq_false_iff, decide_eq_false_iff_not]; omega) | (rw [Bool.eq_iff_iff]; simp only [Pl.lttI, Bool.or_eq_true, decide_eq_true_eq]; omega)), rfl⟩
  · have hd : decide (65 ≤ x ∧ x ≤ 90) = false := decide_eq_false hc
    rw [hd] at K
    clear hd
    have HC := hideP hc
    clear hc
    by_cases h0 : 97 ≤ x <;> by_cases h1 : x ≤ 122 <;> first
    | (exfalso; omega)
    | (go_enter Tryd.func110, Tryd.ntmps110
       go_wp2_with (go_at_call 129; refine (K.out _).mono ?_; rintro e w' ⟨rfl, rfl⟩)
       go_ret
       have hc := HC.out
       exact ⟨ret_bool (by first | (symm; simp only [Pl.lttI, Bool.or_eq_true, decide_eq_true_eq]; omega) | (symm; simp only [Pl.lttI, Bool.or_eq_false_iff, decide_eq_false_iff_not]; omega) | (rw [Bool.eq_iff_iff]; simp only [Pl.lttI, Bool.or_eq_true, decide_eq_true_eq]; omega)), rfl⟩)

/-- impl.isLetterOrDigit -/
theorem isLetterOrDigit_any (x : Int) (w : World) :
    Calls Tryd.prog 96 #[.int .u8 x] w fun e w' => e = .returned (.bool (Pl.lttI x || Pl.digI x)) ∧ w' = w := by
  have K : Hid (∀ w, Calls Tryd.prog 110 #[.int .u8 x] w fun e w' => e = .returned (.bool (Pl.lttI x)) ∧ w' = w) := isLetter_any x
  have K2 : Hid (∀ w, Calls Tryd.prog 111 #[.int .u8 x] w fun e w' => e = .returned (.bool (Pl.digI x)) ∧ w' = w) := isDigit_any x
  cases hd : Pl.lttI x
  · rw [hd] at K
    clear hd
    generalize Pl.digI x = q at *
    go_enter Tryd.func96, Tryd.ntmps96
    go_wp2_with (first | (go_at_call 110; refine (K.out _).mono ?_; rintro e w' ⟨rfl, rfl⟩) | (go_at_call 111; refine (K2.out _).mono ?_; rintro e w' ⟨rfl, rfl⟩))
    go_ret
    exact ⟨ret_bool (by simp), rfl⟩
  · rw [hd] at K
    clear hd
    go_enter Tryd.func96, Tryd.ntmps96
    go_wp2_with (first | (go_at_call 110; refine (K.out _).mono ?_; rintro e w' ⟨rfl, rfl⟩) | (go_at_call 111; refine (K2.out _).mono ?_; rintro e w' ⟨rfl, rfl⟩))
    go_ret
    exact ⟨ret_bool (by simp), rfl⟩


namespace Pl
def chI (x : Int) : Bool := digI x || lttI x
abbrev btI (s : ByteArray) (i : Nat) : Int := ((s.data.toList.getD i 0).toNat : Int)
def idBy (s : ByteArray) (n : Nat) : Bool := (List.range n).all fun i => chI (btI s i)
/-- an id is right -/
def idB (s : ByteArray) : Bool := decide (1 ≤ s.size ∧ s.size ≤ 20) && idBy s s.size
theorem idBy_snoc (s : ByteArray) (n : Nat) : idBy s (n + 1) = (idBy s n && chI (btI s n)) := range_snoc _ _
theorem idBy_false {s : ByteArray} {n k : Nat} (hk : k < n) (h : chI (btI s k) = false) : idBy s n = false := range_false hk h
end Pl

theorem bt_idx' (s : ByteArray) (k : Nat) (h : k < s.size) (w : World) : (Instr.index 9 (.string s) (.int .i64 k)).run Tryd.prog w = .ok (.int .u8 (Pl.btI s k)) w := by
  rw [run_index_string w 9 s .i64 k Tryd.underlying9, dif_pos ⟨by omega, by omega⟩]
  have h' : k < s.data.toList.length := by rw [Array.length_toList]; exact h
  have e : (s[k]'h).toNat = (s.data.toList.getD k 0).toNat := by
    rw [List.getD_eq_getElem?_getD, List.getElem?_eq_getElem h']
    rfl
  simp only [Int.toNat_natCast, e]

set_option maxHeartbeats 1000000 in
/-- spec.l6IdOk -/
theorem l6IdOk_any (s : ByteArray) (w : World) (hl : s.size ≤ 9223372036854775806) :
    Calls Tryd.prog 54 #[.string s] w fun e w' => e = .returned (.bool (Pl.idB s)) ∧ w' = w := by
  generalize hn : s.size = n at *
  have Hn : Hid (s.size = n) := hn
  go_enter Tryd.func54, Tryd.ntmps54
  go_wp2_with fail
  go_loop [3] (fun i => ∃ k : Nat, k ≤ n ∧ i = .int .i64 k ∧ Hid (Pl.idBy s k = true)) (fun i => n - (intOf i).toNat)
  case atStart => exact ⟨0, Nat.zero_le _, rfl, rfl⟩
  case round =>
    obtain ⟨k, hk, rfl, hall⟩ := hrel
    by_cases hlt : k < n
    · have hlt' : (k : Int) < (n : Int) := by omega
      have hix := bt_idx' s k (by omega)
      have HS : Hid (Pl.idBy s (k + 1) = (Pl.idBy s k && Pl.chI (Pl.btI s k))) := Pl.idBy_snoc s k
      have HF : Hid (Pl.chI (Pl.btI s k) = false → Pl.idBy s n = false) := Pl.idBy_false hlt
      generalize Pl.btI s k = x at *
      have K : Hid (∀ w, Calls Tryd.prog 94 #[.int .u8 x] w fun e w' => e = .returned (.bool (Pl.digI x)) ∧ w' = w) := l3Digit_any x
      have K2 : Hid (∀ w, Calls Tryd.prog 95 #[.int .u8 x] w fun e w' => e = .returned (.bool (Pl.lttI x)) ∧ w' = w) := l3Letter_any x
      cases h1 : Pl.digI x
      · cases h2 : Pl.lttI x
        · rw [h1] at K
          rw [h2] at K2
          have HX := hideP (show Pl.chI x = false by simp [Pl.chI, h1, h2])
          clear h1 h2
          go_wp2_with (first | (go_at_call 94; refine (K.out _).mono ?_; rintro e w' ⟨rfl, rfl⟩) | (go_at_call 95; refine (K2.out _).mono ?_; rintro e w' ⟨rfl, rfl⟩))
          go_ret
          exact ⟨ret_bool (by simp [Pl.idB, HF.out HX.out, Hn.out]), rfl⟩
        · rw [h1] at K
          rw [h2] at K2
          have HX := hideP (show Pl.chI x = true by simp [Pl.chI, h2])
          clear h1 h2
          go_wp2_with (first | (go_at_call 94; refine (K.out _).mono ?_; rintro e w' ⟨rfl, rfl⟩) | (go_at_call 95; refine (K2.out _).mono ?_; rintro e w' ⟨rfl, rfl⟩))
          go_round
          case rel => exact ⟨k + 1, by omega, by go_num, by show _ = _; rw [HS.out, hall.out, HX.out]; rfl⟩
          case measure => simp [intOf]; omega
      · rw [h1] at K
        have HX := hideP (show Pl.chI x = true by simp [Pl.chI, h1])
        clear h1 K2
        go_wp2_with (first | (go_at_call 94; refine (K.out _).mono ?_; rintro e w' ⟨rfl, rfl⟩))
        go_round
        case rel => exact ⟨k + 1, by omega, by go_num, by show _ = _; rw [HS.out, hall.out, HX.out]; rfl⟩
        case measure => simp [intOf]; omega
    · have hlt' : ¬ (k : Int) < (n : Int) := by omega
      have HA : Hid (Pl.idBy s n = true) := by
        have := hall.out
        obtain rfl : k = n := by omega
        exact this
      by_cases h1 : (1 : Int) ≤ n
      · by_cases h2 : (n : Int) ≤ 20
        · go_wp2_with fail
          go_ret
          exact ⟨ret_bool (by simp [Pl.idB, Hn.out, HA.out]; omega), rfl⟩
        · go_wp2_with fail
          go_ret
          exact ⟨ret_bool (by simp [Pl.idB, Hn.out, HA.out]; omega), rfl⟩
      · go_wp2_with fail
        go_ret
        exact ⟨ret_bool (by simp [Pl.idB, Hn.out, HA.out]; omega), rfl⟩

set_option maxHeartbeats 1000000 in
/-- impl.idOk -/
theorem idOk_any (s : ByteArray) (w : World) (hl : s.size ≤ 9223372036854775806) :
    Calls Tryd.prog 60 #[.string s] w fun e w' => e = .returned (.bool (Pl.idB s)) ∧ w' = w := by
  generalize hn : s.size = n at *
  have Hn : Hid (s.size = n) := hn
  by_cases g1 : (n : Int) < 1
  · go_enter Tryd.func60, Tryd.ntmps60
    go_wp2_with fail
    go_ret
    exact ⟨ret_bool (by simp [Pl.idB, Hn.out]; omega), rfl⟩
  by_cases g2 : (20 : Int) < n
  · go_enter Tryd.func60, Tryd.ntmps60
    go_wp2_with fail
    go_ret
    exact ⟨ret_bool (by simp [Pl.idB, Hn.out]; omega), rfl⟩
  go_enter Tryd.func60, Tryd.ntmps60
  go_wp2_with fail
  go_loop [3, 14] (fun _ i => ∃ k : Nat, k ≤ n ∧ i = .int .i64 k ∧ Hid (Pl.idBy s k = true)) (fun _ i => n - (intOf i).toNat)
  case atStart => exact ⟨0, Nat.zero_le _, rfl, rfl⟩
  case round =>
    obtain ⟨k, hk, rfl, hall⟩ := hrel
    by_cases hlt : k < n
    · have hlt' : (k : Int) < (n : Int) := by omega
      have hix := bt_idx' s k (by omega)
      have HS : Hid (Pl.idBy s (k + 1) = (Pl.idBy s k && Pl.chI (Pl.btI s k))) := Pl.idBy_snoc s k
      have HF : Hid (Pl.chI (Pl.btI s k) = false → Pl.idBy s n = false) := Pl.idBy_false hlt
      generalize Pl.btI s k = x at *
      have K : Hid (∀ w, Calls Tryd.prog 96 #[.int .u8 x] w fun e w' => e = .returned (.bool (Pl.lttI x || Pl.digI x)) ∧ w' = w) := isLetterOrDigit_any x
      have HC : Hid (Pl.chI x = (Pl.lttI x || Pl.digI x)) := by show _ = _; unfold Pl.chI; exact Bool.or_comm _ _
      cases h1 : (Pl.lttI x || Pl.digI x)
      · rw [h1] at K HC
        clear h1
        go_wp2_with (go_at_call 96; refine (K.out _).mono ?_; rintro e w' ⟨rfl, rfl⟩)
        go_ret
        exact ⟨ret_bool (by simp [Pl.idB, HF.out HC.out, Hn.out]), rfl⟩
      · rw [h1] at K HC
        clear h1
        go_wp2_with (go_at_call 96; refine (K.out _).mono ?_; rintro e w' ⟨rfl, rfl⟩)
        go_round
        case rel => exact ⟨k + 1, by omega, by go_num, by show _ = _; rw [HS.out, hall.out, HC.out]; rfl⟩
        case measure => simp [intOf]; omega
    · have hlt' : ¬ (k : Int) < (n : Int) := by omega
      have HA : Hid (Pl.idBy s n = true) := by
        have := hall.out
        obtain rfl : k = n := by omega
        exact this
      go_wp2_with fail
      go_ret
      exact ⟨ret_bool (by simp [Pl.idB, Hn.out, HA.out]; omega), rfl⟩

end Go.Proofs.YtbmkbplgncoapaaDoor
