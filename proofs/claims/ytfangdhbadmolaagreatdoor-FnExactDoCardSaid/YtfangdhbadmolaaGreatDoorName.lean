import Derived.Test.YtfangdhbadmolaaGreatDoorStr
namespace Go.Proofs.YtfangdhbadmolaaGreatDoor
open Go.RowKit
set_option linter.unusedVariables false

theorem bt_of_lt (s : ByteArray) (k : Nat) (h : k < s.size) : ((s[k]'h).toNat : Int) = Pl.bt s k := by
  cases s with
  | mk d => exact congrArg (fun b : UInt8 => (b.toNat : Int)) (getElem!_pos d k h).symm

theorem idx_str (s : ByteArray) (k : Nat) (h : k < s.size) (w : World) : (Instr.index 9 (.string s) (.int .i64 k)).run Tryz.prog w = .ok (.int .u8 (Pl.bt s k)) w := by
  rw [run_index_string w 9 s .i64 k Tryz.underlying9, dif_pos ⟨by omega, by omega⟩]
  simp only [Int.toNat_natCast, bt_of_lt]

/-- spec.l7NameOk -/
theorem l7NameOk_any (s : ByteArray) (w : World) (hl : s.size ≤ 9223372036854775807) :
    Calls Tryz.prog 27 #[.string s] w fun e w' => e = .returned (.bool (Pl.nameB s)) ∧ w' = w := by
  generalize hn : s.size = n at *
  have Hn : Hid (s.size = n) := hn
  go_enter Tryz.func27, Tryz.ntmps27
  go_wp2
  go_loop [3] (fun i => ∃ k : Nat, k ≤ n ∧ i = .int .i64 k ∧ Hid (Pl.bytesB s k = true)) (fun i => n - (intOf i).toNat)
  case atStart => exact ⟨0, Nat.zero_le _, rfl, rfl⟩
  case round =>
    obtain ⟨k, hk, rfl, hall⟩ := hrel
    by_cases hlt : k < n
    · have hix := idx_str s k (by omega)
      have HS : Hid (Pl.bytesB s (k + 1) = (Pl.bytesB s k && Pl.byteI (Pl.bt s k))) := Pl.bytesB_snoc s k
      have HF : Hid (Pl.byteI (Pl.bt s k) = false → Pl.bytesB s n = false) := Pl.bytesB_false hlt
      generalize Pl.bt s k = x at *
      have K : Hid (∀ w, Calls Tryz.prog 43 #[.int .u8 x] w fun e w' => e = .returned (.bool (Pl.digI x)) ∧ w' = w) := l3Digit_any x
      have K2 : Hid (∀ w, Calls Tryz.prog 44 #[.int .u8 x] w fun e w' => e = .returned (.bool (Pl.lttI x)) ∧ w' = w) := l3Letter_any x
      cases h1 : Pl.digI x
      · cases h2 : Pl.lttI x
        · rw [h1] at K
          rw [h2] at K2
          have hd : Pl.lttI x = false ∧ Pl.digI x = false := ⟨h2, h1⟩
          clear h1 h2
          by_cases h46 : x = 46
          · have hne : (x != 46) = false := by simp [h46]
            have HX := hideP (show Pl.byteI x = true by simp [Pl.byteI, h46])
            clear h46 hd
            go_wp2_with (first | (go_at_call 43; refine (K.out _).mono ?_; rintro e w' ⟨rfl, rfl⟩) | (go_at_call 44; refine (K2.out _).mono ?_; rintro e w' ⟨rfl, rfl⟩))
            go_round
            case rel => exact ⟨k + 1, by omega, by go_num, by show _ = _; rw [HS.out, hall.out, HX.out]; rfl⟩
            case measure => simp [intOf]; omega
          · by_cases h95 : x = 95
            · have hne : (x != 46) = true := by simp [h46]
              have hne2 : (x != 95) = false := by simp [h95]
              have HX := hideP (show Pl.byteI x = true by simp [Pl.byteI, h95])
              clear h46 h95 hd
              go_wp2_with (first | (go_at_call 43; refine (K.out _).mono ?_; rintro e w' ⟨rfl, rfl⟩) | (go_at_call 44; refine (K2.out _).mono ?_; rintro e w' ⟨rfl, rfl⟩))
              go_round
              case rel => exact ⟨k + 1, by omega, by go_num, by show _ = _; rw [HS.out, hall.out, HX.out]; rfl⟩
              case measure => simp [intOf]; omega
            · have hne : (x != 46) = true := by simp [h46]
              have hne2 : (x != 95) = true := by simp [h95]
              have HX := hideP (show Pl.byteI x = false by simp [Pl.byteI, h46, h95, hd.1, hd.2])
              clear h46 h95 hd
              go_wp2_with (first | (go_at_call 43; refine (K.out _).mono ?_; rintro e w' ⟨rfl, rfl⟩) | (go_at_call 44; refine (K2.out _).mono ?_; rintro e w' ⟨rfl, rfl⟩))
              go_ret
              exact ⟨ret_bool (by simp [Pl.nameB, HF.out HX.out, Hn.out]), rfl⟩
        · rw [h1] at K
          rw [h2] at K2
          have HX := hideP (show Pl.byteI x = true by simp [Pl.byteI, h2])
          clear h1 h2
          go_wp2_with (first | (go_at_call 43; refine (K.out _).mono ?_; rintro e w' ⟨rfl, rfl⟩) | (go_at_call 44; refine (K2.out _).mono ?_; rintro e w' ⟨rfl, rfl⟩))
          go_round
          case rel => exact ⟨k + 1, by omega, by go_num, by show _ = _; rw [HS.out, hall.out, HX.out]; rfl⟩
          case measure => simp [intOf]; omega
      · rw [h1] at K
        have HX := hideP (show Pl.byteI x = true by simp [Pl.byteI, h1])
        clear h1 K2
        go_wp2_with (first | (go_at_call 43; refine (K.out _).mono ?_; rintro e w' ⟨rfl, rfl⟩) | (go_at_call 44; refine (K2.out _).mono ?_; rintro e w' ⟨rfl, rfl⟩))
        go_round
        case rel => exact ⟨k + 1, by omega, by go_num, by show _ = _; rw [HS.out, hall.out, HX.out]; rfl⟩
        case measure => simp [intOf]; omega
    · have HA : Hid (Pl.bytesB s n = true) := by
        have := hall.out
        obtain rfl : k = n := by omega
        exact this
      by_cases h1 : (1 : Int) ≤ n
      · by_cases h2 : (n : Int) ≤ 40
        · go_wp2
          go_ret
          exact ⟨ret_bool (by simp [Pl.nameB, Hn.out, HA.out]; omega), rfl⟩
        · go_wp2
          go_ret
          exact ⟨ret_bool (by simp [Pl.nameB, Hn.out, HA.out]; omega), rfl⟩
      · go_wp2
        go_ret
        exact ⟨ret_bool (by simp [Pl.nameB, Hn.out, HA.out]; omega), rfl⟩

/-- impl.nameOk -/
theorem nameOk_any (s : ByteArray) (w : World) (hl : s.size ≤ 9223372036854775807) :
    Calls Tryz.prog 45 #[.string s] w fun e w' => e = .returned (.bool (Pl.nameB s)) ∧ w' = w := by
  generalize hn : s.size = n at *
  have Hn : Hid (s.size = n) := hn
  by_cases g1 : (n : Int) < 1
  · go_enter Tryz.func45, Tryz.ntmps45
    go_wp2
    go_ret
    exact ⟨ret_bool (by simp [Pl.nameB, Hn.out]; omega), rfl⟩
  by_cases g2 : (40 : Int) < n
  · go_enter Tryz.func45, Tryz.ntmps45
    go_wp2
    go_ret
    exact ⟨ret_bool (by simp [Pl.nameB, Hn.out]; omega), rfl⟩
  go_enter Tryz.func45, Tryz.ntmps45
  go_wp2
  go_loop [3, 14] (fun _ i => ∃ k : Nat, k ≤ n ∧ i = .int .i64 k ∧ Hid (Pl.bytesB s k = true)) (fun _ i => n - (intOf i).toNat)
  case atStart => exact ⟨0, Nat.zero_le _, rfl, rfl⟩
  case round =>
    obtain ⟨k, hk, rfl, hall⟩ := hrel
    by_cases hlt : k < n
    · have hix := idx_str s k (by omega)
      have HS : Hid (Pl.bytesB s (k + 1) = (Pl.bytesB s k && Pl.byteI (Pl.bt s k))) := Pl.bytesB_snoc s k
      have HF : Hid (Pl.byteI (Pl.bt s k) = false → Pl.bytesB s n = false) := Pl.bytesB_false hlt
      generalize Pl.bt s k = x at *
      have K : Hid (∀ w, Calls Tryz.prog 56 #[.int .u8 x] w fun e w' => e = .returned (.bool (Pl.lttI x || Pl.digI x)) ∧ w' = w) := isLetterOrDigit_any x
      cases h1 : (Pl.lttI x || Pl.digI x)
      · rw [h1] at K
        have hd : Pl.lttI x = false ∧ Pl.digI x = false := by simpa using h1
        clear h1
        by_cases h46 : x = 46
        · have hne : (x != 46) = false := by simp [h46]
          have HX := hideP (show Pl.byteI x = true by simp [Pl.byteI, h46])
          clear h46 hd
          go_wp2_with (go_at_call 56; refine (K.out _).mono ?_; rintro e w' ⟨rfl, rfl⟩)
          go_round
          case rel => exact ⟨k + 1, by omega, by go_num, by show _ = _; rw [HS.out, hall.out, HX.out]; rfl⟩
          case measure => simp [intOf]; omega
        · by_cases h95 : x = 95
          · have hne : (x != 46) = true := by simp [h46]
            have hne2 : (x != 95) = false := by simp [h95]
            have HX := hideP (show Pl.byteI x = true by simp [Pl.byteI, h95])
            clear h46 h95 hd
            go_wp2_with (go_at_call 56; refine (K.out _).mono ?_; rintro e w' ⟨rfl, rfl⟩)
            go_round
            case rel => exact ⟨k + 1, by omega, by go_num, by show _ = _; rw [HS.out, hall.out, HX.out]; rfl⟩
            case measure => simp [intOf]; omega
          · have hne : (x != 46) = true := by simp [h46]
            have hne2 : (x != 95) = true := by simp [h95]
            have HX := hideP (show Pl.byteI x = false by simp [Pl.byteI, h46, h95, hd.1, hd.2])
            clear h46 h95 hd
            go_wp2_with (go_at_call 56; refine (K.out _).mono ?_; rintro e w' ⟨rfl, rfl⟩)
            go_ret
            exact ⟨ret_bool (by simp [Pl.nameB, HF.out HX.out, Hn.out]), rfl⟩
      · rw [h1] at K
        have HX := hideP (show Pl.byteI x = true by simp [Pl.byteI, h1])
        clear h1
        go_wp2_with (go_at_call 56; refine (K.out _).mono ?_; rintro e w' ⟨rfl, rfl⟩)
        go_round
        case rel => exact ⟨k + 1, by omega, by go_num, by show _ = _; rw [HS.out, hall.out, HX.out]; rfl⟩
        case measure => simp [intOf]; omega
    · have HA : Hid (Pl.bytesB s n = true) := by
        have := hall.out
        obtain rfl : k = n := by omega
        exact this
      go_wp2
      go_ret
      exact ⟨ret_bool (by simp [Pl.nameB, Hn.out, HA.out]; omega), rfl⟩

end Go.Proofs.YtfangdhbadmolaaGreatDoor
