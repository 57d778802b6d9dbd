import Derived.Test.YtmobjomebmipdaaRows
import Derived.Test.YtmobjomebmipdaaPlain
import Derived.WalkKit
import Derived.WalkSpells
import Derived.WalkLawsBesides
namespace Go.Proofs.Ytmobjomebmipdaa
open Go.RowKit
set_option linter.unusedVariables false

/-- In the world w the slice v reads as the numbers zs, in a block below B. -/
def Rd (B : Nat) (w : World) (v : Value) (zs : List Int) : Prop :=
  ∃ ao cap, v = .slice ao zs.length cap ∧ (zs.length = 0 ∨ ∃ b off, b < B ∧ ao = some ⟨b, off, none⟩ ∧ ∀ i, i < zs.length → w.cell? ⟨b, off + i, none⟩ = some (.int .i64 (zs.getD i 0)))

theorem Rd.keep {B : Nat} {w w' : World} {v : Value} {zs : List Int} (h : Rd B w v zs) (hb : Below B w w') : Rd B w' v zs := by
  obtain ⟨ao, cap, rfl, h⟩ := h
  refine ⟨ao, cap, rfl, ?_⟩
  rcases h with h | ⟨b, off, hB, rfl, hc⟩
  · exact .inl h
  · exact .inr ⟨b, off, hB, rfl, fun i hi => (hb.cell (p := ⟨b, off + i, none⟩) hB).trans (hc i hi)⟩

theorem Rd.up {B B' : Nat} {w : World} {v : Value} {zs : List Int} (h : Rd B w v zs) (hb : B ≤ B') : Rd B' w v zs := by
  obtain ⟨ao, cap, rfl, h⟩ := h
  refine ⟨ao, cap, rfl, ?_⟩
  rcases h with h | ⟨b, off, hB, rfl, hc⟩
  · exact .inl h
  · exact .inr ⟨b, off, by omega, rfl, hc⟩

theorem ret_int {k : IntKind} {a b : Int} (h : a = b) : Ending.returned (.int k a) = .returned (.int k b) := by rw [h]
theorem ret_bool {a b : Bool} (h : a = b) : Ending.returned (.bool a) = .returned (.bool b) := by rw [h]

/-- laws.szIntS -/
theorem szIntS_any (ao : Option Addr) (n cap : Nat) (l : Int) (w : World) (hn : n ≤ 9223372036854775807) (h0 : 0 ≤ l) (h1 : l ≤ 1048576) :
    Calls Try.prog 32 #[.slice ao n cap, .int .i64 l] w fun e w' => e = .returned (.int .i64 (if l < n then -1 else l - n)) ∧ w' = w := by
  by_cases h : l < n
  · have h' : l - (n : Int) < 0 := by omega
    go_enter Try.func32, Try.ntmps32
    go_wp2
    go_ret
    exact ⟨rfl, rfl⟩
  · have h' : ¬ l - (n : Int) < 0 := by omega
    go_enter Try.func32, Try.ntmps32
    go_wp2
    go_ret
    exact ⟨rfl, rfl⟩

/-- spec.l1Product -/
theorem l1Product_core (b off cap : Nat) (zs : List Int) (w : World) (hl : zs.length ≤ 1048576) (hr : zs.all Pl.inR = true)
    (hc : ∀ i, i < zs.length → w.cell? ⟨b, off + i, none⟩ = some (.int .i64 (zs.getD i 0))) :
    Calls Try.prog 34 #[.slice (some ⟨b, off, none⟩) zs.length cap] w fun e w' => e = .returned (.int .i64 (Pl.prodC zs)) ∧ w' = w := by
  generalize hn : zs.length = n at *
  have Hn : Hid (zs.length = n) := hn
  clear hn
  go_enter Try.func34, Try.ntmps34
  go_wp2
  go_loop [3, 4] (fun p i => ∃ k : Nat, k ≤ n ∧ i = .int .i64 k ∧ p = .int .i64 (Pl.prodC (zs.take k))) (fun _ i => n - (intOf i).toNat)
  case atStart => exact ⟨0, Nat.zero_le _, rfl, rfl⟩
  case round =>
    obtain ⟨k, hk, rfl, rfl⟩ := hrel
    by_cases hlt : k < n
    · have hck := hc k hlt
      have hx := Pl.inR_bd (Pl.all_getD hr (k := k) (by rw [Hn.out]; exact hlt))
      have hp := Pl.prodC_bd _ (Pl.all_take hr k)
      have hm := Pl.mul_bd hp.1 hp.2 hx.1 hx.2
      have HS : Hid (Pl.prodC (zs.take (k + 1)) = Pl.stepC (Pl.prodC (zs.take k)) (zs.getD k 0)) := by
        show _ = _
        rw [Pl.take_snoc zs k (by rw [Hn.out]; exact hlt), Pl.prodC_snoc]
      generalize zs.getD k 0 = x at *
      generalize Pl.prodC (zs.take k) = p at *
      clear hc hr
      obtain ⟨hx0, hx1⟩ := hx
      obtain ⟨hp0, hp1⟩ := hp
      obtain ⟨hm0, hm1⟩ := hm
      by_cases hg : 1000 < p * x
      · go_wp2
        go_round
        case rel => exact ⟨k + 1, by omega, by go_num, by rw [HS.out]; unfold Pl.stepC; rw [if_pos hg]⟩
        case measure => simp [intOf]; omega
      · go_wp2
        go_round
        case rel => exact ⟨k + 1, by omega, by go_num, by rw [HS.out]; unfold Pl.stepC; rw [if_neg hg]⟩
        case measure => simp [intOf]; omega
    · go_wp2
      go_ret
      exact ⟨ret_int (by rw [List.take_of_length_le (by rw [Hn.out]; omega)]), rfl⟩


/-- spec.l1Fits: the lengths are out of bounds -/
theorem l1Fits_core (b off cap : Nat) (zs : List Int) (w : World) (hl : zs.length ≤ 1048576)
    (hc : ∀ i, i < zs.length → w.cell? ⟨b, off + i, none⟩ = some (.int .i64 (zs.getD i 0))) :
    Calls Try.prog 33 #[.slice (some ⟨b, off, none⟩) zs.length cap] w fun e w' => e = .returned (.bool (Pl.fitsB zs)) ∧ w' = w := by
  have hpr := l1Product_core b off cap zs w hl
  have HC := hc
  generalize hn : zs.length = n at *
  have Hn : Hid (zs.length = n) := hn
  have Hp : Hid _ := hpr
  have HC' : Hid _ := HC
  clear hn hpr HC
  by_cases h3 : n ≤ 3
  · go_enter Try.func33, Try.ntmps33
    go_wp2
    go_loop [3] (fun i => ∃ k : Nat, k ≤ n ∧ i = .int .i64 k ∧ (zs.take k).all Pl.inR = true) (fun i => n - (intOf i).toNat)
    case atStart => exact ⟨0, Nat.zero_le _, rfl, rfl⟩
    case round =>
      obtain ⟨k, hk, rfl, hall⟩ := hrel
      by_cases hlt : k < n
      · have hck := hc k hlt
        have HS : Hid ((zs.take (k + 1)).all Pl.inR = ((zs.take k).all Pl.inR && Pl.inR (zs.getD k 0))) := Pl.all_snoc zs Pl.inR k (by rw [Hn.out]; exact hlt)
        have HF : Hid (Pl.inR (zs.getD k 0) = false → zs.all Pl.inR = false) := Pl.all_false (by rw [Hn.out]; exact hlt)
        have HA : Hid ((zs.take k).all Pl.inR = true) := hall
        generalize zs.getD k 0 = x at *
        clear hc hall
        by_cases hx0 : x < 0
        · go_wp2
          go_ret
          exact ⟨ret_bool (by have := HF.out (by simp [Pl.inR]; omega); simp [Pl.fitsB, Pl.baseB, this]), rfl⟩
        · by_cases hx1 : 1000 < x
          · go_wp2
            go_ret
            exact ⟨ret_bool (by have := HF.out (by simp [Pl.inR]; omega); simp [Pl.fitsB, Pl.baseB, this]), rfl⟩
          · go_wp2
            go_round
            case rel => exact ⟨k + 1, by omega, by go_num, by rw [HS.out, HA.out]; simp [Pl.inR]; omega⟩
            case measure => simp [intOf]; omega
      · have HA : Hid ((zs.take k).all Pl.inR = true) := hall
        clear hall
        have HA' : Hid (zs.all Pl.inR = true) := by
          have := HA.out
          rw [List.take_of_length_le (by rw [Hn.out]; omega)] at this
          exact this
        clear HA
        go_wp2_with (go_at_call 34; refine (Hp.out HA'.out HC'.out).mono ?_; rintro e w' ⟨rfl, rfl⟩)
        go_ret
        exact ⟨ret_bool (by simp [Pl.fitsB, Pl.baseB, HA'.out, Hn.out, h3]), rfl⟩
  · have h3' : 3 < n := by omega
    go_enter Try.func33, Try.ntmps33
    go_wp2
    go_ret
    exact ⟨ret_bool (by simp [Pl.fitsB, Pl.baseB, Hn.out]; omega), rfl⟩


/-- spec.l1Product of no lengths -/
theorem l1Product_nil (ao : Option Addr) (cap : Nat) (w : World) :
    Calls Try.prog 34 #[.slice ao 0 cap] w fun e w' => e = .returned (.int .i64 1) ∧ w' = w := by
  go_enter Try.func34, Try.ntmps34
  go_wp2
  go_loop [3, 4] (fun p i => i = .int .i64 0 ∧ p = .int .i64 1) (fun _ _ => 0)
  case atStart => exact ⟨rfl, rfl⟩
  case round =>
    obtain ⟨rfl, rfl⟩ := hrel
    go_wp2
    go_ret
    exact ⟨rfl, rfl⟩

theorem l1Product_any (B : Nat) (v : Value) (zs : List Int) (w : World) (hl : zs.length ≤ 1048576) (hr : zs.all Pl.inR = true) (h : Rd B w v zs) :
    Calls Try.prog 34 #[v] w fun e w' => e = .returned (.int .i64 (Pl.prodC zs)) ∧ w' = w := by
  obtain ⟨ao, cap, rfl, h⟩ := h
  rcases h with h | ⟨b, off, _, rfl, hc⟩
  · obtain rfl := List.length_eq_zero_iff.1 h
    exact l1Product_nil ao cap w
  · exact l1Product_core b off cap zs w hl hr hc

/-- spec.l1Fits of no lengths -/
theorem l1Fits_nil (ao : Option Addr) (cap : Nat) (w : World) :
    Calls Try.prog 33 #[.slice ao 0 cap] w fun e w' => e = .returned (.bool true) ∧ w' = w := by
  go_enter Try.func33, Try.ntmps33
  go_wp2
  go_loop [3] (fun i => i = .int .i64 0) (fun _ => 0)
  case atStart => exact rfl
  case round =>
    obtain rfl := hrel
    go_wp2_with (go_at_call 34; refine (l1Product_nil ao cap _).mono ?_; rintro e w' ⟨rfl, rfl⟩)
    go_ret
    exact ⟨rfl, rfl⟩

theorem l1Fits_any (B : Nat) (v : Value) (zs : List Int) (w : World) (hl : zs.length ≤ 1048576) (h : Rd B w v zs) :
    Calls Try.prog 33 #[v] w fun e w' => e = .returned (.bool (Pl.fitsB zs)) ∧ w' = w := by
  obtain ⟨ao, cap, rfl, h⟩ := h
  rcases h with h | ⟨b, off, _, rfl, hc⟩
  · obtain rfl := List.length_eq_zero_iff.1 h
    exact l1Fits_nil ao cap w
  · exact l1Fits_core b off cap zs w hl hc

/-- impl.valueFits -/
theorem valueFits_any (x : Int) (w : World) :
    Calls Try.prog 38 #[.int .i64 x] w fun e w' => e = .returned (.bool (Pl.valB x)) ∧ w' = w := by
  by_cases h0 : -3000000000 ≤ x
  · by_cases h1 : x ≤ 3000000000
    · go_enter Try.func38, Try.ntmps38
      go_wp2
      go_ret
      exact ⟨ret_bool (by simp [Pl.valB]; omega), rfl⟩
    · go_enter Try.func38, Try.ntmps38
      go_wp2
      go_ret
      exact ⟨ret_bool (by simp [Pl.valB]; omega), rfl⟩
  · go_enter Try.func38, Try.ntmps38
    go_wp2
    go_ret
    exact ⟨ret_bool (by simp [Pl.valB]; omega), rfl⟩

/-- impl.cellCount -/
theorem cellCount_core (b off cap : Nat) (zs : List Int) (w : World) (hr : Pl.baseB zs = true)
    (hc : ∀ i, i < zs.length → w.cell? ⟨b, off + i, none⟩ = some (.int .i64 (zs.getD i 0))) :
    Calls Try.prog 37 #[.slice (some ⟨b, off, none⟩) zs.length cap] w fun e w' => e = .returned (.int .i64 (Pl.prodP zs)) ∧ w' = w := by
  have hb := hr
  simp only [Pl.baseB, Bool.and_eq_true, decide_eq_true_eq] at hb
  obtain ⟨hl, hall⟩ := hb
  generalize hn : zs.length = n at *
  have Hn : Hid (zs.length = n) := hn
  have HR : Hid (Pl.baseB zs = true) := hr
  have HAll : Hid (zs.all Pl.inR = true) := hall
  clear hn hr hall
  go_enter Try.func37, Try.ntmps37
  go_wp2
  go_loop [3, 5, 8] (fun p _ i => ∃ k : Nat, k ≤ n ∧ i = .int .i64 k ∧ p = .int .i64 (Pl.prodP (zs.take k))) (fun _ _ i => n - (intOf i).toNat)
  case atStart => exact ⟨0, Nat.zero_le _, rfl, rfl⟩
  case round =>
    obtain ⟨k, hk, rfl, rfl⟩ := hrel
    by_cases hlt : k < n
    · have hck := hc k hlt
      have HS : Hid (Pl.prodP (zs.take (k + 1)) = Pl.prodP (zs.take k) * zs.getD k 0) := by
        show _ = _
        rw [Pl.take_snoc zs k (by rw [Hn.out]; exact hlt), Pl.prodP_snoc]
      have hm := Pl.prodP_take_bd zs HR.out (k + 1)
      rw [HS.out] at hm
      generalize zs.getD k 0 = x at *
      generalize Pl.prodP (zs.take k) = p at *
      clear hc
      obtain ⟨hm0, hm1⟩ := hm
      go_wp2
      go_round
      case rel => exact ⟨k + 1, by omega, by go_num, by rw [HS.out]⟩
      case measure => simp [intOf]; omega
    · go_wp2
      go_ret
      exact ⟨ret_int (by rw [List.take_of_length_le (by rw [Hn.out]; omega)]), rfl⟩

theorem cellCount_nil (ao : Option Addr) (cap : Nat) (w : World) :
    Calls Try.prog 37 #[.slice ao 0 cap] w fun e w' => e = .returned (.int .i64 1) ∧ w' = w := by
  go_enter Try.func37, Try.ntmps37
  go_wp2
  go_loop [3, 5, 8] (fun p _ i => i = .int .i64 0 ∧ p = .int .i64 1) (fun _ _ _ => 0)
  case atStart => exact ⟨rfl, rfl⟩
  case round =>
    obtain ⟨rfl, rfl⟩ := hrel
    go_wp2
    go_ret
    exact ⟨rfl, rfl⟩

theorem cellCount_any (B : Nat) (v : Value) (zs : List Int) (w : World) (hr : Pl.baseB zs = true) (h : Rd B w v zs) :
    Calls Try.prog 37 #[v] w fun e w' => e = .returned (.int .i64 (Pl.prodP zs)) ∧ w' = w := by
  obtain ⟨ao, cap, rfl, h⟩ := h
  rcases h with h | ⟨b, off, _, rfl, hc⟩
  · obtain rfl := List.length_eq_zero_iff.1 h
    exact cellCount_nil ao cap w
  · exact cellCount_core b off cap zs w hr hc

/-- impl.shapeFits -/
theorem shapeFits_core (b off cap : Nat) (zs : List Int) (w : World) (hl : zs.length ≤ 1048576)
    (hc : ∀ i, i < zs.length → w.cell? ⟨b, off + i, none⟩ = some (.int .i64 (zs.getD i 0))) :
    Calls Try.prog 36 #[.slice (some ⟨b, off, none⟩) zs.length cap] w fun e w' => e = .returned (.bool (Pl.fitsB zs)) ∧ w' = w := by
  have hpr := cellCount_core b off cap zs w
  have HC := hc
  generalize hn : zs.length = n at *
  have Hn : Hid (zs.length = n) := hn
  have Hp : Hid _ := hpr
  have HC' : Hid _ := HC
  clear hn hpr HC
  by_cases h3 : n ≤ 3
  · go_enter Try.func36, Try.ntmps36
    go_wp2
    go_loop [4, 10] (fun _ i => ∃ k : Nat, k ≤ n ∧ i = .int .i64 k ∧ (zs.take k).all Pl.inR = true) (fun _ i => n - (intOf i).toNat)
    case atStart => exact ⟨0, Nat.zero_le _, rfl, rfl⟩
    case round =>
      obtain ⟨k, hk, rfl, hall⟩ := hrel
      by_cases hlt : k < n
      · have hck := hc k hlt
        have HS : Hid ((zs.take (k + 1)).all Pl.inR = ((zs.take k).all Pl.inR && Pl.inR (zs.getD k 0))) := Pl.all_snoc zs Pl.inR k (by rw [Hn.out]; exact hlt)
        have HF : Hid (Pl.inR (zs.getD k 0) = false → zs.all Pl.inR = false) := Pl.all_false (by rw [Hn.out]; exact hlt)
        have HA : Hid ((zs.take k).all Pl.inR = true) := hall
        generalize zs.getD k 0 = x at *
        clear hc hall
        by_cases hx0 : x < 0
        · go_wp2
          go_ret
          exact ⟨ret_bool (by have := HF.out (by simp [Pl.inR]; omega); simp [Pl.fitsB, Pl.baseB, this]), rfl⟩
        · by_cases hx1 : 1000 < x
          · go_wp2
            go_ret
            exact ⟨ret_bool (by have := HF.out (by simp [Pl.inR]; omega); simp [Pl.fitsB, Pl.baseB, this]), rfl⟩
          · go_wp2
            go_round
            case rel => exact ⟨k + 1, by omega, by go_num, by rw [HS.out, HA.out]; simp [Pl.inR]; omega⟩
            case measure => simp [intOf]; omega
      · have HA : Hid ((zs.take k).all Pl.inR = true) := hall
        clear hall
        have HA' : Hid (Pl.baseB zs = true) := by
          have := HA.out
          rw [List.take_of_length_le (by rw [Hn.out]; omega)] at this
          show _ = _
          simp [Pl.baseB, this, Hn.out, h3]
        clear HA
        go_wp2_with (go_at_call 37; refine (Hp.out HA'.out HC'.out).mono ?_; rintro e w' ⟨rfl, rfl⟩)
        go_ret
        exact ⟨ret_bool (by rw [Pl.fits_eq, HA'.out]; rfl), rfl⟩
  · have h3' : 3 < n := by omega
    go_enter Try.func36, Try.ntmps36
    go_wp2
    go_ret
    exact ⟨ret_bool (by simp [Pl.fitsB, Pl.baseB, Hn.out]; omega), rfl⟩

theorem shapeFits_nil (ao : Option Addr) (cap : Nat) (w : World) :
    Calls Try.prog 36 #[.slice ao 0 cap] w fun e w' => e = .returned (.bool true) ∧ w' = w := by
  go_enter Try.func36, Try.ntmps36
  go_wp2
  go_loop [4, 10] (fun _ i => i = .int .i64 0) (fun _ _ => 0)
  case atStart => exact rfl
  case round =>
    obtain rfl := hrel
    go_wp2_with (go_at_call 37; refine (cellCount_nil ao cap _).mono ?_; rintro e w' ⟨rfl, rfl⟩)
    go_ret
    exact ⟨rfl, rfl⟩

theorem shapeFits_any (B : Nat) (v : Value) (zs : List Int) (w : World) (hl : zs.length ≤ 1048576) (h : Rd B w v zs) :
    Calls Try.prog 36 #[v] w fun e w' => e = .returned (.bool (Pl.fitsB zs)) ∧ w' = w := by
  obtain ⟨ao, cap, rfl, h⟩ := h
  rcases h with h | ⟨b, off, _, rfl, hc⟩
  · obtain rfl := List.length_eq_zero_iff.1 h
    exact shapeFits_nil ao cap w
  · exact shapeFits_core b off cap zs w hl hc

end Go.Proofs.Ytmobjomebmipdaa
