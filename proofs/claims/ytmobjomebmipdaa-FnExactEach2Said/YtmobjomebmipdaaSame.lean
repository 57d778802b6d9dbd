import Derived.Test.YtmobjomebmipdaaSpec1b
import Derived.Test.YtmobjomebmipdaaTwo
namespace Go.Proofs.Ytmobjomebmipdaa
open Go.RowKit
set_option linter.unusedVariables false

/-- spec.l2OpOk -/
theorem opOk_any (op : Int) (w : World) : Calls Try.prog 49 #[.int .i64 op] w fun e w' => e = .returned (.bool (decide (1 ≤ op ∧ op < 11))) ∧ w' = w := by
  by_cases h : 1 ≤ op
  · by_cases h' : op ≤ 10
    · go_enter Try.func49, Try.ntmps49
      go_wp2
      go_ret
      exact ⟨ret_bool (by symm; rw [decide_eq_true_iff]; omega), rfl⟩
    · go_enter Try.func49, Try.ntmps49
      go_wp2
      go_ret
      exact ⟨ret_bool (by symm; simp; omega), rfl⟩
  · go_enter Try.func49, Try.ntmps49
    go_wp2
    go_ret
    exact ⟨ret_bool (by symm; simp; omega), rfl⟩

/-- impl.isScalar -/
theorem isScalar_any (v0 v1 : Value) (sh : List Int) (B : Nat) (w w0 : World) (h0 : Rd B w0 v0 sh) : Calls Try.prog 91 #[.agg #[v0, v1]] w fun e w' => e = .returned (.bool (decide (sh.length = 0))) ∧ Below w.heap.size w w' := by
  obtain ⟨a0, d0, rfl⟩ := h0.form
  clear h0
  generalize sh.length = n at *
  by_cases h : n = 0
  · subst h
    go_enter Try.func91, Try.ntmps91
    go_wp2_with fail
    go_ret
    exact ⟨rfl, (Below.refl _ _).alloc (Nat.le_refl _) _⟩
  · have e : ((n : Int) == 0) = false := by simp; omega
    have d : decide (n = 0) = false := by simp [h]
    rw [d]
    clear d h
    go_enter Try.func91, Try.ntmps91
    go_wp2_with fail
    go_ret
    exact ⟨rfl, (Below.refl _ _).alloc (Nat.le_refl _) _⟩

/-- spec.l2Same -/
theorem l2Same_core (b1 o1 c1 b2 o2 c2 : Nat) (xs ys : List Int) (w : World) (hl : xs.length ≤ 1048576) (hxy : xs.length = ys.length) (hb1 : b1 < w.heap.size) (hb2 : b2 < w.heap.size)
    (hc1 : ∀ i, i < xs.length → w.cell? ⟨b1, o1 + i, none⟩ = some (.int .i64 (xs.getD i 0))) (hc2 : ∀ i, i < xs.length → w.cell? ⟨b2, o2 + i, none⟩ = some (.int .i64 (ys.getD i 0))) :
    Calls Try.prog 67 #[.slice (some ⟨b1, o1, none⟩) xs.length c1, .slice (some ⟨b2, o2, none⟩) xs.length c2] w fun e w' => e = .returned (.bool (decide (xs = ys))) ∧ Below w.heap.size w w' := by
  generalize hn : xs.length = n at *
  have Hn : Hid (xs.length = n) := hn
  have Hm : Hid (ys.length = n) := hxy.symm
  clear hn hxy
  go_enter Try.func67, Try.ntmps67
  go_wp2
  go_loopw [5] (fun i wr => ∃ k : Nat, k ≤ n ∧ i = .int .i64 k ∧ Hid (xs.take k = ys.take k) ∧ Below w.heap.size w wr) (fun i _ => n - (intOf i).toNat)
  case atStart => exact ⟨0, Nat.zero_le _, rfl, rfl, Below.refl _ _⟩
  case round =>
    obtain ⟨k, hk, rfl, hall, hbel⟩ := hrel
    by_cases hlt : k < n
    · have hck1 : wr.cell? ⟨b1, o1 + k, none⟩ = some (.int .i64 (xs.getD k 0)) := (hbel.cell (p := ⟨b1, o1 + k, none⟩) hb1).trans (hc1 k hlt)
      have hck2 : wr.cell? ⟨b2, o2 + k, none⟩ = some (.int .i64 (ys.getD k 0)) := (hbel.cell (p := ⟨b2, o2 + k, none⟩) hb2).trans (hc2 k hlt)
      have HX : Hid (xs.take (k + 1) = xs.take k ++ [xs.getD k 0]) := Pl.take_snoc xs k (by rw [Hn.out]; exact hlt)
      have HY : Hid (ys.take (k + 1) = ys.take k ++ [ys.getD k 0]) := Pl.take_snoc ys k (by rw [Hm.out]; exact hlt)
      have HE : Hid (xs = ys → xs.getD k 0 = ys.getD k 0) := fun h => by rw [h]
      have HB : Hid (Below w.heap.size w wr) := hbel
      generalize xs.getD k 0 = x at *
      generalize ys.getD k 0 = y at *
      clear hc1 hc2 hbel
      have hlt' : (k : Int) < (n : Int) := by omega
      by_cases hxy : x = y
      · have hne : (x != y) = false := by simp [hxy]
        have HXY : Hid (x = y) := hxy
        clear hxy
        go_wp2
        go_quiet (fail)
        go_wp2
        go_roundw
        case rel => exact ⟨k + 1, by omega, by go_num, by show _ = _; rw [HX.out, HY.out, hall.out, HXY.out], below_drewN HB.out _⟩
        case measure => simp [intOf]; omega
      · have hne : (x != y) = true := by simp [hxy]
        have HN : Hid (¬ x = y) := hxy
        clear hxy
        go_wp2
        go_quiet (fail)
        go_wp2
        go_ret
        exact ⟨ret_bool (by symm; rw [decide_eq_false_iff_not]; exact fun h => HN.out (HE.out h)), below_drewN HB.out _⟩
    · have R : Hid (xs = ys ∧ Below w.heap.size w wr) := by
        have := hall.out
        rw [List.take_of_length_le (by rw [Hn.out]; omega), List.take_of_length_le (by rw [Hm.out]; omega)] at this
        exact ⟨this, hbel⟩
      clear hbel hc1 hc2
      go_wp2
      go_ret
      exact ⟨ret_bool (by symm; rw [decide_eq_true_iff]; exact R.out.1), R.out.2⟩


theorem l2Same_lens (a1 a2 : Option Addr) (n1 c1 n2 c2 : Nat) (w : World) (h1 : n1 ≤ 1048576) (h2 : n2 ≤ 1048576) (h : ¬ n1 = n2) :
    Calls Try.prog 67 #[.slice a1 n1 c1, .slice a2 n2 c2] w fun e w' => e = .returned (.bool false) ∧ w' = w := by
  have hne : ((n1 : Int) != (n2 : Int)) = true := by rw [bne_iff_ne]; omega
  go_enter Try.func67, Try.ntmps67
  go_wp2
  go_ret
  exact ⟨rfl, rfl⟩

theorem l2Same_nil (a1 a2 : Option Addr) (c1 c2 : Nat) (w : World) :
    Calls Try.prog 67 #[.slice a1 0 c1, .slice a2 0 c2] w fun e w' => e = .returned (.bool true) ∧ w' = w := by
  go_enter Try.func67, Try.ntmps67
  go_wp2
  go_loopw [5] (fun i wr => i = .int .i64 0 ∧ wr = w) (fun _ _ => 0)
  case atStart => exact ⟨rfl, rfl⟩
  case round =>
    obtain ⟨rfl, rfl⟩ := hrel
    go_wp2
    go_ret
    exact ⟨rfl, rfl⟩

theorem l2Same_any (v1 v2 : Value) (xs ys : List Int) (w : World) (hl1 : xs.length ≤ 1048576) (hl2 : ys.length ≤ 1048576) (h1 : Rd w.heap.size w v1 xs) (h2 : Rd w.heap.size w v2 ys) :
    Calls Try.prog 67 #[v1, v2] w fun e w' => e = .returned (.bool (decide (xs = ys))) ∧ Below w.heap.size w w' := by
  obtain ⟨a1, c1, rfl, h1⟩ := h1
  obtain ⟨a2, c2, rfl, h2⟩ := h2
  by_cases hxy : xs.length = ys.length
  · rcases h1 with h1 | ⟨b1, o1, hb1, rfl, hc1⟩
    · obtain rfl := List.length_eq_zero_iff.1 h1
      obtain rfl := List.length_eq_zero_iff.1 hxy.symm
      refine (l2Same_nil a1 a2 c1 c2 w).mono ?_
      rintro e w' ⟨rfl, rfl⟩
      exact ⟨rfl, Below.refl _ _⟩
    · rcases h2 with h2 | ⟨b2, o2, hb2, rfl, hc2⟩
      · obtain rfl := List.length_eq_zero_iff.1 h2
        obtain rfl := List.length_eq_zero_iff.1 hxy
        refine (l2Same_nil _ a2 c1 c2 w).mono ?_
        rintro e w' ⟨rfl, rfl⟩
        exact ⟨rfl, Below.refl _ _⟩
      · rw [← hxy] at hc2 ⊢
        exact l2Same_core b1 o1 c1 b2 o2 c2 xs ys w hl1 hxy hb1 hb2 hc1 hc2
  · refine (l2Same_lens a1 a2 _ c1 _ c2 w hl1 hl2 hxy).mono ?_
    rintro e w' ⟨rfl, rfl⟩
    exact ⟨ret_bool (by symm; rw [decide_eq_false_iff_not]; intro h; exact hxy (by rw [h])), Below.refl _ _⟩


/-- slices.Equal -/
theorem slEq_core (b1 o1 c1 b2 o2 c2 : Nat) (xs ys : List Int) (w : World) (hl : xs.length ≤ 1048576) (hxy : xs.length = ys.length) (hb1 : b1 < w.heap.size) (hb2 : b2 < w.heap.size)
    (hc1 : ∀ i, i < xs.length → w.cell? ⟨b1, o1 + i, none⟩ = some (.int .i64 (xs.getD i 0))) (hc2 : ∀ i, i < xs.length → w.cell? ⟨b2, o2 + i, none⟩ = some (.int .i64 (ys.getD i 0))) :
    Calls Try.prog 94 #[.slice (some ⟨b1, o1, none⟩) xs.length c1, .slice (some ⟨b2, o2, none⟩) xs.length c2] w fun e w' => e = .returned (.bool (decide (xs = ys))) ∧ Below w.heap.size w w' := by
  generalize hn : xs.length = n at *
  have Hn : Hid (xs.length = n) := hn
  have Hm : Hid (ys.length = n) := hxy.symm
  clear hn hxy
  go_enter Try.func94, Try.ntmps94
  go_wp2
  go_loopw [5, 13] (fun _ i wr => ∃ k : Nat, k ≤ n ∧ i = .int .i64 k ∧ Hid (xs.take k = ys.take k) ∧ Below w.heap.size w wr) (fun _ i _ => n - (intOf i).toNat)
  case atStart => exact ⟨0, Nat.zero_le _, rfl, rfl, Below.refl _ _⟩
  case round =>
    obtain ⟨k, hk, rfl, hall, hbel⟩ := hrel
    by_cases hlt : k < n
    · have hck1 : wr.cell? ⟨b1, o1 + k, none⟩ = some (.int .i64 (xs.getD k 0)) := (hbel.cell (p := ⟨b1, o1 + k, none⟩) hb1).trans (hc1 k hlt)
      have hck2 : wr.cell? ⟨b2, o2 + k, none⟩ = some (.int .i64 (ys.getD k 0)) := (hbel.cell (p := ⟨b2, o2 + k, none⟩) hb2).trans (hc2 k hlt)
      have HX : Hid (xs.take (k + 1) = xs.take k ++ [xs.getD k 0]) := Pl.take_snoc xs k (by rw [Hn.out]; exact hlt)
      have HY : Hid (ys.take (k + 1) = ys.take k ++ [ys.getD k 0]) := Pl.take_snoc ys k (by rw [Hm.out]; exact hlt)
      have HE : Hid (xs = ys → xs.getD k 0 = ys.getD k 0) := fun h => by rw [h]
      have HB : Hid (Below w.heap.size w wr) := hbel
      generalize xs.getD k 0 = x at *
      generalize ys.getD k 0 = y at *
      clear hc1 hc2 hbel
      have hlt' : (k : Int) < (n : Int) := by omega
      by_cases hxy : x = y
      · have hne : (x != y) = false := by simp [hxy]
        have HXY : Hid (x = y) := hxy
        clear hxy
        go_wp2
        go_quiet (fail)
        go_wp2
        go_roundw
        case rel => exact ⟨k + 1, by omega, by go_num, by show _ = _; rw [HX.out, HY.out, hall.out, HXY.out], below_drewN HB.out _⟩
        case measure => simp [intOf]; omega
      · have hne : (x != y) = true := by simp [hxy]
        have HN : Hid (¬ x = y) := hxy
        clear hxy
        go_wp2
        go_quiet (fail)
        go_wp2
        go_ret
        exact ⟨ret_bool (by symm; rw [decide_eq_false_iff_not]; exact fun h => HN.out (HE.out h)), below_drewN HB.out _⟩
    · have R : Hid (xs = ys ∧ Below w.heap.size w wr) := by
        have := hall.out
        rw [List.take_of_length_le (by rw [Hn.out]; omega), List.take_of_length_le (by rw [Hm.out]; omega)] at this
        exact ⟨this, hbel⟩
      clear hbel hc1 hc2
      go_wp2
      go_ret
      exact ⟨ret_bool (by symm; rw [decide_eq_true_iff]; exact R.out.1), R.out.2⟩


theorem slEq_lens (a1 a2 : Option Addr) (n1 c1 n2 c2 : Nat) (w : World) (h1 : n1 ≤ 1048576) (h2 : n2 ≤ 1048576) (h : ¬ n1 = n2) :
    Calls Try.prog 94 #[.slice a1 n1 c1, .slice a2 n2 c2] w fun e w' => e = .returned (.bool false) ∧ w' = w := by
  have hne : ((n1 : Int) != (n2 : Int)) = true := by rw [bne_iff_ne]; omega
  go_enter Try.func94, Try.ntmps94
  go_wp2
  go_ret
  exact ⟨rfl, rfl⟩

theorem slEq_nil (a1 a2 : Option Addr) (c1 c2 : Nat) (w : World) :
    Calls Try.prog 94 #[.slice a1 0 c1, .slice a2 0 c2] w fun e w' => e = .returned (.bool true) ∧ w' = w := by
  go_enter Try.func94, Try.ntmps94
  go_wp2
  go_loopw [5, 13] (fun _ i wr => i = .int .i64 0 ∧ wr = w) (fun _ _ _ => 0)
  case atStart => exact ⟨rfl, rfl⟩
  case round =>
    obtain ⟨rfl, rfl⟩ := hrel
    go_wp2
    go_ret
    exact ⟨rfl, rfl⟩

theorem slEq_any (v1 v2 : Value) (xs ys : List Int) (w : World) (hl1 : xs.length ≤ 1048576) (hl2 : ys.length ≤ 1048576) (h1 : Rd w.heap.size w v1 xs) (h2 : Rd w.heap.size w v2 ys) :
    Calls Try.prog 94 #[v1, v2] w fun e w' => e = .returned (.bool (decide (xs = ys))) ∧ Below w.heap.size w w' := by
  obtain ⟨a1, c1, rfl, h1⟩ := h1
  obtain ⟨a2, c2, rfl, h2⟩ := h2
  by_cases hxy : xs.length = ys.length
  · rcases h1 with h1 | ⟨b1, o1, hb1, rfl, hc1⟩
    · obtain rfl := List.length_eq_zero_iff.1 h1
      obtain rfl := List.length_eq_zero_iff.1 hxy.symm
      refine (slEq_nil a1 a2 c1 c2 w).mono ?_
      rintro e w' ⟨rfl, rfl⟩
      exact ⟨rfl, Below.refl _ _⟩
    · rcases h2 with h2 | ⟨b2, o2, hb2, rfl, hc2⟩
      · obtain rfl := List.length_eq_zero_iff.1 h2
        obtain rfl := List.length_eq_zero_iff.1 hxy
        refine (slEq_nil _ a2 c1 c2 w).mono ?_
        rintro e w' ⟨rfl, rfl⟩
        exact ⟨rfl, Below.refl _ _⟩
      · rw [← hxy] at hc2 ⊢
        exact slEq_core b1 o1 c1 b2 o2 c2 xs ys w hl1 hxy hb1 hb2 hc1 hc2
  · refine (slEq_lens a1 a2 _ c1 _ c2 w hl1 hl2 hxy).mono ?_
    rintro e w' ⟨rfl, rfl⟩
    exact ⟨ret_bool (by symm; rw [decide_eq_false_iff_not]; intro h; exact hxy (by rw [h])), Below.refl _ _⟩

end Go.Proofs.Ytmobjomebmipdaa
