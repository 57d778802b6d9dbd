import Derived.Test.YtmobjomebmipdaaSpec1
import Derived.Test.YtmobjomebmipdaaOps
namespace Go.Proofs.Ytmobjomebmipdaa
open Go.RowKit
set_option linter.unusedVariables false

/-- spec.l2In -/
theorem l2In_any (v : Int) (w : World) : Calls Try.prog 134 #[.int .i64 v] w fun e w' => e = .returned (.tuple #[.int .i64 (Pl.inM v).1, .int .i64 (Pl.inM v).2]) ∧ w' = w := by
  by_cases h : -3000000000 ≤ v
  · by_cases h' : v ≤ 3000000000
    · have e : Pl.inM v = (v, 0) := by unfold Pl.inM; rw [if_pos ⟨h, h'⟩]
      rw [e]
      go_enter Try.func134, Try.ntmps134
      go_wp2
      go_ret2
      exact ⟨rfl, rfl⟩
    · have e : Pl.inM v = (0, 5) := by unfold Pl.inM; rw [if_neg (fun h => h' h.2)]
      rw [e]
      go_enter Try.func134, Try.ntmps134
      go_wp2
      go_ret2
      exact ⟨rfl, rfl⟩
  · have e : Pl.inM v = (0, 5) := by unfold Pl.inM; rw [if_neg (fun g => h g.1)]
    rw [e]
    go_enter Try.func134, Try.ntmps134
    go_wp2
    go_ret2
    exact ⟨rfl, rfl⟩

/-- spec.l2Floor -/
theorem l2Floor_any (x y : Int) (w : World) (h0 : -3000000000 ≤ x) (h1 : x ≤ 3000000000) (hy : ¬ y = 0) : Calls Try.prog 135 #[.int .i64 x, .int .i64 y] w fun e w' => e = .returned (.int .i64 (Pl.divM x y)) ∧ w' = w := by
  obtain ⟨b0, b1⟩ := Pl.tdiv_bd (y := y) h0 h1
  obtain ⟨c0, c1⟩ := Pl.tmod_bd (y := y) h0 h1
  have E := hideP (show Pl.divM x y = if ((x.tmod y != 0) && (decide (x < 0) != decide (y < 0))) = true then x.tdiv y - 1 else x.tdiv y from rfl)
  have hq := Pl.q_eq x y
  have hqm := Pl.tdiv_mul x y
  have d0 : -6000000000 ≤ x.tdiv y * y := by rw [hqm]; omega
  have d1 : x.tdiv y * y ≤ 6000000000 := by rw [hqm]; omega
  have hy' : (y == 0) = false := by simp [hy]
  clear h0 h1 hqm
  by_cases hm : (x.tmod y != 0) = true
  · rw [hm] at hq
    by_cases hs : (decide (x < 0) != decide (y < 0)) = true
    · have Q := hideP (show (if ((x.tmod y != 0) && (decide (x < 0) != decide (y < 0))) = true then x.tdiv y - 1 else x.tdiv y) = x.tdiv y - 1 by rw [if_pos (by rw [hm, hs]; rfl)])
      have hs2 : (!(decide (x < 0) == decide (y < 0))) = true := hs
      clear hs hm
      go_enter Try.func135, Try.ntmps135
      go_wp2
      go_ret
      exact ⟨ret_int (by rw [E.out, Q.out]), rfl⟩
    · have hs' : (decide (x < 0) != decide (y < 0)) = false := by simpa using hs
      have Q := hideP (show (if ((x.tmod y != 0) && (decide (x < 0) != decide (y < 0))) = true then x.tdiv y - 1 else x.tdiv y) = x.tdiv y by rw [if_neg (by rw [hm, hs']; decide)])
      have hs2 : (!(decide (x < 0) == decide (y < 0))) = false := hs'
      clear hs hs' hm
      go_enter Try.func135, Try.ntmps135
      go_wp2
      go_ret
      exact ⟨ret_int (by rw [E.out, Q.out]), rfl⟩
  · have hm' : (x.tmod y != 0) = false := by simpa using hm
    rw [hm'] at hq
    have Q := hideP (show (if ((x.tmod y != 0) && (decide (x < 0) != decide (y < 0))) = true then x.tdiv y - 1 else x.tdiv y) = x.tdiv y by rw [if_neg (by rw [hm']; simp)])
    clear hm hm'
    go_enter Try.func135, Try.ntmps135
    go_wp2
    go_ret
    exact ⟨ret_int (by rw [E.out, Q.out]), rfl⟩

theorem in_id {v : Int} (h0 : -3000000000 ≤ v) (h1 : v ≤ 3000000000) : Pl.inM v = (v, 0) := by unfold Pl.inM; rw [if_pos ⟨h0, h1⟩]

/-- spec.l2Two -/
theorem l2Two_1 (x y : Int) (w : World) (h0 : -3000000000 ≤ x) (h1 : x ≤ 3000000000) (h2 : -3000000000 ≤ y) (h3 : y ≤ 3000000000) : Calls Try.prog 79 #[.int .i64 1, .int .i64 x, .int .i64 y] w fun e w' => e = .returned (.tuple #[.int .i64 (Pl.twoM 1 x y).1, .int .i64 (Pl.twoM 1 x y).2]) ∧ w' = w := by
  have e : Pl.twoM 1 x y = Pl.inM (x + y) := rfl
  rw [e]
  clear e
  have K := hideP (l2In_any (x + y))
  generalize Pl.inM (x + y) = r at *
  go_enter Try.func79, Try.ntmps79
  go_wp2_with (go_at_call 134; refine (K.out _).mono ?_; rintro e w' ⟨rfl, rfl⟩)
  go_ret2
  exact ⟨rfl, rfl⟩
theorem l2Two_2 (x y : Int) (w : World) (h0 : -3000000000 ≤ x) (h1 : x ≤ 3000000000) (h2 : -3000000000 ≤ y) (h3 : y ≤ 3000000000) : Calls Try.prog 79 #[.int .i64 2, .int .i64 x, .int .i64 y] w fun e w' => e = .returned (.tuple #[.int .i64 (Pl.twoM 2 x y).1, .int .i64 (Pl.twoM 2 x y).2]) ∧ w' = w := by
  have e : Pl.twoM 2 x y = Pl.inM (x - y) := rfl
  rw [e]
  clear e
  have K := hideP (l2In_any (x - y))
  generalize Pl.inM (x - y) = r at *
  go_enter Try.func79, Try.ntmps79
  go_wp2_with (go_at_call 134; refine (K.out _).mono ?_; rintro e w' ⟨rfl, rfl⟩)
  go_ret2
  exact ⟨rfl, rfl⟩
theorem l2Two_3 (x y : Int) (w : World) (h0 : -3000000000 ≤ x) (h1 : x ≤ 3000000000) (h2 : -3000000000 ≤ y) (h3 : y ≤ 3000000000) : Calls Try.prog 79 #[.int .i64 3, .int .i64 x, .int .i64 y] w fun e w' => e = .returned (.tuple #[.int .i64 (Pl.twoM 3 x y).1, .int .i64 (Pl.twoM 3 x y).2]) ∧ w' = w := by
  have e : Pl.twoM 3 x y = Pl.inM (x * y) := rfl
  rw [e]
  clear e
  have K := hideP (l2In_any (x * y))
  obtain ⟨b0, b1⟩ := Pl.mul_bd2 h0 h1 h2 h3
  generalize Pl.inM (x * y) = r at *
  go_enter Try.func79, Try.ntmps79
  go_wp2_with (go_at_call 134; refine (K.out _).mono ?_; rintro e w' ⟨rfl, rfl⟩)
  go_ret2
  exact ⟨rfl, rfl⟩
theorem l2Two_4 (x y : Int) (w : World) (h0 : -3000000000 ≤ x) (h1 : x ≤ 3000000000) (h2 : -3000000000 ≤ y) (h3 : y ≤ 3000000000) : Calls Try.prog 79 #[.int .i64 4, .int .i64 x, .int .i64 y] w fun e w' => e = .returned (.tuple #[.int .i64 (Pl.twoM 4 x y).1, .int .i64 (Pl.twoM 4 x y).2]) ∧ w' = w := by
  have e : Pl.twoM 4 x y = if y = 0 then (0, 1) else (Pl.divM x y, 0) := rfl
  rw [e]
  clear e
  by_cases hy : y = 0
  · rw [if_pos hy]
    subst hy
    go_enter Try.func79, Try.ntmps79
    go_wp2_with fail
    go_ret2
    exact ⟨rfl, rfl⟩
  · rw [if_neg hy]
    have F := hideP (fun w => l2Floor_any x y w h0 h1 hy)
    obtain ⟨b0, b1⟩ := Pl.div_bd hy h0 h1
    have K : Hid (∀ w, Calls Try.prog 134 #[.int .i64 (Pl.divM x y)] w fun e w' => e = .returned (.tuple #[.int .i64 (Pl.divM x y), .int .i64 0]) ∧ w' = w) := fun w => by
      have := l2In_any (Pl.divM x y) w
      rw [in_id b0 b1] at this
      exact this
    have hy' : (y == 0) = false := by simp [hy]
    generalize Pl.divM x y = q at *
    go_enter Try.func79, Try.ntmps79
    go_wp2_with (first | (go_at_call 135; refine (F.out _).mono ?_; rintro e w' ⟨rfl, rfl⟩) | (go_at_call 134; refine (K.out _).mono ?_; rintro e w' ⟨rfl, rfl⟩))
    go_ret2
    exact ⟨rfl, rfl⟩
theorem l2Two_5 (x y : Int) (w : World) (h0 : -3000000000 ≤ x) (h1 : x ≤ 3000000000) (h2 : -3000000000 ≤ y) (h3 : y ≤ 3000000000) : Calls Try.prog 79 #[.int .i64 5, .int .i64 x, .int .i64 y] w fun e w' => e = .returned (.tuple #[.int .i64 (Pl.twoM 5 x y).1, .int .i64 (Pl.twoM 5 x y).2]) ∧ w' = w := by
  have e : Pl.twoM 5 x y = if y = 0 then (x, 0) else (Pl.modM x y, 0) := rfl
  rw [e]
  clear e
  by_cases hy : y = 0
  · rw [if_pos hy]
    subst hy
    go_enter Try.func79, Try.ntmps79
    go_wp2_with fail
    go_ret2
    exact ⟨rfl, rfl⟩
  · rw [if_neg hy]
    have F := hideP (fun w => l2Floor_any x y w h0 h1 hy)
    obtain ⟨b0, b1⟩ := Pl.mod_bd hy h0 h1 h2 h3
    obtain ⟨c0, c1⟩ := Pl.ymul_bd hy h0 h1 h2 h3
    have K : Hid (∀ w, Calls Try.prog 134 #[.int .i64 (x - y * Pl.divM x y)] w fun e w' => e = .returned (.tuple #[.int .i64 (Pl.modM x y), .int .i64 0]) ∧ w' = w) := fun w => by
      have := l2In_any (Pl.modM x y) w
      rw [in_id b0 b1] at this
      exact this
    have E : Pl.modM x y = x - y * Pl.divM x y := rfl
    rw [E] at b0 b1
    clear E
    have hy' : (y == 0) = false := by simp [hy]
    generalize Pl.modM x y = m at *
    generalize Pl.divM x y = q at *
    go_enter Try.func79, Try.ntmps79
    go_wp2_with (first | (go_at_call 135; refine (F.out _).mono ?_; rintro e w' ⟨rfl, rfl⟩) | (go_at_call 134; refine (K.out _).mono ?_; rintro e w' ⟨rfl, rfl⟩))
    go_ret2
    exact ⟨rfl, rfl⟩
theorem l2Two_6 (x y : Int) (w : World) : Calls Try.prog 79 #[.int .i64 6, .int .i64 x, .int .i64 y] w fun e w' => e = .returned (.tuple #[.int .i64 (Pl.twoM 6 x y).1, .int .i64 (Pl.twoM 6 x y).2]) ∧ w' = w := by
  have e : Pl.twoM 6 x y = (min x y, 0) := rfl
  rw [e]
  clear e
  by_cases h : x < y
  · have e : min x y = x := by omega
    rw [e]
    clear e
    go_enter Try.func79, Try.ntmps79
    go_wp2_with fail
    go_ret2
    exact ⟨rfl, rfl⟩
  · have e : min x y = y := by omega
    rw [e]
    clear e
    go_enter Try.func79, Try.ntmps79
    go_wp2_with fail
    go_ret2
    exact ⟨rfl, rfl⟩
theorem l2Two_7 (x y : Int) (w : World) : Calls Try.prog 79 #[.int .i64 7, .int .i64 x, .int .i64 y] w fun e w' => e = .returned (.tuple #[.int .i64 (Pl.twoM 7 x y).1, .int .i64 (Pl.twoM 7 x y).2]) ∧ w' = w := by
  have e : Pl.twoM 7 x y = (max x y, 0) := rfl
  rw [e]
  clear e
  by_cases h : x < y
  · have e : max x y = y := by omega
    rw [e]
    clear e
    go_enter Try.func79, Try.ntmps79
    go_wp2_with fail
    go_ret2
    exact ⟨rfl, rfl⟩
  · have e : max x y = x := by omega
    rw [e]
    clear e
    go_enter Try.func79, Try.ntmps79
    go_wp2_with fail
    go_ret2
    exact ⟨rfl, rfl⟩
theorem l2Two_8 (x y : Int) (w : World) : Calls Try.prog 79 #[.int .i64 8, .int .i64 x, .int .i64 y] w fun e w' => e = .returned (.tuple #[.int .i64 (Pl.twoM 8 x y).1, .int .i64 (Pl.twoM 8 x y).2]) ∧ w' = w := by
  have K : Hid (∀ q w, Calls Try.prog 66 #[.bool q] w fun e w' => e = .returned (.int .i64 (Pl.boolM q)) ∧ w' = w) := l2Bool_any
  go_enter Try.func79, Try.ntmps79
  go_wp2_with (go_at_call 66; refine (K.out _ _).mono ?_; rintro e w' ⟨rfl, rfl⟩)
  go_ret2
  exact ⟨rfl, rfl⟩
theorem l2Two_9 (x y : Int) (w : World) : Calls Try.prog 79 #[.int .i64 9, .int .i64 x, .int .i64 y] w fun e w' => e = .returned (.tuple #[.int .i64 (Pl.twoM 9 x y).1, .int .i64 (Pl.twoM 9 x y).2]) ∧ w' = w := by
  have K : Hid (∀ q w, Calls Try.prog 66 #[.bool q] w fun e w' => e = .returned (.int .i64 (Pl.boolM q)) ∧ w' = w) := l2Bool_any
  go_enter Try.func79, Try.ntmps79
  go_wp2_with (go_at_call 66; refine (K.out _ _).mono ?_; rintro e w' ⟨rfl, rfl⟩)
  go_ret2
  exact ⟨rfl, rfl⟩
theorem l2Two_10 (x y : Int) (w : World) : Calls Try.prog 79 #[.int .i64 10, .int .i64 x, .int .i64 y] w fun e w' => e = .returned (.tuple #[.int .i64 (Pl.twoM 10 x y).1, .int .i64 (Pl.twoM 10 x y).2]) ∧ w' = w := by
  have K : Hid (∀ q w, Calls Try.prog 66 #[.bool q] w fun e w' => e = .returned (.int .i64 (Pl.boolM q)) ∧ w' = w) := l2Bool_any
  go_enter Try.func79, Try.ntmps79
  go_wp2_with (go_at_call 66; refine (K.out _ _).mono ?_; rintro e w' ⟨rfl, rfl⟩)
  go_ret2
  exact ⟨rfl, rfl⟩

theorem l2Two_any (k : Nat) (x y : Int) (w : World) (hk0 : 1 ≤ k) (hk1 : k < 11) (h0 : -3000000000 ≤ x) (h1 : x ≤ 3000000000) (h2 : -3000000000 ≤ y) (h3 : y ≤ 3000000000) :
    Calls Try.prog 79 #[.int .i64 (k : Int), .int .i64 x, .int .i64 y] w fun e w' => e = .returned (.tuple #[.int .i64 (Pl.twoM k x y).1, .int .i64 (Pl.twoM k x y).2]) ∧ w' = w := by
  have hk : k = 1 ∨ k = 2 ∨ k = 3 ∨ k = 4 ∨ k = 5 ∨ k = 6 ∨ k = 7 ∨ k = 8 ∨ k = 9 ∨ k = 10 := by omega
  rcases hk with rfl | rfl | rfl | rfl | rfl | rfl | rfl | rfl | rfl | rfl
  · exact l2Two_1 x y w h0 h1 h2 h3
  · exact l2Two_2 x y w h0 h1 h2 h3
  · exact l2Two_3 x y w h0 h1 h2 h3
  · exact l2Two_4 x y w h0 h1 h2 h3
  · exact l2Two_5 x y w h0 h1 h2 h3
  · exact l2Two_6 x y w
  · exact l2Two_7 x y w
  · exact l2Two_8 x y w
  · exact l2Two_9 x y w
  · exact l2Two_10 x y w

end Go.Proofs.Ytmobjomebmipdaa
