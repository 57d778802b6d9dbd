namespace Go.Proofs.Ytmobjomebmipdaa.Pl
def divM (x y : Int) : Int := if ((x.tmod y != 0) && (decide (x < 0) != decide (y < 0))) = true then x.tdiv y - 1 else x.tdiv y
def modM (x y : Int) : Int := x - y * divM x y
def inM (v : Int) : Int × Int := if -3000000000 ≤ v ∧ v ≤ 3000000000 then (v, 0) else (0, 5)
def boolM (b : Bool) : Int := if b = true then 1 else 0
def twoM (op x y : Int) : Int × Int :=
  if op = 1 then inM (x + y) else if op = 2 then inM (x - y) else if op = 3 then inM (x * y)
  else if op = 4 then (if y = 0 then (0, 1) else (divM x y, 0)) else if op = 5 then (if y = 0 then (x, 0) else (modM x y, 0))
  else if op = 6 then (min x y, 0) else if op = 7 then (max x y, 0) else if op = 8 then (boolM (decide (x < y)), 0) else if op = 9 then (boolM (x == y), 0) else (boolM (decide (y < x)), 0)

theorem tdiv_bd {x y M : Int} (h0 : -M ≤ x) (h1 : x ≤ M) : -M ≤ x.tdiv y ∧ x.tdiv y ≤ M := by
  have h : (x.tdiv y).natAbs ≤ x.natAbs := by rw [Int.natAbs_tdiv]; exact Nat.div_le_self _ _
  omega
theorem tmod_bd {x y M : Int} (h0 : -M ≤ x) (h1 : x ≤ M) : -M ≤ x.tmod y ∧ x.tmod y ≤ M := by
  have h : (x.tmod y).natAbs ≤ x.natAbs := by rw [Int.natAbs_tmod]; exact Nat.mod_le _ _
  omega
theorem mul_tdiv (x y : Int) : y * x.tdiv y = x - x.tmod y := by
  have := Int.mul_tdiv_add_tmod x y
  omega
theorem tdiv_mul (x y : Int) : x.tdiv y * y = x - x.tmod y := by rw [Int.mul_comm]; exact mul_tdiv x y
theorem tmod_lt (x y : Int) (h : y ≠ 0) : (x.tmod y).natAbs < y.natAbs := by rw [Int.natAbs_tmod]; exact Nat.mod_lt _ (by omega)
theorem tmod_sign (x y : Int) : (0 ≤ x → 0 ≤ x.tmod y) ∧ (x ≤ 0 → x.tmod y ≤ 0) := by
  refine ⟨fun h => Int.tmod_nonneg y h, fun h => ?_⟩
  have := Int.tmod_nonneg y (show 0 ≤ -x by omega)
  rw [Int.neg_tmod] at this
  omega
theorem q_eq (x y : Int) : (x.tdiv y * y != x) = (x.tmod y != 0) := by
  rw [tdiv_mul]
  rw [Bool.eq_iff_iff]
  simp only [bne_iff_ne]
  omega
theorem mod_eq (x y : Int) : modM x y = if ((x.tmod y != 0) && (decide (x < 0) != decide (y < 0))) = true then x.tmod y + y else x.tmod y := by
  unfold modM divM
  split
  · rw [Int.mul_sub, mul_tdiv]; omega
  · rw [mul_tdiv]; omega
theorem mod_bd {x y M : Int} (hy : y ≠ 0) (h0 : -M ≤ x) (h1 : x ≤ M) (h2 : -M ≤ y) (h3 : y ≤ M) : -M ≤ modM x y ∧ modM x y ≤ M := by
  rw [mod_eq]
  have a := tmod_lt x y hy
  have b := tmod_sign x y
  split
  · rename_i h
    simp only [Bool.and_eq_true, bne_iff_ne] at h
    by_cases hx : x < 0
    · have : ¬ y < 0 := by intro hy'; exact h.2 (by simp [hx, hy'])
      have := b.2 (by omega)
      omega
    · have : y < 0 := by
        apply Classical.byContradiction
        intro hy'
        exact h.2 (by simp [hx, hy'])
      have := b.1 (by omega)
      omega
  · omega
theorem ymul_bd {x y M : Int} (hy : y ≠ 0) (h0 : -M ≤ x) (h1 : x ≤ M) (h2 : -M ≤ y) (h3 : y ≤ M) : -(2 * M) ≤ y * divM x y ∧ y * divM x y ≤ 2 * M := by
  have := mod_bd hy h0 h1 h2 h3
  unfold modM at this
  omega
theorem div_bd {x y M : Int} (hy : y ≠ 0) (h0 : -M ≤ x) (h1 : x ≤ M) : -M ≤ divM x y ∧ divM x y ≤ M := by
  have a := tdiv_bd (y := y) h0 h1
  have hm := mul_tdiv x y
  have l := tmod_lt x y hy
  unfold divM
  split
  · rename_i h
    simp only [Bool.and_eq_true, bne_iff_ne] at h
    refine ⟨?_, by omega⟩
    -- the remainder is not 0, so the quotient is not the least
    have hq : (x.tdiv y).natAbs = x.natAbs / y.natAbs := Int.natAbs_tdiv x y
    have hr : (x.tmod y).natAbs = x.natAbs % y.natAbs := Int.natAbs_tmod x y
    have hne : x.natAbs % y.natAbs ≠ 0 := by omega
    have hy1 : y.natAbs ≠ 1 := by
      intro e
      rw [e] at hne
      omega
    have : x.natAbs / y.natAbs ≤ x.natAbs / 2 := Nat.div_le_div_left (by omega) (by omega)
    have : 1 ≤ x.natAbs := by
      apply Classical.byContradiction
      intro h
      have : x.natAbs = 0 := by omega
      rw [this] at hne
      simp at hne
    omega
  · exact a
theorem mul_bd2 {x y : Int} (h0 : -3000000000 ≤ x) (h1 : x ≤ 3000000000) (h2 : -3000000000 ≤ y) (h3 : y ≤ 3000000000) : -9000000000000000000 ≤ x * y ∧ x * y ≤ 9000000000000000000 := by
  have h : (x * y).natAbs ≤ 3000000000 * 3000000000 := by rw [Int.natAbs_mul]; exact Nat.mul_le_mul (by omega) (by omega)
  omega
theorem in_code (v : Int) : (inM v).2 = 0 ∨ (inM v).2 = 5 := by unfold inM; split <;> simp
end Go.Proofs.Ytmobjomebmipdaa.Pl
