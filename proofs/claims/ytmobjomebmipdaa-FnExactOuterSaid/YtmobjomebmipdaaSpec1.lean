import Derived.Test.YtmobjomebmipdaaFace1b
namespace Go.Proofs.Ytmobjomebmipdaa
open Go.RowKit
set_option linter.unusedVariables false

/-- spec.l2Bool -/
theorem l2Bool_any (q : Bool) (w : World) : Calls Try.prog 66 #[.bool q] w fun e w' => e = .returned (.int .i64 (if q = true then 1 else 0)) ∧ w' = w := by
  cases q
  · go_enter Try.func66, Try.ntmps66
    go_wp2
    go_ret
    exact ⟨rfl, rfl⟩
  · go_enter Try.func66, Try.ntmps66
    go_wp2
    go_ret
    exact ⟨rfl, rfl⟩

/-- spec.l2One -/
theorem l2One_1 (x : Int) (w : World) (h0 : -3000000000 ≤ x) (h1 : x ≤ 3000000000) : Calls Try.prog 41 #[.int .i64 1, .int .i64 x] w fun e w' => e = .returned (.tuple #[.int .i64 (Pl.oneM 1 x).1, .int .i64 (Pl.oneM 1 x).2]) ∧ w' = w := by
  go_enter Try.func41, Try.ntmps41
  go_wp2
  go_ret2
  exact ⟨rfl, rfl⟩
theorem l2One_2 (x : Int) (w : World) (h0 : -3000000000 ≤ x) (h1 : x ≤ 3000000000) : Calls Try.prog 41 #[.int .i64 2, .int .i64 x] w fun e w' => e = .returned (.tuple #[.int .i64 (Pl.oneM 2 x).1, .int .i64 (Pl.oneM 2 x).2]) ∧ w' = w := by
  have e : (Pl.oneM 2 x) = (max x (-x), 0) := rfl
  rw [e]
  by_cases h : x < 0
  · have e : max x (-x) = -x := by omega
    simp only [e]
    go_enter Try.func41, Try.ntmps41
    go_wp2
    go_ret2
    exact ⟨rfl, rfl⟩
  · have e : max x (-x) = x := by omega
    simp only [e]
    go_enter Try.func41, Try.ntmps41
    go_wp2
    go_ret2
    exact ⟨rfl, rfl⟩
theorem l2One_3 (x : Int) (w : World) (h0 : -3000000000 ≤ x) (h1 : x ≤ 3000000000) : Calls Try.prog 41 #[.int .i64 3, .int .i64 x] w fun e w' => e = .returned (.tuple #[.int .i64 (Pl.oneM 3 x).1, .int .i64 (Pl.oneM 3 x).2]) ∧ w' = w := by
  by_cases h : x < 0
  · have g : ¬ 0 < x := by omega
    have e : Pl.oneM 3 x = (-1, 0) := by show Pl.signM x = _; unfold Pl.signM; rw [if_pos h]
    rw [e]
    go_enter Try.func41, Try.ntmps41
    go_wp2
    go_ret2
    exact ⟨rfl, rfl⟩
  · by_cases g : 0 < x
    · have e : Pl.oneM 3 x = (1, 0) := by show Pl.signM x = _; unfold Pl.signM; rw [if_neg h, if_pos g]
      rw [e]
      go_enter Try.func41, Try.ntmps41
      go_wp2
      go_ret2
      exact ⟨rfl, rfl⟩
    · have e : Pl.oneM 3 x = (0, 0) := by show Pl.signM x = _; unfold Pl.signM; rw [if_neg h, if_neg g]
      rw [e]
      go_enter Try.func41, Try.ntmps41
      go_wp2
      go_ret2
      exact ⟨rfl, rfl⟩
theorem l2One_4 (x : Int) (w : World) (h0 : -3000000000 ≤ x) (h1 : x ≤ 3000000000) : Calls Try.prog 41 #[.int .i64 4, .int .i64 x] w fun e w' => e = .returned (.tuple #[.int .i64 (Pl.oneM 4 x).1, .int .i64 (Pl.oneM 4 x).2]) ∧ w' = w := by
  by_cases h : x = 0
  · subst h
    go_enter Try.func41, Try.ntmps41
    go_wp2
    go_ret2
    exact ⟨rfl, rfl⟩
  · by_cases g : x = 1
    · subst g
      go_enter Try.func41, Try.ntmps41
      go_wp2
      go_ret2
      exact ⟨rfl, rfl⟩
    · have e : Pl.oneM 4 x = (0, 1) := by show Pl.notM x = _; unfold Pl.notM; rw [if_neg (by omega)]
      rw [e]
      have e0 : (x != 0) = true := by rw [bne_iff_ne]; exact h
      have e1 : (x != 1) = true := by rw [bne_iff_ne]; exact g
      clear h g e
      go_enter Try.func41, Try.ntmps41
      go_wp2
      go_ret2
      exact ⟨rfl, rfl⟩

theorem l2One_any (op x : Int) (w : World) (h : 1 ≤ op) (h' : op < 5) (h0 : -3000000000 ≤ x) (h1 : x ≤ 3000000000) : Calls Try.prog 41 #[.int .i64 op, .int .i64 x] w fun e w' => e = .returned (.tuple #[.int .i64 (Pl.oneM op x).1, .int .i64 (Pl.oneM op x).2]) ∧ w' = w := by
  have hk : op = 1 ∨ op = 2 ∨ op = 3 ∨ op = 4 := by omega
  rcases hk with rfl | rfl | rfl | rfl
  · exact l2One_1 x w h0 h1
  · exact l2One_2 x w h0 h1
  · exact l2One_3 x w h0 h1
  · exact l2One_4 x w h0 h1

/-- '[]int{}' -/
theorem owns_empty (w : World) (base : Nat) (hb : base ≤ w.heap.size) : (w.alloc (.cells #[] 3)).ownsRow base 3 1 (.slice (some ⟨w.heap.size, 0, none⟩) 0 0) 0 (([] : List Int).map (Value.int .i64)) :=
  World.ownsRow_lit w #[] 0 hb (by unfold maxLen; omega) rfl

/-- spec.l2Copy -/
theorem l2Copy_any (u : Value) (xs : List Int) (w : World) (hl : xs.length ≤ 1048576) (h0 : Rd w.heap.size w u xs) :
    Calls Try.prog 40 #[u] w fun e w' => ∃ v, e = .returned v ∧ w'.ownsRow w.heap.size 3 1 v xs.length (xs.map (Value.int .i64)) ∧ Below w.heap.size w w' := by
  have H := hideP h0
  obtain ⟨a0, d0, e0⟩ := h0.form
  subst e0
  clear h0
  go_enter Try.func40, Try.ntmps40
  have A : Hid (Below w.heap.size w (w.alloc (.cells #[] 3))) := (Below.refl _ _).alloc (Nat.le_refl _) _
  have RD := hideP (H.out.keep A.out)
  have OE := hideP (owns_empty w w.heap.size (Nat.le_refl _))
  go_wp2_with (at_builtin; refine wpList_append_rd _ rfl _ _ rfl _ _ rfl rfl 0 [] xs OE.out RD.out (by omega) (by simp) ?_)
  intro v' w' ho hb
  have HO : Hid (w'.ownsRow w.heap.size 3 1 v' xs.length (xs.map (Value.int .i64))) := by
    first | exact ho | (have := ho; rw [Nat.zero_add, List.nil_append] at this; exact this)
  have HB := hideP (A.out.trans hb)
  clear ho hb
  go_wp2_with fail
  go_ret
  exact ⟨_, rfl, HO.out, HB.out⟩

set_option maxRecDepth 100000 in
set_option maxHeartbeats 1000000 in
/-- spec.Each1: a number that is none -/
theorem spec1_op (op : Int) (v0 v1 : Value) (sh da : List Int) (w : World) (h0 : Rd w.heap.size w v0 sh) (h1 : Rd w.heap.size w v1 da) (hop : op < 1 ∨ 5 ≤ op) :
    Calls Try.prog 16 #[.int .i64 op, .agg #[v0, v1]] w (FPost w 9 [] []) := by
  obtain ⟨a0, d0, e0⟩ := h0.form
  obtain ⟨a1, d1, e1⟩ := h1.form
  subst e0
  subst e1
  clear h0 h1
  have B : Hid (∀ o o', Below w.heap.size w ((w.alloc o).alloc o')) := fun o o' => ((Below.refl _ _).alloc (Nat.le_refl _) _).alloc (by simp) _
  rcases hop with h | h
  · go_enter Try.func16, Try.ntmps16
    go_wp2_with fail
    refine bodyPost_ret (v := .tuple #[.agg #[.slice none 0 0, .slice none 0 0], .int .i64 9]) (by simp [results, Try.results16, go_sem]) rfl ⟨B.out _ _, _, _, rfl, Own.nil _ _, Own.nil _ _, .inl rfl⟩
  · have g : ¬ op < 1 := by omega
    have h' : 4 < op := by omega
    go_enter Try.func16, Try.ntmps16
    go_wp2_with fail
    refine bodyPost_ret (v := .tuple #[.agg #[.slice none 0 0, .slice none 0 0], .int .i64 9]) (by simp [results, Try.results16, go_sem]) rfl ⟨B.out _ _, _, _, rfl, Own.nil _ _, Own.nil _ _, .inl rfl⟩

set_option maxRecDepth 100000 in
set_option maxHeartbeats 1000000 in
/-- spec.Each1: the array is not valid -/
theorem spec1_bad (op : Int) (v0 v1 : Value) (sh da : List Int) (w : World) (hl0 : sh.length ≤ 1048576) (hl1 : da.length ≤ 1048576) (h0 : Rd w.heap.size w v0 sh) (h1 : Rd w.heap.size w v1 da) (hop : 1 ≤ op) (hop' : op < 5) (hok : Pl.okB sh da = false) :
    Calls Try.prog 16 #[.int .i64 op, .agg #[v0, v1]] w (FPost w 9 [] []) := by
  have B : Hid (∀ o o', Below w.heap.size w ((w.alloc o).alloc o')) := fun o o' => ((Below.refl _ _).alloc (Nat.le_refl _) _).alloc (by simp) _
  have K : Hid (∀ o o', Calls Try.prog 12 #[.agg #[v0, v1]] ((w.alloc o).alloc o') fun e w' => e = .returned (.bool false) ∧ Below ((w.alloc o).alloc o').heap.size ((w.alloc o).alloc o') w') := fun o o' => by
    have := specOk_any v0 v1 sh da ((w.alloc o).alloc o') hl0 hl1 ((h0.keep (B.out _ _)).up (by simp; omega)) ((h1.keep (B.out _ _)).up (by simp; omega))
    rw [hok] at this; exact this
  obtain ⟨a0, d0, e0⟩ := h0.form
  obtain ⟨a1, d1, e1⟩ := h1.form
  subst e0
  subst e1
  clear h0 h1 hok
  have g1 : ¬ op < 1 := by omega
  have g2 : ¬ 4 < op := by omega
  go_enter Try.func16, Try.ntmps16
  go_wp2_with fail
  refine (K.out _ _).mono ?_
  rintro e w1 ⟨rfl, hb1⟩
  have B1 := hideP ((B.out _ _).trans (hb1.mono (by simp; omega)))
  have hs := hb1.size
  simp at hs
  obtain ⟨hc, hf⟩ := bcell hb1
  have r0 : w1.cell? ⟨w.heap.size + 1, 0, none⟩ = some (.slice none 0 0) := by rw [hc (w.heap.size + 1) 0 (by simp)]; simp [go_sem]
  have r1 : w1.cell? ⟨w.heap.size + 1, 1, none⟩ = some (.slice none 0 0) := by rw [hc (w.heap.size + 1) 1 (by simp)]; simp [go_sem]
  have f3 : ∀ o, w1.frozen? ⟨w.heap.size + 1, o, none⟩ = false := fun o => by rw [hf (w.heap.size + 1) o (by simp)]; simp [go_sem]
  clear hc hf hb1
  go_wp2_with fail
  refine bodyPost_ret (v := .tuple #[.agg #[.slice none 0 0, .slice none 0 0], .int .i64 9]) (by simp [results, Try.results16, go_sem, r0, r1]) rfl ⟨(B1.out.setCell (by simp) _).setCell (by simp) _, _, _, rfl, Own.nil _ _, Own.nil _ _, .inl rfl⟩

end Go.Proofs.Ytmobjomebmipdaa
