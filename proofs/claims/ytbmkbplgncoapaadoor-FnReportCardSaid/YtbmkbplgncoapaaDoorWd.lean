import Derived.Test.YtbmkbplgncoapaaDoorVk
namespace Go.Proofs.YtbmkbplgncoapaaDoor
open Go.RowKit Go.Sort
set_option linter.unusedVariables false

namespace Pl
/-- a verdict's word -/
def wordL (k c : Int) : List UInt8 := if k = 3 then [101, 114, 114, 111, 114, 32] ++ Lib.itoa c else if k = 1 then [112, 97, 115, 115] else if k = 2 then [102, 97, 105, 108] else if k = 4 then [102, 117, 101, 108] else [99, 101, 108, 108, 115]
def word (k c : Int) : ByteArray := ⟨(wordL k c).toArray⟩
theorem vB_range {k c : Int} (h : vB k c = true) : 1 ≤ k ∧ k ≤ 5 ∧ (k = 3 → 1 ≤ c ∧ c ≤ 99) := by
  unfold vB at h
  split at h
  · rename_i e
    have := of_decide_eq_true h
    exact ⟨by omega, by omega, fun _ => this⟩
  · rename_i e
    rw [Bool.and_eq_true] at h
    have := of_decide_eq_true h.1
    exact ⟨this.1, this.2, fun h3 => absurd h3 e⟩
theorem word_len {k c : Int} (h : vB k c = true) : (wordL k c).length ≤ 27 := by
  have := vB_range h
  unfold wordL
  split
  · rename_i e
    have h2 := this.2.2 e
    have h3 := Lib.itoa_length_le c (by omega) (by omega)
    rw [List.length_append]
    simp only [List.length_cons, List.length_nil]
    omega
  · split
    · simp
    · split
      · simp
      · split <;> simp
end Pl

theorem word3 (c : Int) : Pl.word 3 c = ⟨#[101, 114, 114, 111, 114, 32]⟩ ++ wrd c := by
  apply ByteArray.ext
  show (Pl.wordL 3 c).toArray = _
  unfold Pl.wordL wrd
  rw [if_pos rfl]
  simp

set_option maxRecDepth 100000 in
set_option maxHeartbeats 2000000 in
/-- spec.l6Word -/
theorem l6Word_any (k c : Int) (w : World) (h : Pl.vB k c = true) : Calls Tryd.prog 57 #[.agg #[.int .i64 k, .int .i64 c]] w fun e w' => e = .returned (.string (Pl.word k c)) ∧ Below w.heap.size w w' := by
  have A : Hid (∀ o, Below w.heap.size w (w.alloc o)) := fun o => (Below.refl _ _).alloc (Nat.le_refl _) _
  have A2 : Hid (∀ o o2, Below w.heap.size w ((w.alloc o).alloc o2)) := fun o o2 => (A.out o).alloc (by simp) _
  obtain ⟨r1, r2, r3⟩ := Pl.vB_range h
  by_cases h3 : k = 3
  · obtain ⟨c1, c2⟩ := r3 h3
    subst h3
    have KD : Hid (∀ w, Calls Tryd.prog 56 #[.int .i64 c] w fun e w' => e = .returned (.string (wrd c)) ∧ Below w.heap.size w w') := fun w => l1Dec_any c w (by omega) (by omega)
    have HW := hideP (word3 c)
    have z : (wrd c).size ≤ 21 := by
      have := Lib.itoa_length_le c (by omega) (by omega)
      show (Lib.itoa c).toArray.size ≤ 21
      rw [List.size_toArray]; exact this
    rw [HW.out]
    have n1 : ¬ 9223372036854775807 < 6 + (wrd c).size := by omega
    clear h r1 r2 r3 c1 c2 HW
    generalize wrd c = sx at *
    go_enter Tryd.func57, Tryd.ntmps57
    go_wp2_with fail
    refine (KD.out _).mono ?_
    rintro e w2 ⟨rfl, hb2⟩
    have B2 := hideP ((A.out _).trans (hb2.mono (A.out _).size))
    clear hb2
    go_wp2_with fail
    go_ret
    exact ⟨rfl, B2.out⟩
  · have h3' : (k == 3) = false := by rw [beq_eq_false_iff_ne]; exact h3
    have h4 : k = 1 ∨ k = 2 ∨ k = 4 ∨ k = 5 := by omega
    clear h r3
    rcases h4 with rfl | rfl | rfl | rfl
    all_goals
      go_enter Tryd.func57, Tryd.ntmps57
      go_wp2_with fail
      go_ret
      exact ⟨rfl, A2.out _ _⟩

/-- the package's words -/
def kwd : List ByteArray := [⟨#[]⟩, ⟨#[112, 97, 115, 115]⟩, ⟨#[102, 97, 105, 108]⟩, ⟨#[101, 114, 114, 111, 114]⟩, ⟨#[102, 117, 101, 108]⟩, ⟨#[99, 101, 108, 108, 115]⟩]
structure Kw (w : World) : Prop where
  at0 : ∃ g off cap, w.cell? ⟨0, 0, none⟩ = some (.slice (some ⟨g, off, none⟩) 6 cap) ∧ 0 < w.heap.size ∧ g < w.heap.size ∧ ∀ j x, kwd[j]? = some x → w.cell? ⟨g, off + j, none⟩ = some (.string x)
theorem Kw.keep {w w' : World} (h : Kw w) (hb : Below w.heap.size w w') : Kw w' := by
  obtain ⟨g, off, cap, h1, h2, h3, h4⟩ := h.at0
  exact ⟨g, off, cap, (hb.cell (p := ⟨0, 0, none⟩) h2).trans h1, Nat.lt_of_lt_of_le h2 hb.size, Nat.lt_of_lt_of_le h3 hb.size, fun j x hx => (hb.cell (p := ⟨g, off + j, none⟩) h3).trans (h4 j x hx)⟩

set_option maxRecDepth 100000 in
set_option maxHeartbeats 2000000 in
/-- impl.verdictWord -/
theorem verdictWord_any (k c : Int) (w : World) (h : Pl.vB k c = true) (ht : Tab w) (hk : Kw w) : Calls Tryd.prog 64 #[.agg #[.int .i64 k, .int .i64 c]] w fun e w' => e = .returned (.string (Pl.word k c)) ∧ Below w.heap.size w w' := by
  have A : Hid (∀ o, Below w.heap.size w (w.alloc o)) := fun o => (Below.refl _ _).alloc (Nat.le_refl _) _
  have HT := hideP ht
  obtain ⟨r1, r2, r3⟩ := Pl.vB_range h
  obtain ⟨g, off, cap, q1, q2, q3, q4⟩ := hk.at0
  clear ht hk h
  have cl : ∀ o p v, p.block < w.heap.size → w.cell? p = some v → (w.alloc o).cell? p = some v := fun o p v hp hv => ((A.out o).cell (p := p) hp).trans hv
  by_cases h3 : k = 3
  · obtain ⟨c1, c2⟩ := r3 h3
    subst h3
    have HW := hideP (word3 c)
    have z : (wrd c).size ≤ 21 := by
      have := Lib.itoa_length_le c (by omega) (by omega)
      show (Lib.itoa c).toArray.size ≤ 21
      rw [List.size_toArray]; exact this
    rw [HW.out]
    have n1 : ¬ 9223372036854775807 < 6 + (wrd c).size := by omega
    have KI := hideP (fun w ht => itoa_any c w (by omega) (by omega) ht)
    have a0 := cell_regrown (cl (.cells #[.int .i64 3, .int .i64 c] 78) ⟨0, 0, none⟩ _ q2 q1)
    have a1 := cell_regrown (cl (.cells #[.int .i64 3, .int .i64 c] 78) ⟨g, off + 3, none⟩ _ q3 (q4 3 _ rfl))
    have a2 := cell_regrown (show (w.alloc (.cells #[.int .i64 3, .int .i64 c] 78)).cell? ⟨w.heap.size, 1, none⟩ = some (.int .i64 c) by simp [go_sem])
    have cc : ∀ d os, Calls Tryd.prog 63 #[.int .i64 c] (grow (redrawn (w.alloc (.cells #[.int .i64 3, .int .i64 c] 78)) d) os) fun e w'' => e = .returned (.string (wrd c)) ∧ ∃ p : Regrown, w'' = grow (redrawn (w.alloc (.cells #[.int .i64 3, .int .i64 c] 78)) p.d) p.os := fun d os =>
      Calls.regrown_of (KI.out _ ((HT.out.keep (A.out _)).keep (below_regrown _ d os)))
    have HE : Hid ((⟨#[101, 114, 114, 111, 114]⟩ : ByteArray) ++ ⟨#[32]⟩ = ⟨#[101, 114, 114, 111, 114, 32]⟩) := by show _ = _; rfl
    clear cl q1 q4 r1 r2 r3 c1 c2 HW
    generalize wrd c = sx at *
    go_enter Tryd.func64, Tryd.ntmps64
    go_wp2_with fail
    refine wp_region_quiet_below (by kernel_rfl) (by kernel_rfl) ?_
    repeat (quiet_step (exact cc _ _))
    refine wpQuiet_nil ?_
    intro _ hw'
    obtain ⟨⟨dq, osq⟩, hw''⟩ := hw'
    subst hw''
    go_wp2_with fail
    go_ret
    refine ⟨?_, (A.out _).trans ((below_regrown _ dq osq).mono (A.out _).size)⟩
    rw [← HE.out]
    rfl
  · have h3' : (k == 3) = false := by rw [beq_eq_false_iff_ne]; exact h3
    have h4 : k = 1 ∨ k = 2 ∨ k = 4 ∨ k = 5 := by omega
    clear r3
    rcases h4 with rfl | rfl | rfl | rfl
    · have a0 := cl (.cells #[.int .i64 1, .int .i64 c] 78) ⟨0, 0, none⟩ _ q2 q1
      have a1 := cl (.cells #[.int .i64 1, .int .i64 c] 78) ⟨g, off + 1, none⟩ _ q3 (q4 1 _ rfl)
      clear cl q1 q4
      go_enter Tryd.func64, Tryd.ntmps64
      go_wp2_with fail
      go_ret
      exact ⟨rfl, A.out _⟩
    · have a0 := cl (.cells #[.int .i64 2, .int .i64 c] 78) ⟨0, 0, none⟩ _ q2 q1
      have a1 := cl (.cells #[.int .i64 2, .int .i64 c] 78) ⟨g, off + 2, none⟩ _ q3 (q4 2 _ rfl)
      clear cl q1 q4
      go_enter Tryd.func64, Tryd.ntmps64
      go_wp2_with fail
      go_ret
      exact ⟨rfl, A.out _⟩
    · have a0 := cl (.cells #[.int .i64 4, .int .i64 c] 78) ⟨0, 0, none⟩ _ q2 q1
      have a1 := cl (.cells #[.int .i64 4, .int .i64 c] 78) ⟨g, off + 4, none⟩ _ q3 (q4 4 _ rfl)
      clear cl q1 q4
      go_enter Tryd.func64, Tryd.ntmps64
      go_wp2_with fail
      go_ret
      exact ⟨rfl, A.out _⟩
    · have a0 := cl (.cells #[.int .i64 5, .int .i64 c] 78) ⟨0, 0, none⟩ _ q2 q1
      have a1 := cl (.cells #[.int .i64 5, .int .i64 c] 78) ⟨g, off + 5, none⟩ _ q3 (q4 5 _ rfl)
      clear cl q1 q4
      go_enter Tryd.func64, Tryd.ntmps64
      go_wp2_with fail
      go_ret
      exact ⟨rfl, A.out _⟩

end Go.Proofs.YtbmkbplgncoapaaDoor
