import Derived.Test.YtmobjomebmipdaaFold
import Derived.Test.YtmobjomebmipdaaOps
import Derived.Test.YtmobjomebmipdaaSpec1
namespace Go.Proofs.Ytmobjomebmipdaa.Pl
set_option linter.unusedVariables false

theorem foldl_mul (l : List Int) (p : Int) : l.foldl (fun p x => p * x) p = p * l.foldl (fun p x => p * x) 1 := by
  induction l generalizing p with
  | nil => simp
  | cons x xs ih =>
    simp only [List.foldl_cons]
    rw [ih (p * x), ih (1 * x), Int.one_mul, Int.mul_assoc]
theorem prodP_cons (x : Int) (l : List Int) : prodP (x :: l) = x * prodP l := by
  unfold prodP
  rw [List.foldl_cons, Int.one_mul, foldl_mul]
theorem base_tail {sh : List Int} (h : baseB sh = true) : baseB sh.tail = true := by
  simp only [baseB, Bool.and_eq_true, decide_eq_true_eq, List.all_eq_true] at h ⊢
  refine ⟨by simp; omega, fun x hx => h.2 x (List.mem_of_mem_tail hx)⟩
/-- the number and size of the rows of a valid array -/
theorem ok_rows {sh da : List Int} (h : okB sh da = true) (h0 : ¬ sh.length = 0) (hn : ¬ sh.getD 0 0 = 0) :
    fitsB sh.tail = true ∧ ∃ n s : Nat, sh.getD 0 0 = n ∧ prodC sh.tail = s ∧ 1 ≤ n ∧ n ≤ 1000 ∧ da.length = n * s := by
  obtain ⟨hl, hf⟩ := ok_len h
  have hP := prod_eq hf
  cases sh with
  | nil => simp at h0
  | cons x tl =>
    have hx : (x :: tl).getD 0 0 = x := rfl
    rw [hx] at hn ⊢
    simp only [List.tail_cons]
    have hb : baseB (x :: tl) = true := by simp only [fitsB, Bool.and_eq_true] at hf; exact hf.1
    have hbt := base_tail hb
    simp only [List.tail_cons] at hbt
    have hp1000 : prodP (x :: tl) ≤ 1000 := by
      rw [fits_eq, hb] at hf
      simpa using hf
    rw [prodP_cons] at hp1000
    have hxr : 0 ≤ x ∧ x ≤ 1000 := by
      simp only [baseB, Bool.and_eq_true, List.all_cons] at hb
      exact inR_bd hb.2.1
    have ht := (prod_two tl hbt).1
    have h1 : 1 * prodP tl ≤ x * prodP tl := Int.mul_le_mul_of_nonneg_right (by omega) ht.1
    have hft : fitsB tl = true := by
      rw [fits_eq, hbt]
      simp only [Bool.true_and, decide_eq_true_eq]
      omega
    refine ⟨hft, x.toNat, (prodP tl).toNat, by omega, by rw [prod_eq hft]; omega, by omega, by omega, ?_⟩
    have e : (da.length : Int) = (x.toNat : Int) * ((prodP tl).toNat : Int) := by
      rw [hl, hP, prodP_cons]
      congr 1 <;> omega
    exact_mod_cast e
end Go.Proofs.Ytmobjomebmipdaa.Pl
