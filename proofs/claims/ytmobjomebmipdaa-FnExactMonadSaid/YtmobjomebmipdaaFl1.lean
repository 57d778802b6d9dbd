import Derived.Test.YtmobjomebmipdaaS2
namespace Go.Proofs.Ytmobjomebmipdaa
set_option linter.unusedVariables false

namespace Pl
/-- the places of cell i along the axes of a shape, the first axis turning first -/
def plR : List Nat → Nat → List Nat
  | [], _ => []
  | d :: ds, i => i % d :: plR ds (i / d)
theorem plR_len (ds : List Nat) : ∀ i, (plR ds i).length = ds.length := by
  induction ds with
  | nil => intro i; rfl
  | cons d ds ih => intro i; rw [plR, List.length_cons, ih]; rfl
/-- one on -/
def incR : List Nat → List Nat → List Nat
  | d :: ds, p :: ps => if p + 1 < d then (p + 1) :: ps else 0 :: incR ds ps
  | _, _ => []
theorem inc_plR (ds : List Nat) (h : ∀ d ∈ ds, 0 < d) : ∀ i, incR ds (plR ds i) = plR ds (i + 1) := by
  induction ds with
  | nil => intro i; rfl
  | cons d ds ih =>
    intro i
    have hd := h d (by simp)
    rw [plR, incR, plR]
    have e := Nat.div_add_mod i d
    by_cases hc : i % d + 1 < d
    · rw [if_pos hc]
      have e1 : (i + 1) % d = i % d + 1 := by
        rw [Nat.add_mod, Nat.mod_eq_of_lt (show 1 < d by omega), Nat.mod_eq_of_lt hc]
      have e2 : (i + 1) / d = i / d := by
        have h1 := Nat.div_add_mod (i + 1) d
        rw [e1] at h1
        have h2 : d * ((i + 1) / d) = d * (i / d) := by omega
        exact Nat.eq_of_mul_eq_mul_left hd h2
      rw [e1, e2]
    · rw [if_neg hc]
      have hm := Nat.mod_lt i hd
      have e0 : i + 1 = d * (i / d + 1) := by rw [Nat.mul_add]; omega
      have e1 : (i + 1) % d = 0 := by rw [e0, Nat.mul_mod_right]
      have e2 : (i + 1) / d = i / d + 1 := by rw [e0, Nat.mul_div_cancel_left _ hd]
      rw [e1, e2, ih (fun x hx => h x (List.mem_cons_of_mem _ hx))]
theorem plR_zero (ds : List Nat) : plR ds 0 = List.replicate ds.length 0 := by
  induction ds with
  | nil => rfl
  | cons d ds ih => rw [plR, Nat.zero_mod, Nat.zero_div, ih]; rfl
theorem plR_lt (ds : List Nat) (h : ∀ d ∈ ds, 0 < d) : ∀ i t, t < ds.length → (plR ds i).getD t 0 < ds.getD t 0 := by
  induction ds with
  | nil => intro i t ht; simp at ht
  | cons d ds ih =>
    intro i t ht
    cases t with
    | zero => exact Nat.mod_lt _ (h d (by simp))
    | succ t => exact ih (fun x hx => h x (List.mem_cons_of_mem _ hx)) (i / d) t (by simpa using ht)
def prdN (ds : List Nat) : Nat := ds.foldr (· * ·) 1
/-- the cell at places -/
def ev : List Nat → List Nat → Nat
  | s :: ss, q :: qs => q * prdN ss + ev ss qs
  | _, _ => 0
theorem prd_pos (ds : List Nat) (h : ∀ d ∈ ds, 0 < d) : 0 < prdN ds := by
  induction ds with
  | nil => exact Nat.one_pos
  | cons d ds ih => exact Nat.mul_pos (h d (by simp)) (ih fun x hx => h x (List.mem_cons_of_mem _ hx))
theorem ev_lt (ds : List Nat) (h : ∀ d ∈ ds, 0 < d) : ∀ qs : List Nat, qs.length = ds.length → (∀ t, t < ds.length → qs.getD t 0 < ds.getD t 0) → ev ds qs < prdN ds := by
  induction ds with
  | nil => intro qs _ _; cases qs <;> exact Nat.one_pos
  | cons d ds ih =>
    intro qs hl hq
    cases qs with
    | nil => simp at hl
    | cons q qs =>
      have h1 := ih (fun x hx => h x (List.mem_cons_of_mem _ hx)) qs (by simpa using hl) (fun t ht => hq (t + 1) (by simpa using ht))
      have h2 : q < d := hq 0 (by simp)
      show q * prdN ds + ev ds qs < d * prdN ds
      have h3 := Nat.mul_le_mul_right (prdN ds) (show q + 1 ≤ d by omega)
      rw [Nat.succ_mul] at h3
      omega
/-- carries: the places ahead of j stand at their ends, that at j does not -/
theorem incR_at (ds : List Nat) : ∀ (j : Nat) (qs : List Nat), qs.length = ds.length → j < ds.length → (∀ t, t < j → ¬ qs.getD t 0 + 1 < ds.getD t 0) → qs.getD j 0 + 1 < ds.getD j 0 → ∀ t, (incR ds qs).getD t 0 = if t < j then 0 else if t = j then qs.getD j 0 + 1 else qs.getD t 0 := by
  induction ds with
  | nil => intro j qs _ hj; simp at hj
  | cons d ds ih =>
    intro j qs hl hj hw hn t
    cases qs with
    | nil => simp at hl
    | cons q qs =>
      cases j with
      | zero =>
        have hn' : q + 1 < d := hn
        rw [incR, if_pos hn', if_neg (by omega)]
        cases t with
        | zero => rfl
        | succ t => rw [if_neg (by omega)]; rfl
      | succ j =>
        have h0 : ¬ q + 1 < d := hw 0 (by omega)
        rw [incR, if_neg h0]
        cases t with
        | zero => rw [if_pos (by omega)]; rfl
        | succ t =>
          have := ih j qs (by simpa using hl) (by simpa using hj) (fun t ht => hw (t + 1) (by omega)) hn t
          show (incR ds qs).getD t 0 = _
          rw [this]
          simp only [Nat.add_lt_add_iff_right, Nat.add_right_cancel_iff]
          rfl
theorem incR_all (ds : List Nat) : ∀ (qs : List Nat), qs.length = ds.length → (∀ t, t < ds.length → ¬ qs.getD t 0 + 1 < ds.getD t 0) → ∀ t, (incR ds qs).getD t 0 = 0 := by
  induction ds with
  | nil => intro qs hl _ t; cases qs <;> rfl
  | cons d ds ih =>
    intro qs hl hw t
    cases qs with
    | nil => simp at hl
    | cons q qs =>
      have h0 : ¬ q + 1 < d := hw 0 (by simp)
      rw [incR, if_neg h0]
      cases t with
      | zero => rfl
      | succ t => exact ih qs (by simpa using hl) (fun t ht => hw (t + 1) (by simpa using ht)) t
end Pl

end Go.Proofs.Ytmobjomebmipdaa
