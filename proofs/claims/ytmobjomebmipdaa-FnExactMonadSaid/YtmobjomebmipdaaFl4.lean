import Derived.Test.YtmobjomebmipdaaFl3
import Derived.Deep.LoopGhost
namespace Go.Proofs.Ytmobjomebmipdaa
open Go.RowKit
set_option linter.unusedVariables false

namespace Pl
def shN (sh : List Int) : List Nat := sh.map Int.toNat
/-- flip -/
def flipM (sh da : List Int) : Int × List Int × List Int := (0, sh.reverse, (List.range da.length).map fun i => da.getD (ev (shN sh) (plR (shN sh) i)) 0)
theorem prdN_eq (sh : List Int) (h : ∀ x ∈ sh, 0 ≤ x) : (prdN (shN sh) : Int) = prodP sh := by
  induction sh with
  | nil => rfl
  | cons x sh ih =>
    rw [prodP_cons, ← ih (fun y hy => h y (List.mem_cons_of_mem _ hy))]
    have := h x (by simp)
    show ((x.toNat * prdN (shN sh) : Nat) : Int) = _
    rw [Int.natCast_mul, Int.toNat_of_nonneg this]
theorem base_nonneg {sh : List Int} (h : baseB sh = true) : ∀ x ∈ sh, 0 ≤ x ∧ x ≤ 1000 := by
  simp only [baseB, Bool.and_eq_true, List.all_eq_true] at h
  exact fun x hx => inR_bd (h.2 x hx)
theorem shN_getD (sh : List Int) (h : ∀ x ∈ sh, 0 ≤ x) (t : Nat) : ((shN sh).getD t 0 : Int) = sh.getD t 0 := by
  unfold shN
  rw [List.getD, List.getD, List.getElem?_map]
  cases e : sh[t]? with
  | none => rfl
  | some x =>
    show ((x.toNat : Nat) : Int) = x
    exact Int.toNat_of_nonneg (h x (List.mem_of_getElem? e))
theorem shN_drop (sh : List Int) (j : Nat) : (shN sh).drop j = shN (sh.drop j) := by unfold shN; rw [List.map_drop]
theorem ev_at {ds qs : List Nat} {j : Nat} (hj : j < ds.length) (hl : qs.length = ds.length) : ev (ds.drop j) (qs.drop j) = qs.getD j 0 * prdN (ds.drop (j + 1)) + ev (ds.drop (j + 1)) (qs.drop (j + 1)) := by
  rw [List.drop_eq_getElem_cons hj, List.drop_eq_getElem_cons (show j < qs.length by omega), ev, List.getD, List.getElem?_eq_getElem (show j < qs.length by omega)]
  rfl
theorem ev_inc_at (ds : List Nat) : ∀ (j : Nat) (qs : List Nat), qs.length = ds.length → j < ds.length → (∀ t, t < j → ¬ qs.getD t 0 + 1 < ds.getD t 0) → qs.getD j 0 + 1 < ds.getD j 0 → ev ds (incR ds qs) = (qs.getD j 0 + 1) * prdN (ds.drop (j + 1)) + ev (ds.drop (j + 1)) (qs.drop (j + 1)) := by
  induction ds with
  | nil => intro j qs _ hj; simp at hj
  | cons d ds ih =>
    intro j qs hl hj hw hn
    cases qs with
    | nil => simp at hl
    | cons q qs =>
      cases j with
      | zero =>
        have hn' : q + 1 < d := hn
        rw [incR, if_pos hn', ev]
        rfl
      | succ j =>
        have h0 : ¬ q + 1 < d := hw 0 (by omega)
        rw [incR, if_neg h0, ev, Nat.zero_mul, Nat.zero_add]
        exact ih j qs (by simpa using hl) (by simpa using hj) (fun t ht => hw (t + 1) (by omega)) hn
theorem ev_inc_all (ds : List Nat) : ∀ (qs : List Nat), qs.length = ds.length → (∀ t, t < ds.length → ¬ qs.getD t 0 + 1 < ds.getD t 0) → ev ds (incR ds qs) = 0 := by
  induction ds with
  | nil => intro qs hl _; cases qs <;> rfl
  | cons d ds ih =>
    intro qs hl hw
    cases qs with
    | nil => simp at hl
    | cons q qs =>
      have h0 : ¬ q + 1 < d := hw 0 (by simp)
      rw [incR, if_neg h0, ev, Nat.zero_mul, Nat.zero_add]
      exact ih qs (by simpa using hl) (fun t ht => hw (t + 1) (by simpa using ht))
theorem prdN_le {ds : List Nat} (h : ∀ d ∈ ds, 0 < d) (j : Nat) : prdN (ds.drop j) ≤ prdN ds := by
  induction ds generalizing j with
  | nil => simp
  | cons d ds ih =>
    cases j with
    | zero => exact Nat.le_refl _
    | succ j =>
      have h1 := ih (fun x hx => h x (List.mem_cons_of_mem _ hx)) j
      have h2 := Nat.mul_le_mul_right (prdN ds) (show 1 ≤ d from h d (by simp))
      show prdN (ds.drop j) ≤ d * prdN ds
      omega
theorem prd_zero {ds : List Nat} (h : 0 < prdN ds) : ∀ d ∈ ds, 0 < d := by
  induction ds with
  | nil => intro d hd; cases hd
  | cons x ds ih =>
    have h1 : 0 < x * prdN ds := h
    intro d hd
    rcases List.mem_cons.1 hd with rfl | hd
    · exact Nat.pos_of_mul_pos_right h1
    · exact ih (Nat.pos_of_mul_pos_left h1) d hd
/-- the places in the row, the first j of the axes back at 0 -/
def Pz (q : List Nat) (n j : Nat) : Nat → Int := fun t => if n - j ≤ t then 0 else (q.getD (n - 1 - t) 0 : Int)
/-- the cells so far -/
def dt (da : List Int) (F : Nat → Nat) (i : Nat) : Nat → Int := fun t => if t < i then da.getD (F t) 0 else 0
theorem dt_step (da : List Int) (F : Nat → Nat) (i : Nat) : upd (dt da F i) i (da.getD (F i) 0) = dt da F (i + 1) := by
  funext t
  unfold upd dt
  by_cases h : t = i
  · rw [if_pos h, if_pos (by omega), h]
  · rw [if_neg h]
    by_cases h2 : t < i
    · rw [if_pos h2, if_pos (by omega)]
    · rw [if_neg h2, if_neg (by omega)]
theorem Pz_zero (q : List Nat) (n j : Nat) (h : j < n) : upd (Pz q n j) (n - 1 - j) 0 = Pz q n (j + 1) := by
  funext t
  unfold upd Pz
  by_cases h1 : t = n - 1 - j
  · rw [if_pos h1, if_pos (by omega)]
  · rw [if_neg h1]
    by_cases h2 : n - j ≤ t
    · rw [if_pos h2, if_pos (by omega)]
    · rw [if_neg h2, if_neg (by omega)]
theorem upd_upd (f : Nat → Int) (k : Nat) (x y : Int) : upd (upd f k x) k y = upd f k y := by
  funext t
  unfold upd
  by_cases h : t = k
  · rw [if_pos h, if_pos h]
  · rw [if_neg h, if_neg h, if_neg h]
end Pl

end Go.Proofs.Ytmobjomebmipdaa
