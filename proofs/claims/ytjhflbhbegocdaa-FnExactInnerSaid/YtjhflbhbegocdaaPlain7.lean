import Derived.Test.YtjhflbhbegocdaaPlain6
namespace Go.Proofs.Ytjhflbhbegocdaa.Pl

theorem rowAt_take (da : List Int) (s r k : Nat) (h : r < k) : rowAt (da.take (k * s)) s r = rowAt da s r := by
  unfold rowAt
  have h1 : (r + 1) * s ≤ k * s := Nat.mul_le_mul_right s h
  rw [Nat.succ_mul] at h1
  rw [List.drop_take, List.take_take]
  congr 1
  omega
theorem rowsDown_take (da : List Int) (s r k : Nat) (h : r ≤ k) : rowsDown (da.take (k * s)) s r = rowsDown da s r := by
  induction r with
  | zero => rfl
  | succ r ih =>
    unfold rowsDown
    rw [rowAt_take da s r k (by omega), ih (by omega)]
theorem foldM_take (F : Int → Int → Int × Int) (da : List Int) (s k : Nat) (h : 1 ≤ k) : foldM F (da.take (k * s)) s k = foldM F da s k := by
  unfold foldM
  rw [rowsDown_take da s (k - 1) k (by omega), rowAt_take da s (k - 1) k (by omega)]
/-- the k-th beginning, folded -/
def beg (F : Int → Int → Int × Int) (da : List Int) (s i : Nat) : Int × List Int := foldM F da s (i + 1)
def begC (F : Int → Int → Int × Int) (da : List Int) (s i : Nat) : Int × Int := (0, (beg F da s i).1)
def begD (F : Int → Int → Int × Int) (da : List Int) (s k : Nat) : List Int := (List.range k).flatMap (fun i => (beg F da s i).2)
theorem begD_zero (F : Int → Int → Int × Int) (da : List Int) (s : Nat) : begD F da s 0 = [] := rfl
theorem begD_succ (F : Int → Int → Int × Int) (da : List Int) (s k : Nat) : begD F da s (k + 1) = begD F da s k ++ (beg F da s k).2 := by
  unfold begD
  rw [List.range_succ, List.flatMap_append]
  simp
theorem beg_first (F : Int → Int → Int × Int) (da : List Int) (s k n : Nat) (hk : k < n) (h : ∀ i, i < k → (beg F da s i).1 = 0) (hc : ¬ (beg F da s k).1 = 0) : firstG (begC F da s) (List.range n) = (beg F da s k).1 := by
  have e : List.range n = List.range k ++ k :: (List.range' (k + 1) (n - k - 1)) := by
    have h1 : n = k + (n - k) := by omega
    have h2 : List.range n = List.range k ++ List.range' k (n - k) := by
      rw [List.range_eq_range', List.range_eq_range']
      have := List.range'_append (s := 0) (m := k) (n := n - k) (step := 1)
      simp only [Nat.zero_add, Nat.one_mul] at this
      rw [this, ← h1]
    rw [h2]
    congr 1
    have h3 : n - k = (n - k - 1) + 1 := by omega
    rw [h3, List.range'_succ]
    simp
  rw [e]
  refine firstG_app (begC F da s) (List.range k) k _ (fun i hi => ?_) hc
  exact h i (by simpa using hi)
theorem beg_zero (F : Int → Int → Int × Int) (da : List Int) (s n : Nat) (h : ∀ i, i < n → (beg F da s i).1 = 0) : firstG (begC F da s) (List.range n) = 0 :=
  firstG_zero (begC F da s) (List.range n) (fun i hi => h i (by simpa using hi))
/-- Scan of a valid array -/
def scanM (F : Int → Int → Int × Int) (sh da : List Int) : Int × List Int × List Int :=
  if sh.length = 0 then (0, [], da)
  else if firstG (begC F da (prodC sh.tail).toNat) (List.range (sh.getD 0 0).toNat) = 0 then (0, sh, begD F da (prodC sh.tail).toNat (sh.getD 0 0).toNat) else (firstG (begC F da (prodC sh.tail).toNat) (List.range (sh.getD 0 0).toNat), [], [])
end Go.Proofs.Ytjhflbhbegocdaa.Pl
