import Derived.Test.YtmobjomebmipdaaPlain3
namespace Go.Proofs.Ytmobjomebmipdaa.Pl
/-- all pairs, row by row -/
def pairs (xs ys : List Int) : List (Int × Int) := xs.flatMap (fun x => ys.map (fun y => (x, y)))
theorem pairs_nil (ys : List Int) : pairs [] ys = [] := rfl
theorem pairs_cons (x : Int) (xs ys : List Int) : pairs (x :: xs) ys = ys.map (fun y => (x, y)) ++ pairs xs ys := by simp [pairs]
theorem pairs_append (xs zs ys : List Int) : pairs (xs ++ zs) ys = pairs xs ys ++ pairs zs ys := by simp [pairs]
theorem pairs_one (x : Int) (ys : List Int) : pairs [x] ys = ys.map (fun y => (x, y)) := by simp [pairs]
theorem pairs_len (xs ys : List Int) : (pairs xs ys).length = xs.length * ys.length := by
  induction xs with
  | nil => simp [pairs]
  | cons x xs ih => rw [pairs_cons, List.length_append, ih, List.length_map, List.length_cons, Nat.succ_mul, Nat.add_comm]
/-- the first k rows, and l pairs of the next -/
def upP (xs ys : List Int) (k l : Nat) : List (Int × Int) := pairs (xs.take k) ys ++ (ys.take l).map (fun y => (xs.getD k 0, y))
theorem upP_zero (xs ys : List Int) : pairs (xs.take 0) ys = [] := rfl
theorem upP_start (xs ys : List Int) (k : Nat) : upP xs ys k 0 = pairs (xs.take k) ys := by simp [upP]
theorem upP_snoc (xs ys : List Int) (k l : Nat) (h : l < ys.length) : upP xs ys k (l + 1) = upP xs ys k l ++ [(xs.getD k 0, ys.getD l 0)] := by
  unfold upP
  rw [take_snoc ys l h, List.map_append, List.append_assoc]
  rfl
theorem upP_row (xs ys : List Int) (k l : Nat) (h : k < xs.length) (hl : ys.length ≤ l) : upP xs ys k l = pairs (xs.take (k + 1)) ys := by
  unfold upP
  rw [take_snoc xs k h, pairs_append, pairs_one, List.take_of_length_le hl]
theorem pairs_all (xs ys : List Int) (k : Nat) (h : xs.length ≤ k) : pairs (xs.take k) ys = pairs xs ys := by rw [List.take_of_length_le h]
theorem pairs_split (xs ys : List Int) (k l : Nat) (h0 : k < xs.length) (h1 : l < ys.length) : ∃ r, pairs xs ys = upP xs ys k l ++ (xs.getD k 0, ys.getD l 0) :: r := by
  refine ⟨(ys.drop (l + 1)).map (fun y => (xs.getD k 0, y)) ++ pairs (xs.drop (k + 1)) ys, ?_⟩
  have e : pairs xs ys = pairs (xs.take (k + 1)) ys ++ pairs (xs.drop (k + 1)) ys := by rw [← pairs_append, List.take_append_drop]
  have e2 : ys.map (fun y => (xs.getD k 0, y)) = (ys.take (l + 1)).map (fun y => (xs.getD k 0, y)) ++ (ys.drop (l + 1)).map (fun y => (xs.getD k 0, y)) := by rw [← List.map_append, List.take_append_drop]
  rw [e, take_snoc xs k h0, pairs_append, pairs_one, e2, take_snoc ys l h1, List.map_append]
  unfold upP
  simp
theorem pairs_first (F : Int → Int → Int × Int) (xs ys : List Int) (k l : Nat) (h0 : k < xs.length) (h1 : l < ys.length) (h : ∀ p ∈ upP xs ys k l, (pairF F p).2 = 0) (hc : ¬ (F (xs.getD k 0) (ys.getD l 0)).2 = 0) : firstG (pairF F) (pairs xs ys) = (F (xs.getD k 0) (ys.getD l 0)).2 := by
  obtain ⟨r, e⟩ := pairs_split xs ys k l h0 h1
  rw [e]
  exact firstG_app (pairF F) _ _ r h hc
theorem upP_len (xs ys : List Int) (k l : Nat) (h0 : k ≤ xs.length) (h1 : l ≤ ys.length) : (upP xs ys k l).length = k * ys.length + l := by
  unfold upP
  rw [List.length_append, pairs_len, List.length_map, List.length_take, List.length_take]
  rw [Nat.min_eq_left h0, Nat.min_eq_left h1]
/-- Outer of valid arrays -/
def outerM (F : Int → Int → Int × Int) (sa da sb db : List Int) : Int × List Int × List Int :=
  if fitsB (sa ++ sb) = true then (if firstG (pairF F) (pairs da db) = 0 then (0, sa ++ sb, (pairs da db).map (fun p => (pairF F p).1)) else (firstG (pairF F) (pairs da db), [], [])) else (6, [], [])
theorem ok_max {sh da : List Int} (h : okB sh da = true) : sh.length ≤ 3 ∧ da.length ≤ 1000 := by
  have h1 := (ok_len h).1
  have h2 := (ok_len h).2
  simp only [fitsB, baseB, Bool.and_eq_true, decide_eq_true_eq] at h2
  omega
end Go.Proofs.Ytmobjomebmipdaa.Pl
