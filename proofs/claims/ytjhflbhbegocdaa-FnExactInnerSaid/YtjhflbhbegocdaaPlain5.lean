import Derived.Test.YtjhflbhbegocdaaEach
namespace Go.Proofs.Ytjhflbhbegocdaa.Pl
/-- the code of the first that has one -/
def firstG {α : Type} (F : α → Int × Int) : List α → Int
  | [] => 0
  | x :: xs => if (F x).2 = 0 then firstG F xs else (F x).2
theorem firstG_zero {α : Type} (F : α → Int × Int) (l : List α) (h : ∀ x ∈ l, (F x).2 = 0) : firstG F l = 0 := by
  induction l with
  | nil => rfl
  | cons x xs ih => simp only [firstG]; rw [if_pos (h x (by simp))]; exact ih (fun y hy => h y (by simp [hy]))
theorem firstG_app {α : Type} (F : α → Int × Int) (l : List α) (x : α) (r : List α) (h : ∀ x ∈ l, (F x).2 = 0) (hc : ¬ (F x).2 = 0) : firstG F (l ++ x :: r) = (F x).2 := by
  induction l with
  | nil => simp only [List.nil_append, firstG]; rw [if_neg hc]
  | cons y ys ih => simp only [List.cons_append, firstG]; rw [if_pos (h y (by simp))]; exact ih (fun y hy => h y (by simp [hy]))
theorem firstC_eq (F : Int → Int × Int) (l : List Int) : firstC F l = firstG F l := by
  induction l with
  | nil => rfl
  | cons x xs ih => simp only [firstC, firstG, ih]

/-- the first k pairs -/
def zipT (xs ys : List Int) (k : Nat) : List (Int × Int) := (xs.zip ys).take k
theorem zipT_zero (xs ys : List Int) : zipT xs ys 0 = [] := by simp [zipT]
theorem zipT_all (xs ys : List Int) (k : Nat) (h : xs.length ≤ k) : zipT xs ys k = xs.zip ys := by
  unfold zipT
  exact List.take_of_length_le (by simp; omega)
theorem zipT_snoc (xs ys : List Int) (k : Nat) (h0 : k < xs.length) (h1 : k < ys.length) : zipT xs ys (k + 1) = zipT xs ys k ++ [(xs.getD k 0, ys.getD k 0)] := by
  unfold zipT
  have hk : k < (xs.zip ys).length := by simp; omega
  rw [List.take_succ_eq_append_getElem hk]
  simp [List.getD, h0, h1]
theorem zipT_split (xs ys : List Int) (k : Nat) (h0 : k < xs.length) (h1 : k < ys.length) : ∃ r, xs.zip ys = zipT xs ys k ++ (xs.getD k 0, ys.getD k 0) :: r := by
  refine ⟨(xs.zip ys).drop (k + 1), ?_⟩
  have := zipT_snoc xs ys k h0 h1
  have e : xs.zip ys = zipT xs ys (k + 1) ++ (xs.zip ys).drop (k + 1) := (List.take_append_drop _ _).symm
  rw [this] at e
  simpa using e
def pairF (F : Int → Int → Int × Int) (p : Int × Int) : Int × Int := F p.1 p.2
theorem first_at (F : Int → Int → Int × Int) (xs ys : List Int) (k : Nat) (h0 : k < xs.length) (h1 : k < ys.length) (h : ∀ p ∈ zipT xs ys k, (pairF F p).2 = 0) (hc : ¬ (F (xs.getD k 0) (ys.getD k 0)).2 = 0) : firstG (pairF F) (xs.zip ys) = (F (xs.getD k 0) (ys.getD k 0)).2 := by
  obtain ⟨r, e⟩ := zipT_split xs ys k h0 h1
  rw [e]
  exact firstG_app (pairF F) _ _ r h hc

/-- what Each2 gives of arrays of the lengths sa, sb -/
def eachM (F : Int → Int → Int × Int) (sa xs sb ys : List Int) : Int × List Int × List Int :=
  if ¬ sa.length = sb.length then (2, [], []) else if ¬ sa = sb then (3, [], []) else if firstG (pairF F) (xs.zip ys) = 0 then (0, sa, (xs.zip ys).map (fun p => (pairF F p).1)) else (firstG (pairF F) (xs.zip ys), [], [])
def rep (sh da : List Int) : List Int := List.replicate (prodC sh).toNat (da.getD 0 0)
/-- Each2 of valid arrays -/
def each2M (F : Int → Int → Int × Int) (sa da sb db : List Int) : Int × List Int × List Int :=
  if sa.length = 0 then eachM F sb (rep sb da) sb db else if sb.length = 0 then eachM F sa da sa (rep sa db) else eachM F sa da sb db
theorem ok_len {sh da : List Int} (h : okB sh da = true) : (da.length : Int) = prodC sh ∧ fitsB sh = true := by
  simp only [okB, Bool.and_eq_true, decide_eq_true_eq] at h
  exact ⟨h.1.2, h.1.1⟩
theorem rep_len {sh da x : List Int} (h : okB sh da = true) : (rep sh x).length = da.length := by
  have := (ok_len h).1
  simp [rep]
  omega
theorem ok_lens {sh da db : List Int} (h : okB sh da = true) (h' : okB sh db = true) : da.length = db.length := by
  have := (ok_len h).1
  have := (ok_len h').1
  omega
theorem ok_rep {sa da sb db : List Int} (h : okB sa da = true) (h' : okB sb db = true) (hd : 0 < da.length) : okB sb (rep sb da) = true := by
  have e := rep_len (x := da) h'
  simp only [okB, Bool.and_eq_true, decide_eq_true_eq] at h h' ⊢
  refine ⟨⟨h'.1.1, by rw [e]; exact h'.1.2⟩, ?_⟩
  have hm : da.getD 0 0 ∈ da := by
    have : da.getD 0 0 = da[0] := by simp [List.getD, hd]
    rw [this]; exact List.getElem_mem hd
  have hx := h.2
  rw [List.all_eq_true] at hx ⊢
  intro y hy
  have : y = da.getD 0 0 := by unfold rep at hy; exact List.eq_of_mem_replicate hy
  rw [this]
  exact hx _ hm
theorem ok_one {sa da : List Int} (h : okB sa da = true) (h0 : sa.length = 0) : da.length = 1 := by
  have := (ok_len h).1
  obtain rfl := List.length_eq_zero_iff.1 h0
  have e : prodC [] = 1 := rfl
  omega
theorem prodC_nil {sh : List Int} (h : sh.length = 0) : prodC sh = 1 := by
  obtain rfl := List.length_eq_zero_iff.1 h
  rfl
theorem firstG_map {α β : Type} (F : β → Int × Int) (g : α → β) (l : List α) : firstG F (l.map g) = firstG (fun x => F (g x)) l := by
  induction l with
  | nil => rfl
  | cons x xs ih => simp only [List.map_cons, firstG, ih]
theorem zip_repL (n : Nat) (x : Int) (ys : List Int) (h : n = ys.length) : (List.replicate n x).zip ys = ys.map (fun y => (x, y)) := by
  subst h
  induction ys with
  | nil => rfl
  | cons y ys ih => simp only [List.length_cons, List.replicate_succ, List.zip_cons_cons, List.map_cons, ih]
theorem zip_repR (n : Nat) (y : Int) (xs : List Int) (h : n = xs.length) : xs.zip (List.replicate n y) = xs.map (fun x => (x, y)) := by
  subst h
  induction xs with
  | nil => rfl
  | cons x xs ih => simp only [List.length_cons, List.replicate_succ, List.zip_cons_cons, List.map_cons, ih]
theorem if_three (c : Int) (A B : List Int) : (if c = 0 then (0, A, B) else (c, [], [])) = (c, if c = 0 then A else [], if c = 0 then B else []) := by
  by_cases h : c = 0
  · rw [if_pos h, if_pos h, if_pos h, h]
  · rw [if_neg h, if_neg h, if_neg h]
theorem eachL (F : Int → Int → Int × Int) (sb da db : List Int) (h : okB sb db = true) : eachM F sb (rep sb da) sb db = (firstC (F (da.getD 0 0)) db, if firstC (F (da.getD 0 0)) db = 0 then sb else [], if firstC (F (da.getD 0 0)) db = 0 then db.map (fun y => (F (da.getD 0 0) y).1) else []) := by
  have hl := rep_len (x := da) h
  have e : (rep sb da).zip db = db.map (fun y => (da.getD 0 0, y)) := by
    unfold rep at hl ⊢
    exact zip_repL _ _ _ (by simpa using hl)
  unfold eachM
  rw [if_neg (fun h => h rfl), if_neg (fun h => h rfl), e, firstG_map]
  have e2 : firstG (fun x => pairF F (da.getD 0 0, x)) db = firstC (F (da.getD 0 0)) db := (firstC_eq _ _).symm
  rw [e2, if_three, List.map_map]
  rfl
theorem eachR (F : Int → Int → Int × Int) (sa da db : List Int) (h : okB sa da = true) : eachM F sa da sa (rep sa db) = (firstC (fun x => F x (db.getD 0 0)) da, if firstC (fun x => F x (db.getD 0 0)) da = 0 then sa else [], if firstC (fun x => F x (db.getD 0 0)) da = 0 then da.map (fun x => (F x (db.getD 0 0)).1) else []) := by
  have hl := rep_len (x := db) h
  have e : da.zip (rep sa db) = da.map (fun x => (x, db.getD 0 0)) := by
    unfold rep at hl ⊢
    exact zip_repR _ _ _ (by simpa using hl)
  unfold eachM
  rw [if_neg (fun h => h rfl), if_neg (fun h => h rfl), e, firstG_map]
  have e2 : firstG (fun x => pairF F (x, db.getD 0 0)) da = firstC (fun x => F x (db.getD 0 0)) da := (firstC_eq _ _).symm
  rw [e2, if_three, List.map_map]
  rfl
/-- the first k done, the rest still 0 -/
def upG (F : Int → Int → Int × Int) (xs ys : List Int) (k : Nat) : List Int := (zipT xs ys k).map (fun p => (pairF F p).1) ++ List.replicate (xs.length - k) 0
theorem upG_zero (F : Int → Int → Int × Int) (xs ys : List Int) : upG F xs ys 0 = List.replicate xs.length 0 := by simp [upG, zipT]
theorem upG_all (F : Int → Int → Int × Int) (xs ys : List Int) (k : Nat) (h : xs.length ≤ k) : upG F xs ys k = (xs.zip ys).map (fun p => (pairF F p).1) := by
  unfold upG
  rw [zipT_all _ _ _ h, Nat.sub_eq_zero_of_le h]
  simp
theorem upG_len (F : Int → Int → Int × Int) (xs ys : List Int) (k : Nat) (h : k ≤ xs.length) (h' : ys.length = xs.length) : (upG F xs ys k).length = xs.length := by simp [upG, zipT]; omega
theorem upG_step (F : Int → Int → Int × Int) (xs ys : List Int) (k : Nat) (h : k < xs.length) (h' : ys.length = xs.length) : (upG F xs ys k).set k (F (xs.getD k 0) (ys.getD k 0)).1 = upG F xs ys (k + 1) := by
  have hl : ((zipT xs ys k).map (fun p => (pairF F p).1)).length = k := by simp [zipT]; omega
  unfold upG
  rw [zipT_snoc xs ys k h (by omega), List.map_append, List.set_append_right k _ (by omega)]
  have e : xs.length - k = (xs.length - (k + 1)) + 1 := by omega
  rw [hl, Nat.sub_self, e, List.replicate_succ]
  simp [pairF]
end Go.Proofs.Ytjhflbhbegocdaa.Pl

namespace Go.Proofs.Ytjhflbhbegocdaa.Pl
/-- all pairs, row by row -/
def pairs (xs ys : List Int) : List (Int × Int) := xs.flatMap (fun x => ys.map (fun y => (x, y)))
theorem pairs_nil (ys : List Int) : pairs [] ys = [] := rfl
theorem pairs_cons (x : Int) (xs ys : List Int) : pairs (x :: xs) ys = ys.map (fun y => (x, y)) ++ pairs xs ys := by simp [pairs]
theorem pairs_append (xs zs ys : List Int) : pairs (xs ++ zs) ys = pairs xs ys ++ pairs zs ys := by simp [pairs]
theorem pairs_one (x : Int) (ys : List Int) : pairs [x] ys = ys.map (fun y => (x, y)) := by simp [pairs]
theorem pairs_len (xs ys : List Int) : (pairs xs ys).length = xs.length * ys.length := by
  induction xs with
  | nil => simp [pairs]
  | cons x xs ih => rw [pairs_cons, List.length_append, ih, List.length_map, List.length_cons, Nat.succ_mul, Nat.add_comm]
/-- the first k rows, and l pairs of the next -/
def upP (xs ys : List Int) (k l : Nat) : List (Int × Int) := pairs (xs.take k) ys ++ (ys.take l).map (fun y => (xs.getD k 0, y))
theorem upP_zero (xs ys : List Int) : pairs (xs.take 0) ys = [] := rfl
theorem upP_start (xs ys : List Int) (k : Nat) : upP xs ys k 0 = pairs (xs.take k) ys := by simp [upP]
theorem upP_snoc (xs ys : List Int) (k l : Nat) (h : l < ys.length) : upP xs ys k (l + 1) = upP xs ys k l ++ [(xs.getD k 0, ys.getD l 0)] := by
  unfold upP
  rw [take_snoc ys l h, List.map_append, List.append_assoc]
  rfl
theorem upP_row (xs ys : List Int) (k l : Nat) (h : k < xs.length) (hl : ys.length ≤ l) : upP xs ys k l = pairs (xs.take (k + 1)) ys := by
  unfold upP
  rw [take_snoc xs k h, pairs_append, pairs_one, List.take_of_length_le hl]
theorem pairs_all (xs ys : List Int) (k : Nat) (h : xs.length ≤ k) : pairs (xs.take k) ys = pairs xs ys := by rw [List.take_of_length_le h]
theorem pairs_split (xs ys : List Int) (k l : Nat) (h0 : k < xs.length) (h1 : l < ys.length) : ∃ r, pairs xs ys = upP xs ys k l ++ (xs.getD k 0, ys.getD l 0) :: r := by
  refine ⟨(ys.drop (l + 1)).map (fun y => (xs.getD k 0, y)) ++ pairs (xs.drop (k + 1)) ys, ?_⟩
  have e : pairs xs ys = pairs (xs.take (k + 1)) ys ++ pairs (xs.drop (k + 1)) ys := by rw [← pairs_append, List.take_append_drop]
  have e2 : ys.map (fun y => (xs.getD k 0, y)) = (ys.take (l + 1)).map (fun y => (xs.getD k 0, y)) ++ (ys.drop (l + 1)).map (fun y => (xs.getD k 0, y)) := by rw [← List.map_append, List.take_append_drop]
  rw [e, take_snoc xs k h0, pairs_append, pairs_one, e2, take_snoc ys l h1, List.map_append]
  unfold upP
  simp
theorem pairs_first (F : Int → Int → Int × Int) (xs ys : List Int) (k l : Nat) (h0 : k < xs.length) (h1 : l < ys.length) (h : ∀ p ∈ upP xs ys k l, (pairF F p).2 = 0) (hc : ¬ (F (xs.getD k 0) (ys.getD l 0)).2 = 0) : firstG (pairF F) (pairs xs ys) = (F (xs.getD k 0) (ys.getD l 0)).2 := by
  obtain ⟨r, e⟩ := pairs_split xs ys k l h0 h1
  rw [e]
  exact firstG_app (pairF F) _ _ r h hc
theorem upP_len (xs ys : List Int) (k l : Nat) (h0 : k ≤ xs.length) (h1 : l ≤ ys.length) : (upP xs ys k l).length = k * ys.length + l := by
  unfold upP
  rw [List.length_append, pairs_len, List.length_map, List.length_take, List.length_take]
  rw [Nat.min_eq_left h0, Nat.min_eq_left h1]
/-- Outer of valid arrays -/
def outerM (F : Int → Int → Int × Int) (sa da sb db : List Int) : Int × List Int × List Int :=
  if fitsB (sa ++ sb) = true then (if firstG (pairF F) (pairs da db) = 0 then (0, sa ++ sb, (pairs da db).map (fun p => (pairF F p).1)) else (firstG (pairF F) (pairs da db), [], [])) else (6, [], [])
theorem ok_max {sh da : List Int} (h : okB sh da = true) : sh.length ≤ 3 ∧ da.length ≤ 1000 := by
  have h1 := (ok_len h).1
  have h2 := (ok_len h).2
  simp only [fitsB, baseB, Bool.and_eq_true, decide_eq_true_eq] at h2
  omega
end Go.Proofs.Ytjhflbhbegocdaa.Pl

namespace Go.Proofs.Ytjhflbhbegocdaa.Pl
def rowAt (da : List Int) (s r : Nat) : List Int := (da.drop (r * s)).take s
/-- rows r-1, r-2, .. 0 -/
def rowsDown (da : List Int) (s : Nat) : Nat → List (List Int)
  | 0 => []
  | r + 1 => rowAt da s r :: rowsDown da s r
/-- row by row into an accumulator -/
def foldL (F : Int → Int → Int × Int) : List (List Int) → List Int → Int × List Int
  | [], acc => (0, acc)
  | xs :: rest, acc => if firstG (pairF F) (xs.zip acc) = 0 then foldL F rest ((xs.zip acc).map (fun p => (pairF F p).1)) else (firstG (pairF F) (xs.zip acc), [])
def foldM (F : Int → Int → Int × Int) (da : List Int) (s n : Nat) : Int × List Int := foldL F (rowsDown da s (n - 1)) (rowAt da s (n - 1))
theorem rowAt_len {da : List Int} {s r : Nat} (h : (r + 1) * s ≤ da.length) : (rowAt da s r).length = s := by
  unfold rowAt
  rw [List.length_take, List.length_drop]
  rw [Nat.succ_mul] at h
  omega
theorem rowAt_mem {da : List Int} {s r : Nat} {x : Int} (h : x ∈ rowAt da s r) : x ∈ da := List.mem_of_mem_drop (List.mem_of_mem_take h)
/-- the first j done in place -/
def upZ (F : Int → Int → Int × Int) (xs acc : List Int) (j : Nat) : List Int := (zipT xs acc j).map (fun p => (pairF F p).1) ++ acc.drop j
theorem upZ_zero (F : Int → Int → Int × Int) (xs acc : List Int) : upZ F xs acc 0 = acc := by simp [upZ, zipT]
theorem upZ_all (F : Int → Int → Int × Int) (xs acc : List Int) (j : Nat) (h : xs.length ≤ j) (h' : acc.length = xs.length) : upZ F xs acc j = (xs.zip acc).map (fun p => (pairF F p).1) := by
  unfold upZ
  rw [zipT_all _ _ _ h, List.drop_of_length_le (by omega), List.append_nil]
theorem upZ_len (F : Int → Int → Int × Int) (xs acc : List Int) (j : Nat) (h : j ≤ xs.length) (h' : acc.length = xs.length) : (upZ F xs acc j).length = xs.length := by simp [upZ, zipT]; omega
theorem upZ_get (F : Int → Int → Int × Int) (xs acc : List Int) (j : Nat) (h : j < xs.length) (h' : acc.length = xs.length) : (upZ F xs acc j)[j]? = some (acc.getD j 0) := by
  have hl : ((zipT xs acc j).map (fun p => (pairF F p).1)).length = j := by simp [zipT]; omega
  unfold upZ
  rw [List.getElem?_append_right (by omega), hl, Nat.sub_self]
  have : j < acc.length := by omega
  simp [List.getD, this]
theorem upZ_step (F : Int → Int → Int × Int) (xs acc : List Int) (j : Nat) (h : j < xs.length) (h' : acc.length = xs.length) : (upZ F xs acc j).set j (F (xs.getD j 0) (acc.getD j 0)).1 = upZ F xs acc (j + 1) := by
  have hl : ((zipT xs acc j).map (fun p => (pairF F p).1)).length = j := by simp [zipT]; omega
  have hd : acc.drop j = acc.getD j 0 :: acc.drop (j + 1) := by
    have : j < acc.length := by omega
    rw [List.drop_eq_getElem_cons this]
    simp [List.getD, this]
  unfold upZ
  rw [zipT_snoc xs acc j h (by omega), List.map_append, List.set_append_right j _ (by omega), hl, Nat.sub_self, hd]
  simp [pairF]
end Go.Proofs.Ytjhflbhbegocdaa.Pl

