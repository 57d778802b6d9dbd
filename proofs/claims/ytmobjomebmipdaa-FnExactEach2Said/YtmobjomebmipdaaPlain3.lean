import Derived.Test.YtmobjomebmipdaaEach
namespace Go.Proofs.Ytmobjomebmipdaa.Pl
/-- the code of the first that has one -/
def firstG {α : Type} (F : α → Int × Int) : List α → Int
  | [] => 0
  | x :: xs => if (F x).2 = 0 then firstG F xs else (F x).2
theorem firstG_zero {α : Type} (F : α → Int × Int) (l : List α) (h : ∀ x ∈ l, (F x).2 = 0) : firstG F l = 0 := by
  induction l with
  | nil => rfl
  | cons x xs ih => simp only [firstG]; rw [if_pos (h x (by simp))]; exact ih (fun y hy => h y (by simp [hy]))
theorem firstG_app {α : Type} (F : α → Int × Int) (l : List α) (x : α) (r : List α) (h : ∀ x ∈ l, (F x).2 = 0) (hc : ¬ (F x).2 = 0) : firstG F (l ++ x :: r) = (F x).2 := by
  induction l with
  | nil => simp only [List.nil_append, firstG]; rw [if_neg hc]
  | cons y ys ih => simp only [List.cons_append, firstG]; rw [if_pos (h y (by simp))]; exact ih (fun y hy => h y (by simp [hy]))
theorem firstC_eq (F : Int → Int × Int) (l : List Int) : firstC F l = firstG F l := by
  induction l with
  | nil => rfl
  | cons x xs ih => simp only [firstC, firstG, ih]

/-- the first k pairs -/
def zipT (xs ys : List Int) (k : Nat) : List (Int × Int) := (xs.zip ys).take k
theorem zipT_zero (xs ys : List Int) : zipT xs ys 0 = [] := by simp [zipT]
theorem zipT_all (xs ys : List Int) (k : Nat) (h : xs.length ≤ k) : zipT xs ys k = xs.zip ys := by
  unfold zipT
  exact List.take_of_length_le (by simp; omega)
theorem zipT_snoc (xs ys : List Int) (k : Nat) (h0 : k < xs.length) (h1 : k < ys.length) : zipT xs ys (k + 1) = zipT xs ys k ++ [(xs.getD k 0, ys.getD k 0)] := by
  unfold zipT
  have hk : k < (xs.zip ys).length := by simp; omega
  rw [List.take_succ_eq_append_getElem hk]
  simp [List.getD, h0, h1]
theorem zipT_split (xs ys : List Int) (k : Nat) (h0 : k < xs.length) (h1 : k < ys.length) : ∃ r, xs.zip ys = zipT xs ys k ++ (xs.getD k 0, ys.getD k 0) :: r := by
  refine ⟨(xs.zip ys).drop (k + 1), ?_⟩
  have := zipT_snoc xs ys k h0 h1
  have e : xs.zip ys = zipT xs ys (k + 1) ++ (xs.zip ys).drop (k + 1) := (List.take_append_drop _ _).symm
  rw [this] at e
  simpa using e
def pairF (F : Int → Int → Int × Int) (p : Int × Int) : Int × Int := F p.1 p.2
theorem first_at (F : Int → Int → Int × Int) (xs ys : List Int) (k : Nat) (h0 : k < xs.length) (h1 : k < ys.length) (h : ∀ p ∈ zipT xs ys k, (pairF F p).2 = 0) (hc : ¬ (F (xs.getD k 0) (ys.getD k 0)).2 = 0) : firstG (pairF F) (xs.zip ys) = (F (xs.getD k 0) (ys.getD k 0)).2 := by
  obtain ⟨r, e⟩ := zipT_split xs ys k h0 h1
  rw [e]
  exact firstG_app (pairF F) _ _ r h hc

/-- what Each2 gives of arrays of the lengths sa, sb -/
def eachM (F : Int → Int → Int × Int) (sa xs sb ys : List Int) : Int × List Int × List Int :=
  if ¬ sa.length = sb.length then (2, [], []) else if ¬ sa = sb then (3, [], []) else if firstG (pairF F) (xs.zip ys) = 0 then (0, sa, (xs.zip ys).map (fun p => (pairF F p).1)) else (firstG (pairF F) (xs.zip ys), [], [])
def rep (sh da : List Int) : List Int := List.replicate (prodC sh).toNat (da.getD 0 0)
/-- Each2 of valid arrays -/
def each2M (F : Int → Int → Int × Int) (sa da sb db : List Int) : Int × List Int × List Int :=
  if sa.length = 0 then eachM F sb (rep sb da) sb db else if sb.length = 0 then eachM F sa da sa (rep sa db) else eachM F sa da sb db
theorem ok_len {sh da : List Int} (h : okB sh da = true) : (da.length : Int) = prodC sh ∧ fitsB sh = true := by
  simp only [okB, Bool.and_eq_true, decide_eq_true_eq] at h
  exact ⟨h.1.2, h.1.1⟩
theorem rep_len {sh da x : List Int} (h : okB sh da = true) : (rep sh x).length = da.length := by
  have := (ok_len h).1
  simp [rep]
  omega
theorem ok_lens {sh da db : List Int} (h : okB sh da = true) (h' : okB sh db = true) : da.length = db.length := by
  have := (ok_len h).1
  have := (ok_len h').1
  omega
theorem ok_rep {sa da sb db : List Int} (h : okB sa da = true) (h' : okB sb db = true) (hd : 0 < da.length) : okB sb (rep sb da) = true := by
  have e := rep_len (x := da) h'
  simp only [okB, Bool.and_eq_true, decide_eq_true_eq] at h h' ⊢
  refine ⟨⟨h'.1.1, by rw [e]; exact h'.1.2⟩, ?_⟩
  have hm : da.getD 0 0 ∈ da := by
    have : da.getD 0 0 = da[0] := by simp [List.getD, hd]
    rw [this]; exact List.getElem_mem hd
  have hx := h.2
  rw [List.all_eq_true] at hx ⊢
  intro y hy
  have : y = da.getD 0 0 := by unfold rep at hy; exact List.eq_of_mem_replicate hy
  rw [this]
  exact hx _ hm
theorem ok_one {sa da : List Int} (h : okB sa da = true) (h0 : sa.length = 0) : da.length = 1 := by
  have := (ok_len h).1
  obtain rfl := List.length_eq_zero_iff.1 h0
  have e : prodC [] = 1 := rfl
  omega
theorem prodC_nil {sh : List Int} (h : sh.length = 0) : prodC sh = 1 := by
  obtain rfl := List.length_eq_zero_iff.1 h
  rfl
theorem firstG_map {α β : Type} (F : β → Int × Int) (g : α → β) (l : List α) : firstG F (l.map g) = firstG (fun x => F (g x)) l := by
  induction l with
  | nil => rfl
  | cons x xs ih => simp only [List.map_cons, firstG, ih]
theorem zip_repL (n : Nat) (x : Int) (ys : List Int) (h : n = ys.length) : (List.replicate n x).zip ys = ys.map (fun y => (x, y)) := by
  subst h
  induction ys with
  | nil => rfl
  | cons y ys ih => simp only [List.length_cons, List.replicate_succ, List.zip_cons_cons, List.map_cons, ih]
theorem zip_repR (n : Nat) (y : Int) (xs : List Int) (h : n = xs.length) : xs.zip (List.replicate n y) = xs.map (fun x => (x, y)) := by
  subst h
  induction xs with
  | nil => rfl
  | cons x xs ih => simp only [List.length_cons, List.replicate_succ, List.zip_cons_cons, List.map_cons, ih]
theorem if_three (c : Int) (A B : List Int) : (if c = 0 then (0, A, B) else (c, [], [])) = (c, if c = 0 then A else [], if c = 0 then B else []) := by
  by_cases h : c = 0
  · rw [if_pos h, if_pos h, if_pos h, h]
  · rw [if_neg h, if_neg h, if_neg h]
theorem eachL (F : Int → Int → Int × Int) (sb da db : List Int) (h : okB sb db = true) : eachM F sb (rep sb da) sb db = (firstC (F (da.getD 0 0)) db, if firstC (F (da.getD 0 0)) db = 0 then sb else [], if firstC (F (da.getD 0 0)) db = 0 then db.map (fun y => (F (da.getD 0 0) y).1) else []) := by
  have hl := rep_len (x := da) h
  have e : (rep sb da).zip db = db.map (fun y => (da.getD 0 0, y)) := by
    unfold rep at hl ⊢
    exact zip_repL _ _ _ (by simpa using hl)
  unfold eachM
  rw [if_neg (fun h => h rfl), if_neg (fun h => h rfl), e, firstG_map]
  have e2 : firstG (fun x => pairF F (da.getD 0 0, x)) db = firstC (F (da.getD 0 0)) db := (firstC_eq _ _).symm
  rw [e2, if_three, List.map_map]
  rfl
theorem eachR (F : Int → Int → Int × Int) (sa da db : List Int) (h : okB sa da = true) : eachM F sa da sa (rep sa db) = (firstC (fun x => F x (db.getD 0 0)) da, if firstC (fun x => F x (db.getD 0 0)) da = 0 then sa else [], if firstC (fun x => F x (db.getD 0 0)) da = 0 then da.map (fun x => (F x (db.getD 0 0)).1) else []) := by
  have hl := rep_len (x := db) h
  have e : da.zip (rep sa db) = da.map (fun x => (x, db.getD 0 0)) := by
    unfold rep at hl ⊢
    exact zip_repR _ _ _ (by simpa using hl)
  unfold eachM
  rw [if_neg (fun h => h rfl), if_neg (fun h => h rfl), e, firstG_map]
  have e2 : firstG (fun x => pairF F (x, db.getD 0 0)) da = firstC (fun x => F x (db.getD 0 0)) da := (firstC_eq _ _).symm
  rw [e2, if_three, List.map_map]
  rfl
/-- the first k done, the rest still 0 -/
def upG (F : Int → Int → Int × Int) (xs ys : List Int) (k : Nat) : List Int := (zipT xs ys k).map (fun p => (pairF F p).1) ++ List.replicate (xs.length - k) 0
theorem upG_zero (F : Int → Int → Int × Int) (xs ys : List Int) : upG F xs ys 0 = List.replicate xs.length 0 := by simp [upG, zipT]
theorem upG_all (F : Int → Int → Int × Int) (xs ys : List Int) (k : Nat) (h : xs.length ≤ k) : upG F xs ys k = (xs.zip ys).map (fun p => (pairF F p).1) := by
  unfold upG
  rw [zipT_all _ _ _ h, Nat.sub_eq_zero_of_le h]
  simp
theorem upG_len (F : Int → Int → Int × Int) (xs ys : List Int) (k : Nat) (h : k ≤ xs.length) (h' : ys.length = xs.length) : (upG F xs ys k).length = xs.length := by simp [upG, zipT]; omega
theorem upG_step (F : Int → Int → Int × Int) (xs ys : List Int) (k : Nat) (h : k < xs.length) (h' : ys.length = xs.length) : (upG F xs ys k).set k (F (xs.getD k 0) (ys.getD k 0)).1 = upG F xs ys (k + 1) := by
  have hl : ((zipT xs ys k).map (fun p => (pairF F p).1)).length = k := by simp [zipT]; omega
  unfold upG
  rw [zipT_snoc xs ys k h (by omega), List.map_append, List.set_append_right k _ (by omega)]
  have e : xs.length - k = (xs.length - (k + 1)) + 1 := by omega
  rw [hl, Nat.sub_self, e, List.replicate_succ]
  simp [pairF]
end Go.Proofs.Ytmobjomebmipdaa.Pl
