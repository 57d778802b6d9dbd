import Derived.Test.YtjhflbhbegocdaaPlain6
import Derived.Test.YtjhflbhbegocdaaPlain5
import Derived.Test.YtjhflbhbegocdaaRed2
namespace Go.Proofs.Ytjhflbhbegocdaa.Pl
set_option linter.unusedVariables false

theorem prodP_app (xs ys : List Int) : prodP (xs ++ ys) = prodP xs * prodP ys := by
  unfold prodP
  rw [List.foldl_append, foldl_mul]
theorem base_app {xs ys : List Int} (h : baseB (xs ++ ys) = true) : baseB xs = true ∧ baseB ys = true := by
  simp only [baseB, Bool.and_eq_true, decide_eq_true_eq, List.all_eq_true, List.length_append, List.mem_append] at h ⊢
  exact ⟨⟨by omega, fun x hx => h.2 x (.inl hx)⟩, ⟨by omega, fun x hx => h.2 x (.inr hx)⟩⟩
theorem prodC_pos {xs : List Int} (h : baseB xs = true) : 0 ≤ prodC xs ∧ prodC xs ≤ 1001 := by
  simp only [baseB, Bool.and_eq_true] at h
  exact prodC_bd xs h.2
/-- the clamped product of a shape that fits is that of its parts -/
theorem prod_app {xs ys : List Int} (h : fitsB (xs ++ ys) = true) : prodC (xs ++ ys) = prodC xs * prodC ys := by
  have hb : baseB (xs ++ ys) = true := by simp only [fitsB, Bool.and_eq_true] at h; exact h.1
  obtain ⟨bx, by'⟩ := base_app hb
  have hP : prodP (xs ++ ys) ≤ 1000 := by
    rw [fits_eq, hb] at h
    simpa using h
  rw [prod_eq h, prodP_app]
  rw [prodP_app] at hP
  have tx := prod_two xs bx
  have ty := prod_two ys by'
  by_cases hx : prodP xs ≤ 1000
  · rw [tx.2.2 (tx.2.1.2 hx)]
    by_cases hy : prodP ys ≤ 1000
    · rw [ty.2.2 (ty.2.1.2 hy)]
    · have h0 : prodP xs = 0 := by
        rcases Int.lt_or_le (prodP xs) 1 with h1 | h1
        · omega
        · have := Int.mul_le_mul_of_nonneg_right h1 ty.1.1
          omega
      rw [h0, Int.zero_mul, Int.zero_mul]
  · have h0 : prodP ys = 0 := by
      rcases Int.lt_or_le (prodP ys) 1 with h1 | h1
      · omega
      · have := Int.mul_le_mul_of_nonneg_left h1 tx.1.1
        omega
    rw [ty.2.2 (ty.2.1.2 (by omega)), h0, Int.mul_zero, Int.mul_zero]

theorem prod_one {n : Int} (h0 : 0 ≤ n) (h1 : n ≤ 1000) : prodC [n] = n := by
  simp [prodC, stepC]
  omega

theorem fold_len (F : Int → Int → Int × Int) (s : Nat) (rows : List (List Int)) (acc : List Int) (hr : ∀ r ∈ rows, r.length = s) (ha : acc.length = s) : (foldL F rows acc).1 = 0 → (foldL F rows acc).2.length = s := by
  induction rows generalizing acc with
  | nil => intro _; exact ha
  | cons x xs ih =>
    unfold foldL
    split
    · exact ih _ (fun r h => hr r (List.mem_cons_of_mem _ h)) (by
        have := hr x List.mem_cons_self
        simp [this, ha])
    · intro h
      rename_i hc
      exact absurd h hc

theorem rowsDown_len {da : List Int} {s q : Nat} (h : q * s ≤ da.length) : ∀ r ∈ rowsDown da s q, r.length = s := by
  induction q with
  | zero => intro r hr; simp [rowsDown] at hr
  | succ q ih =>
    intro r hr
    have h' : q * s ≤ da.length := by rw [Nat.succ_mul] at h; omega
    simp only [rowsDown, List.mem_cons] at hr
    rcases hr with rfl | hr
    · exact rowAt_len h
    · exact ih h' r hr

/-- Reduce of a vector: one cell, or a code -/
theorem reduce_vec (F : Int → Int → Int × Int) (nv : Int) (nb : Bool) (n : Nat) (D : List Int) (hD : D.length = n) :
    (∃ v, reduceM F nv nb [(n : Int)] D = (0, [], [v])) ∨ (∃ c, ¬ c = 0 ∧ reduceM F nv nb [(n : Int)] D = (c, [], [])) := by
  unfold reduceM
  have e1 : prodC [] = 1 := rfl
  have e2 : fitsB [] = true := rfl
  simp only [List.length_cons, List.length_nil, List.tail_cons, List.getD_cons_zero, e1, e2, if_true]
  rw [if_neg (by omega)]
  by_cases hn : (n : Int) = 0
  · rw [if_pos hn]
    cases nb with
    | true => exact .inr ⟨1, by decide, by simp⟩
    | false => exact .inl ⟨nv, by simp⟩
  · rw [if_neg hn]
    have et : ((1 : Int)).toNat = 1 := rfl
    have en : ((n : Int)).toNat = n := by omega
    rw [et, en]
    by_cases h0 : (foldM F D 1 n).1 = 0
    · rw [if_pos h0]
      have hl : (foldM F D 1 n).2.length = 1 := by
        unfold foldM at h0 ⊢
        exact fold_len F 1 _ _ (rowsDown_len (by omega)) (rowAt_len (by omega)) h0
      obtain ⟨v, hv⟩ := List.length_eq_one_iff.1 hl
      exact .inl ⟨v, by rw [hv]⟩
    · rw [if_neg h0]
      exact .inr ⟨_, h0, rfl⟩

/-- a column of the right array -/
def innV (db : List Int) (n T k : Nat) : List Int := (List.range n).map (fun m => db.getD (m * T + k) 0)
/-- one cell -/
def innC (F : Int → Int → Int × Int) (nv : Int) (nb : Bool) (G : Int → Int → Int × Int) (n : Nat) (xs ys : List Int) : Int × Int :=
  if firstG (pairF G) (xs.zip ys) = 0 then ((reduceM F nv nb [(n : Int)] ((xs.zip ys).map (fun p => (pairF G p).1))).2.2.getD 0 0, (reduceM F nv nb [(n : Int)] ((xs.zip ys).map (fun p => (pairF G p).1))).1)
  else (0, firstG (pairF G) (xs.zip ys))
/-- the cell at a place -/
def innQ (F : Int → Int → Int × Int) (nv : Int) (nb : Bool) (G : Int → Int → Int × Int) (n T : Nat) (da db : List Int) (i : Nat) : Int × Int := innC F nv nb G n (rowAt da n (i / T)) (innV db n T (i % T))
/-- the inner product of valid arrays -/
def innM (F : Int → Int → Int × Int) (nv : Int) (nb : Bool) (G : Int → Int → Int × Int) (sa da sb db : List Int) : Int × List Int × List Int :=
  if sa.length = 0 ∨ sb.length = 0 then (2, [], [])
  else if ¬ sa.getD (sa.length - 1) 0 = sb.getD 0 0 then (3, [], [])
  else if fitsB (sa.take (sa.length - 1) ++ sb.tail) = true then
    (if firstG (innQ F nv nb G (sb.getD 0 0).toNat (prodC sb.tail).toNat da db) (List.range (prodC (sa.take (sa.length - 1) ++ sb.tail)).toNat) = 0
      then (0, sa.take (sa.length - 1) ++ sb.tail, (List.range (prodC (sa.take (sa.length - 1) ++ sb.tail)).toNat).map (fun i => (innQ F nv nb G (sb.getD 0 0).toNat (prodC sb.tail).toNat da db i).1))
      else (firstG (innQ F nv nb G (sb.getD 0 0).toNat (prodC sb.tail).toNat da db) (List.range (prodC (sa.take (sa.length - 1) ++ sb.tail)).toNat), [], []))
  else (6, [], [])

theorem innV_len (db : List Int) (n T k : Nat) : (innV db n T k).length = n := by simp [innV]
theorem innV_snoc (db : List Int) (n T k : Nat) : innV db (n + 1) T k = innV db n T k ++ [db.getD (n * T + k) 0] := by simp [innV, List.range_succ]
theorem innV_get (db : List Int) (n T k i : Nat) (h : i < n) : (innV db n T k).getD i 0 = db.getD (i * T + k) 0 := by
  simp [innV, List.getD, h]
theorem innV_mem {db : List Int} {n T k : Nat} {x : Int} (hl : db.length = n * T) (hk : k < T) (h : x ∈ innV db n T k) : x ∈ db := by
  simp only [innV, List.mem_map, List.mem_range] at h
  obtain ⟨m, hm, rfl⟩ := h
  have : m * T + k < db.length := by
    rw [hl]
    have := Nat.mul_le_mul_right T (show m + 1 ≤ n from hm)
    rw [Nat.succ_mul] at this
    omega
  have e : db.getD (m * T + k) 0 = db[m * T + k] := by simp [List.getD, this]
  rw [e]
  exact List.getElem_mem this

theorem range_first (Q : Nat → Int × Int) (N i : Nat) (hi : i < N) (h : ∀ j ∈ List.range i, (Q j).2 = 0) (hc : ¬ (Q i).2 = 0) : firstG Q (List.range N) = (Q i).2 := by
  obtain ⟨m, rfl⟩ : ∃ m, N = i + (1 + m) := ⟨N - (i + 1), by omega⟩
  have e : List.range (i + (1 + m)) = List.range i ++ i :: (List.range m).map (fun x => i + (1 + x)) := by
    rw [List.range_add, List.range_add]
    simp [List.range_one, Function.comp_def]
  rw [e]
  exact firstG_app Q _ i _ h hc

/-- what the three lengths are -/
theorem inn_len {sa da sb db : List Int} {n : Nat} (ha : okB sa da = true) (hb : okB sb db = true) (h0 : 1 ≤ sa.length) (h1 : 1 ≤ sb.length) (e0 : sa.getD (sa.length - 1) 0 = n) (e1 : sb.getD 0 0 = n) :
    ∃ H T : Nat, prodC (sa.take (sa.length - 1)) = H ∧ prodC sb.tail = T ∧ H ≤ 1001 ∧ T ≤ 1001 ∧ n ≤ 1000 ∧ da.length = H * n ∧ db.length = n * T ∧ (fitsB (sa.take (sa.length - 1) ++ sb.tail) = true → prodC (sa.take (sa.length - 1) ++ sb.tail) = ((H * T : Nat) : Int)) := by
  obtain ⟨la, fa⟩ := ok_len ha
  obtain ⟨lb, fb⟩ := ok_len hb
  have sa' : sa.take (sa.length - 1) ++ [sa.getD (sa.length - 1) 0] = sa := by
    rw [← take_snoc sa (sa.length - 1) (by omega), show sa.length - 1 + 1 = sa.length by omega, List.take_length]
  have sb' : [sb.getD 0 0] ++ sb.tail = sb := by
    cases sb with
    | nil => simp at h1
    | cons x l => simp
  have pa : fitsB (sa.take (sa.length - 1) ++ [sa.getD (sa.length - 1) 0]) = true := by rw [sa']; exact fa
  have pb : fitsB ([sb.getD 0 0] ++ sb.tail) = true := by rw [sb']; exact fb
  have ba : baseB (sa.take (sa.length - 1) ++ [sa.getD (sa.length - 1) 0]) = true := by simp only [fitsB, Bool.and_eq_true] at pa; exact pa.1
  have bb : baseB ([sb.getD 0 0] ++ sb.tail) = true := by simp only [fitsB, Bool.and_eq_true] at pb; exact pb.1
  have qa := prod_app pa
  have qb := prod_app pb
  rw [sa', e0] at qa
  rw [sb', e1] at qb
  have Ha := prodC_pos (base_app ba).1
  have Hb := prodC_pos (base_app bb).2
  have hn : 0 ≤ (n : Int) ∧ (n : Int) ≤ 1000 := by
    have := (base_app bb).1
    rw [e1] at this
    simp only [baseB, Bool.and_eq_true, List.all_cons] at this
    exact inR_bd this.2.1
  rw [prod_one hn.1 hn.2] at qa qb
  obtain ⟨H, hH⟩ := Int.eq_ofNat_of_zero_le Ha.1
  obtain ⟨T, hT⟩ := Int.eq_ofNat_of_zero_le Hb.1
  refine ⟨H, T, hH, hT, by omega, by omega, by omega, ?_, ?_, ?_⟩
  · rw [hH] at qa; have := la.trans qa; exact_mod_cast this
  · rw [hT] at qb; have := lb.trans qb; exact_mod_cast this
  · intro hf
    rw [prod_app hf, hH, hT]
    exact (Int.natCast_mul H T).symm

theorem ok_vec {xs : List Int} {n : Nat} (hn : n ≤ 1000) (hl : xs.length = n) (h : ∀ x ∈ xs, -3000000000 ≤ x ∧ x ≤ 3000000000) : okB [(n : Int)] xs = true := by
  have e := prod_one (n := (n : Int)) (by omega) (by omega)
  have hi : inR (n : Int) = true := by unfold inR; rw [decide_eq_true_eq]; omega
  simp only [okB, fitsB, baseB, Bool.and_eq_true, decide_eq_true_eq, List.all_eq_true, List.length_cons, List.length_nil, e, hl]
  exact ⟨⟨⟨⟨by omega, by intro x hx; simp at hx; rw [hx]; exact hi⟩, by omega⟩, trivial⟩, fun x hx => by unfold valB; rw [decide_eq_true_eq]; exact h x hx⟩

theorem cons_tail (sb : List Int) (h : ¬ sb.length = 0) : sb.getD 0 0 :: sb.tail = sb := by
  cases sb with
  | nil => simp at h
  | cons x l => rfl
def innD (f g : Int) (sa da sb db : List Int) : Int × List Int × List Int := if (1 ≤ f ∧ f < 11) ∧ (1 ≤ g ∧ g < 11) ∧ okB sa da = true ∧ okB sb db = true then innM (twoM f) (noneV f.toNat) (noneB f.toNat) (twoM g) sa da sb db else (9, [], [])
theorem innD_no {f g : Int} {sa da sb db : List Int} (h : ¬ ((1 ≤ f ∧ f < 11) ∧ (1 ≤ g ∧ g < 11) ∧ okB sa da = true ∧ okB sb db = true)) : innD f g sa da sb db = (9, [], []) := by unfold innD; rw [if_neg h]
theorem innD_yes {f g : Int} {sa da sb db : List Int} (h : (1 ≤ f ∧ f < 11) ∧ (1 ≤ g ∧ g < 11) ∧ okB sa da = true ∧ okB sb db = true) : innD f g sa da sb db = innM (twoM f) (noneV f.toNat) (noneB f.toNat) (twoM g) sa da sb db := by unfold innD; rw [if_pos h]

end Go.Proofs.Ytjhflbhbegocdaa.Pl
