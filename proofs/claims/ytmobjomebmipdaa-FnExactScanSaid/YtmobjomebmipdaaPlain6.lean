import Derived.Test.YtmobjomebmipdaaPlain5
import Derived.Test.YtmobjomebmipdaaPlain2
import Derived.Test.YtmobjomebmipdaaFace1b
namespace Go.Proofs.Ytmobjomebmipdaa.Pl
set_option linter.unusedVariables false

theorem foldl_mul (l : List Int) (p : Int) : l.foldl (fun p x => p * x) p = p * l.foldl (fun p x => p * x) 1 := by
  induction l generalizing p with
  | nil => simp
  | cons x xs ih =>
    simp only [List.foldl_cons]
    rw [ih (p * x), ih (1 * x), Int.one_mul, Int.mul_assoc]
theorem prodP_cons (x : Int) (l : List Int) : prodP (x :: l) = x * prodP l := by
  unfold prodP
  rw [List.foldl_cons, Int.one_mul, foldl_mul]
theorem base_tail {sh : List Int} (h : baseB sh = true) : baseB sh.tail = true := by
  simp only [baseB, Bool.and_eq_true, decide_eq_true_eq, List.all_eq_true] at h ⊢
  refine ⟨by simp; omega, fun x hx => h.2 x (List.mem_of_mem_tail hx)⟩
/-- the number and size of the rows of a valid array -/
theorem ok_rows {sh da : List Int} (h : okB sh da = true) (h0 : ¬ sh.length = 0) (hn : ¬ sh.getD 0 0 = 0) :
    fitsB sh.tail = true ∧ ∃ n s : Nat, sh.getD 0 0 = n ∧ prodC sh.tail = s ∧ 1 ≤ n ∧ n ≤ 1000 ∧ da.length = n * s := by
  obtain ⟨hl, hf⟩ := ok_len h
  have hP := prod_eq hf
  cases sh with
  | nil => simp at h0
  | cons x tl =>
    have hx : (x :: tl).getD 0 0 = x := rfl
    rw [hx] at hn ⊢
    simp only [List.tail_cons]
    have hb : baseB (x :: tl) = true := by simp only [fitsB, Bool.and_eq_true] at hf; exact hf.1
    have hbt := base_tail hb
    simp only [List.tail_cons] at hbt
    have hp1000 : prodP (x :: tl) ≤ 1000 := by
      rw [fits_eq, hb] at hf
      simpa using hf
    rw [prodP_cons] at hp1000
    have hxr : 0 ≤ x ∧ x ≤ 1000 := by
      simp only [baseB, Bool.and_eq_true, List.all_cons] at hb
      exact inR_bd hb.2.1
    have ht := (prod_two tl hbt).1
    have h1 : 1 * prodP tl ≤ x * prodP tl := Int.mul_le_mul_of_nonneg_right (by omega) ht.1
    have hft : fitsB tl = true := by
      rw [fits_eq, hbt]
      simp only [Bool.true_and, decide_eq_true_eq]
      omega
    refine ⟨hft, x.toNat, (prodP tl).toNat, by omega, by rw [prod_eq hft]; omega, by omega, by omega, ?_⟩
    have e : (da.length : Int) = (x.toNat : Int) * ((prodP tl).toNat : Int) := by
      rw [hl, hP, prodP_cons]
      congr 1 <;> omega
    exact_mod_cast e
theorem ok_row {sh da : List Int} (h : okB sh da = true) {s n r : Nat} (hf : fitsB sh.tail = true) (hs : prodC sh.tail = s) (hl : da.length = n * s) (hr : r < n) : okB sh.tail (rowAt da s r) = true := by
  have h1 : (r + 1) * s ≤ da.length := by rw [hl]; exact Nat.mul_le_mul_right s hr
  simp only [okB, Bool.and_eq_true, decide_eq_true_eq, List.all_eq_true] at h ⊢
  exact ⟨⟨hf, by rw [rowAt_len h1, hs]⟩, fun x hx => h.2 x (rowAt_mem hx)⟩
/-- Each2 of two rows -/
theorem each2_rows (F : Int → Int → Int × Int) {tl xs ys : List Int} (h : okB tl xs = true) (h' : okB tl ys = true) :
    each2M F tl xs tl ys = if firstG (pairF F) (xs.zip ys) = 0 then (0, tl, (xs.zip ys).map (fun p => (pairF F p).1)) else (firstG (pairF F) (xs.zip ys), [], []) := by
  unfold each2M
  split
  · rename_i h0
    have h1 := ok_one h h0
    have e : rep tl xs = xs := by
      unfold rep
      rw [prodC_nil h0]
      match xs, h1 with
      | [x], _ => rfl
    rw [e]
    unfold eachM
    rw [if_neg (fun h => h rfl), if_neg (fun h => h rfl)]
  · rename_i h0
    unfold eachM
    rw [if_neg (fun h => h rfl), if_neg (fun h => h rfl)]
theorem ok_map (F : Int → Int → Int × Int) (hFb : ∀ x y, -3000000000 ≤ x → x ≤ 3000000000 → -3000000000 ≤ y → y ≤ 3000000000 → (F x y).2 = 0 → -3000000000 ≤ (F x y).1 ∧ (F x y).1 ≤ 3000000000)
    {tl xs ys : List Int} (h : okB tl xs = true) (h' : okB tl ys = true) (hz : firstG (pairF F) (xs.zip ys) = 0) : okB tl ((xs.zip ys).map (fun p => (pairF F p).1)) = true := by
  have hl := ok_lens h h'
  have all0 : ∀ p ∈ xs.zip ys, (pairF F p).2 = 0 := by
    revert hz
    generalize xs.zip ys = l
    intro hz
    induction l with
    | nil => simp
    | cons p ps ih =>
      simp only [firstG] at hz
      by_cases h0 : (pairF F p).2 = 0
      · rw [if_pos h0] at hz
        intro q hq
        rcases List.mem_cons.1 hq with rfl | hq
        · exact h0
        · exact ih hz q hq
      · rw [if_neg h0] at hz
        exact absurd hz h0
  have e := (ok_len h).1
  have f := (ok_len h).2
  simp only [okB, Bool.and_eq_true, decide_eq_true_eq, List.all_eq_true]
  refine ⟨⟨f, by simp; omega⟩, ?_⟩
  intro v hv
  obtain ⟨p, hp, rfl⟩ := List.mem_map.1 hv
  have c := all0 p hp
  have m0 := ok_cell h (List.of_mem_zip (show (p.1, p.2) ∈ _ from hp)).1
  have m1 := ok_cell h' (List.of_mem_zip (show (p.1, p.2) ∈ _ from hp)).2
  have := hFb p.1 p.2 m0.1 m0.2 m1.1 m1.2 c
  simp only [valB, decide_eq_true_eq]
  exact this
theorem in_bd (v : Int) : (inM v).2 = 0 → -3000000000 ≤ (inM v).1 ∧ (inM v).1 ≤ 3000000000 := by
  unfold inM
  split
  · intro _; assumption
  · intro h; simp at h
theorem bool_bd (b : Bool) : -3000000000 ≤ boolM b ∧ boolM b ≤ 3000000000 := by unfold boolM; split <;> omega
/-- an operation's answers stay in range -/
theorem two_bd (k : Nat) (h0 : 1 ≤ k) (h1 : k < 11) (x y : Int) (x0 : -3000000000 ≤ x) (x1 : x ≤ 3000000000) (y0 : -3000000000 ≤ y) (y1 : y ≤ 3000000000) : (twoM k x y).2 = 0 → -3000000000 ≤ (twoM k x y).1 ∧ (twoM k x y).1 ≤ 3000000000 := by
  have hk : k = 1 ∨ k = 2 ∨ k = 3 ∨ k = 4 ∨ k = 5 ∨ k = 6 ∨ k = 7 ∨ k = 8 ∨ k = 9 ∨ k = 10 := by omega
  rcases hk with rfl | rfl | rfl | rfl | rfl | rfl | rfl | rfl | rfl | rfl
  · exact in_bd _
  · exact in_bd _
  · exact in_bd _
  · show (if y = 0 then ((0 : Int), (1 : Int)) else (divM x y, 0)).2 = 0 → -3000000000 ≤ (if y = 0 then ((0 : Int), (1 : Int)) else (divM x y, 0)).1 ∧ (if y = 0 then ((0 : Int), (1 : Int)) else (divM x y, 0)).1 ≤ 3000000000
    split
    · intro h; simp at h
    · rename_i hy
      intro _
      exact div_bd hy x0 x1
  · show (if y = 0 then (x, (0 : Int)) else (modM x y, 0)).2 = 0 → -3000000000 ≤ (if y = 0 then (x, (0 : Int)) else (modM x y, 0)).1 ∧ (if y = 0 then (x, (0 : Int)) else (modM x y, 0)).1 ≤ 3000000000
    split
    · intro _; exact ⟨x0, x1⟩
    · rename_i hy
      intro _
      exact mod_bd hy x0 x1 y0 y1
  · intro _
    show -3000000000 ≤ min x y ∧ min x y ≤ 3000000000
    omega
  · intro _
    show -3000000000 ≤ max x y ∧ max x y ≤ 3000000000
    omega
  · intro _; exact bool_bd _
  · intro _; exact bool_bd _
  · intro _; exact bool_bd _

/-- Reduce of a valid array: nv and nb are the operation's value for nothing and whether it has none -/
def reduceM (F : Int → Int → Int × Int) (nv : Int) (nb : Bool) (sh da : List Int) : Int × List Int × List Int :=
  if sh.length = 0 then (0, [], da)
  else if sh.getD 0 0 = 0 then (if nb = true then (1, [], []) else if fitsB sh.tail = true then (0, sh.tail, List.replicate (prodC sh.tail).toNat nv) else (6, [], []))
  else if (foldM F da (prodC sh.tail).toNat (sh.getD 0 0).toNat).1 = 0 then (0, sh.tail, (foldM F da (prodC sh.tail).toNat (sh.getD 0 0).toNat).2) else ((foldM F da (prodC sh.tail).toNat (sh.getD 0 0).toNat).1, [], [])
/-- the number of an operation, a valid array; else BadArray -/
def moM (M : List Int → List Int → Int × List Int × List Int) (op : Int) (sh da : List Int) : Int × List Int × List Int := if 1 ≤ op ∧ op < 11 ∧ okB sh da = true then M sh da else (9, [], [])
theorem moM_no {M : List Int → List Int → Int × List Int × List Int} {op : Int} {sh da : List Int} (h : ¬ (1 ≤ op ∧ op < 11 ∧ okB sh da = true)) : moM M op sh da = (9, [], []) := by unfold moM; rw [if_neg h]
theorem moM_yes {M : List Int → List Int → Int × List Int × List Int} {op : Int} {sh da : List Int} (h : 1 ≤ op ∧ op < 11 ∧ okB sh da = true) : moM M op sh da = M sh da := by unfold moM; rw [if_pos h]
end Go.Proofs.Ytmobjomebmipdaa.Pl
