import Derived.Test.YtaikmbfdhecjoaaGreatFaceS
import Derived.Test.YtaikmbfdhecjoaaGreatDw1
import Derived.Test.YtaikmbfdhecjoaaGreatScanP
import Derived.Test.YtaikmbfdhecjoaaGreatPlI
import Derived.Test.YtaikmbfdhecjoaaGreatDyP
import Derived.Test.YtaikmbfdhecjoaaGreatDyC
namespace Go.Proofs.YtaikmbfdhecjoaaGreat.Pl
open Go.RowKit
set_option linter.unusedVariables false

theorem firstG_all {α : Type} (F : α → Int × Int) (l : List α) (h : firstG F l = 0) : ∀ x ∈ l, (F x).2 = 0 := by
  induction l with
  | nil => intro x hx; cases hx
  | cons y ys ih =>
    simp only [firstG] at h
    by_cases hy : (F y).2 = 0
    · rw [if_pos hy] at h
      intro x hx
      rcases List.mem_cons.1 hx with rfl | hx
      · exact hy
      · exact ih h x hx
    · rw [if_neg hy] at h
      exact absurd h hy

theorem fold_in (F : Int → Int → Int × Int) (FB : ∀ x y, -3000000000 ≤ x → x ≤ 3000000000 → -3000000000 ≤ y → y ≤ 3000000000 → (F x y).2 = 0 → -3000000000 ≤ (F x y).1 ∧ (F x y).1 ≤ 3000000000)
    (rows : List (List Int)) (acc : List Int) (hr : ∀ r ∈ rows, ∀ x ∈ r, -3000000000 ≤ x ∧ x ≤ 3000000000) (ha : ∀ x ∈ acc, -3000000000 ≤ x ∧ x ≤ 3000000000) : ∀ x ∈ (foldL F rows acc).2, -3000000000 ≤ x ∧ x ≤ 3000000000 := by
  induction rows generalizing acc with
  | nil => exact ha
  | cons y ys ih =>
    unfold foldL
    split
    · rename_i hz
      refine ih _ (fun r h => hr r (List.mem_cons_of_mem _ h)) (fun x hx => ?_)
      obtain ⟨p, hp, rfl⟩ := List.mem_map.1 hx
      have h1 := hr y List.mem_cons_self p.1 (List.of_mem_zip hp).1
      have h2 := ha p.2 (List.of_mem_zip hp).2
      exact FB p.1 p.2 h1.1 h1.2 h2.1 h2.2 (firstG_all _ _ hz p hp)
    · intro x hx; cases hx

theorem rowsDown_mem {da : List Int} {s q : Nat} : ∀ r ∈ rowsDown da s q, ∀ x ∈ r, x ∈ da := by
  induction q with
  | zero => intro r hr; simp [rowsDown] at hr
  | succ q ih =>
    intro r hr x hx
    simp only [rowsDown, List.mem_cons] at hr
    rcases hr with rfl | hr
    · exact rowAt_mem hx
    · exact ih r hr x hx

theorem beg_in (k : Nat) (h0 : 1 ≤ k) (h1 : k < 11) (da : List Int) (s i : Nat) (hv : ∀ x ∈ da, -3000000000 ≤ x ∧ x ≤ 3000000000) : ∀ x ∈ (beg (twoM k) da s i).2, -3000000000 ≤ x ∧ x ≤ 3000000000 :=
  fold_in _ (fun x y => two_bd k h0 h1 x y) _ _ (fun r hr x hx => hv x (rowsDown_mem r hr x hx)) (fun x hx => hv x (rowAt_mem hx))

theorem beg_full (F : Int → Int → Int × Int) {da : List Int} {s n i : Nat} (hl : da.length = n * s) (hi : i < n) (hz : (beg F da s i).1 = 0) : (beg F da s i).2.length = s := by
  unfold beg foldM at hz ⊢
  have h1 : (i + 1) * s ≤ da.length := by rw [hl]; exact Nat.mul_le_mul_right s hi
  rw [Nat.add_sub_cancel] at hz ⊢
  exact fold_len F s _ _ (rowsDown_len (by rw [Nat.succ_mul] at h1; omega)) (rowAt_len h1) hz

theorem begD_full (F : Int → Int → Int × Int) {da : List Int} {s n k : Nat} (hl : da.length = n * s) (hk : k ≤ n) (hz : ∀ i, i < n → (beg F da s i).1 = 0) : (begD F da s k).length = k * s := by
  induction k with
  | zero => simp [begD]
  | succ k ih =>
    rw [begD_succ, List.length_append, ih (by omega), beg_full F hl (by omega) (hz k (by omega)), Nat.succ_mul]

theorem begD_in (k : Nat) (h0 : 1 ≤ k) (h1 : k < 11) (da : List Int) (s m : Nat) (hv : ∀ x ∈ da, -3000000000 ≤ x ∧ x ≤ 3000000000) : ∀ x ∈ begD (twoM k) da s m, -3000000000 ≤ x ∧ x ≤ 3000000000 := by
  intro x hx
  simp only [begD, List.mem_flatMap] at hx
  obtain ⟨i, _, hx⟩ := hx
  exact beg_in k h0 h1 da s i hv x hx

theorem begD_first (F : Int → Int → Int × Int) (da : List Int) (s m : Nat) : ∃ r, begD F da s (m + 1) = (beg F da s 0).2 ++ r := by
  induction m with
  | zero => exact ⟨[], by rw [begD_succ]; simp [begD]⟩
  | succ m ih =>
    obtain ⟨r, e⟩ := ih
    exact ⟨r ++ (beg F da s (m + 1)).2, by rw [begD_succ, e, List.append_assoc]⟩

theorem ok_of_len {sh da db : List Int} (h : okB sh da = true) (hl : db.length = da.length) (hv : ∀ x ∈ db, -3000000000 ≤ x ∧ x ≤ 3000000000) : okB sh db = true := by
  have := h
  simp only [okB, Bool.and_eq_true, decide_eq_true_eq] at this ⊢
  refine ⟨⟨this.1.1, by rw [hl]; exact this.1.2⟩, ?_⟩
  rw [List.all_eq_true]
  intro x hx
  unfold valB
  rw [decide_eq_true_eq]
  exact hv x hx

theorem take_one {sh db : List Int} {n s : Nat} (ok : okB sh db = true) (hsl : ¬ sh.length = 0) (hn : sh.getD 0 0 = n) (h1 : 1 ≤ n) (hft : fitsB sh.tail = true) (hs : prodC sh.tail = s) (hl : db.length = n * s) :
    dy8 takeM 2 [] [1] sh db = (0, 1 :: sh.tail, db.take s) := by
  have o1 : okB [] [1] = true := by decide
  rw [dy8_yes ⟨by decide, by decide, o1, ok⟩]
  have ax : axesS sh db = sh := by unfold axesS; rw [if_neg hsl]
  have f1 := (fits_first (ok_len ok).2 hsl hn hs hft h1).1
  have eP : (prodP sh.tail).toNat = s := by rw [← prod_eq hft, hs]; simp
  unfold takeM
  rw [if_pos (show ([] : List Int).length = 0 from rfl), ax]
  have e1 : max (([1] : List Int).getD 0 0) (-(([1] : List Int).getD 0 0)) = 1 := by decide
  have e2 : (gone (([1] : List Int).getD 0 0) (sh.getD 0 0)).toNat = 1 := by
    show (gone 1 (sh.getD 0 0)).toNat = 1
    unfold gone
    rw [hn]
    have : max (1 : Int) (-1) = 1 := by decide
    rw [this]
    omega
  rw [e1, e2, eP, hn]
  have f1' : fitsB (1 :: sh.tail) = true := f1
  rw [if_pos f1']
  unfold takeD
  rw [if_neg (by decide)]
  have : ((1 : Int).toNat - 1) * s = 0 := by simp
  rw [this, Nat.one_mul]
  simp

theorem take_last {sh db : List Int} {n s : Nat} (ok : okB sh db = true) (hsl : ¬ sh.length = 0) (hn : sh.getD 0 0 = n) (h1 : 1 ≤ n) (hft : fitsB sh.tail = true) (hs : prodC sh.tail = s) (hl : db.length = n * s) :
    dy8 takeM 2 [] [-1] sh db = (0, 1 :: sh.tail, db.drop ((n - 1) * s)) := by
  have o1 : okB [] [-1] = true := by decide
  rw [dy8_yes ⟨by decide, by decide, o1, ok⟩]
  have ax : axesS sh db = sh := by unfold axesS; rw [if_neg hsl]
  have f1 := (fits_first (ok_len ok).2 hsl hn hs hft h1).1
  have eP : (prodP sh.tail).toNat = s := by rw [← prod_eq hft, hs]; simp
  unfold takeM
  rw [if_pos (show ([] : List Int).length = 0 from rfl), ax]
  have e1 : max (([-1] : List Int).getD 0 0) (-(([-1] : List Int).getD 0 0)) = 1 := by decide
  have e2 : (gone (([-1] : List Int).getD 0 0) (sh.getD 0 0)).toNat = 1 := by
    show (gone (-1) (sh.getD 0 0)).toNat = 1
    unfold gone
    rw [hn]
    have : max (-1 : Int) (- -1) = 1 := by decide
    rw [this]
    omega
  rw [e1, e2, eP, hn]
  have f1' : fitsB (1 :: sh.tail) = true := f1
  rw [if_pos f1']
  unfold takeD
  rw [if_pos (by decide)]
  have : ((1 : Int).toNat - 1) * s = 0 := by simp
  rw [this, Int.toNat_natCast, List.replicate_zero, List.nil_append, List.take_of_length_le]
  rw [List.length_drop, hl]
  exact Nat.le_refl _

/-- what the rows of a scan are -/
theorem sums_rows (op : Nat) (h1 : 1 ≤ op) (h2 : op < 11) {sh da : List Int} (ok : okB sh da = true) (hsl : ¬ sh.length = 0) (hn0 : 0 < sh.getD 0 0) (hs : (scaM op sh da).1 = 0) (hr : (redM op sh da).1 = 0) :
    ∃ SC LA FI, scaM op sh da = (0, sh, SC) ∧ okB sh SC = true ∧ dy8 takeM 2 [] [-1] sh SC = (0, 1 :: sh.tail, LA) ∧ okB (1 :: sh.tail) LA = true ∧ redM 7 (1 :: sh.tail) LA = (0, sh.tail, LA) ∧ redM op sh da = (0, sh.tail, LA) ∧ dy8 takeM 2 [] [1] sh SC = (0, 1 :: sh.tail, FI) ∧ dy8 takeM 2 [] [1] sh da = (0, 1 :: sh.tail, FI) := by
  obtain ⟨hft, n, s, en, es, n1, n2, hl⟩ := ok_rows ok hsl (by omega)
  have hv := fun x (hx : x ∈ da) => ok_cell ok hx
  have eo : ((op : Int)).toNat = op := by simp
  have hsc : scaM op sh da = scanM (twoM op) sh da := by unfold scaM; rw [moM_yes ⟨by omega, by omega, ok⟩]
  have hre : redM op sh da = reduceM (twoM op) (noneV op) (noneB op) sh da := by unfold redM; rw [moM_yes ⟨by omega, by omega, ok⟩, eo]
  rw [hsc] at hs ⊢
  rw [hre] at hr ⊢
  unfold scanM at hs ⊢
  unfold reduceM at hr ⊢
  rw [if_neg hsl, en, es, Int.toNat_natCast, Int.toNat_natCast] at hs ⊢
  rw [if_neg hsl, en, es, Int.toNat_natCast, Int.toNat_natCast, if_neg (show ¬ ((n : Int) = 0) by omega)] at hr
  rw [if_neg hsl, if_neg (show ¬ ((n : Int) = 0) by omega)]
  have hc : firstG (begC (twoM op) da s) (List.range n) = 0 := by
    by_cases h : firstG (begC (twoM op) da s) (List.range n) = 0
    · exact h
    · rw [if_neg h] at hs; exact hs
  have hf : (foldM (twoM op) da s n).1 = 0 := by
    by_cases h : (foldM (twoM op) da s n).1 = 0
    · exact h
    · rw [if_neg h] at hr; exact hr
  rw [if_pos hc, if_pos hf]
  have hz : ∀ i, i < n → (beg (twoM op) da s i).1 = 0 := fun i hi => firstG_all _ _ hc i (List.mem_range.2 hi)
  have hL := begD_full (twoM op) hl (Nat.le_refl n) hz
  have okS : okB sh (begD (twoM op) da s n) = true := ok_of_len ok (by rw [hL, hl]) (begD_in op h1 h2 da s n hv)
  have T1 := take_last okS hsl en n1 hft es hL
  have T2 := take_one okS hsl en n1 hft es hL
  have T3 := take_one ok hsl en n1 hft es hl
  obtain ⟨m, rfl⟩ : ∃ m, n = m + 1 := ⟨n - 1, by omega⟩
  have eLA : (begD (twoM op) da s (m + 1)).drop ((m + 1 - 1) * s) = (foldM (twoM op) da s (m + 1)).2 := by
    rw [begD_succ, Nat.add_sub_cancel, List.drop_append_of_le_length (by rw [begD_full (twoM op) hl (by omega) hz]; exact Nat.le_refl _), List.drop_of_length_le (by rw [begD_full (twoM op) hl (by omega) hz]; exact Nat.le_refl _), List.nil_append]
    rfl
  have eFI : (begD (twoM op) da s (m + 1)).take s = da.take s := by
    obtain ⟨r, e⟩ := begD_first (twoM op) da s m
    have l0 := beg_full (twoM op) hl (show 0 < m + 1 by omega) (hz 0 (by omega))
    rw [e, List.take_append_of_le_length (by rw [l0]; exact Nat.le_refl _), List.take_of_length_le (by rw [l0]; exact Nat.le_refl _)]
    show (foldL (twoM op) (rowsDown da s 0) (rowAt da s 0)).2 = _
    simp [rowsDown, foldL, rowAt]
  rw [eLA] at T1
  rw [eFI] at T2
  have lLA : (foldM (twoM op) da s (m + 1)).2.length = s := beg_full (twoM op) hl (show m < m + 1 by omega) (hz m (by omega))
  have okL : okB (1 :: sh.tail) (foldM (twoM op) da s (m + 1)).2 = true := by
    have := ok_first ok hsl en es hft hl (show 1 ≤ m + 1 by omega)
    refine ok_of_len this ?_ (beg_in op h1 h2 da s m hv)
    rw [lLA, List.length_take, Nat.one_mul, hl, Nat.succ_mul]
    omega
  refine ⟨_, _, _, rfl, okS, T1, okL, ?_, rfl, T2, T3⟩
  unfold redM
  rw [moM_yes ⟨by decide, by decide, okL⟩]
  unfold reduceM
  rw [if_neg (by simp), if_neg (by simp)]
  have e7 : foldM (twoM 7) (foldM (twoM op) da s (m + 1)).2 s 1 = (0, (foldM (twoM op) da s (m + 1)).2) := by
    show foldL _ (rowsDown _ s 0) (rowAt _ s 0) = _
    simp only [rowsDown, foldL, rowAt, Nat.zero_mul, List.drop_zero]
    rw [List.take_of_length_le (by rw [lLA]; exact Nat.le_refl _)]
  have e8 : (((1 : Int) :: sh.tail).getD 0 0).toNat = 1 := rfl
  rw [List.tail_cons, es, Int.toNat_natCast, e8, e7]
  simp

/-- Inner of two lists is Reduce of Each2 -/
theorem sums_inner (op g n : Nat) (h1 : 1 ≤ op) (h2 : op < 11) (g1 : 1 ≤ g) (g2 : g < 11) {da db : List Int} (n1 : 1 ≤ n) (n2 : n ≤ 1000) (hl : da.length = n) (hl' : db.length = n) (hv : ∀ x ∈ da, -3000000000 ≤ x ∧ x ≤ 3000000000) (hv' : ∀ x ∈ db, -3000000000 ≤ x ∧ x ≤ 3000000000) :
    (∃ t, ¬ t = 0 ∧ dyM (each2M (twoM g)) g [(n : Int)] da [(n : Int)] db = (t, [], []) ∧ innD op g [(n : Int)] da [(n : Int)] db = (t, [], [])) ∨
    (∃ M c S D, dyM (each2M (twoM g)) g [(n : Int)] da [(n : Int)] db = (0, [(n : Int)], M) ∧ M.length = n ∧ (∀ x ∈ M, -3000000000 ≤ x ∧ x ≤ 3000000000) ∧ redM op [(n : Int)] M = (c, S, D) ∧ innD op g [(n : Int)] da [(n : Int)] db = (c, S, D) ∧ S.length ≤ 1 ∧ D.length ≤ 1) := by
  have oka := ok_vec n2 hl hv
  have okb := ok_vec n2 hl' hv'
  rw [dyM_yes ⟨by omega, by omega, oka, okb⟩, innD_yes ⟨⟨by omega, by omega⟩, ⟨by omega, by omega⟩, oka, okb⟩]
  have eI : innM (twoM op) (noneV ((op : Int)).toNat) (noneB ((op : Int)).toNat) (twoM g) [(n : Int)] da [(n : Int)] db = (if (innC (twoM op) (noneV op) (noneB op) (twoM g) n da db).2 = 0 then (0, [], [(innC (twoM op) (noneV op) (noneB op) (twoM g) n da db).1]) else ((innC (twoM op) (noneV op) (noneB op) (twoM g) n da db).2, [], [])) := by
    unfold innM
    rw [if_neg (by simp), if_neg (by simp), if_pos (show fitsB (([(n : Int)]).take (([(n : Int)]).length - 1) ++ ([(n : Int)]).tail) = true from rfl)]
    have e1 : (prodC (([(n : Int)]).take (([(n : Int)]).length - 1) ++ ([(n : Int)]).tail)).toNat = 1 := rfl
    have e2 : (prodC ([(n : Int)]).tail).toNat = 1 := rfl
    have e3 : (([(n : Int)]).getD 0 0).toNat = n := by simp
    have eo : ((op : Int)).toNat = op := by simp
    have er : List.range 1 = [0] := rfl
    rw [e1, e2, e3, eo, er]
    have eq : innQ (twoM op) (noneV op) (noneB op) (twoM g) n 1 da db 0 = innC (twoM op) (noneV op) (noneB op) (twoM g) n da db := by
      unfold innQ
      congr 1
      · show (da.drop (0 / 1 * n)).take n = da
        rw [Nat.zero_div, Nat.zero_mul, List.drop_zero, ← hl, List.take_length]
      · unfold innV
        apply List.ext_getElem
        · simp [hl']
        · intro i h h'
          simp [List.getD, h']
    simp only [firstG, List.map_cons, List.map_nil, eq]
    by_cases h : (innC (twoM op) (noneV op) (noneB op) (twoM g) n da db).2 = 0
    · rw [if_pos h, if_pos rfl, if_pos h]
      rfl
    · rw [if_neg h, if_neg h, if_neg h]
  have eE : each2M (twoM g) [(n : Int)] da [(n : Int)] db = (if firstG (pairF (twoM g)) (da.zip db) = 0 then (0, [(n : Int)], (da.zip db).map (fun p => (pairF (twoM g) p).1)) else (firstG (pairF (twoM g)) (da.zip db), [], [])) := by
    unfold each2M
    rw [if_neg (by simp), if_neg (by simp)]
    unfold eachM
    rw [if_neg (by simp), if_neg (by simp)]
  rw [eI, eE]
  unfold innC
  by_cases h : firstG (pairF (twoM g)) (da.zip db) = 0
  · rw [if_pos h, if_pos h]
    have lM : ((da.zip db).map (fun p => (pairF (twoM g) p).1)).length = n := by simp [hl, hl']
    have vM : ∀ x ∈ (da.zip db).map (fun p => (pairF (twoM g) p).1), -3000000000 ≤ x ∧ x ≤ 3000000000 := by
      intro x hx
      obtain ⟨p, hp, rfl⟩ := List.mem_map.1 hx
      have q1 := hv p.1 (List.of_mem_zip hp).1
      have q2 := hv' p.2 (List.of_mem_zip hp).2
      exact two_bd g g1 g2 p.1 p.2 q1.1 q1.2 q2.1 q2.2 (firstG_all _ _ h p hp)
    generalize (da.zip db).map (fun p => (pairF (twoM g) p).1) = M at *
    have okM := ok_vec n2 lM vM
    have eo : ((op : Int)).toNat = op := by simp
    have eR : redM op [(n : Int)] M = reduceM (twoM op) (noneV op) (noneB op) [(n : Int)] M := by unfold redM; rw [moM_yes ⟨by omega, by omega, okM⟩, eo]
    rcases reduce_vec (twoM op) (noneV op) (noneB op) n M lM with ⟨v, e⟩ | ⟨c, hc, e⟩
    · refine .inr ⟨M, 0, [], [v], rfl, lM, vM, eR.trans e, ?_, by simp, by simp⟩
      rw [e]
      simp
    · refine .inr ⟨M, c, [], [], rfl, lM, vM, eR.trans e, ?_, by simp, by simp⟩
      rw [e]
      simp [hc]
  · rw [if_neg h, if_neg h]
    exact .inl ⟨_, h, rfl, by simp [h]⟩

end Go.Proofs.YtaikmbfdhecjoaaGreat.Pl
