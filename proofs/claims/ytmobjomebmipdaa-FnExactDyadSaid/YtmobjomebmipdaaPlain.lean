namespace Go.Proofs.Ytmobjomebmipdaa.Pl

/-- each length in 0 .. 1000 -/
def inR (x : Int) : Bool := decide (0 ≤ x ∧ x ≤ 1000)
/-- the clamped product -/
def stepC (p x : Int) : Int := if 1000 < p * x then 1001 else p * x
def prodC (zs : List Int) : Int := zs.foldl stepC 1
def prodP (zs : List Int) : Int := zs.foldl (fun p x => p * x) 1
def baseB (zs : List Int) : Bool := decide (zs.length ≤ 3) && zs.all inR
def fitsB (zs : List Int) : Bool := baseB zs && decide (prodC zs ≤ 1000)
def valB (x : Int) : Bool := decide (-3000000000 ≤ x ∧ x ≤ 3000000000)
def okB (sh da : List Int) : Bool := fitsB sh && decide ((da.length : Int) = prodC sh) && da.all valB

theorem take_snoc (l : List Int) (k : Nat) (h : k < l.length) : l.take (k + 1) = l.take k ++ [l.getD k 0] := by
  rw [List.take_succ_eq_append_getElem h]; simp [List.getD, h]

theorem prodC_snoc (l : List Int) (x : Int) : prodC (l ++ [x]) = stepC (prodC l) x := by simp [prodC]
theorem prodP_snoc (l : List Int) (x : Int) : prodP (l ++ [x]) = prodP l * x := by simp [prodP]

theorem mul_bd {a b A B : Int} (ha : 0 ≤ a) (ha' : a ≤ A) (hb : 0 ≤ b) (hb' : b ≤ B) : 0 ≤ a * b ∧ a * b ≤ A * B :=
  ⟨Int.mul_nonneg ha hb, Int.mul_le_mul ha' hb' hb (Int.le_trans ha ha')⟩

theorem stepC_bd {p x : Int} (hp : 0 ≤ p) (hp' : p ≤ 1001) (hx : 0 ≤ x) (hx' : x ≤ 1000) : 0 ≤ stepC p x ∧ stepC p x ≤ 1001 := by
  have := mul_bd hp hp' hx hx'
  unfold stepC; split <;> omega

theorem foldl_bd (l : List Int) (h : l.all inR = true) (p : Int) (hp : 0 ≤ p) (hp' : p ≤ 1001) : 0 ≤ l.foldl stepC p ∧ l.foldl stepC p ≤ 1001 := by
  induction l generalizing p with
  | nil => exact ⟨hp, hp'⟩
  | cons x xs ih =>
    simp [inR] at h
    have hb := stepC_bd hp hp' h.1.1 h.1.2
    simp only [List.foldl_cons]
    refine ih ?_ _ hb.1 hb.2
    simp [inR]; exact h.2

theorem prodC_bd (l : List Int) (h : l.all inR = true) : 0 ≤ prodC l ∧ prodC l ≤ 1001 := foldl_bd l h 1 (by omega) (by omega)

theorem all_take {l : List Int} {p : Int → Bool} (h : l.all p = true) (k : Nat) : (l.take k).all p = true := by
  simp only [List.all_eq_true] at *
  intro x hx; exact h x (List.mem_of_mem_take hx)

theorem all_getD {l : List Int} {p : Int → Bool} (h : l.all p = true) {k : Nat} (hk : k < l.length) : p (l.getD k 0) = true := by
  simp only [List.all_eq_true] at h
  have : l.getD k 0 = l[k] := by simp [List.getD, hk]
  rw [this]; exact h _ (List.getElem_mem hk)

theorem all_snoc (l : List Int) (p : Int → Bool) (k : Nat) (hk : k < l.length) : (l.take (k + 1)).all p = ((l.take k).all p && p (l.getD k 0)) := by
  rw [take_snoc l k hk]; simp

theorem all_false {l : List Int} {p : Int → Bool} {k : Nat} (hk : k < l.length) (h : p (l.getD k 0) = false) : l.all p = false := by
  cases e : l.all p
  · rfl
  · rw [all_getD e hk] at h; cases h

theorem inR_bd {x : Int} (h : inR x = true) : 0 ≤ x ∧ x ≤ 1000 := by simpa [inR] using h

/-- at most three lengths in 0 .. 1000: the clamped product is the product where either is at most 1000 -/
theorem prod_two (zs : List Int) (h : baseB zs = true) : (0 ≤ prodP zs ∧ prodP zs ≤ 1000000000) ∧ ((prodC zs ≤ 1000 ↔ prodP zs ≤ 1000) ∧ (prodC zs ≤ 1000 → prodC zs = prodP zs)) := by
  simp only [baseB, Bool.and_eq_true, decide_eq_true_eq] at h
  obtain ⟨hl, hr⟩ := h
  match zs, hl, hr with
  | [], _, _ => simp [prodC, prodP]
  | [a], _, hr =>
    simp [inR] at hr
    simp [prodC, prodP, stepC]
    split <;> omega
  | [a, b], _, hr =>
    simp [inR] at hr
    obtain ⟨⟨a0, a1⟩, b0, b1⟩ := hr
    have hab := mul_bd a0 a1 b0 b1
    have e : stepC 1 a = a := by unfold stepC; split <;> omega
    simp [prodC, prodP, e]
    unfold stepC; split <;> omega
  | [a, b, c], _, hr =>
    simp [inR] at hr
    obtain ⟨⟨a0, a1⟩, ⟨b0, b1⟩, c0, c1⟩ := hr
    have hab := mul_bd a0 a1 b0 b1
    have habc := mul_bd hab.1 hab.2 c0 c1
    have e : stepC 1 a = a := by unfold stepC; split <;> omega
    simp only [prodC, prodP, List.foldl_cons, List.foldl_nil, e, Int.one_mul]
    by_cases h1 : 1000 < a * b
    · have e1 : stepC a b = 1001 := by unfold stepC; rw [if_pos h1]
      rw [e1]
      by_cases hc : c = 0
      · subst hc; simp [stepC]
      · have hc' : 1 ≤ c := by omega
        have h2 : a * b * 1 ≤ a * b * c := Int.mul_le_mul_of_nonneg_left hc' hab.1
        have h3 : stepC 1001 c = 1001 := by unfold stepC; rw [if_pos (by omega)]
        rw [h3]; omega
    · have e1 : stepC a b = a * b := by unfold stepC; rw [if_neg h1]
      rw [e1]
      unfold stepC; split <;> omega

theorem prodP_take_bd (zs : List Int) (h : baseB zs = true) (k : Nat) : 0 ≤ prodP (zs.take k) ∧ prodP (zs.take k) ≤ 1000000000 := by
  refine (prod_two (zs.take k) ?_).1
  simp only [baseB, Bool.and_eq_true, decide_eq_true_eq] at h ⊢
  exact ⟨by have := List.length_take_le k zs; have := List.length_take_le' k zs; omega, all_take h.2 k⟩

theorem fits_eq (zs : List Int) : fitsB zs = (baseB zs && decide (prodP zs ≤ 1000)) := by
  unfold fitsB
  cases h : baseB zs
  · rfl
  · have := (prod_two zs h).2.1
    simp [this]

theorem prod_eq {zs : List Int} (h : fitsB zs = true) : prodC zs = prodP zs := by
  simp only [fitsB, Bool.and_eq_true, decide_eq_true_eq] at h
  exact (prod_two zs h.1).2.2 h.2

end Go.Proofs.Ytmobjomebmipdaa.Pl
