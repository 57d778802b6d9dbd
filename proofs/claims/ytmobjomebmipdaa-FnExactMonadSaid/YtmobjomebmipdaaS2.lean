import Derived.Test.YtmobjomebmipdaaS1
namespace Go.Proofs.Ytmobjomebmipdaa
open Go.RowKit
set_option linter.unusedVariables false

namespace Pl
/-- the numbers f from a to b -/
def seg (f : Nat → Int) (a b : Nat) : List Int := (List.range (b - a)).map fun t => f (a + t)
theorem seg_len (f : Nat → Int) (a b : Nat) : (seg f a b).length = b - a := by simp [seg]
theorem seg_get {f : Nat → Int} {a b t : Nat} (h : t < b - a) : (seg f a b)[t]? = some (f (a + t)) := by
  unfold seg
  rw [List.getElem?_map, List.getElem?_range h]
  rfl
theorem seg_none (f : Nat → Int) {a b t : Nat} (h : b - a ≤ t) : (seg f a b)[t]? = none := List.getElem?_eq_none (by rw [seg_len]; exact h)
theorem seg_nil (f : Nat → Int) {a b : Nat} (h : b ≤ a) : seg f a b = [] := by
  unfold seg
  rw [show b - a = 0 by omega]
  rfl
theorem seg_cat (f : Nat → Int) {a m b : Nat} (h1 : a ≤ m) (h2 : m ≤ b) : seg f a m ++ seg f m b = seg f a b := by
  apply List.ext_getElem?
  intro t
  by_cases ht : t < m - a
  · rw [List.getElem?_append_left (by rw [seg_len]; exact ht), seg_get ht, seg_get (by omega)]
  · rw [List.getElem?_append_right (by rw [seg_len]; omega), seg_len]
    by_cases hb : t < b - a
    · rw [seg_get (by omega), seg_get hb]
      congr 2; omega
    · rw [seg_none f (by omega), seg_none f (by omega)]
theorem seg_congr {f f' : Nat → Int} {a b : Nat} (h : ∀ t, a ≤ t → t < b → f t = f' t) : seg f a b = seg f' a b := by
  unfold seg
  apply List.map_congr_left
  intro t ht
  have := List.mem_range.1 ht
  exact h _ (by omega) (by omega)
theorem seg_shift {f f' : Nat → Int} {a b c d : Nat} (hl : b - a = d - c) (h : ∀ t, t < b - a → f (a + t) = f' (c + t)) : seg f a b = seg f' c d := by
  unfold seg
  rw [← hl]
  apply List.map_congr_left
  intro t ht
  exact h t (List.mem_range.1 ht)
theorem seg_one (f : Nat → Int) (a : Nat) : seg f a (a + 1) = [f a] := by
  unfold seg
  rw [show a + 1 - a = 1 by omega]
  rfl
theorem seg_mem {f : Nat → Int} {a b : Nat} {x : Int} (h : x ∈ seg f a b) : ∃ t, a ≤ t ∧ t < b ∧ f t = x := by
  unfold seg at h
  obtain ⟨t, ht, rfl⟩ := List.mem_map.1 h
  have := List.mem_range.1 ht
  exact ⟨a + t, by omega, by omega, rfl⟩
theorem seg_in {f : Nat → Int} {a b t : Nat} (h1 : a ≤ t) (h2 : t < b) : f t ∈ seg f a b := by
  unfold seg
  exact List.mem_map.2 ⟨t - a, List.mem_range.2 (by omega), by congr 1; omega⟩

/-- two lists, the second's numbers ahead only where their keys are less -/
def mrg (k : Int → Int) : List Int → List Int → List Int
  | [], R => R
  | l :: L, [] => l :: L
  | l :: L, r :: R => if k r < k l then r :: mrg k (l :: L) R else l :: mrg k L (r :: R)
termination_by L R => L.length + R.length
theorem mrg_nil (k : Int → Int) (L : List Int) : mrg k L [] = L := by cases L <;> simp [mrg]
theorem nil_mrg (k : Int → Int) (R : List Int) : mrg k [] R = R := by simp [mrg]
theorem mrg_lt {k : Int → Int} {l r : Int} {L R : List Int} (h : k r < k l) : mrg k (l :: L) (r :: R) = r :: mrg k (l :: L) R := by rw [mrg, if_pos h]
theorem mrg_ge {k : Int → Int} {l r : Int} {L R : List Int} (h : ¬ k r < k l) : mrg k (l :: L) (r :: R) = l :: mrg k L (r :: R) := by rw [mrg, if_neg h]
theorem mrg_split (k : Int → Int) : ∀ (n : Nat) (L1 R1 L2 R2 : List Int), L1.length + R1.length ≤ n → (∀ x ∈ L1, ∀ y ∈ R2, k x ≤ k y) → (∀ x ∈ R1, ∀ y ∈ L2, k x < k y) → mrg k (L1 ++ L2) (R1 ++ R2) = mrg k L1 R1 ++ mrg k L2 R2 := by
  intro n
  induction n with
  | zero =>
    intro L1 R1 L2 R2 h _ _
    obtain rfl : L1 = [] := List.length_eq_zero_iff.1 (by omega)
    obtain rfl : R1 = [] := List.length_eq_zero_iff.1 (by omega)
    simp [mrg_nil]
  | succ n ih =>
    intro L1 R1 L2 R2 h hL hR
    cases L1 with
    | nil =>
      cases R1 with
      | nil => simp [mrg_nil]
      | cons r R1 =>
        cases L2 with
        | nil => simp [nil_mrg]
        | cons l L2 =>
          have e := ih [] R1 (l :: L2) R2 (by simp at h ⊢; omega) (by simp) (fun x hx y hy => hR x (List.mem_cons_of_mem _ hx) y hy)
          rw [List.nil_append] at e ⊢
          rw [List.cons_append, mrg_lt (hR r (by simp) l (by simp)), e, nil_mrg, nil_mrg]
          rfl
    | cons l L1 =>
      cases R1 with
      | nil =>
        cases R2 with
        | nil => simp [mrg_nil]
        | cons r R2 =>
          have e := ih L1 [] L2 (r :: R2) (by simp at h ⊢; omega) (fun x hx y hy => hL x (List.mem_cons_of_mem _ hx) y hy) (by simp)
          rw [List.nil_append] at e ⊢
          rw [List.cons_append, mrg_ge (by have := hL l (by simp) r (by simp); omega), e, mrg_nil, mrg_nil]
          rfl
      | cons r R1 =>
        by_cases hk : k r < k l
        · have e := ih (l :: L1) R1 L2 R2 (by simp at h ⊢; omega) hL (fun x hx y hy => hR x (List.mem_cons_of_mem _ hx) y hy)
          rw [List.cons_append, List.cons_append, mrg_lt hk, ← List.cons_append, e, mrg_lt hk]
          rfl
        · have e := ih L1 (r :: R1) L2 R2 (by simp at h ⊢; omega) (fun x hx y hy => hL x (List.mem_cons_of_mem _ hx) y hy) hR
          rw [List.cons_append, List.cons_append, mrg_ge hk, ← List.cons_append, e, mrg_ge hk]
          rfl
theorem mrg_cut {k : Int → Int} {L1 R1 L2 R2 : List Int} (h1 : ∀ x ∈ L1, ∀ y ∈ R2, k x ≤ k y) (h2 : ∀ x ∈ R1, ∀ y ∈ L2, k x < k y) : mrg k (L1 ++ L2) (R1 ++ R2) = mrg k L1 R1 ++ mrg k L2 R2 := mrg_split k _ L1 R1 L2 R2 (Nat.le_refl _) h1 h2
theorem mem_mrg (k : Int → Int) {x : Int} : ∀ (n : Nat) (L R : List Int), L.length + R.length ≤ n → x ∈ mrg k L R → x ∈ L ∨ x ∈ R := by
  intro n
  induction n with
  | zero =>
    intro L R h hx
    obtain rfl : L = [] := List.length_eq_zero_iff.1 (by omega)
    rw [nil_mrg] at hx
    exact .inr hx
  | succ n ih =>
    intro L R h hx
    cases L with
    | nil => rw [nil_mrg] at hx; exact .inr hx
    | cons l L =>
      cases R with
      | nil => rw [mrg_nil] at hx; exact .inl hx
      | cons r R =>
        by_cases hk : k r < k l
        · rw [mrg_lt hk] at hx
          rcases List.mem_cons.1 hx with rfl | hx
          · exact .inr (by simp)
          · rcases ih _ _ (by simp at h ⊢; omega) hx with h | h
            · exact .inl h
            · exact .inr (List.mem_cons_of_mem _ h)
        · rw [mrg_ge hk] at hx
          rcases List.mem_cons.1 hx with rfl | hx
          · exact .inl (by simp)
          · rcases ih _ _ (by simp at h ⊢; omega) hx with h | h
            · exact .inl (List.mem_cons_of_mem _ h)
            · exact .inr h

/-- a number put behind all whose keys are no greater -/
def ins (k : Int → Int) (x : Int) : List Int → List Int
  | [] => [x]
  | y :: l => if k x < k y then x :: y :: l else y :: ins k x l
theorem ins_split {k : Int → Int} {x : Int} {P Q : List Int} (hP : ∀ p ∈ P, k p ≤ k x) (hQ : ∀ q ∈ Q, k x < k q) : ins k x (P ++ Q) = P ++ x :: Q := by
  induction P with
  | nil =>
    cases Q with
    | nil => rfl
    | cons q Q => rw [List.nil_append, ins, if_pos (hQ q (by simp))]; rfl
  | cons p P ih =>
    rw [List.cons_append, ins, if_neg (by have := hP p (by simp); omega), ih (fun y hy => hP y (List.mem_cons_of_mem _ hy))]
    rfl
theorem mem_ins {k : Int → Int} {x y : Int} {l : List Int} (h : y ∈ ins k x l) : y = x ∨ y ∈ l := by
  induction l with
  | nil => simp [ins] at h; exact .inl h
  | cons z l ih =>
    rw [ins] at h
    split at h
    · rcases List.mem_cons.1 h with h | h
      · exact .inl h
      · exact .inr h
    · rcases List.mem_cons.1 h with h | h
      · exact .inr (by rw [h]; simp)
      · rcases ih h with h | h
        · exact .inl h
        · exact .inr (List.mem_cons_of_mem _ h)
/-- in the order of the keys -/
def Srt (k : Int → Int) (l : List Int) : Prop := l.Pairwise fun x y => k x ≤ k y
theorem srt_ins {k : Int → Int} {x : Int} {l : List Int} (h : Srt k l) : Srt k (ins k x l) := by
  induction l with
  | nil => simp [ins, Srt]
  | cons y l ih =>
    have h' := List.pairwise_cons.1 h
    rw [ins]
    split
    · rename_i hk
      refine List.pairwise_cons.2 ⟨fun z hz => ?_, h⟩
      rcases List.mem_cons.1 hz with rfl | hz
      · omega
      · have := h'.1 z hz; omega
    · rename_i hk
      refine List.pairwise_cons.2 ⟨fun z hz => ?_, ih h'.2⟩
      rcases mem_ins hz with rfl | hz
      · omega
      · exact h'.1 z hz
/-- a number that comes last goes into the merged list as into the second -/
theorem mrg_ins (k : Int → Int) (x : Int) : ∀ (n : Nat) (L R : List Int), L.length + R.length ≤ n → Srt k L → Srt k R → mrg k L (ins k x R) = ins k x (mrg k L R) := by
  intro n
  induction n with
  | zero =>
    intro L R h _ _
    obtain rfl : L = [] := List.length_eq_zero_iff.1 (by omega)
    rw [nil_mrg, nil_mrg]
  | succ n ih =>
    intro L R h sL sR
    cases L with
    | nil => rw [nil_mrg, nil_mrg]
    | cons l L =>
      have sL' := List.pairwise_cons.1 sL
      cases R with
      | nil =>
        rw [mrg_nil]
        show mrg k (l :: L) [x] = ins k x (l :: L)
        rw [ins]
        by_cases hk : k x < k l
        · rw [mrg_lt hk, if_pos hk, mrg_nil]
        · rw [mrg_ge hk, if_neg hk]
          have := ih L [] (by simp at h ⊢; omega) sL'.2 sR
          rw [mrg_nil] at this
          rw [← this]
          rfl
      | cons r R =>
        have sR' := List.pairwise_cons.1 sR
        by_cases hx : k x < k r
        · have e : ins k x (r :: R) = x :: r :: R := by rw [ins, if_pos hx]
          rw [e]
          by_cases hr : k r < k l
          · rw [mrg_lt (by omega), mrg_lt hr, ins, if_pos hx]
          · by_cases hl : k x < k l
            · rw [mrg_lt hl, mrg_ge hr, ins, if_pos hl]
            · rw [mrg_ge hl, mrg_ge hr, ins, if_neg hl]
              have := ih L (r :: R) (by simp at h ⊢; omega) sL'.2 sR
              rw [e] at this
              rw [this]
        · have e : ins k x (r :: R) = r :: ins k x R := by rw [ins, if_neg hx]
          rw [e]
          by_cases hr : k r < k l
          · rw [mrg_lt hr, mrg_lt hr, ins, if_neg hx]
            have := ih (l :: L) R (by simp at h ⊢; omega) sL sR'.2
            rw [this]
          · rw [mrg_ge hr, mrg_ge hr, ins, if_neg (by omega)]
            have := ih L (r :: R) (by simp at h ⊢; omega) sL'.2 sR
            rw [e] at this
            rw [this]
/-- the places from a on, n of them, in their order -/
def grd (k : Int → Int) (a : Nat) : Nat → List Int
  | 0 => []
  | n + 1 => ins k ((a + n : Nat) : Int) (grd k a n)
theorem srt_grd (k : Int → Int) (a n : Nat) : Srt k (grd k a n) := by
  induction n with
  | zero => exact List.Pairwise.nil
  | succ n ih => exact srt_ins ih
theorem len_ins (k : Int → Int) (x : Int) (l : List Int) : (ins k x l).length = l.length + 1 := by
  induction l with
  | nil => rfl
  | cons y l ih => rw [ins]; split <;> simp [ih]
theorem len_grd (k : Int → Int) (a n : Nat) : (grd k a n).length = n := by
  induction n with
  | zero => rfl
  | succ n ih => rw [grd, len_ins, ih]
theorem mem_grd {k : Int → Int} {a n : Nat} {x : Int} (h : x ∈ grd k a n) : (a : Int) ≤ x ∧ x < (a : Int) + n := by
  induction n with
  | zero => cases h
  | succ n ih =>
    rcases mem_ins h with rfl | h
    · omega
    · have := ih h; omega
theorem mrg_grd (k : Int → Int) (a n m : Nat) : mrg k (grd k a n) (grd k (a + n) m) = grd k a (n + m) := by
  induction m with
  | zero => rw [grd, mrg_nil]; rfl
  | succ m ih =>
    rw [grd, mrg_ins k _ _ _ _ (Nat.le_refl _) (srt_grd k a n) (srt_grd k _ m), ih]
    show _ = ins k ((a + (n + m) : Nat) : Int) (grd k a (n + m))
    rw [Nat.add_assoc]
/-- sorted, by index -/
def SrtF (k : Int → Int) (f : Nat → Int) (a b : Nat) : Prop := ∀ i j, a ≤ i → i < j → j < b → k (f i) ≤ k (f j)
theorem srtF_of {k : Int → Int} {f : Nat → Int} {a b : Nat} (h : Srt k (seg f a b)) : SrtF k f a b := by
  intro i j h1 h2 h3
  have hi : (i - a) < (seg f a b).length := by rw [seg_len]; omega
  have hj : (j - a) < (seg f a b).length := by rw [seg_len]; omega
  have := List.pairwise_iff_getElem.1 h (i - a) (j - a) hi hj (by omega)
  have e1 := seg_get (f := f) (a := a) (b := b) (t := i - a) (by omega)
  have e2 := seg_get (f := f) (a := a) (b := b) (t := j - a) (by omega)
  rw [List.getElem?_eq_getElem hi] at e1
  rw [List.getElem?_eq_getElem hj] at e2
  rw [Option.some.inj e1, Option.some.inj e2, show a + (i - a) = i by omega, show a + (j - a) = j by omega] at this
  exact this
end Pl

end Go.Proofs.Ytmobjomebmipdaa
