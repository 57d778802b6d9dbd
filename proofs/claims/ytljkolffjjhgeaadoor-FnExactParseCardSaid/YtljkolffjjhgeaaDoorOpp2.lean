import Derived.Test.YtljkolffjjhgeaaDoorInb
namespace Go.Proofs.YtljkolffjjhgeaaDoor
open Go.RowKit
set_option linter.unusedVariables false
set_option maxRecDepth 100000
namespace Pl
theorem num_spn {l : List Itk} (hl : ∀ t ∈ l, iOk t) : ∀ (n a : Nat), l.length - a ≤ n → numI l a = (spn (rI l a)).1 ∧ rI l (a + (numI l a).length) = (spn (rI l a)).2 := by
  intro n
  induction n with
  | zero =>
    intro a h
    have hk : ¬ (tkAt l a).k = 1 := by rw [tkAt_past (by omega)]; decide
    rw [numI_no hk, rI_past (by omega)]
    exact ⟨rfl, rI_past (by simp; omega)⟩
  | succ n ih =>
    intro a h
    by_cases ha : a < l.length
    · have hk := hl _ (tkAt_mem ha)
      by_cases h1 : (tkAt l a).k = 1
      · obtain ⟨i1, i2⟩ := ih (a + 1) (by omega)
        have e : itT (tkAt l a) = .num (tkAt l a).v := by unfold itT; rw [if_pos h1]
        rw [(numI_yes h1).2, rI_cons ha, e]
        refine ⟨by rw [i1]; rfl, ?_⟩
        rw [List.length_cons, show a + ((numI l (a + 1)).length + 1) = a + 1 + (numI l (a + 1)).length by omega, i2]
        rfl
      · rw [numI_no h1]
        have hn : isNum (rI l a) = false := by
          rw [rI_cons ha]
          unfold itT
          rw [if_neg h1]
          split
          · rfl
          · split
            · rfl
            · unfold sgT
              repeat (split <;> first | rfl | skip)
        rw [spn_none hn]
        exact ⟨rfl, rfl⟩
    · have hk : ¬ (tkAt l a).k = 1 := by rw [tkAt_past (by omega)]; decide
      rw [numI_no hk, rI_past (by omega)]
      exact ⟨rfl, rI_past (by simp; omega)⟩
theorem pop_num {l : List Itk} (hl : ∀ t ∈ l, iOk t) (n : Nat) {a : Nat} (h : (tkAt l a).k = 1) : ∃ v vs, numI l a = v :: vs ∧ popnd (n + 1) (rI l a) = some (.nums v vs, rI l (a + (numI l a).length)) := by
  obtain ⟨ha, e⟩ := numI_yes h
  obtain ⟨i1, i2⟩ := num_spn hl (l.length - a) a (Nat.le_refl _)
  have et : itT (tkAt l a) = .num (tkAt l a).v := by unfold itT; rw [if_pos h]
  refine ⟨_, _, e, ?_⟩
  rw [i2, rI_cons ha, et, popnd]
  obtain ⟨j1, _⟩ := num_spn hl (l.length - (a + 1)) (a + 1) (Nat.le_refl _)
  rw [j1]
  rfl
theorem pop_arr {l : List Itk} (n : Nat) {a : Nat} (h : (tkAt l a).k = 2) : a < l.length ∧ popnd (n + 1) (rI l a) = some (.name (tkAt l a).tx.data.toList, rI l (a + 1)) := by
  have ha : a < l.length := by
    by_cases ha : a < l.length
    · exact ha
    · rw [tkAt_past (by omega)] at h; exact absurd h (by decide)
  have et : itT (tkAt l a) = .arr (tkAt l a).tx.data.toList := by unfold itT; rw [h]; rfl
  exact ⟨ha, by rw [rI_cons ha, et, popnd]⟩
theorem pop_br {l : List Itk} (hl : ∀ t ∈ l, iOk t) (n : Nat) {a : Nat} (h : (tkAt l a).tx = ⟨#[40]⟩) : a < l.length ∧ popnd (n + 1) (rI l a) = (pinb n (rI l (a + 1))).map fun q => (.br q.1, q.2) := by
  have ha : a < l.length := by
    by_cases ha : a < l.length
    · exact ha
    · rw [tkAt_past (by omega)] at h; exact absurd (congrArg ByteArray.size h) (by decide)
  have s := it_sg (hl _ (tkAt_mem ha)) (c := [40]) (by decide)
  rw [show ba [40] = ⟨#[40]⟩ from rfl, decide_eq_true h] at s
  have et : itT (tkAt l a) = .lp := by
    have := of_decide_eq_true s.symm
    revert this
    cases itT (tkAt l a) <;> simp [sgTx]
  refine ⟨ha, ?_⟩
  rw [rI_cons ha, et, popnd]
  unfold pinb
  cases pexpr n (rI l (a + 1)) with
  | none => rfl
  | some q =>
    obtain ⟨e, r⟩ := q
    cases r with
    | nil => rfl
    | cons t r => cases t <;> rfl
set_option maxHeartbeats 2000000 in
theorem pop_no {l : List Itk} (hl : ∀ t ∈ l, iOk t) (n : Nat) {a : Nat} (h1 : ¬ (tkAt l a).k = 1) (h2 : ¬ (tkAt l a).k = 2) (h : ¬ (tkAt l a).tx = ⟨#[40]⟩) : popnd (n + 1) (rI l a) = none := by
  by_cases ha : a < l.length
  · have hk := hl _ (tkAt_mem ha)
    have s := it_sg hk (c := [40]) (by decide)
    rw [show ba [40] = ⟨#[40]⟩ from rfl, decide_eq_false h] at s
    have hs := of_decide_eq_false s.symm
    rw [rI_cons ha]
    have e1 : ∀ v, itT (tkAt l a) ≠ .num v := fun v e => by
      unfold itT at e
      rw [if_neg h1, if_neg h2] at e
      split at e
      · cases e
      · unfold sgT at e
        repeat (split at e <;> first | cases e | skip)
    have e2 : ∀ v, itT (tkAt l a) ≠ .arr v := fun v e => by
      unfold itT at e
      rw [if_neg h1, if_neg h2] at e
      split at e
      · cases e
      · unfold sgT at e
        repeat (split at e <;> first | cases e | skip)
    generalize itT (tkAt l a) = t at *
    cases t <;> first
      | exact absurd rfl (e1 _)
      | exact absurd rfl (e2 _)
      | exact absurd rfl hs
      | rfl
  · rw [rI_past (by omega)]
    rfl
end Pl
/-- what operand gives -/
def PoO (bf : Pl.O → Bool) (l : List Pl.Itk) (p cap a : Nat) (ao : Option Addr) (o : Nat) (w : World) (X : Option (Pl.O × List Pl.T)) (e : Ending) (w' : World) : Prop := match X with
  | none => ∃ v a' be', e = .returned (.tuple #[v, .bool false]) ∧ IsN v ∧ IxP l p cap ao o be' w a' w'
  | some (x, r) => ∃ v F a', e = .returned (.tuple #[v, .bool true]) ∧ NdO w' x v F ∧ Inb w.heap.size w' F ∧ IxP l p cap ao o (bf x) w a' w' ∧ a' ≤ l.length ∧ a < a' ∧ Pl.rI l a' = r
end Go.Proofs.YtljkolffjjhgeaaDoor
