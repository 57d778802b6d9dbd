import Derived.Test.YtljkolffjjhgeaaDoorItt
namespace Go.Proofs.YtljkolffjjhgeaaDoor
open Go.RowKit
set_option linter.unusedVariables false
set_option maxRecDepth 100000
namespace Pl
theorem fu_le (l : List Itk) (a : Nat) : a < (fuI l a).2.2 ∧ (fuI l a).2.2 ≤ a + 3 := by
  unfold fuI
  simp only
  split
  · simp <;> omega
  · split
    · simp <;> omega
    · split
      · simp <;> omega
      · split
        · simp <;> omega
        · split
          · simp <;> omega
          · split <;> (simp <;> omega)
theorem sgT_op {l : List UInt8} {m : Mg} (h : sgT l = .op m) : rowOf l = some m := by
  unfold sgT at h
  repeat (split at h <;> first | cases h | skip)
  · rename_i h2
    exact h2
theorem drv_f (k : Int) (m : Mg) (f : F) (hz : en m = 0) : ((drv k (en m)).1, en m, (0 : Int), (⟨#[]⟩ : ByteArray)) = (0, 0, 0, ⟨#[]⟩) := by
  rw [hz]; rfl
set_option maxHeartbeats 2000000 in
/-- impl's function is pfun -/
theorem fu_T {l : List Itk} (hl : ∀ t ∈ l, iOk t) {a : Nat} (hat : atF (rI l a) = true) : (fuI l a).1 = fq (pfun (rI l a)).1.one ∧ (fuI l a).2.1 = fq (pfun (rI l a)).1.two ∧ rI l (fuI l a).2.2 = (pfun (rI l a)).2 := by
  have ha : a < l.length := by
    by_cases h : a < l.length
    · exact h
    · rw [rI_past (by omega)] at hat; cases hat
  have hk := hl _ (tkAt_mem ha)
  have s47 := sign_T hl (a + 1) (c := [47]) (by decide)
  have s92 := sign_T hl (a + 1) (c := [92]) (by decide)
  have s46 := sign_T hl (a + 1) (c := [46]) (by decide)
  have s64 := it_sg hk (c := [64]) (by decide)
  have o0 := opn_T hl a
  have o1 := opn_T hl (a + 1)
  have o2 := opn_T hl (a + 1 + 1)
  have t1 := tail_rI l (a + 1)
  have t2 := tail_rI l (a + 1 + 1)
  rw [show ba [47] = ⟨#[47]⟩ from rfl] at s47
  rw [show ba [92] = ⟨#[92]⟩ from rfl] at s92
  rw [show ba [46] = ⟨#[46]⟩ from rfl] at s46
  rw [show ba [64] = ⟨#[64]⟩ from rfl] at s64
  rw [rI_cons ha] at hat o0 ⊢
  unfold fuI
  simp only
  by_cases h3 : (tkAt l a).k = 3
  · rw [if_pos h3]
    have e : itT (tkAt l a) = .fn (tkAt l a).tx.data.toList := by unfold itT; rw [h3]; rfl
    rw [e]
    exact ⟨rfl, rfl, by first | rfl | trivial⟩
  · rw [if_neg h3]
    by_cases h6 : (tkAt l a).tx = ⟨#[64]⟩
    · rw [if_pos h6]
      rw [decide_eq_true h6] at s64
      have e : itT (tkAt l a) = .amp := by
        have := of_decide_eq_true s64.symm
        revert this
        cases itT (tkAt l a) <;> simp [sgTx]
      rw [e, o1]
      simp only
      rw [← t1]
      cases hr : rI l (a + 1) with
      | nil => exact ⟨rfl, rfl, by first | rfl | trivial⟩
      | cons x r =>
        cases x
        case op m =>
          simp only [enT, pfun, List.tail_cons]
          by_cases hz : en m = 0
          · rw [if_pos hz, hz]
            exact ⟨rfl, rfl, by first | rfl | trivial⟩
          · rw [if_neg hz]
            refine ⟨rfl, ?_, by first | rfl | trivial⟩
            show ((drv 7 (en m)).1, en m, (0 : Int), (⟨#[]⟩ : ByteArray)) = (7, en m, 0, ⟨#[]⟩)
            unfold drv
            rw [if_neg hz]
        all_goals exact ⟨rfl, rfl, by first | rfl | trivial⟩
    · rw [if_neg h6]
      rw [decide_eq_false h6] at s64
      obtain ⟨m, hop⟩ : ∃ m, itT (tkAt l a) = .op m := by
        have h64 := of_decide_eq_false s64.symm
        have hfn : ∀ nm, itT (tkAt l a) ≠ .fn nm := fun nm e => by
          unfold itT at e
          rcases hk with ⟨h1, _⟩ | ⟨h1, _⟩ | ⟨h1, _⟩ | ⟨h1, _⟩
          · rw [h1, if_pos rfl] at e; cases e
          · rw [h1, if_neg (by decide), if_pos rfl] at e; cases e
          · exact h3 h1
          · rw [h1, if_neg (by decide), if_neg (by decide), if_neg (by decide)] at e
            unfold sgT at e
            repeat (split at e <;> first | cases e | skip)
        revert hat h64 hfn
        cases itT (tkAt l a) <;> simp [atF, sgTx]
      have hrow : rowOf (tkAt l a).tx.data.toList = some m := by
        unfold itT at hop
        rcases hk with ⟨h1, _⟩ | ⟨h1, _⟩ | ⟨h1, _⟩ | ⟨h1, _⟩
        · rw [h1, if_pos rfl] at hop; cases hop
        · rw [h1, if_neg (by decide), if_pos rfl] at hop; cases hop
        · exact absurd h1 h3
        · rw [h1, if_neg (by decide), if_neg (by decide), if_neg (by decide)] at hop
          exact sgT_op hop
      rw [hop] at o0 ⊢
      rw [show enT (T.op m :: rI l (a + 1)) = en m from rfl] at o0
      rw [o0, hrow]
      have plain : (tkAt l (a + 1)).tx ≠ ⟨#[47]⟩ → (tkAt l (a + 1)).tx ≠ ⟨#[92]⟩ → (tkAt l (a + 1)).tx ≠ ⟨#[46]⟩ → True := fun _ _ _ => trivial
      cases hr : rI l (a + 1) with
      | nil =>
        rw [hr] at s47 s92 s46
        rw [if_neg (of_decide_eq_false s47), if_neg (of_decide_eq_false s92), if_neg (of_decide_eq_false s46)]
        exact ⟨rfl, rfl, hr⟩
      | cons x r =>
        rw [hr] at s47 s92 s46 t1
        simp only [List.tail_cons] at t1
        cases x
        case sl =>
          rw [if_pos (of_decide_eq_true s47)]
          simp only [pfun]
          rw [← t1]
          by_cases hz : en m = 0
          · rw [if_pos hz, hz]
            exact ⟨rfl, rfl, by first | rfl | trivial⟩
          · rw [if_neg hz]
            refine ⟨?_, rfl, by first | rfl | trivial⟩
            show ((drv 3 (en m)).1, en m, (0 : Int), (⟨#[]⟩ : ByteArray)) = (3, en m, 0, ⟨#[]⟩)
            unfold drv
            rw [if_neg hz]
        case bs =>
          rw [if_neg (of_decide_eq_false s47), if_pos (of_decide_eq_true s92)]
          simp only [pfun]
          rw [← t1]
          by_cases hz : en m = 0
          · rw [if_pos hz, hz]
            exact ⟨rfl, rfl, by first | rfl | trivial⟩
          · rw [if_neg hz]
            refine ⟨?_, rfl, by first | rfl | trivial⟩
            show ((drv 4 (en m)).1, en m, (0 : Int), (⟨#[]⟩ : ByteArray)) = (4, en m, 0, ⟨#[]⟩)
            unfold drv
            rw [if_neg hz]
        case dot =>
          rw [if_neg (of_decide_eq_false s47), if_neg (of_decide_eq_false s92), if_pos (of_decide_eq_true s46), o2, ← t1]
          simp only
          rw [← t2, ← t1]
          cases r with
          | nil =>
            refine ⟨rfl, ?_, by first | rfl | trivial⟩
            show ((drv2 (en m) 0).1, (drv2 (en m) 0).2.1, (drv2 (en m) 0).2.2, (⟨#[]⟩ : ByteArray)) = _
            unfold drv2
            rw [if_pos (.inr rfl)]
            rfl
          | cons y r =>
            cases y
            case op m' =>
              simp only [enT, pfun, List.tail_cons]
              unfold drv2
              by_cases hz : en m = 0 ∨ en m' = 0
              · rw [if_pos hz, if_pos hz]
                exact ⟨rfl, rfl, by first | rfl | trivial⟩
              · rw [if_neg hz, if_neg hz]
                exact ⟨rfl, rfl, by first | rfl | trivial⟩
            all_goals
              refine ⟨rfl, ?_, by first | rfl | trivial⟩
              show ((drv2 (en m) 0).1, (drv2 (en m) 0).2.1, (drv2 (en m) 0).2.2, (⟨#[]⟩ : ByteArray)) = _
              unfold drv2
              rw [if_pos (.inr rfl)]
              rfl
        all_goals
          rw [if_neg (of_decide_eq_false s47), if_neg (of_decide_eq_false s92), if_neg (of_decide_eq_false s46)]
          exact ⟨rfl, rfl, hr⟩
end Pl
end Go.Proofs.YtljkolffjjhgeaaDoor
