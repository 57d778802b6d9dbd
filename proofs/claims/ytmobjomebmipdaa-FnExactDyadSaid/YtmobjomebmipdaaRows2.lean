import Derived.Test.YtmobjomebmipdaaStack
import Derived.Test.YtmobjomebmipdaaScan
import Derived.Test.YtmobjomebmipdaaValid
import Derived.Test.YtmobjomebmipdaaTwoR
import Derived.Test.YtmobjomebmipdaaFold
import Derived.Deep.DeepCutAuto
namespace Go.Proofs.Ytmobjomebmipdaa
open Go.RowKit
set_option linter.unusedVariables false

theorem inf27 : (Try.prog.info? 27).map (fun i => (i.zero, i.size, i.bytes)) = some (some (.agg #[.slice none 0 0, .slice none 0 0]), 2, 48) := by kernel_rfl
theorem und66 : Try.prog.underlying 66 = some (.slice 27) := by kernel_rfl

/-- append(rows, row) -/
theorem wpList_append66 {base : Nat} (w : World) {ops : Array Oper} {rest : List Oper} {o : Oper} {a : Act} {Q : Exit → Act → World → Prop} (hg : o.guard = none) (s y : Operand)
    (hop : o.op = Op.call { callee := Callee.builtin Builtin.append, args := #[s, y], argTypes := #[66, 66] }) (v u0 u1 : Value) (hs : a.eval s = v) (H : Nat) (hH : w.heap.size = H) (hx : a.eval y = .slice (some ⟨H, 0, none⟩) 1 1) (n : Nat) (xs : List Value)
    (hown : w.ownsRow base 27 2 v n xs) (hu0 : u0.oneCell' = true) (hu1 : u1.oneCell' = true) (hbd : n + 1 ≤ 16777216) (hbase : base ≤ w.heap.size)
    (hK : ∀ v' w', w'.ownsRow base 27 2 v' (n + 1) (xs ++ [u0, u1]) → (w.alloc (.cells #[u0, u1] 27)).grownBy w' v.ownBlock → (v'.ownBlock = v.ownBlock ∨ v'.ownBlock = some (w.heap.size + 1)) → wpList Try.prog ops Q rest (a.put o.dst v') w') : wpList Try.prog ops Q (o :: rest) a (w.alloc (.cells #[u0, u1] 27)) := by
  subst hH
  obtain ⟨i0, hi, hz0, hz1, hz2⟩ := info_parts inf27
  obtain ⟨v', w', hr, ho, hgr, _, hat⟩ := run_append_own_at (P := Try.prog) (w.alloc (.cells #[u0, u1] 27)) base 66 o.type 27 i0 (.agg #[.slice none 0 0, .slice none 0 0]) 2 48 und66 hi hz0 hz1 hz2 rfl (by decide) v n xs (hown.alloc _) ⟨w.heap.size, 0, none⟩ 1 1 [u0, u1] rfl
    (by
      intro j u hj
      rw [Addr.add_lit, Nat.zero_add]
      match j, hj with
      | 0, hj => simp at hj; subst hj; simp [go_sem]
      | 1, hj => simp at hj; subst hj; simp [go_sem]
      | j + 2, hj => simp at hj)
    (by intro u hu; simp at hu; rcases hu with rfl | rfl <;> assumption) (by unfold maxLen; omega) (by omega) (by simp; omega)
  exact wpList_append_eq _ w' hg s y _ hop v _ v' hs hx hr (hK v' w' ho hgr (by simpa using hat))

/-- a slice whose block the growing leaves alone -/
theorem Own.grownOff {B : Nat} {w w' : World} {row : Option Nat} {u : Value} {zs : List Int} (h : Own B w u zs) (hg : w.grownBy w' row) (hn : ∀ g, row = some g → Off g u zs) : Own B w' u zs := by
  obtain ⟨ao, cap, rfl, h⟩ := h
  refine ⟨ao, cap, rfl, ?_⟩
  rcases h with h | ⟨g, off, h1, h2, rfl, h4⟩
  · exact .inl h
  · by_cases hz : zs.length = 0
    · exact .inl hz
    · refine .inr ⟨g, off, h1, Nat.lt_of_lt_of_le h2 hg.size, rfl, fun i hi => ?_⟩
      have hne : some g ≠ row := by
        intro e
        rcases hn g e.symm with h | h
        · exact hz h
        · exact h g rfl rfl
      have e := hg.block g h2 hne
      exact ⟨(World.cell?_of_block (w := w) (a := ⟨g, off + i, none⟩) e).trans (h4 i hi).1, (World.frozen?_of_block (w := w) (a := ⟨g, off + i, none⟩) e).trans (h4 i hi).2⟩

/-- the rows so far -/
structure Rs (wq : World) (rv : Value) (k : Nat) (xs : List Value) (dv : Nat → Value) (zz : Nat → List Int) (w : World) : Prop where
  bel : Below wq.heap.size wq w
  row : w.ownsRow wq.heap.size 27 2 rv k xs
  cell : ∀ i, i < k → xs[i * 2 + 1]? = some (dv i)
  own : ∀ i, i < k → Own wq.heap.size w (dv i) (zz i)
  off : ∀ i, i < k → ∀ g, rv.ownBlock = some g → Off g (dv i) (zz i)

theorem Rs.start (wq : World) (zz : Nat → List Int) : Rs wq (.slice (some ⟨wq.heap.size, 0, none⟩) 0 0) 0 [] (fun _ => .slice none 0 0) zz (wq.alloc (.cells #[] 27)) :=
  ⟨(Below.refl _ _).alloc (Nat.le_refl _) _, World.ownsRow_lit wq #[] 0 (Nat.le_refl _) (by unfold maxLen; omega) rfl, fun i hi => absurd hi (Nat.not_lt_zero i), fun i hi => absurd hi (Nat.not_lt_zero i), fun i hi => absurd hi (Nat.not_lt_zero i)⟩

theorem Rs.keep {wq w w' : World} {rv : Value} {k : Nat} {xs : List Value} {dv : Nat → Value} {zz : Nat → List Int} (h : Rs wq rv k xs dv zz w) (hb : Below w.heap.size w w') : Rs wq rv k xs dv zz w' :=
  ⟨h.bel.trans (hb.mono h.bel.size), owns_keep h.row hb, h.cell, fun i hi => (h.own i hi).keep hb, h.off⟩

theorem Rs.app {wq w w9 : World} {rv v' u0 u1 : Value} {k : Nat} {xs : List Value} {dv : Nat → Value} {zz : Nat → List Int} (h : Rs wq rv k xs dv zz w) (hu : Own wq.heap.size w u1 (zz k)) (ho : ∀ g, rv.ownBlock = some g → Off g u1 (zz k))
    (hrow : w9.ownsRow wq.heap.size 27 2 v' (k + 1) (xs ++ [u0, u1])) (hg : (w.alloc (.cells #[u0, u1] 27)).grownBy w9 rv.ownBlock) (hat : v'.ownBlock = rv.ownBlock ∨ v'.ownBlock = some (w.heap.size + 1)) :
    Rs wq v' (k + 1) (xs ++ [u0, u1]) (fun i => if i = k then u1 else dv i) zz w9 := by
  have kk : Below w.heap.size w (w.alloc (.cells #[u0, u1] 27)) := (Below.refl _ _).alloc (Nat.le_refl _) _
  have hx : xs.length = k * 2 := h.row.1
  have off' : ∀ (u : Value) (zs : List Int), Own wq.heap.size w u zs → (∀ g, rv.ownBlock = some g → Off g u zs) → ∀ g, v'.ownBlock = some g → Off g u zs := by
    intro u zs hou hof g hgv
    rcases hat with hat | hat
    · rw [hat] at hgv
      exact hof g hgv
    · rw [hat] at hgv
      simp only [Option.some.injEq] at hgv
      subst hgv
      exact own_ne_hi hou (Nat.le_succ _)
  refine ⟨(h.bel.trans (kk.mono h.bel.size)).grown hg (by have := h.bel.size; simp; omega) (fun g e => (h.row.lt g e).1), hrow, ?_, ?_, ?_⟩
  · intro i hi
    by_cases hik : i = k
    · subst hik
      rw [if_pos rfl, List.getElem?_append_right (by omega), hx]
      have : i * 2 + 1 - i * 2 = 1 := by omega
      rw [this]
      rfl
    · rw [if_neg hik, List.getElem?_append_left (by omega)]
      exact h.cell i (by omega)
  · intro i hi
    show Own _ _ (if i = k then u1 else dv i) _
    by_cases hik : i = k
    · subst hik
      rw [if_pos rfl]
      exact (hu.keep kk).grownOff hg ho
    · rw [if_neg hik]
      exact ((h.own i (by omega)).keep kk).grownOff hg (h.off i (by omega))
  · intro i hi
    show ∀ g, _ → Off g (if i = k then u1 else dv i) _
    by_cases hik : i = k
    · subst hik
      rw [if_pos rfl]
      exact off' u1 _ hu ho
    · rw [if_neg hik]
      exact off' _ _ (h.own i (by omega)) (h.off i (by omega))

theorem rows_form {base n : Nat} {w : World} {v : Value} {xs : List Value} (h : w.ownsRow base 27 2 v n xs) : ∃ ao g cap, v = .slice ao n cap ∧ (0 < n → ao = some ⟨g, 0, none⟩ ∧ g < w.heap.size ∧ ∀ i, i < n → w.cell? ⟨g, i * 2 + 1, none⟩ = xs[i * 2 + 1]?) := by
  rcases h.2 with ⟨rfl, rfl⟩ | ⟨g, cap, cur, rfl, hb, hg, _⟩
  · exact ⟨none, 0, 0, rfl, fun h => absurd h (Nat.lt_irrefl _)⟩
  · exact ⟨_, g, cap, rfl, fun _ => ⟨rfl, (Array.getElem?_eq_some_iff.1 hg).1, fun i hi => h.cellAt (i * 2 + 1) (by omega)⟩⟩

end Go.Proofs.Ytmobjomebmipdaa
