import Derived.Test.YtjhflbhbegocdaaFace1b
namespace Go.Proofs.Ytjhflbhbegocdaa
open Go.RowKit
set_option linter.unusedVariables false

/-- spec.l2Bool -/
theorem l2Bool_any (q : Bool) (w : World) : Calls Try.prog 63 #[.bool q] w fun e w' => e = .returned (.int .i64 (if q = true then 1 else 0)) ∧ w' = w := by
  cases q
  · go_enter Try.func63, Try.ntmps63
    go_wp2
    go_ret
    exact ⟨rfl, rfl⟩
  · go_enter Try.func63, Try.ntmps63
    go_wp2
    go_ret
    exact ⟨rfl, rfl⟩

/-- '[]int{}' -/
theorem owns_empty (w : World) (base : Nat) (hb : base ≤ w.heap.size) : (w.alloc (.cells #[] 3)).ownsRow base 3 1 (.slice (some ⟨w.heap.size, 0, none⟩) 0 0) 0 (([] : List Int).map (Value.int .i64)) :=
  World.ownsRow_lit w #[] 0 hb (by unfold maxLen; omega) rfl

/-- spec.l2Copy -/
theorem l2Copy_any (u : Value) (xs : List Int) (w : World) (hl : xs.length ≤ 1048576) (h0 : Rd w.heap.size w u xs) :
    Calls Try.prog 19 #[u] w fun e w' => ∃ v, e = .returned v ∧ w'.ownsRow w.heap.size 3 1 v xs.length (xs.map (Value.int .i64)) ∧ Below w.heap.size w w' := by
  have H := hideP h0
  obtain ⟨a0, d0, e0⟩ := h0.form
  subst e0
  clear h0
  go_enter Try.func19, Try.ntmps19
  have A : Hid (Below w.heap.size w (w.alloc (.cells #[] 3))) := (Below.refl _ _).alloc (Nat.le_refl _) _
  have RD := hideP (H.out.keep A.out)
  have OE := hideP (owns_empty w w.heap.size (Nat.le_refl _))
  go_wp2_with (at_builtin; refine wpList_append_rd _ rfl _ _ rfl _ _ rfl rfl 0 [] xs OE.out RD.out (by omega) (by simp) ?_)
  intro v' w' ho hb
  have HO : Hid (w'.ownsRow w.heap.size 3 1 v' xs.length (xs.map (Value.int .i64))) := by
    first | exact ho | (have := ho; rw [Nat.zero_add, List.nil_append] at this; exact this)
  have HB := hideP (A.out.trans hb)
  clear ho hb
  go_wp2_with fail
  go_ret
  exact ⟨_, rfl, HO.out, HB.out⟩

end Go.Proofs.Ytjhflbhbegocdaa
