import Derived.Test.YtmobjomebmipdaaAns
namespace Go.Proofs.Ytmobjomebmipdaa
open Go.RowKit
set_option linter.unusedVariables false

theorem Rd.form {B : Nat} {w : World} {u : Value} {zs : List Int} (h : Rd B w u zs) : ∃ ao cap, u = .slice ao zs.length cap := by
  obtain ⟨ao, cap, e, _⟩ := h
  exact ⟨ao, cap, e⟩

/-- one round of needValid: the array at place o of the row b -/
theorem ok_new (v0 v1 : Value) (sh da : List Int) (wr : World) (hl0 : sh.length ≤ 1048576) (hl1 : da.length ≤ 1048576) (h0 : Rd wr.heap.size wr v0 sh) (h1 : Rd wr.heap.size wr v1 da) (o : Obj) :
    Calls Try.prog 14 #[.agg #[v0, v1]] (wr.alloc o) fun e w' => e = .returned (.bool (Pl.okB sh da)) ∧ Below wr.heap.size wr w' := by
  have A : Below wr.heap.size wr (wr.alloc o) := (Below.refl _ _).alloc (Nat.le_refl _) _
  refine (implOk_any v0 v1 sh da (wr.alloc o) hl0 hl1 ((h0.keep A).up (by simp)) ((h1.keep A).up (by simp))).mono ?_
  rintro e w' ⟨rfl, hb⟩
  exact ⟨rfl, A.trans (hb.mono (by simp))⟩

end Go.Proofs.Ytmobjomebmipdaa
