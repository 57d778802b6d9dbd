import Derived.Test.YtmobjomebmipdaaSpec2
namespace Go.Proofs.Ytmobjomebmipdaa
open Go.RowKit
set_option linter.unusedVariables false

set_option maxRecDepth 100000 in
/-- spec.l2Made -/
theorem l2Made_any (B : Nat) (a0 a1 : Option Addr) (n d0 d1 : Nat) (zs : List Int) (w : World) (hl : zs.length ≤ 1048576) (h : Rd B w (.slice a0 zs.length d0) zs) (hB : B ≤ w.heap.size) :
    Calls Try.prog 78 #[.slice a0 zs.length d0, .slice a1 n d1] w fun e w' => Below w.heap.size w w' ∧
      ((Pl.fitsB zs = true ∧ e = .returned (.tuple #[.agg #[.slice a0 zs.length d0, .slice a1 n d1], .int .i64 0])) ∨ (Pl.fitsB zs = false ∧ e = .returned (.tuple #[.agg #[.slice none 0 0, .slice none 0 0], .int .i64 6]))) := by
  have A : Hid (∀ o, Below w.heap.size w (w.alloc o)) := fun o => (Below.refl _ _).alloc (Nat.le_refl _) _
  have K : Hid (∀ o, Calls Try.prog 33 #[.slice a0 zs.length d0] (w.alloc o) fun e w' => e = .returned (.bool (Pl.fitsB zs)) ∧ w' = w.alloc o) := fun o => l1Fits_any B _ zs _ hl (h.keep ((A.out o).mono hB))
  clear h
  by_cases hf : Pl.fitsB zs = true
  · rw [hf] at K
    have HF := hideP hf
    clear hf
    go_enter Try.func78, Try.ntmps78
    go_wp2_with (go_at_call 33; refine (K.out _).mono ?_; rintro e w' ⟨rfl, rfl⟩)
    refine bodyPost_ret (v := .tuple #[.agg #[.slice a0 zs.length d0, .slice a1 n d1], .int .i64 0]) (by simp [results, Try.results78, go_sem]) rfl ⟨A.out _, .inl ⟨HF.out, rfl⟩⟩
  · have hf' : Pl.fitsB zs = false := by simpa using hf
    rw [hf'] at K
    have HF := hideP hf'
    clear hf hf'
    go_enter Try.func78, Try.ntmps78
    go_wp2_with (go_at_call 33; refine (K.out _).mono ?_; rintro e w' ⟨rfl, rfl⟩)
    refine bodyPost_ret (v := .tuple #[.agg #[.slice none 0 0, .slice none 0 0], .int .i64 6]) (by simp [results, Try.results78, go_sem]) rfl ⟨A.out _, .inr ⟨HF.out, rfl⟩⟩

end Go.Proofs.Ytmobjomebmipdaa
