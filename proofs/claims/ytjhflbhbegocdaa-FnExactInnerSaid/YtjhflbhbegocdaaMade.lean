import Derived.Test.YtjhflbhbegocdaaEach2
namespace Go.Proofs.Ytjhflbhbegocdaa
open Go.RowKit
set_option linter.unusedVariables false

namespace Pl
/-- the number of an operation, two valid arrays; else BadArray -/
def dyM (M : List Int → List Int → List Int → List Int → Int × List Int × List Int) (op : Int) (sa da sb db : List Int) : Int × List Int × List Int :=
  if 1 ≤ op ∧ op < 11 ∧ okB sa da = true ∧ okB sb db = true then M sa da sb db else (9, [], [])
theorem dyM_no {M : List Int → List Int → List Int → List Int → Int × List Int × List Int} {op : Int} {sa da sb db : List Int} (h : ¬ (1 ≤ op ∧ op < 11 ∧ okB sa da = true ∧ okB sb db = true)) : dyM M op sa da sb db = (9, [], []) := by unfold dyM; rw [if_neg h]
theorem dyM_yes {M : List Int → List Int → List Int → List Int → Int × List Int × List Int} {op : Int} {sa da sb db : List Int} (h : 1 ≤ op ∧ op < 11 ∧ okB sa da = true ∧ okB sb db = true) : dyM M op sa da sb db = M sa da sb db := by unfold dyM; rw [if_pos h]
end Pl

theorem wid_new (w : World) {v0 v1 v2 v3 : Value} {sa da sb db : List Int} (h0 : Rd w.heap.size w v0 sa) (h1 : Rd w.heap.size w v1 da) (h2 : Rd w.heap.size w v2 sb) (h3 : Rd w.heap.size w v3 db) (t0 t1 t2 : TypeId) :
    Wid w sa da sb db v0 v1 v2 v3 (((w.alloc (.cells #[v0, v1] t0)).alloc (.cells #[v2, v3] t1)).alloc (.cells #[.slice none 0 0, .slice none 0 0] t2)) := by
  refine ⟨below3 _ _ _ _, by simp, by simp [go_sem], by simp [go_sem], ?_, ?_, ?_, ?_⟩
  · exact (h0.keep (below3 _ _ _ _)).up (by simp; omega)
  · exact (h1.keep (below3 _ _ _ _)).up (by simp; omega)
  · exact (h2.keep (below3 _ _ _ _)).up (by simp; omega)
  · exact (h3.keep (below3 _ _ _ _)).up (by simp; omega)

end Go.Proofs.Ytjhflbhbegocdaa

namespace Go.Proofs.Ytjhflbhbegocdaa
open Go.RowKit
set_option linter.unusedVariables false

set_option maxRecDepth 100000 in
/-- spec.l2Made -/
theorem l2Made_any (B : Nat) (a0 a1 : Option Addr) (n d0 d1 : Nat) (zs : List Int) (w : World) (hl : zs.length ≤ 1048576) (h : Rd B w (.slice a0 zs.length d0) zs) (hB : B ≤ w.heap.size) :
    Calls Try.prog 18 #[.slice a0 zs.length d0, .slice a1 n d1] w fun e w' => Below w.heap.size w w' ∧
      ((Pl.fitsB zs = true ∧ e = .returned (.tuple #[.agg #[.slice a0 zs.length d0, .slice a1 n d1], .int .i64 0])) ∨ (Pl.fitsB zs = false ∧ e = .returned (.tuple #[.agg #[.slice none 0 0, .slice none 0 0], .int .i64 6]))) := by
  have A : Hid (∀ o, Below w.heap.size w (w.alloc o)) := fun o => (Below.refl _ _).alloc (Nat.le_refl _) _
  have K : Hid (∀ o, Calls Try.prog 34 #[.slice a0 zs.length d0] (w.alloc o) fun e w' => e = .returned (.bool (Pl.fitsB zs)) ∧ w' = w.alloc o) := fun o => l1Fits_any B _ zs _ hl (h.keep ((A.out o).mono hB))
  clear h
  by_cases hf : Pl.fitsB zs = true
  · rw [hf] at K
    have HF := hideP hf
    clear hf
    go_enter Try.func18, Try.ntmps18
    go_wp2_with (go_at_call 34; refine (K.out _).mono ?_; rintro e w' ⟨rfl, rfl⟩)
    refine bodyPost_ret (v := .tuple #[.agg #[.slice a0 zs.length d0, .slice a1 n d1], .int .i64 0]) (by simp [results, Try.results18, go_sem]) rfl ⟨A.out _, .inl ⟨HF.out, rfl⟩⟩
  · have hf' : Pl.fitsB zs = false := by simpa using hf
    rw [hf'] at K
    have HF := hideP hf'
    clear hf hf'
    go_enter Try.func18, Try.ntmps18
    go_wp2_with (go_at_call 34; refine (K.out _).mono ?_; rintro e w' ⟨rfl, rfl⟩)
    refine bodyPost_ret (v := .tuple #[.agg #[.slice none 0 0, .slice none 0 0], .int .i64 6]) (by simp [results, Try.results18, go_sem]) rfl ⟨A.out _, .inr ⟨HF.out, rfl⟩⟩

end Go.Proofs.Ytjhflbhbegocdaa

