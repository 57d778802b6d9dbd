import Derived.Test.YtjhflbhbegocdaaValid2
import Derived.Test.YtjhflbhbegocdaaPlain5
namespace Go.Proofs.Ytjhflbhbegocdaa
open Go.RowKit
set_option linter.unusedVariables false

end Go.Proofs.Ytjhflbhbegocdaa

namespace Go.Proofs.Ytjhflbhbegocdaa
open Go.RowKit
set_option linter.unusedVariables false

/-- what is kept from below -/
theorem wid_sizes {w wx : World} {o : Obj} {sa xs sb ys : List Int} {p0 p1 p2 p3 : Value} (h : Wid (w.alloc o) sa xs sb ys p0 p1 p2 p3 wx) :
    w.heap.size + 3 < wx.heap.size ∧ (wx.cell? ⟨w.heap.size + 1, 0, none⟩ = some p0 ∧ wx.cell? ⟨w.heap.size + 1, 1, none⟩ = some p1 ∧ wx.cell? ⟨w.heap.size + 1 + 1, 0, none⟩ = some p2 ∧ wx.cell? ⟨w.heap.size + 1 + 1, 1, none⟩ = some p3) ∧
    (wx.cell? ⟨w.heap.size + 1 + 1 + 1, 0, none⟩ = some (.slice none 0 0) ∧ wx.cell? ⟨w.heap.size + 1 + 1 + 1, 1, none⟩ = some (.slice none 0 0) ∧ ∀ o, wx.frozen? ⟨w.heap.size + 1 + 1 + 1, o, none⟩ = false) ∧ Below w.heap.size w wx := by
  obtain ⟨h1, h2, h3, h4, _⟩ := h
  have e : (w.alloc o).heap.size = w.heap.size + 1 := by simp
  rw [e] at h1 h2 h3 h4
  exact ⟨by omega, h3, h4, ((Below.refl _ _).alloc (Nat.le_refl _) _).trans (h1.mono (by omega))⟩

end Go.Proofs.Ytjhflbhbegocdaa

namespace Go.Proofs.Ytjhflbhbegocdaa
open Go.RowKit
set_option linter.unusedVariables false

/-- impl.needFit -/
theorem needFit_any (B : Nat) (v : Value) (zs : List Int) (w : World) (hl : zs.length ≤ 1048576) (h : Rd B w v zs) :
    Calls Try.prog 45 #[v] w fun e w' => w' = w ∧ ((Pl.fitsB zs = true ∧ e = .returned (.tuple #[])) ∨ (Pl.fitsB zs = false ∧ e = .panicked [thrown 6])) := by
  have K := hideP (shapeFits_any B v zs w hl h)
  obtain ⟨a0, d0, e0⟩ := h.form
  subst e0
  clear h
  by_cases hf : Pl.fitsB zs = true
  · rw [hf] at K
    have HF := hideP hf
    clear hf
    go_enter Try.func45, Try.ntmps45
    go_wp2_with (first | (go_at_call 64; refine K.out.mono ?_; rintro e w' ⟨rfl, rfl⟩) | (go_at_call 41; refine (refuse_no _ _).mono ?_; rintro e w' ⟨rfl, rfl⟩))
    go_end0
    exact ⟨rfl, .inl ⟨HF.out, rfl⟩⟩
  · have hf' : Pl.fitsB zs = false := by simpa using hf
    rw [hf'] at K
    have HF := hideP hf'
    clear hf hf'
    go_enter Try.func45, Try.ntmps45
    go_wp2_with (first | (go_at_call 64; refine K.out.mono ?_; rintro e w' ⟨rfl, rfl⟩) | (go_at_call 41; refine (refuse_yes _ _).mono ?_; rintro e w' ⟨rfl, rfl⟩))
    exact ⟨rfl, rfl, .inr ⟨HF.out, rfl⟩⟩

end Go.Proofs.Ytjhflbhbegocdaa

