import Derived.Test.YtmobjomebmipdaaMade
import Derived.Test.YtmobjomebmipdaaValid2
import Derived.Test.YtmobjomebmipdaaRow
namespace Go.Proofs.Ytmobjomebmipdaa.Pl
theorem ok_max {sh da : List Int} (h : okB sh da = true) : sh.length ≤ 3 ∧ da.length ≤ 1000 := by
  have h1 := (ok_len h).1
  have h2 := (ok_len h).2
  simp only [fitsB, baseB, Bool.and_eq_true, decide_eq_true_eq] at h2
  omega
end Go.Proofs.Ytmobjomebmipdaa.Pl

namespace Go.Proofs.Ytmobjomebmipdaa
open Go.RowKit
set_option linter.unusedVariables false

/-- impl.needFit -/
theorem needFit_any (B : Nat) (v : Value) (zs : List Int) (w : World) (hl : zs.length ≤ 1048576) (h : Rd B w v zs) :
    Calls Try.prog 131 #[v] w fun e w' => w' = w ∧ ((Pl.fitsB zs = true ∧ e = .returned (.tuple #[])) ∨ (Pl.fitsB zs = false ∧ e = .panicked [thrown 6])) := by
  have K := hideP (shapeFits_any B v zs w hl h)
  obtain ⟨a0, d0, e0⟩ := h.form
  subst e0
  clear h
  by_cases hf : Pl.fitsB zs = true
  · rw [hf] at K
    have HF := hideP hf
    clear hf
    go_enter Try.func131, Try.ntmps131
    go_wp2_with (first | (go_at_call 36; refine K.out.mono ?_; rintro e w' ⟨rfl, rfl⟩) | (go_at_call 83; refine (refuse_no _ _).mono ?_; rintro e w' ⟨rfl, rfl⟩))
    go_end0
    exact ⟨rfl, .inl ⟨HF.out, rfl⟩⟩
  · have hf' : Pl.fitsB zs = false := by simpa using hf
    rw [hf'] at K
    have HF := hideP hf'
    clear hf hf'
    go_enter Try.func131, Try.ntmps131
    go_wp2_with (first | (go_at_call 36; refine K.out.mono ?_; rintro e w' ⟨rfl, rfl⟩) | (go_at_call 83; refine (refuse_yes _ _).mono ?_; rintro e w' ⟨rfl, rfl⟩))
    exact ⟨rfl, rfl, .inr ⟨HF.out, rfl⟩⟩

end Go.Proofs.Ytmobjomebmipdaa

namespace Go.Proofs.Ytmobjomebmipdaa.Pl
def rowAt (da : List Int) (s r : Nat) : List Int := (da.drop (r * s)).take s
theorem rowAt_len {da : List Int} {s r : Nat} (h : (r + 1) * s ≤ da.length) : (rowAt da s r).length = s := by
  unfold rowAt
  rw [List.length_take, List.length_drop]
  rw [Nat.succ_mul] at h
  omega
end Go.Proofs.Ytmobjomebmipdaa.Pl

namespace Go.Proofs.Ytmobjomebmipdaa
open Go.RowKit
set_option linter.unusedVariables false

/-- impl.joined of one list, as a row of the call's own -/
theorem joined1_row (b : Nat) (u : Value) (xs : List Int) (w : World) (hl : xs.length ≤ 1048576) (hb : b < w.heap.size) (c0 : w.cell? ⟨b, 0, none⟩ = some u) (h0 : Rd w.heap.size w u xs) :
    Calls Try.prog 84 #[.slice (some ⟨b, 0, none⟩) 1 1] w fun e w' => ∃ v, e = .returned v ∧ w'.ownsRow w.heap.size 3 1 v xs.length (xs.map (Value.int .i64)) ∧ Below w.heap.size w w' := by
  have K := hideP (concat1 b u xs w hl hb c0 h0)
  clear c0 h0
  go_enter Try.func84, Try.ntmps84
  go_wp2_with (go_at_call 136; refine K.out.mono ?_; rintro e w' ⟨v, rfl, ho, hb'⟩)
  go_ret
  exact ⟨_, rfl, ho, hb'⟩

end Go.Proofs.Ytmobjomebmipdaa
