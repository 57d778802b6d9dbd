import Derived.Test.YtmobjomebmipdaaDyC
import Derived.Test.YtmobjomebmipdaaVec
namespace Go.Proofs.Ytmobjomebmipdaa
open Go.RowKit
set_option linter.unusedVariables false

namespace Pl
/-- the place of the first such cell, else the length -/
def findN : List Int → Int → Nat
  | [], _ => 0
  | x :: xs, v => if x = v then 0 else findN xs v + 1
theorem findN_at (xs : List Int) (v : Int) (j : Nat) (h : j < xs.length) (hb : ∀ i, i < j → ¬ xs.getD i 0 = v) (he : xs.getD j 0 = v) : findN xs v = j := by
  induction xs generalizing j with
  | nil => simp at h
  | cons x xs ih =>
    cases j with
    | zero => unfold findN; rw [if_pos (show x = v from he)]
    | succ j =>
      have h0 : ¬ x = v := hb 0 (by omega)
      unfold findN
      rw [if_neg h0, ih j (by simpa using h) (fun i hi => hb (i + 1) (by omega)) he]
theorem findN_none (xs : List Int) (v : Int) (hb : ∀ i, i < xs.length → ¬ xs.getD i 0 = v) : findN xs v = xs.length := by
  induction xs with
  | nil => rfl
  | cons x xs ih =>
    have h0 : ¬ x = v := hb 0 (by simp)
    unfold findN
    rw [if_neg h0, ih (fun i hi => hb (i + 1) (by simpa using hi)), List.length_cons]
end Pl

set_option maxRecDepth 100000 in
set_option maxHeartbeats 2000000 in
/-- spec.l2Find -/
theorem l2Find_any (B : Nat) (u : Value) (xs : List Int) (v : Int) (w : World) (hl : xs.length ≤ 1048576) (h : Rd B w u xs) :
    Calls Try.prog 68 #[u, .int .i64 v] w fun e w' => e = .returned (.int .i64 ((Pl.findN xs v : Nat) : Int)) ∧ w' = w := by
  obtain ⟨a0, d0, b0, o0, e0, hao, hbl, hcl⟩ := h.parts
  subst e0
  have P0 := hideP (And.intro hao hcl)
  clear h hao hbl hcl
  generalize hn : xs.length = n at *
  have Hn := hideP hn
  clear hn
  go_enter Try.func68, Try.ntmps68
  go_wp2_with fail
  go_loop [5] (fun i => ∃ j : Nat, j ≤ n ∧ i = .int .i64 j ∧ Hid (∀ i, i < j → ¬ xs.getD i 0 = v)) (fun i => n - (intOf i).toNat)
  case atStart => exact ⟨0, Nat.zero_le _, rfl, fun i hi => absurd hi (Nat.not_lt_zero i)⟩
  case round =>
    obtain ⟨j, hj, rfl, hb⟩ := hrel
    by_cases hlt : j < n
    · have hlt' : (j : Int) < (n : Int) := by omega
      have ha := P0.out.1 (by omega)
      have hce := P0.out.2 j (by omega)
      subst ha
      by_cases he : xs.getD j 0 = v
      · have HF := hideP (Pl.findN_at xs v j (by rw [Hn.out]; exact hlt) hb.out he)
        rw [he] at hce
        have test : (v == v) = true := by simp
        clear he P0
        go_wp2_with fail
        go_ret
        rw [HF.out]
        exact ⟨rfl, rfl⟩
      · have test : (xs.getD j 0 == v) = false := by rw [beq_eq_false_iff_ne]; exact he
        have hb' : Hid (∀ i, i < j + 1 → ¬ xs.getD i 0 = v) := fun i hi => by
          by_cases hij : i = j
          · subst hij; exact he
          · exact hb.out i (by omega)
        clear he P0
        generalize xs.getD j 0 = y at hce test
        go_wp2_with fail
        go_round
        case rel => exact ⟨j + 1, by omega, by go_num, hb'⟩
        case measure => simp [intOf]; omega
    · have jn : j = n := by omega
      subst jn
      have HF := hideP (Pl.findN_none xs v (by rw [Hn.out]; exact hb.out))
      rw [Hn.out] at HF
      go_wp2_with fail
      go_ret
      rw [HF.out]
      exact ⟨rfl, rfl⟩

end Go.Proofs.Ytmobjomebmipdaa
