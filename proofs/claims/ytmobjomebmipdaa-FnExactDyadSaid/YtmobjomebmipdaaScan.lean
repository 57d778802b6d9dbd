import Derived.Test.YtmobjomebmipdaaFirst2
import Derived.Test.YtmobjomebmipdaaTwoR
import Derived.Test.YtmobjomebmipdaaFold
import Derived.Deep.DeepCutAuto
import Derived.Test.YtmobjomebmipdaaPlain6
import Derived.BigQuiet
namespace Go.Proofs.Ytmobjomebmipdaa
open Go.RowKit
set_option linter.unusedVariables false

theorem row_whole {w : World} {base g cp : Nat} {zs : List Value} (h : w.ownsRow base 3 1 (.slice (some ⟨g, 0, none⟩) cp cp) cp zs) : w.heap[g]? = some (.cells zs.toArray 3 (0, 0)) := by
  rcases h.2 with ⟨e, _⟩ | ⟨g', cap, cur, e, _, hg, _, _, hsz, htk⟩
  · cases e
  · simp only [Value.slice.injEq, Option.some.injEq, Addr.mk.injEq, and_true, true_and] at e
    obtain ⟨rfl, rfl⟩ := e
    rw [Nat.mul_one] at hsz htk
    have : cur.toList = zs := by rw [← htk, List.take_of_length_le (by simp [hsz])]
    rw [hg, ← this]

end Go.Proofs.Ytmobjomebmipdaa

namespace Go.Proofs.Ytmobjomebmipdaa
open Go.RowKit
set_option linter.unusedVariables false

theorem apart_lo {A B : Nat} {w : World} {u0 u1 : Value} {sh da : List Int} (h : Own B w u0 sh) (h1 : da.length = 0 ∨ ∀ b, u1.ownBlock = some b → b < A) (hA : A ≤ B) : Apart u0 u1 sh da := by
  obtain ⟨ao, cap, rfl, h⟩ := h
  rcases h1 with h1 | h1
  · exact .inr (.inl h1)
  rcases h with h | ⟨g, off, hB, _, rfl, _⟩
  · exact .inl h
  · refine .inr (.inr fun b e0 e1 => ?_)
    have := h1 b e1
    simp [Value.ownBlock] at e0
    omega

end Go.Proofs.Ytmobjomebmipdaa
