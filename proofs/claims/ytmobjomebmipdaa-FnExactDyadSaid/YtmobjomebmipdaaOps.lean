import Derived.Test.YtmobjomebmipdaaSpec1
import Derived.Laws.EntriesVeiled
namespace Go.Proofs.Ytmobjomebmipdaa.Pl
def boolM (b : Bool) : Int := if b = true then 1 else 0
end Go.Proofs.Ytmobjomebmipdaa.Pl

namespace Go.Proofs.Ytmobjomebmipdaa
open Go.RowKit
set_option linter.unusedVariables false

theorem truth_any (q : Bool) (w : World) : Calls Try.prog 139 #[.bool q] w fun e w' => e = .returned (.int .i64 (Pl.boolM q)) ∧ w' = w := by
  cases q
  · go_enter Try.func139, Try.ntmps139
    go_wp2
    go_ret
    exact ⟨rfl, rfl⟩
  · go_enter Try.func139, Try.ntmps139
    go_wp2
    go_ret
    exact ⟨rfl, rfl⟩

end Go.Proofs.Ytmobjomebmipdaa
