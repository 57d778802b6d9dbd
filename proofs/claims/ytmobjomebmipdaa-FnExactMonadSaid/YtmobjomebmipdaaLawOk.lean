import Derived.Test.YtmobjomebmipdaaImplOk
import Derived.Deep.RegionWith
namespace Go.Proofs.Ytmobjomebmipdaa
open Go.RowKit
set_option linter.unusedVariables false

theorem szArray_rd (v0 v1 : Value) (sh da : List Int) (w w0 : World) (B : Nat) (m0 : sh.length ≤ 9223372036854775807) (m1 : da.length ≤ 9223372036854775807) (h0 : Rd B w0 v0 sh) (h1 : Rd B w0 v1 da) (l : Int) (hl0 : 0 ≤ l) (hl1 : l ≤ 1048576) :
    Calls Try.prog 11 #[.agg #[v0, v1], .int .i64 l] w fun e w' => ∃ r : Int, e = .returned (.int .i64 r) ∧ r ≤ 1048576 ∧ ((r = -1 ∧ l < sh.length + da.length) ∨ (r = l - sh.length - da.length ∧ 0 ≤ r)) ∧ Below w.heap.size w w' := by
  obtain ⟨a0, c0, rfl, _⟩ := h0
  obtain ⟨a1, c1, rfl, _⟩ := h1
  exact szArray_any a0 a1 _ c0 _ c1 w m0 m1 l hl0 hl1

theorem hideP {p : Prop} (h : p) : Hid p := h

theorem eqArray_same (v0 v1 u0 u1 : Value) (sh da : List Int) (w : World) (hl0 : sh.length ≤ 1048576) (hl1 : da.length ≤ 1048576)
    (h0 : Rd w.heap.size w v0 sh) (h1 : Rd w.heap.size w v1 da) (h2 : Rd w.heap.size w u0 sh) (h3 : Rd w.heap.size w u1 da) :
    Calls Try.prog 15 #[.agg #[v0, v1], .agg #[u0, u1]] w fun e w' => e = .returned (.bool true) ∧ Below w.heap.size w w' := by
  have := eqArray_any v0 v1 u0 u1 sh da sh da w hl0 hl1 hl0 hl1 h0 h1 h2 h3
  simpa using this

end Go.Proofs.Ytmobjomebmipdaa
