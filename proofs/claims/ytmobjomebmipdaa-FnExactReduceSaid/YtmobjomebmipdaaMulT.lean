import Derived.Test.YtmobjomebmipdaaTwoR
import Derived.Laws.Bits64b
import Derived.Laws.CopyOwn
namespace Go.Proofs.Ytmobjomebmipdaa
open Go.RowKit
set_option linter.unusedVariables false

theorem mask_small (a : Nat) (h : a ≤ 1000) : bits .and .u64 (a : Int) 4294967295 = (a : Int) := by
  have h1 := bits_and_u64_nat a 4294967295 (by omega) (by omega)
  have e : a &&& 4294967295 = a % 4294967296 := Nat.and_two_pow_sub_one_eq_mod a 32
  rw [e] at h1
  rw [show ((4294967295 : Nat) : Int) = 4294967295 from rfl] at h1
  rw [h1]
  omega

set_option maxRecDepth 100000 in
/-- bits.Mul64 of 1 -/
theorem mul64_one (cp : Nat) (w : World) (h : cp ≤ 1000) : Calls Try.prog 155 #[.int .u64 1, .int .u64 (cp : Int)] w fun e w' => e = .returned (.tuple #[.int .u64 0, .int .u64 (cp : Int)]) ∧ w' = w := by
  have e1 : bits .and .u64 1 4294967295 = 1 := mask_small 1 (by omega)
  have e0 : bits .and .u64 0 4294967295 = 0 := mask_small 0 (by omega)
  have e2 := mask_small cp h
  have d0 : (cp : Int) / 4294967296 = 0 := by omega
  have wc : IntKind.u64.wrap (cp : Int) = (cp : Int) := by rw [IntKind.wrap_u64]; omega
  have w0 : IntKind.u64.wrap 0 = 0 := by rw [IntKind.wrap_u64]; omega
  go_enter Try.func155, Try.ntmps155
  go_wp2
  go_ret2
  exact ⟨rfl, rfl⟩

set_option maxRecDepth 100000 in
/-- bits.Mul of 1 -/
theorem mul_one (cp : Nat) (w : World) (h : cp ≤ 1000) : Calls Try.prog 150 #[.int .u64 1, .int .u64 (cp : Int)] w fun e w' => e = .returned (.tuple #[.int .u64 0, .int .u64 (cp : Int)]) ∧ w' = w := by
  have K := hideP (mul64_one cp w h)
  go_enter Try.func150, Try.ntmps150
  go_wp2_with (go_at_call 155; refine K.out.mono ?_; rintro e w' ⟨rfl, rfl⟩)
  go_ret2
  exact ⟨rfl, rfl⟩

end Go.Proofs.Ytmobjomebmipdaa
