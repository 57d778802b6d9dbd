import Derived.Test.YtljkolffjjhgeaaDoorMm
import Derived.Laws.StructEq
namespace Go.Proofs.YtljkolffjjhgeaaDoor
open Go.RowKit
set_option linter.unusedVariables false
set_option maxRecDepth 100000
theorem ba_iffL {s t : ByteArray} : s.toList = t.toList ↔ s = t := by rw [ByteArray.toList_eq, ByteArray.toList_eq]; exact (Pl.ba_iff s t).symm
/-- what == says of two functions -/
theorem eq78 (k1 k2 k3 k4 k5 k6 : Int) (s t : ByteArray) (w : World) : (Op.equalIn 10000 79 (.agg #[.int .i64 k1, .int .i64 k2, .int .i64 k3, .string s]) (.agg #[.int .i64 k4, .int .i64 k5, .int .i64 k6, .string t])).run Tryd.prog w = .ok (decide (k1 = k4) && decide (k2 = k5) && decide (k3 = k6) && decide (s = t)) w := by
  have u3 := Tryd.underlying3
  have a3 := Tryd.isAgg3
  have z3 := Tryd.sizeOf3
  have u9 := Tryd.underlying9
  have a9 := Tryd.isAgg9
  have z9 := Tryd.sizeOf9
  have hS : Tryd.prog.underlying 79 = some (.struct (Tryd.prog.fieldsOf 79)) := by kernel_rfl
  have hp : Tryd.prog.stoodInHeld 79 = false := by kernel_rfl
  rw [show (10000 : Nat) = 9999 + 1 from rfl, run_equalIn_agg w 9999 79 _ _ hS hp]
  simp only [Program.fieldsOf, Tryd.underlying79]
  go_simp
  by_cases h1 : k1 = k4 <;> by_cases h2 : k2 = k5 <;> by_cases h3 : k3 = k6 <;> by_cases h4 : s = t <;> simp [h1, h2, h3, h4, ba_iffL]
end Go.Proofs.YtljkolffjjhgeaaDoor
