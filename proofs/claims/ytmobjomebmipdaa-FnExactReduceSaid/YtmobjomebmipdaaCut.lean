import Derived.Test.YtmobjomebmipdaaMulT
namespace Go.Proofs.Ytmobjomebmipdaa
open Go.RowKit
set_option linter.unusedVariables false

theorem sizeOf3 (w : World) : (sizeOf (Try.prog.elem 22)).run Try.prog w = .ok 1 w := by
  obtain ⟨i0, hi, hz0, hz1, hz2⟩ := info_parts Try.info3
  have e : Try.prog.elem 22 = 3 := by kernel_rfl
  rw [e]
  simp [sizeOf, typeInfo, hi, hz1]
theorem und22 : Try.prog.underlying 22 = some (.slice (Try.prog.elem 22)) := by
  have e : Try.prog.elem 22 = 3 := by kernel_rfl
  rw [e]
  exact Try.underlying22
/-- s[j:] -/
theorem cut_lo (g cp j : Nat) (w : World) (h : j < cp) : (Instr.sliceAt 22 (.slice (some ⟨g, 0, none⟩) cp cp) (some (.int .i64 (j : Int))) none none).run Try.prog w = .ok (.slice (some ⟨g, j, none⟩) (cp - j) (cp - j)) w := by
  rw [run_sliceAt_slice _ _ _ _ _ _ und22, run_slice_l _ _ _ _ _ und22 _ _ (by omega) (by omega), sizeOf3]
  have hne : ¬ cp = j := by omega
  simp [Result.andThen, sliced, hne, Addr.add]
  omega
/-- s[:j] -/
theorem cut_hi (g cp j : Nat) (w : World) (h : j ≤ cp) (h0 : 0 < cp) : (Instr.sliceAt 22 (.slice (some ⟨g, 0, none⟩) cp cp) none (some (.int .i64 (j : Int))) none).run Try.prog w = .ok (.slice (some ⟨g, 0, none⟩) j cp) w := by
  rw [run_sliceAt_slice _ _ _ _ _ _ und22, run_slice_h _ _ _ _ _ und22 _ _ (by omega) (by omega), sizeOf3]
  have hne : ¬ cp = 0 := by omega
  simp [Result.andThen, sliced, hne, Addr.add]
theorem exec_move {o : Oper} {a : Act} (x : Operand) (v : Value) (ho : o.op = Op.move x) (hx : a.eval x = v) (w : World) : (execOp a.eval o).run Try.prog w = .ok (.value v) w := by
  simp [execOp, ho, hx]
theorem exec_lo {o : Oper} {a : Act} (x y : Operand) (g cp j : Nat) (ho : o.op = Op.slice 22 x (some y) none none) (hx : a.eval x = .slice (some ⟨g, 0, none⟩) cp cp) (hy : a.eval y = .int .i64 (j : Int)) (h : j < cp) (w : World) :
    (execOp a.eval o).run Try.prog w = .ok (.value (.slice (some ⟨g, j, none⟩) (cp - j) (cp - j))) w := by
  simp [execOp, ho, hx, hy, cut_lo g cp j w h, Result.andThen]
theorem exec_hi {o : Oper} {a : Act} (x y : Operand) (g cp j : Nat) (ho : o.op = Op.slice 22 x none (some y) none) (hx : a.eval x = .slice (some ⟨g, 0, none⟩) cp cp) (hy : a.eval y = .int .i64 (j : Int)) (h : j ≤ cp) (h0 : 0 < cp) (w : World) :
    (execOp a.eval o).run Try.prog w = .ok (.value (.slice (some ⟨g, 0, none⟩) j cp)) w := by
  simp [execOp, ho, hx, hy, cut_hi g cp j w h h0, Result.andThen]
end Go.Proofs.Ytmobjomebmipdaa
