import Derived.Test.YtjhflbhbegocdaaTwoR
import Derived.Laws.Bits64b
import Derived.Laws.CopyOwn
import Derived.Test.YtjhflbhbegocdaaFirst
namespace Go.Proofs.Ytjhflbhbegocdaa
open Go.RowKit
set_option linter.unusedVariables false

theorem mask_small (a : Nat) (h : a ≤ 1000) : bits .and .u64 (a : Int) 4294967295 = (a : Int) := by
  have h1 := bits_and_u64_nat a 4294967295 (by omega) (by omega)
  have e : a &&& 4294967295 = a % 4294967296 := Nat.and_two_pow_sub_one_eq_mod a 32
  rw [e] at h1
  rw [show ((4294967295 : Nat) : Int) = 4294967295 from rfl] at h1
  rw [h1]
  omega

set_option maxRecDepth 100000 in
/-- bits.Mul64 of 1 -/
theorem mul64_one (cp : Nat) (w : World) (h : cp ≤ 1000) : Calls Try.prog 75 #[.int .u64 1, .int .u64 (cp : Int)] w fun e w' => e = .returned (.tuple #[.int .u64 0, .int .u64 (cp : Int)]) ∧ w' = w := by
  have e1 : bits .and .u64 1 4294967295 = 1 := mask_small 1 (by omega)
  have e0 : bits .and .u64 0 4294967295 = 0 := mask_small 0 (by omega)
  have e2 := mask_small cp h
  have d0 : (cp : Int) / 4294967296 = 0 := by omega
  have wc : IntKind.u64.wrap (cp : Int) = (cp : Int) := by rw [IntKind.wrap_u64]; omega
  have w0 : IntKind.u64.wrap 0 = 0 := by rw [IntKind.wrap_u64]; omega
  go_enter Try.func75, Try.ntmps75
  go_wp2
  go_ret2
  exact ⟨rfl, rfl⟩

set_option maxRecDepth 100000 in
/-- bits.Mul of 1 -/
theorem mul_one (cp : Nat) (w : World) (h : cp ≤ 1000) : Calls Try.prog 73 #[.int .u64 1, .int .u64 (cp : Int)] w fun e w' => e = .returned (.tuple #[.int .u64 0, .int .u64 (cp : Int)]) ∧ w' = w := by
  have K := hideP (mul64_one cp w h)
  go_enter Try.func73, Try.ntmps73
  go_wp2_with (go_at_call 75; refine K.out.mono ?_; rintro e w' ⟨rfl, rfl⟩)
  go_ret2
  exact ⟨rfl, rfl⟩

end Go.Proofs.Ytjhflbhbegocdaa

namespace Go.Proofs.Ytjhflbhbegocdaa
open Go.RowKit
set_option linter.unusedVariables false

theorem sizeOf3 (w : World) : (sizeOf (Try.prog.elem 22)).run Try.prog w = .ok 1 w := by
  obtain ⟨i0, hi, hz0, hz1, hz2⟩ := info_parts Try.info3
  have e : Try.prog.elem 22 = 3 := by kernel_rfl
  rw [e]
  simp [sizeOf, typeInfo, hi, hz1]
theorem und22 : Try.prog.underlying 22 = some (.slice (Try.prog.elem 22)) := by
  have e : Try.prog.elem 22 = 3 := by kernel_rfl
  rw [e]
  exact Try.underlying22
/-- s[j:] -/
theorem cut_lo (g cp j : Nat) (w : World) (h : j < cp) : (Instr.sliceAt 22 (.slice (some ⟨g, 0, none⟩) cp cp) (some (.int .i64 (j : Int))) none none).run Try.prog w = .ok (.slice (some ⟨g, j, none⟩) (cp - j) (cp - j)) w := by
  rw [run_sliceAt_slice _ _ _ _ _ _ und22, run_slice_l _ _ _ _ _ und22 _ _ (by omega) (by omega), sizeOf3]
  have hne : ¬ cp = j := by omega
  simp [Result.andThen, sliced, hne, Addr.add]
  omega
/-- s[:j] -/
theorem cut_hi (g cp j : Nat) (w : World) (h : j ≤ cp) (h0 : 0 < cp) : (Instr.sliceAt 22 (.slice (some ⟨g, 0, none⟩) cp cp) none (some (.int .i64 (j : Int))) none).run Try.prog w = .ok (.slice (some ⟨g, 0, none⟩) j cp) w := by
  rw [run_sliceAt_slice _ _ _ _ _ _ und22, run_slice_h _ _ _ _ _ und22 _ _ (by omega) (by omega), sizeOf3]
  have hne : ¬ cp = 0 := by omega
  simp [Result.andThen, sliced, hne, Addr.add]
theorem exec_move {o : Oper} {a : Act} (x : Operand) (v : Value) (ho : o.op = Op.move x) (hx : a.eval x = v) (w : World) : (execOp a.eval o).run Try.prog w = .ok (.value v) w := by
  simp [execOp, ho, hx]
theorem exec_lo {o : Oper} {a : Act} (x y : Operand) (g cp j : Nat) (ho : o.op = Op.slice 22 x (some y) none none) (hx : a.eval x = .slice (some ⟨g, 0, none⟩) cp cp) (hy : a.eval y = .int .i64 (j : Int)) (h : j < cp) (w : World) :
    (execOp a.eval o).run Try.prog w = .ok (.value (.slice (some ⟨g, j, none⟩) (cp - j) (cp - j))) w := by
  simp [execOp, ho, hx, hy, cut_lo g cp j w h, Result.andThen]
theorem exec_hi {o : Oper} {a : Act} (x y : Operand) (g cp j : Nat) (ho : o.op = Op.slice 22 x none (some y) none) (hx : a.eval x = .slice (some ⟨g, 0, none⟩) cp cp) (hy : a.eval y = .int .i64 (j : Int)) (h : j ≤ cp) (h0 : 0 < cp) (w : World) :
    (execOp a.eval o).run Try.prog w = .ok (.value (.slice (some ⟨g, 0, none⟩) j cp)) w := by
  simp [execOp, ho, hx, hy, cut_hi g cp j w h h0, Result.andThen]
end Go.Proofs.Ytjhflbhbegocdaa

namespace Go.Proofs.Ytjhflbhbegocdaa
open Go.RowKit
set_option linter.unusedVariables false

/-- s[:j] -/
theorem exec_top {o : Oper} {a : Act} (x y : Operand) (g off m cp j : Nat) (ho : o.op = Op.slice 22 x none (some y) none) (hx : a.eval x = .slice (some ⟨g, off, none⟩) m cp) (hy : a.eval y = .int .i64 (j : Int)) (h : j ≤ cp) (w : World) :
    (execOp a.eval o).run Try.prog w = .ok (.value (.slice (some ⟨g, off, none⟩) j cp)) w := by
  have e : (Instr.sliceAt 22 (.slice (some ⟨g, off, none⟩) m cp) none (some (.int .i64 (j : Int))) none).run Try.prog w = .ok (.slice (some ⟨g, off, none⟩) j cp) w := by
    rw [run_sliceAt_slice _ _ _ _ _ _ und22, run_slice_h _ _ _ _ _ und22 _ _ (by omega) (by omega), sizeOf3]
    simp [Result.andThen, sliced, Addr.add]
  simp [execOp, ho, hx, hy, e, Result.andThen]

theorem owns_one (w : World) (x : Int) (base : Nat) (hb : base ≤ w.heap.size) : (w.alloc (.cells #[.int .i64 x] 3)).ownsRow base 3 1 (.slice (some ⟨w.heap.size, 0, none⟩) 1 1) 1 (([x] : List Int).map (Value.int .i64)) :=
  World.ownsRow_lit w #[.int .i64 x] 1 hb (by unfold maxLen; omega) rfl

end Go.Proofs.Ytjhflbhbegocdaa

