import Derived.Test.YtaikmbfdhecjoaaGreatFold
import Derived.Test.YtaikmbfdhecjoaaGreatRed
import Derived.Laws.Bits64b
import Derived.Laws.CopyOwn
namespace Go.Proofs.YtaikmbfdhecjoaaGreat
open Go.RowKit
set_option linter.unusedVariables false

/-- Array{.., ..} of two rows that are made in the region: the literals so far, the rows so far -/
structure Rc (wb : World) (p0 p1 : Option (Nat × Value)) (r0 r1 : Option (Value × List Int)) (w : World) : Prop where
  bel : Below wb.heap.size wb w
  l0 : ∀ k v, p0 = some (k, v) → k < w.heap.size ∧ w.cell? ⟨k, 0, none⟩ = some v
  l1 : ∀ k v, p1 = some (k, v) → k < w.heap.size ∧ w.cell? ⟨k, 0, none⟩ = some v
  o0 : ∀ v zs, r0 = some (v, zs) → Own wb.heap.size w v zs
  o1 : ∀ v zs, r1 = some (v, zs) → Own wb.heap.size w v zs
  ap : ∀ v zs v' zs', r0 = some (v, zs) → r1 = some (v', zs') → Apart v v' zs zs'

theorem Rc.start (wb : World) : Rc wb none none none none wb.drew := ⟨(Below.refl _ _).drew, (by intro _ _ h; cases h), (by intro _ _ h; cases h), (by intro _ _ h; cases h), (by intro _ _ h; cases h), (by intro _ _ _ _ h; cases h)⟩

theorem Rc.keep {wb w w' : World} {p0 p1 : Option (Nat × Value)} {r0 r1 : Option (Value × List Int)} (h : Rc wb p0 p1 r0 r1 w) (hb : Below w.heap.size w w') : Rc wb p0 p1 r0 r1 w' :=
  ⟨h.bel.trans (hb.mono h.bel.size), fun k v e => ⟨Nat.lt_of_lt_of_le (h.l0 k v e).1 hb.size, (hb.cell (p := ⟨k, 0, none⟩) (h.l0 k v e).1).trans (h.l0 k v e).2⟩, fun k v e => ⟨Nat.lt_of_lt_of_le (h.l1 k v e).1 hb.size, (hb.cell (p := ⟨k, 0, none⟩) (h.l1 k v e).1).trans (h.l1 k v e).2⟩, fun v zs e => (h.o0 v zs e).keep hb, fun v zs e => (h.o1 v zs e).keep hb, h.ap⟩

theorem lit_cell (w : World) (v : Value) (t : TypeId) : w.heap.size < (w.alloc (.cells #[v] t)).heap.size ∧ (w.alloc (.cells #[v] t)).cell? ⟨w.heap.size, 0, none⟩ = some v := ⟨by simp, by simp [go_sem]⟩

theorem Rc.lit0 {wb w : World} {p1 : Option (Nat × Value)} {r0 r1 : Option (Value × List Int)} (h : Rc wb none p1 r0 r1 w) (v : Value) (t : TypeId) : Rc wb (some (w.heap.size, v)) p1 r0 r1 (w.alloc (.cells #[v] t)) := by
  have k := h.keep ((Below.refl w.heap.size w).alloc (Nat.le_refl _) (.cells #[v] t))
  refine ⟨k.bel, ?_, k.l1, k.o0, k.o1, k.ap⟩
  intro k' v' e
  simp only [Option.some.injEq, Prod.mk.injEq] at e
  obtain ⟨rfl, rfl⟩ := e
  exact lit_cell w v t

theorem Rc.lit1 {wb w : World} {p0 : Option (Nat × Value)} {r0 r1 : Option (Value × List Int)} (h : Rc wb p0 none r0 r1 w) (v : Value) (t : TypeId) : Rc wb p0 (some (w.heap.size, v)) r0 r1 (w.alloc (.cells #[v] t)) := by
  have k := h.keep ((Below.refl w.heap.size w).alloc (Nat.le_refl _) (.cells #[v] t))
  refine ⟨k.bel, k.l0, ?_, k.o0, k.o1, k.ap⟩
  intro k' v' e
  simp only [Option.some.injEq, Prod.mk.injEq] at e
  obtain ⟨rfl, rfl⟩ := e
  exact lit_cell w v t

theorem Rc.row0 {wb w w' : World} {p0 p1 : Option (Nat × Value)} (h : Rc wb p0 p1 none none w) {v : Value} {zs : List Int} (ho : Own w.heap.size w' v zs) (hb : Below w.heap.size w w') : Rc wb p0 p1 (some (v, zs)) none w' := by
  have k := h.keep hb
  refine ⟨k.bel, k.l0, k.l1, ?_, k.o1, ?_⟩
  · intro v' zs' e
    simp only [Option.some.injEq, Prod.mk.injEq] at e
    obtain ⟨rfl, rfl⟩ := e
    exact ho.base h.bel.size
  · intro _ _ _ _ _ e
    cases e

theorem Rc.row1 {wb w w' : World} {p0 p1 : Option (Nat × Value)} {u : Value} {ys : List Int} (h : Rc wb p0 p1 (some (u, ys)) none w) {v : Value} {zs : List Int} (ho : Own w.heap.size w' v zs) (hb : Below w.heap.size w w') : Rc wb p0 p1 (some (u, ys)) (some (v, zs)) w' := by
  have k := h.keep hb
  refine ⟨k.bel, k.l0, k.l1, k.o0, ?_, ?_⟩
  · intro v' zs' e
    simp only [Option.some.injEq, Prod.mk.injEq] at e
    obtain ⟨rfl, rfl⟩ := e
    exact ho.base h.bel.size
  · intro v1 zs1 v2 zs2 e e'
    simp only [Option.some.injEq, Prod.mk.injEq] at e e'
    obtain ⟨rfl, rfl⟩ := e
    obtain ⟨rfl, rfl⟩ := e'
    exact apart_right ho (h.o0 _ _ rfl).lt

theorem Rc.res {wb w : World} {p0 p1 : Option (Nat × Value)} {u v : Value} {ys zs : List Int} (h : Rc wb p0 p1 (some (u, ys)) (some (v, zs)) w) : Res wb.heap.size w u v ys zs := ⟨h.o0 _ _ rfl, h.o1 _ _ rfl, h.ap _ _ _ _ rfl rfl⟩

/-- impl.joined of one list -/
theorem joined1_own (b : Nat) (u : Value) (xs : List Int) (w : World) (hl : xs.length ≤ 1048576) (hb : b < w.heap.size) (c0 : w.cell? ⟨b, 0, none⟩ = some u) (h0 : Rd w.heap.size w u xs) :
    Calls Tryz.prog 53 #[.slice (some ⟨b, 0, none⟩) 1 1] w fun e w' => ∃ ao cap, e = .returned (.slice ao xs.length cap) ∧ Own w.heap.size w' (.slice ao xs.length cap) xs ∧ Below w.heap.size w w' := by
  refine (joined1_row b u xs w hl hb c0 h0).mono ?_
  rintro e w' ⟨v, rfl, ho, hb⟩
  obtain ⟨x, y, ev⟩ := owns_form ho
  subst ev
  exact ⟨x, y, rfl, own_of_any ho, hb⟩

end Go.Proofs.YtaikmbfdhecjoaaGreat

namespace Go.Proofs.YtaikmbfdhecjoaaGreat
open Go.RowKit
set_option linter.unusedVariables false

theorem mask_small (a : Nat) (h : a ≤ 1000) : bits .and .u64 (a : Int) 4294967295 = (a : Int) := by
  have h1 := bits_and_u64_nat a 4294967295 (by omega) (by omega)
  have e : a &&& 4294967295 = a % 4294967296 := Nat.and_two_pow_sub_one_eq_mod a 32
  rw [e] at h1
  rw [show ((4294967295 : Nat) : Int) = 4294967295 from rfl] at h1
  rw [h1]
  omega

set_option maxRecDepth 100000 in
/-- bits.Mul64 of 1 -/
theorem mul64_one (cp : Nat) (w : World) (h : cp ≤ 1000) : Calls Tryz.prog 114 #[.int .u64 1, .int .u64 (cp : Int)] w fun e w' => e = .returned (.tuple #[.int .u64 0, .int .u64 (cp : Int)]) ∧ w' = w := by
  have e1 : bits .and .u64 1 4294967295 = 1 := mask_small 1 (by omega)
  have e0 : bits .and .u64 0 4294967295 = 0 := mask_small 0 (by omega)
  have e2 := mask_small cp h
  have d0 : (cp : Int) / 4294967296 = 0 := by omega
  have wc : IntKind.u64.wrap (cp : Int) = (cp : Int) := by rw [IntKind.wrap_u64]; omega
  have w0 : IntKind.u64.wrap 0 = 0 := by rw [IntKind.wrap_u64]; omega
  go_enter Tryz.func114, Tryz.ntmps114
  go_wp2
  go_ret2
  exact ⟨rfl, rfl⟩

set_option maxRecDepth 100000 in
/-- bits.Mul of 1 -/
theorem mul_one (cp : Nat) (w : World) (h : cp ≤ 1000) : Calls Tryz.prog 95 #[.int .u64 1, .int .u64 (cp : Int)] w fun e w' => e = .returned (.tuple #[.int .u64 0, .int .u64 (cp : Int)]) ∧ w' = w := by
  have K := hideP (mul64_one cp w h)
  go_enter Tryz.func95, Tryz.ntmps95
  go_wp2_with (go_at_call 114; refine K.out.mono ?_; rintro e w' ⟨rfl, rfl⟩)
  go_ret2
  exact ⟨rfl, rfl⟩

end Go.Proofs.YtaikmbfdhecjoaaGreat

namespace Go.Proofs.YtaikmbfdhecjoaaGreat
open Go.RowKit
set_option linter.unusedVariables false

theorem sizeOf3 (w : World) : (sizeOf (Tryz.prog.elem 23)).run Tryz.prog w = .ok 1 w := by
  obtain ⟨i0, hi, hz0, hz1, hz2⟩ := info_parts Tryz.info3
  have e : Tryz.prog.elem 23 = 3 := by kernel_rfl
  rw [e]
  simp [sizeOf, typeInfo, hi, hz1]
theorem und22 : Tryz.prog.underlying 23 = some (.slice (Tryz.prog.elem 23)) := by
  have e : Tryz.prog.elem 23 = 3 := by kernel_rfl
  rw [e]
  exact Tryz.underlying23
/-- s[j:] -/
theorem cut_lo (g cp j : Nat) (w : World) (h : j < cp) : (Instr.sliceAt 23 (.slice (some ⟨g, 0, none⟩) cp cp) (some (.int .i64 (j : Int))) none none).run Tryz.prog w = .ok (.slice (some ⟨g, j, none⟩) (cp - j) (cp - j)) w := by
  rw [run_sliceAt_slice _ _ _ _ _ _ und22, run_slice_l _ _ _ _ _ und22 _ _ (by omega) (by omega), sizeOf3]
  have hne : ¬ cp = j := by omega
  simp [Result.andThen, sliced, hne, Addr.add]
  omega
/-- s[:j] -/
theorem cut_hi (g cp j : Nat) (w : World) (h : j ≤ cp) (h0 : 0 < cp) : (Instr.sliceAt 23 (.slice (some ⟨g, 0, none⟩) cp cp) none (some (.int .i64 (j : Int))) none).run Tryz.prog w = .ok (.slice (some ⟨g, 0, none⟩) j cp) w := by
  rw [run_sliceAt_slice _ _ _ _ _ _ und22, run_slice_h _ _ _ _ _ und22 _ _ (by omega) (by omega), sizeOf3]
  have hne : ¬ cp = 0 := by omega
  simp [Result.andThen, sliced, hne, Addr.add]
theorem exec_move {o : Oper} {a : Act} (x : Operand) (v : Value) (ho : o.op = Op.move x) (hx : a.eval x = v) (w : World) : (execOp a.eval o).run Tryz.prog w = .ok (.value v) w := by
  simp [execOp, ho, hx]
theorem exec_lo {o : Oper} {a : Act} (x y : Operand) (g cp j : Nat) (ho : o.op = Op.slice 23 x (some y) none none) (hx : a.eval x = .slice (some ⟨g, 0, none⟩) cp cp) (hy : a.eval y = .int .i64 (j : Int)) (h : j < cp) (w : World) :
    (execOp a.eval o).run Tryz.prog w = .ok (.value (.slice (some ⟨g, j, none⟩) (cp - j) (cp - j))) w := by
  simp [execOp, ho, hx, hy, cut_lo g cp j w h, Result.andThen]
theorem exec_hi {o : Oper} {a : Act} (x y : Operand) (g cp j : Nat) (ho : o.op = Op.slice 23 x none (some y) none) (hx : a.eval x = .slice (some ⟨g, 0, none⟩) cp cp) (hy : a.eval y = .int .i64 (j : Int)) (h : j ≤ cp) (h0 : 0 < cp) (w : World) :
    (execOp a.eval o).run Tryz.prog w = .ok (.value (.slice (some ⟨g, 0, none⟩) j cp)) w := by
  simp [execOp, ho, hx, hy, cut_hi g cp j w h h0, Result.andThen]
end Go.Proofs.YtaikmbfdhecjoaaGreat
