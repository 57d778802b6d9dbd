import Derived.Test.YtmobjomebmipdaaLies
import Derived.Test.YtmobjomebmipdaaRow
import Derived.Test.YtmobjomebmipdaaEnv2
import Derived.Test.YtmobjomebmipdaaEach2
import Derived.Deep.DeepCutAuto
namespace Go.Proofs.Ytmobjomebmipdaa
open Go.RowKit
set_option linter.unusedVariables false

/-- a slice that does not lie in block A -/
def Off (A : Nat) (u : Value) (zs : List Int) : Prop := zs.length = 0 ∨ ∀ b, u.ownBlock = some b → ¬ b = A

/-- an array in a variable, its slices in blocks of their own; all of it the call's -/
structure Ac (w1 : World) (E A : Nat) (u0 u1 : Value) (tl acc : List Int) (w : World) : Prop where
  bel : Below w1.heap.size w1 w
  blk : w.heap[A]? = some (.cells #[u0, u1] 27 (0, 0))
  res : Res E w u0 u1 tl acc
  n0 : Off A u0 tl
  n1 : Off A u1 acc

theorem Ac.keep {w1 w w' : World} {E A : Nat} {u0 u1 : Value} {tl acc : List Int} (h : Ac w1 E A u0 u1 tl acc w) (hb : Below w.heap.size w w') : Ac w1 E A u0 u1 tl acc w' :=
  ⟨h.bel.trans (hb.mono h.bel.size), by
    rw [hb.block A (Array.getElem?_eq_some_iff.1 h.blk).1]
    exact h.blk, ⟨h.res.1.keep hb, h.res.2.1.keep hb, h.res.2.2⟩, h.n0, h.n1⟩

/-- the first array is laid into its variable -/
theorem Ac.new {w w1 : World} {u0 u1 : Value} {tl acc : List Int} {E : Nat} (h : Res E w1 u0 u1 tl acc) : Ac w1 E w1.heap.size u0 u1 tl acc (w1.alloc (.cells #[u0, u1] 27)) := by
  have k : Below w1.heap.size w1 (w1.alloc (.cells #[u0, u1] 27)) := (Below.refl _ _).alloc (Nat.le_refl _) _
  refine ⟨k, heap_alloc_new w1 _, ⟨h.1.keep k, h.2.1.keep k, h.2.2⟩, own_ne_hi h.1 (Nat.le_refl _), own_ne_hi h.2.1 (Nat.le_refl _)⟩

/-- next, code := l2Each(op, l2Row(a, i), acc) under way -/
structure Rn (wr : World) (rx rp : Option (Value × Value × List Int × List Int)) (ov : Option Nat) (w : World) : Prop where
  bel : Below wr.heap.size wr w
  x : ∀ x0 x1 a b, rx = some (x0, x1, a, b) → Rd w.heap.size w x0 a ∧ Rd w.heap.size w x1 b
  p : ∀ x0 x1 a b, rp = some (x0, x1, a, b) → Res wr.heap.size w x0 x1 a b
  v : ∀ k, ov = some k → wr.heap.size ≤ k ∧ w.heap[k]? = some (.cells #[.slice none 0 0, .slice none 0 0] 27 (0, 0))
  pv : ∀ x0 x1 a b k, rp = some (x0, x1, a, b) → ov = some k → Off k x0 a ∧ Off k x1 b

theorem Rn.start (wr : World) : Rn wr none none none wr.drew := ⟨(Below.refl _ _).drew, (by intro _ _ _ _ h; cases h), (by intro _ _ _ _ h; cases h), (by intro _ h; cases h), (by intro _ _ _ _ _ h; cases h)⟩

theorem Rn.keep {wr w w' : World} {rx rp : Option (Value × Value × List Int × List Int)} {ov : Option Nat} (h : Rn wr rx rp ov w) (hb : Below w.heap.size w w') : Rn wr rx rp ov w' :=
  ⟨h.bel.trans (hb.mono h.bel.size), fun x0 x1 a b e => ⟨((h.x x0 x1 a b e).1.keep hb).up hb.size, ((h.x x0 x1 a b e).2.keep hb).up hb.size⟩, fun x0 x1 a b e => ⟨(h.p x0 x1 a b e).1.keep hb, (h.p x0 x1 a b e).2.1.keep hb, (h.p x0 x1 a b e).2.2⟩, fun k e => ⟨(h.v k e).1, by
    have := (h.v k e).2
    rw [hb.block k (Array.getElem?_eq_some_iff.1 this).1]
    exact this⟩, h.pv⟩

theorem Rn.row {wr w w' : World} {ov : Option Nat} (h : Rn wr none none ov w) {x0 x1 : Value} {a b : List Int} (hr : Res w.heap.size w' x0 x1 a b) (hb : Below w.heap.size w w') : Rn wr (some (x0, x1, a, b)) none ov w' := by
  have k := h.keep hb
  refine ⟨k.bel, ?_, k.p, k.v, k.pv⟩
  intro y0 y1 c d e
  simp only [Option.some.injEq, Prod.mk.injEq] at e
  obtain ⟨rfl, rfl, rfl, rfl⟩ := e
  exact ⟨hr.1.rd, hr.2.1.rd⟩

theorem Rn.each {wr w w' : World} {rx : Option (Value × Value × List Int × List Int)} {ov : Option Nat} (h : Rn wr rx none ov w) {x0 x1 : Value} {a b : List Int} (hr : Res w.heap.size w' x0 x1 a b) (hb : Below w.heap.size w w') : Rn wr rx (some (x0, x1, a, b)) ov w' := by
  have k := h.keep hb
  refine ⟨k.bel, k.x, ?_, k.v, ?_⟩
  · intro y0 y1 c d e
    simp only [Option.some.injEq, Prod.mk.injEq] at e
    obtain ⟨rfl, rfl, rfl, rfl⟩ := e
    exact ⟨hr.1.base h.bel.size, hr.2.1.base h.bel.size, hr.2.2⟩
  · intro y0 y1 c d k' e e'
    simp only [Option.some.injEq, Prod.mk.injEq] at e
    obtain ⟨rfl, rfl, rfl, rfl⟩ := e
    have hl := (Array.getElem?_eq_some_iff.1 (h.v k' e').2).1
    exact ⟨own_ne_lo hr.1 hl, own_ne_lo hr.2.1 hl⟩

end Go.Proofs.Ytmobjomebmipdaa

namespace Go.Proofs.Ytmobjomebmipdaa
open Go.RowKit
set_option linter.unusedVariables false

theorem rd_cell {B b off cap : Nat} {w : World} {zs : List Int} (h : Rd B w (.slice (some ⟨b, off, none⟩) zs.length cap) zs) {i : Nat} (hi : i < zs.length) : b < B ∧ w.cell? ⟨b, off + i, none⟩ = some (.int .i64 (zs.getD i 0)) := by
  obtain ⟨ao, cp, e, g⟩ := h
  rcases g with g | ⟨b', off', hB, e2, hc⟩
  · omega
  · simp only [Value.slice.injEq] at e
    have e3 := e.1.trans e2
    simp only [Option.some.injEq, Addr.mk.injEq, and_true] at e3
    obtain ⟨rfl, rfl⟩ := e3
    exact ⟨hB, hc i hi⟩

/-- the argument's variable and the answer's -/
theorem boxes2 {w w1 : World} {x0 x1 : Value} (hb : Below (w.heap.size + 1 + 1) ((w.alloc (.cells #[x0, x1] 27)).alloc (.cells #[.slice none 0 0, .slice none 0 0] 27)) w1) :
    (w1.cell? ⟨w.heap.size, 0, none⟩ = some x0 ∧ w1.cell? ⟨w.heap.size, 1, none⟩ = some x1) ∧ (w1.cell? ⟨w.heap.size + 1, 0, none⟩ = some (.slice none 0 0) ∧ w1.cell? ⟨w.heap.size + 1, 1, none⟩ = some (.slice none 0 0) ∧ ∀ o, w1.frozen? ⟨w.heap.size + 1, o, none⟩ = false) ∧ Below w.heap.size w w1 := by
  have c : ∀ b o, b < w.heap.size + 1 + 1 → w1.cell? ⟨b, o, none⟩ = ((w.alloc (.cells #[x0, x1] 27)).alloc (.cells #[.slice none 0 0, .slice none 0 0] 27)).cell? ⟨b, o, none⟩ := fun b o h => hb.cell (p := ⟨b, o, none⟩) h
  have f : ∀ b o, b < w.heap.size + 1 + 1 → w1.frozen? ⟨b, o, none⟩ = ((w.alloc (.cells #[x0, x1] 27)).alloc (.cells #[.slice none 0 0, .slice none 0 0] 27)).frozen? ⟨b, o, none⟩ := fun b o h => hb.frozen (p := ⟨b, o, none⟩) h
  refine ⟨⟨?_, ?_⟩, ⟨?_, ?_, ?_⟩, ?_⟩
  · rw [c _ _ (by omega)]; simp [go_sem]
  · rw [c _ _ (by omega)]; simp [go_sem]
  · rw [c _ _ (by omega)]; simp [go_sem]
  · rw [c _ _ (by omega)]; simp [go_sem]
  · intro o; rw [f _ _ (by omega)]; simp [go_sem]
  · exact (((Below.refl _ _).alloc (Nat.le_refl _) _).alloc (by simp) _).trans (hb.mono (by omega))

end Go.Proofs.Ytmobjomebmipdaa
