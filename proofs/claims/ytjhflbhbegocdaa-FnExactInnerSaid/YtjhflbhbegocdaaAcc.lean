import Derived.Test.YtjhflbhbegocdaaLies
import Derived.Test.YtjhflbhbegocdaaRow
import Derived.Test.YtjhflbhbegocdaaPlain6
import Derived.Test.YtjhflbhbegocdaaEnv2
namespace Go.Proofs.Ytjhflbhbegocdaa
open Go.RowKit
set_option linter.unusedVariables false

/-- a slice that does not lie in block A -/
def Off (A : Nat) (u : Value) (zs : List Int) : Prop := zs.length = 0 ∨ ∀ b, u.ownBlock = some b → ¬ b = A

/-- a store into another block -/
theorem Own.aside {B A o : Nat} {w : World} {u : Value} {zs : List Int} (h : Own B w u zs) (hn : Off A u zs) (v : Value) : Own B (w.setCell ⟨A, o, none⟩ v) u zs := by
  obtain ⟨ao, cap, rfl, h⟩ := h
  refine ⟨ao, cap, rfl, ?_⟩
  rcases h with h | ⟨g, off, h1, h2, rfl, h4⟩
  · exact .inl h
  · rcases hn with hn | hn
    · exact .inl hn
    · refine .inr ⟨g, off, h1, by simpa using h2, rfl, fun i hi => ?_⟩
      have hg : ¬ g = A := hn g rfl
      have e := Below.heap_setCell w ⟨A, o, none⟩ v g (by simpa using hg)
      exact ⟨(World.cell?_of_block (w := w) (a := ⟨g, off + i, none⟩) e).trans (h4 i hi).1, (World.frozen?_of_block (w := w) (a := ⟨g, off + i, none⟩) e).trans (h4 i hi).2⟩

/-- an array in a variable, its slices in blocks of their own; all of it the call's -/
structure Ac (w1 : World) (E A : Nat) (u0 u1 : Value) (tl acc : List Int) (w : World) : Prop where
  bel : Below w1.heap.size w1 w
  blk : w.heap[A]? = some (.cells #[u0, u1] 26 (0, 0))
  res : Res E w u0 u1 tl acc
  n0 : Off A u0 tl
  n1 : Off A u1 acc

theorem Ac.keep {w1 w w' : World} {E A : Nat} {u0 u1 : Value} {tl acc : List Int} (h : Ac w1 E A u0 u1 tl acc w) (hb : Below w.heap.size w w') : Ac w1 E A u0 u1 tl acc w' :=
  ⟨h.bel.trans (hb.mono h.bel.size), by
    rw [hb.block A (Array.getElem?_eq_some_iff.1 h.blk).1]
    exact h.blk, ⟨h.res.1.keep hb, h.res.2.1.keep hb, h.res.2.2⟩, h.n0, h.n1⟩

/-- the first array is laid into its variable -/
theorem Ac.new {w w1 : World} {u0 u1 : Value} {tl acc : List Int} {E : Nat} (h : Res E w1 u0 u1 tl acc) : Ac w1 E w1.heap.size u0 u1 tl acc (w1.alloc (.cells #[u0, u1] 26)) := by
  have k : Below w1.heap.size w1 (w1.alloc (.cells #[u0, u1] 26)) := (Below.refl _ _).alloc (Nat.le_refl _) _
  refine ⟨k, heap_alloc_new w1 _, ⟨h.1.keep k, h.2.1.keep k, h.2.2⟩, own_ne_hi h.1 (Nat.le_refl _), own_ne_hi h.2.1 (Nat.le_refl _)⟩

/-- next, code := l2Each(op, l2Row(a, i), acc) under way -/
structure Rn (wr : World) (rx rp : Option (Value × Value × List Int × List Int)) (ov : Option Nat) (w : World) : Prop where
  bel : Below wr.heap.size wr w
  x : ∀ x0 x1 a b, rx = some (x0, x1, a, b) → Rd w.heap.size w x0 a ∧ Rd w.heap.size w x1 b
  p : ∀ x0 x1 a b, rp = some (x0, x1, a, b) → Res wr.heap.size w x0 x1 a b
  v : ∀ k, ov = some k → wr.heap.size ≤ k ∧ w.heap[k]? = some (.cells #[.slice none 0 0, .slice none 0 0] 26 (0, 0))
  pv : ∀ x0 x1 a b k, rp = some (x0, x1, a, b) → ov = some k → Off k x0 a ∧ Off k x1 b

theorem Rn.start (wr : World) : Rn wr none none none wr.drew := ⟨(Below.refl _ _).drew, (by intro _ _ _ _ h; cases h), (by intro _ _ _ _ h; cases h), (by intro _ h; cases h), (by intro _ _ _ _ _ h; cases h)⟩

theorem Rn.keep {wr w w' : World} {rx rp : Option (Value × Value × List Int × List Int)} {ov : Option Nat} (h : Rn wr rx rp ov w) (hb : Below w.heap.size w w') : Rn wr rx rp ov w' :=
  ⟨h.bel.trans (hb.mono h.bel.size), fun x0 x1 a b e => ⟨((h.x x0 x1 a b e).1.keep hb).up hb.size, ((h.x x0 x1 a b e).2.keep hb).up hb.size⟩, fun x0 x1 a b e => ⟨(h.p x0 x1 a b e).1.keep hb, (h.p x0 x1 a b e).2.1.keep hb, (h.p x0 x1 a b e).2.2⟩, fun k e => ⟨(h.v k e).1, by
    have := (h.v k e).2
    rw [hb.block k (Array.getElem?_eq_some_iff.1 this).1]
    exact this⟩, h.pv⟩

theorem Rn.row {wr w w' : World} {ov : Option Nat} (h : Rn wr none none ov w) {x0 x1 : Value} {a b : List Int} (hr : Res w.heap.size w' x0 x1 a b) (hb : Below w.heap.size w w') : Rn wr (some (x0, x1, a, b)) none ov w' := by
  have k := h.keep hb
  refine ⟨k.bel, ?_, k.p, k.v, k.pv⟩
  intro y0 y1 c d e
  simp only [Option.some.injEq, Prod.mk.injEq] at e
  obtain ⟨rfl, rfl, rfl, rfl⟩ := e
  exact ⟨hr.1.rd, hr.2.1.rd⟩

theorem Rn.each {wr w w' : World} {rx : Option (Value × Value × List Int × List Int)} {ov : Option Nat} (h : Rn wr rx none ov w) {x0 x1 : Value} {a b : List Int} (hr : Res w.heap.size w' x0 x1 a b) (hb : Below w.heap.size w w') : Rn wr rx (some (x0, x1, a, b)) ov w' := by
  have k := h.keep hb
  refine ⟨k.bel, k.x, ?_, k.v, ?_⟩
  · intro y0 y1 c d e
    simp only [Option.some.injEq, Prod.mk.injEq] at e
    obtain ⟨rfl, rfl, rfl, rfl⟩ := e
    exact ⟨hr.1.base h.bel.size, hr.2.1.base h.bel.size, hr.2.2⟩
  · intro y0 y1 c d k' e e'
    simp only [Option.some.injEq, Prod.mk.injEq] at e
    obtain ⟨rfl, rfl, rfl, rfl⟩ := e
    have hl := (Array.getElem?_eq_some_iff.1 (h.v k' e').2).1
    exact ⟨own_ne_lo hr.1 hl, own_ne_lo hr.2.1 hl⟩

theorem Rn.var {wr w : World} {rx rp : Option (Value × Value × List Int × List Int)} (h : Rn wr rx rp none w) : Rn wr rx rp (some w.heap.size) (w.alloc (.cells #[.slice none 0 0, .slice none 0 0] 26)) := by
  have k := h.keep ((Below.refl w.heap.size w).alloc (Nat.le_refl _) (.cells #[.slice none 0 0, .slice none 0 0] 26))
  refine ⟨k.bel, k.x, k.p, ?_, ?_⟩
  · intro k' e
    simp only [Option.some.injEq] at e
    subst e
    exact ⟨h.bel.size, heap_alloc_new w _⟩
  · intro y0 y1 c d k' e e'
    simp only [Option.some.injEq] at e'
    subst e'
    have hr := h.p y0 y1 c d e
    exact ⟨own_ne_hi hr.1 (Nat.le_refl _), own_ne_hi hr.2.1 (Nat.le_refl _)⟩

/-- next is laid into its variable -/
theorem Rn.done {wr w : World} {rx : Option (Value × Value × List Int × List Int)} {p0 p1 : Value} {S D : List Int} {P : Nat} (h : Rn wr rx (some (p0, p1, S, D)) (some P) w) :
    Ac wr wr.heap.size P p0 p1 S D ((w.setCell ⟨P, 0, none⟩ p0).setCell ⟨P, 1, none⟩ p1) := by
  have hP := (h.v P rfl).2
  have hle := (h.v P rfl).1
  have hr := h.p p0 p1 S D rfl
  obtain ⟨g0, g1⟩ := h.pv p0 p1 S D P rfl rfl
  exact ⟨(h.bel.setCell hle _).setCell hle _, blk_two hP, ⟨(hr.1.aside g0 _).aside g0 _, (hr.2.1.aside g1 _).aside g1 _, hr.2.2⟩, g0, g1⟩

/-- acc = next -/
theorem Ac.move {w1 wr wx : World} {E A P : Nat} {u0 u1 p0 p1 : Value} {tl acc S D : List Int} (h : Ac w1 E A u0 u1 tl acc wr) (hA : w1.heap.size ≤ A) (hE : E ≤ wr.heap.size) (k : Ac wr wr.heap.size P p0 p1 S D wx) :
    wx.heap[A]? = some (.cells #[u0, u1] 26 (0, 0)) ∧ Ac w1 E A p0 p1 S D ((wx.setCell ⟨A, 0, none⟩ p0).setCell ⟨A, 1, none⟩ p1) := by
  have hlt := (Array.getElem?_eq_some_iff.1 h.blk).1
  have e : wx.heap[A]? = some (.cells #[u0, u1] 26 (0, 0)) := by
    rw [k.bel.block A hlt]
    exact h.blk
  have g0 : Off A p0 S := own_ne_lo k.res.1 hlt
  have g1 : Off A p1 D := own_ne_lo k.res.2.1 hlt
  have hb : Below w1.heap.size w1 wx := h.bel.trans (k.bel.mono h.bel.size)
  exact ⟨e, (hb.setCell hA _).setCell hA _, blk_two e, ⟨((k.res.1.base hE).aside g0 _).aside g0 _, ((k.res.2.1.base hE).aside g1 _).aside g1 _, k.res.2.2⟩, g0, g1⟩

end Go.Proofs.Ytjhflbhbegocdaa
