import Derived.Test.YtaikmbfdhecjoaaGreatPlain2
import Derived.Test.YtaikmbfdhecjoaaGreatLies
import Derived.Test.YtaikmbfdhecjoaaGreatRow
import Derived.Test.YtaikmbfdhecjoaaGreatPlain6
namespace Go.Proofs.YtaikmbfdhecjoaaGreat
open Go.RowKit
set_option linter.unusedVariables false

namespace Pl
/-- k, k+1, .. -/
def marks (k : Int) : Nat → List Int
  | 0 => []
  | n + 1 => k :: marks (k + 1) n
end Pl

/-- the block that is written where there are elements -/
def rowOf (u : Value) (zs : List Int) : Option Nat := if zs.length = 0 then none else u.ownBlock

theorem rowOf_ge {B : Nat} {w : World} {u : Value} {zs : List Int} (h : Own B w u zs) : ∀ k, rowOf u zs = some k → B ≤ k ∧ k < w.heap.size := by
  intro k hk
  obtain ⟨ao, cap, rfl, h⟩ := h
  unfold rowOf at hk
  rcases h with h | ⟨g, off, h1, h2, rfl, _⟩
  · rw [if_pos h] at hk; cases hk
  · split at hk
    · cases hk
    · simp [Value.ownBlock] at hk
      omega

/-- what two writes leave -/
structure Kept2 (w w' : World) (r0 r1 : Option Nat) : Prop where
  os : w'.os = w.os
  tape : w'.tape = w.tape
  output : w'.output = w.output
  size : w.heap.size ≤ w'.heap.size
  block : ∀ k, k < w.heap.size → some k ≠ r0 → some k ≠ r1 → w'.heap[k]? = w.heap[k]?

theorem Kept2.below {w w' : World} {r0 r1 : Option Nat} {B : Nat} (h : Kept2 w w' r0 r1) (hB : B ≤ w.heap.size) (h0 : ∀ k, r0 = some k → B ≤ k) (h1 : ∀ k, r1 = some k → B ≤ k) : Below B w w' :=
  ⟨h.os, h.tape, h.output, h.size, fun k hk => h.block k (by omega) (fun e => by have := h0 k e.symm; omega) (fun e => by have := h1 k e.symm; omega)⟩

theorem Own.grown {B : Nat} {w w' : World} {u : Value} {zs : List Int} {r : Option Nat} (h : Own B w u zs) (hg : w.grownBy w' r) (hr : ∀ k, r = some k → rowOf u zs ≠ some k) : Own B w' u zs := by
  obtain ⟨ao, cap, rfl, h⟩ := h
  refine ⟨ao, cap, rfl, ?_⟩
  rcases h with h | ⟨g, off, hB, hlt, rfl, hc⟩
  · exact .inl h
  · by_cases hz : zs.length = 0
    · exact .inl hz
    · have hrow : rowOf (.slice (some ⟨g, off, none⟩) zs.length cap) zs = some g := by unfold rowOf; rw [if_neg hz]; rfl
      have e := hg.block g hlt (fun e => hr g e.symm hrow)
      exact .inr ⟨g, off, hB, Nat.lt_of_lt_of_le hlt hg.size, rfl, fun i hi => ⟨(World.cell?_of_block (w := w) (a := ⟨g, off + i, none⟩) e).trans (hc i hi).1, (World.frozen?_of_block (w := w) (a := ⟨g, off + i, none⟩) e).trans (hc i hi).2⟩⟩

end Go.Proofs.YtaikmbfdhecjoaaGreat

namespace Go.Proofs.YtaikmbfdhecjoaaGreat
open Go.RowKit
set_option linter.unusedVariables false

theorem Own.alloc {B : Nat} {w : World} {u : Value} {zs : List Int} (h : Own B w u zs) (o : Obj) : Own B (w.alloc o) u zs := h.keep ((Below.refl _ _).alloc (Nat.le_refl _) _)

end Go.Proofs.YtaikmbfdhecjoaaGreat

namespace Go.Proofs.YtaikmbfdhecjoaaGreat
open Go.RowKit
set_option linter.unusedVariables false

/-- a variable that holds an array -/
def Box (w : World) (A : Nat) (x0 x1 : Value) : Prop := A < w.heap.size ∧ w.cell? ⟨A, 0, none⟩ = some x0 ∧ w.cell? ⟨A, 1, none⟩ = some x1

theorem Box.below {w w' : World} {A B : Nat} {x0 x1 : Value} (h : Box w A x0 x1) (hb : Below B w w') (hA : A < B) : Box w' A x0 x1 :=
  ⟨Nat.lt_of_lt_of_le h.1 hb.size, (hb.cell (p := ⟨A, 0, none⟩) hA).trans h.2.1, (hb.cell (p := ⟨A, 1, none⟩) hA).trans h.2.2⟩
theorem Box.keep {w w' : World} {A : Nat} {x0 x1 : Value} (h : Box w A x0 x1) (hb : Below w.heap.size w w') : Box w' A x0 x1 := h.below hb h.1
theorem Box.new (w : World) (x0 x1 : Value) (t : TypeId) : Box (w.alloc (.cells #[x0, x1] t)) w.heap.size x0 x1 := ⟨by simp, by simp [go_sem], by simp [go_sem]⟩

/-- what lies there behind the specification's answer: the argument (its variable at N), the answer (its variable at A) -/
structure Env (w : World) (A : Nat) (v0 v1 u0 u1 : Value) (S D : List Int) (w' : World) : Prop where
  bel : Below w.heap.size w w'
  lt : w.heap.size < A
  box : Box w' w.heap.size v0 v1
  boxW : Box w' A u0 u1
  rd0 : Rd A w' u0 S
  rd1 : Rd A w' u1 D

theorem Env.below {w w' w'' : World} {A B : Nat} {v0 v1 u0 u1 : Value} {S D : List Int} (h : Env w A v0 v1 u0 u1 S D w') (hb : Below B w' w'') (hA : A < B) : Env w A v0 v1 u0 u1 S D w'' :=
  ⟨h.bel.trans (hb.mono (by have := h.lt; omega)), h.lt, h.box.below hb (by have := h.lt; omega), h.boxW.below hb hA, h.rd0.keep (hb.mono (by omega)), h.rd1.keep (hb.mono (by omega))⟩
theorem Env.keep {w w' w'' : World} {A : Nat} {v0 v1 u0 u1 : Value} {S D : List Int} (h : Env w A v0 v1 u0 u1 S D w') (hb : Below w'.heap.size w' w'') : Env w A v0 v1 u0 u1 S D w'' := h.below hb h.boxW.1

/-- an array of the law's own: its variable at A, its rows from B on, ahead of A -/
structure Arr (B A : Nat) (u0 u1 : Value) (S D : List Int) (w' : World) : Prop where
  box : Box w' A u0 u1
  res : Res B w' u0 u1 S D
  r0 : ∀ k, rowOf u0 S = some k → k < A
  r1 : ∀ k, rowOf u1 D = some k → k < A

theorem Res.keep {B : Nat} {w w' : World} {u0 u1 : Value} {S D : List Int} (h : Res B w u0 u1 S D) (hb : Below w.heap.size w w') : Res B w' u0 u1 S D := ⟨h.1.keep hb, h.2.1.keep hb, h.2.2⟩
theorem Arr.keep {B A : Nat} {u0 u1 : Value} {S D : List Int} {w w' : World} (h : Arr B A u0 u1 S D w) (hb : Below w.heap.size w w') : Arr B A u0 u1 S D w' := ⟨h.box.keep hb, h.res.keep hb, h.r0, h.r1⟩
theorem Arr.new {B : Nat} {u0 u1 : Value} {S D : List Int} {w : World} (h : Res B w u0 u1 S D) (t : TypeId) : Arr B w.heap.size u0 u1 S D (w.alloc (.cells #[u0, u1] t)) :=
  ⟨Box.new w u0 u1 t, h.keep ((Below.refl _ _).alloc (Nat.le_refl _) _), fun k hk => (rowOf_ge h.1 k hk).2, fun k hk => (rowOf_ge h.2.1 k hk).2⟩
theorem Res.forms {B : Nat} {w : World} {u0 u1 : Value} {S D : List Int} (h : Res B w u0 u1 S D) : ∃ a0 d0 a1 d1, u0 = .slice a0 S.length d0 ∧ u1 = .slice a1 D.length d1 := by
  obtain ⟨a0, d0, e0⟩ := h.1.form
  obtain ⟨a1, d1, e1⟩ := h.2.1.form
  exact ⟨a0, d0, a1, d1, e0, e1⟩

end Go.Proofs.YtaikmbfdhecjoaaGreat

namespace Go.Proofs.YtaikmbfdhecjoaaGreat
open Go.RowKit
set_option linter.unusedVariables false

/-- a new variable for an array, still empty -/
def Slot (wv : World) (A : Nat) (W : World) : Prop := wv.heap.size ≤ A ∧ A < W.heap.size ∧ W.cell? ⟨A, 0, none⟩ = some (.slice none 0 0) ∧ W.cell? ⟨A, 1, none⟩ = some (.slice none 0 0) ∧ ∀ o, W.frozen? ⟨A, o, none⟩ = false

theorem Slot.keep {wv W W' : World} {A : Nat} (h : Slot wv A W) (hb : Below W.heap.size W W') : Slot wv A W' :=
  ⟨h.1, Nat.lt_of_lt_of_le h.2.1 hb.size, (hb.cell (p := ⟨A, 0, none⟩) h.2.1).trans h.2.2.1, (hb.cell (p := ⟨A, 1, none⟩) h.2.1).trans h.2.2.2.1, fun o => (hb.frozen (p := ⟨A, o, none⟩) h.2.1).trans (h.2.2.2.2 o)⟩
theorem Slot.new {wv W : World} (h : wv.heap.size ≤ W.heap.size) (t : TypeId) : Slot wv W.heap.size (W.alloc (.cells #[.slice none 0 0, .slice none 0 0] t)) :=
  ⟨h, by simp, by simp [go_sem], by simp [go_sem], fun o => by simp [go_sem]⟩

/-- an answer in its variable -/
structure Got (wv : World) (A : Nat) (u0 u1 : Value) (S D : List Int) (wx : World) : Prop where
  bel : Below wv.heap.size wv wx
  box : Box wx A u0 u1
  lo : wv.heap.size ≤ A
  rd0 : Rd wx.heap.size wx u0 S
  rd1 : Rd wx.heap.size wx u1 D

theorem own_ne_lo {B A : Nat} {w : World} {u : Value} {zs : List Int} (h : Own B w u zs) (hA : A < B) : zs.length = 0 ∨ ∀ b, u.ownBlock = some b → ¬ b = A := by
  obtain ⟨ao, cap, rfl, h⟩ := h
  rcases h with h | ⟨g, off, h1, _, rfl, _⟩
  · exact .inl h
  · refine .inr fun b e0 => ?_
    simp [Value.ownBlock] at e0
    omega
theorem own_ne_hi {B A : Nat} {w : World} {u : Value} {zs : List Int} (h : Own B w u zs) (hA : w.heap.size ≤ A) : zs.length = 0 ∨ ∀ b, u.ownBlock = some b → ¬ b = A := by
  obtain ⟨ao, cap, rfl, h⟩ := h
  rcases h with h | ⟨g, off, _, h1, rfl, _⟩
  · exact .inl h
  · refine .inr fun b e0 => ?_
    simp [Value.ownBlock] at e0
    omega

/-- what lies there behind the specification's answer: two arguments, the answer; all of it below E -/
structure Env2 (w : World) (A E : Nat) (v0 v1 v2 v3 u0 u1 : Value) (S D : List Int) (w' : World) : Prop where
  bel : Below w.heap.size w w'
  lt : w.heap.size + 1 < A
  hi : A < E
  le : E ≤ w'.heap.size
  box0 : Box w' w.heap.size v0 v1
  box1 : Box w' (w.heap.size + 1) v2 v3
  boxW : Box w' A u0 u1
  rd0 : Rd E w' u0 S
  rd1 : Rd E w' u1 D

theorem Env2.below {w w' w'' : World} {A E B : Nat} {v0 v1 v2 v3 u0 u1 : Value} {S D : List Int} (h : Env2 w A E v0 v1 v2 v3 u0 u1 S D w') (hb : Below B w' w'') (hE : E ≤ B) : Env2 w A E v0 v1 v2 v3 u0 u1 S D w'' := by
  have h1 := h.lt
  have h2 := h.hi
  exact ⟨h.bel.trans (hb.mono (by omega)), h.lt, h.hi, Nat.le_trans h.le hb.size, h.box0.below hb (by omega), h.box1.below hb (by omega), h.boxW.below hb (by omega), h.rd0.keep (hb.mono hE), h.rd1.keep (hb.mono hE)⟩
theorem Env2.keep {w w' w'' : World} {A E : Nat} {v0 v1 v2 v3 u0 u1 : Value} {S D : List Int} (h : Env2 w A E v0 v1 v2 v3 u0 u1 S D w') (hb : Below w'.heap.size w' w'') : Env2 w A E v0 v1 v2 v3 u0 u1 S D w'' := h.below hb h.le
theorem Got.keep {wv W W' : World} {A : Nat} {u0 u1 : Value} {S D : List Int} (h : Got wv A u0 u1 S D W) (hb : Below W.heap.size W W') : Got wv A u0 u1 S D W' :=
  ⟨h.bel.trans (hb.mono h.bel.size), h.box.keep hb, h.lo, (h.rd0.keep hb).up hb.size, (h.rd1.keep hb).up hb.size⟩
/-- an array of the law's own, marks of another one laid above -/
theorem Arr.below {B A C : Nat} {u0 u1 : Value} {S D : List Int} {w w' : World} (h : Arr B A u0 u1 S D w) (hb : Below C w w') (hA : A < C) : Arr B A u0 u1 S D w' := by
  refine ⟨h.box.below hb hA, ⟨?_, ?_, h.res.2.2⟩, h.r0, h.r1⟩
  · obtain ⟨ao, cap, rfl, g⟩ := h.res.1
    refine ⟨ao, cap, rfl, ?_⟩
    rcases g with g | ⟨b, off, g1, g2, rfl, g4⟩
    · exact .inl g
    · by_cases hz : S.length = 0
      · exact .inl hz
      · have hr := h.r0 b (by unfold rowOf; rw [if_neg hz]; rfl)
        exact .inr ⟨b, off, g1, Nat.lt_of_lt_of_le g2 hb.size, rfl, fun i hi => ⟨(hb.cell (p := ⟨b, off + i, none⟩) (by show b < _; omega)).trans (g4 i hi).1, (hb.frozen (p := ⟨b, off + i, none⟩) (by show b < _; omega)).trans (g4 i hi).2⟩⟩
  · obtain ⟨ao, cap, rfl, g⟩ := h.res.2.1
    refine ⟨ao, cap, rfl, ?_⟩
    rcases g with g | ⟨b, off, g1, g2, rfl, g4⟩
    · exact .inl g
    · by_cases hz : D.length = 0
      · exact .inl hz
      · have hr := h.r1 b (by unfold rowOf; rw [if_neg hz]; rfl)
        exact .inr ⟨b, off, g1, Nat.lt_of_lt_of_le g2 hb.size, rfl, fun i hi => ⟨(hb.cell (p := ⟨b, off + i, none⟩) (by show b < _; omega)).trans (g4 i hi).1, (hb.frozen (p := ⟨b, off + i, none⟩) (by show b < _; omega)).trans (g4 i hi).2⟩⟩

end Go.Proofs.YtaikmbfdhecjoaaGreat

namespace Go.Proofs.YtaikmbfdhecjoaaGreat
open Go.RowKit
set_option linter.unusedVariables false

/-- a slice that does not lie in block A -/
def Off (A : Nat) (u : Value) (zs : List Int) : Prop := zs.length = 0 ∨ ∀ b, u.ownBlock = some b → ¬ b = A

/-- a store into another block -/
theorem Own.aside {B A o : Nat} {w : World} {u : Value} {zs : List Int} (h : Own B w u zs) (hn : Off A u zs) (v : Value) : Own B (w.setCell ⟨A, o, none⟩ v) u zs := by
  obtain ⟨ao, cap, rfl, h⟩ := h
  refine ⟨ao, cap, rfl, ?_⟩
  rcases h with h | ⟨g, off, h1, h2, rfl, h4⟩
  · exact .inl h
  · rcases hn with hn | hn
    · exact .inl hn
    · refine .inr ⟨g, off, h1, by simpa using h2, rfl, fun i hi => ?_⟩
      have hg : ¬ g = A := hn g rfl
      have e := Below.heap_setCell w ⟨A, o, none⟩ v g (by simpa using hg)
      exact ⟨(World.cell?_of_block (w := w) (a := ⟨g, off + i, none⟩) e).trans (h4 i hi).1, (World.frozen?_of_block (w := w) (a := ⟨g, off + i, none⟩) e).trans (h4 i hi).2⟩

/-- an array in a variable, its slices in blocks of their own; all of it the call's -/
structure Ac (w1 : World) (E A : Nat) (u0 u1 : Value) (tl acc : List Int) (w : World) : Prop where
  bel : Below w1.heap.size w1 w
  blk : w.heap[A]? = some (.cells #[u0, u1] 25 (0, 0))
  res : Res E w u0 u1 tl acc
  n0 : Off A u0 tl
  n1 : Off A u1 acc

theorem Ac.keep {w1 w w' : World} {E A : Nat} {u0 u1 : Value} {tl acc : List Int} (h : Ac w1 E A u0 u1 tl acc w) (hb : Below w.heap.size w w') : Ac w1 E A u0 u1 tl acc w' :=
  ⟨h.bel.trans (hb.mono h.bel.size), by
    rw [hb.block A (Array.getElem?_eq_some_iff.1 h.blk).1]
    exact h.blk, ⟨h.res.1.keep hb, h.res.2.1.keep hb, h.res.2.2⟩, h.n0, h.n1⟩

/-- the first array is laid into its variable -/
theorem Ac.new {w w1 : World} {u0 u1 : Value} {tl acc : List Int} {E : Nat} (h : Res E w1 u0 u1 tl acc) : Ac w1 E w1.heap.size u0 u1 tl acc (w1.alloc (.cells #[u0, u1] 25)) := by
  have k : Below w1.heap.size w1 (w1.alloc (.cells #[u0, u1] 25)) := (Below.refl _ _).alloc (Nat.le_refl _) _
  refine ⟨k, heap_alloc_new w1 _, ⟨h.1.keep k, h.2.1.keep k, h.2.2⟩, own_ne_hi h.1 (Nat.le_refl _), own_ne_hi h.2.1 (Nat.le_refl _)⟩

/-- next, code := l2Each(op, l2Row(a, i), acc) under way -/
structure Rn (wr : World) (rx rp : Option (Value × Value × List Int × List Int)) (ov : Option Nat) (w : World) : Prop where
  bel : Below wr.heap.size wr w
  x : ∀ x0 x1 a b, rx = some (x0, x1, a, b) → Rd w.heap.size w x0 a ∧ Rd w.heap.size w x1 b
  p : ∀ x0 x1 a b, rp = some (x0, x1, a, b) → Res wr.heap.size w x0 x1 a b
  v : ∀ k, ov = some k → wr.heap.size ≤ k ∧ w.heap[k]? = some (.cells #[.slice none 0 0, .slice none 0 0] 25 (0, 0))
  pv : ∀ x0 x1 a b k, rp = some (x0, x1, a, b) → ov = some k → Off k x0 a ∧ Off k x1 b

theorem Rn.start (wr : World) : Rn wr none none none wr.drew := ⟨(Below.refl _ _).drew, (by intro _ _ _ _ h; cases h), (by intro _ _ _ _ h; cases h), (by intro _ h; cases h), (by intro _ _ _ _ _ h; cases h)⟩

theorem Rn.keep {wr w w' : World} {rx rp : Option (Value × Value × List Int × List Int)} {ov : Option Nat} (h : Rn wr rx rp ov w) (hb : Below w.heap.size w w') : Rn wr rx rp ov w' :=
  ⟨h.bel.trans (hb.mono h.bel.size), fun x0 x1 a b e => ⟨((h.x x0 x1 a b e).1.keep hb).up hb.size, ((h.x x0 x1 a b e).2.keep hb).up hb.size⟩, fun x0 x1 a b e => ⟨(h.p x0 x1 a b e).1.keep hb, (h.p x0 x1 a b e).2.1.keep hb, (h.p x0 x1 a b e).2.2⟩, fun k e => ⟨(h.v k e).1, by
    have := (h.v k e).2
    rw [hb.block k (Array.getElem?_eq_some_iff.1 this).1]
    exact this⟩, h.pv⟩

theorem Rn.row {wr w w' : World} {ov : Option Nat} (h : Rn wr none none ov w) {x0 x1 : Value} {a b : List Int} (hr : Res w.heap.size w' x0 x1 a b) (hb : Below w.heap.size w w') : Rn wr (some (x0, x1, a, b)) none ov w' := by
  have k := h.keep hb
  refine ⟨k.bel, ?_, k.p, k.v, k.pv⟩
  intro y0 y1 c d e
  simp only [Option.some.injEq, Prod.mk.injEq] at e
  obtain ⟨rfl, rfl, rfl, rfl⟩ := e
  exact ⟨hr.1.rd, hr.2.1.rd⟩

theorem Rn.each {wr w w' : World} {rx : Option (Value × Value × List Int × List Int)} {ov : Option Nat} (h : Rn wr rx none ov w) {x0 x1 : Value} {a b : List Int} (hr : Res w.heap.size w' x0 x1 a b) (hb : Below w.heap.size w w') : Rn wr rx (some (x0, x1, a, b)) ov w' := by
  have k := h.keep hb
  refine ⟨k.bel, k.x, ?_, k.v, ?_⟩
  · intro y0 y1 c d e
    simp only [Option.some.injEq, Prod.mk.injEq] at e
    obtain ⟨rfl, rfl, rfl, rfl⟩ := e
    exact ⟨hr.1.base h.bel.size, hr.2.1.base h.bel.size, hr.2.2⟩
  · intro y0 y1 c d k' e e'
    simp only [Option.some.injEq, Prod.mk.injEq] at e
    obtain ⟨rfl, rfl, rfl, rfl⟩ := e
    have hl := (Array.getElem?_eq_some_iff.1 (h.v k' e').2).1
    exact ⟨own_ne_lo hr.1 hl, own_ne_lo hr.2.1 hl⟩

theorem Rn.var {wr w : World} {rx rp : Option (Value × Value × List Int × List Int)} (h : Rn wr rx rp none w) : Rn wr rx rp (some w.heap.size) (w.alloc (.cells #[.slice none 0 0, .slice none 0 0] 25)) := by
  have k := h.keep ((Below.refl w.heap.size w).alloc (Nat.le_refl _) (.cells #[.slice none 0 0, .slice none 0 0] 25))
  refine ⟨k.bel, k.x, k.p, ?_, ?_⟩
  · intro k' e
    simp only [Option.some.injEq] at e
    subst e
    exact ⟨h.bel.size, heap_alloc_new w _⟩
  · intro y0 y1 c d k' e e'
    simp only [Option.some.injEq] at e'
    subst e'
    have hr := h.p y0 y1 c d e
    exact ⟨own_ne_hi hr.1 (Nat.le_refl _), own_ne_hi hr.2.1 (Nat.le_refl _)⟩

/-- next is laid into its variable -/
theorem Rn.done {wr w : World} {rx : Option (Value × Value × List Int × List Int)} {p0 p1 : Value} {S D : List Int} {P : Nat} (h : Rn wr rx (some (p0, p1, S, D)) (some P) w) :
    Ac wr wr.heap.size P p0 p1 S D ((w.setCell ⟨P, 0, none⟩ p0).setCell ⟨P, 1, none⟩ p1) := by
  have hP := (h.v P rfl).2
  have hle := (h.v P rfl).1
  have hr := h.p p0 p1 S D rfl
  obtain ⟨g0, g1⟩ := h.pv p0 p1 S D P rfl rfl
  exact ⟨(h.bel.setCell hle _).setCell hle _, blk_two hP, ⟨(hr.1.aside g0 _).aside g0 _, (hr.2.1.aside g1 _).aside g1 _, hr.2.2⟩, g0, g1⟩

/-- acc = next -/
theorem Ac.move {w1 wr wx : World} {E A P : Nat} {u0 u1 p0 p1 : Value} {tl acc S D : List Int} (h : Ac w1 E A u0 u1 tl acc wr) (hA : w1.heap.size ≤ A) (hE : E ≤ wr.heap.size) (k : Ac wr wr.heap.size P p0 p1 S D wx) :
    wx.heap[A]? = some (.cells #[u0, u1] 25 (0, 0)) ∧ Ac w1 E A p0 p1 S D ((wx.setCell ⟨A, 0, none⟩ p0).setCell ⟨A, 1, none⟩ p1) := by
  have hlt := (Array.getElem?_eq_some_iff.1 h.blk).1
  have e : wx.heap[A]? = some (.cells #[u0, u1] 25 (0, 0)) := by
    rw [k.bel.block A hlt]
    exact h.blk
  have g0 : Off A p0 S := own_ne_lo k.res.1 hlt
  have g1 : Off A p1 D := own_ne_lo k.res.2.1 hlt
  have hb : Below w1.heap.size w1 wx := h.bel.trans (k.bel.mono h.bel.size)
  exact ⟨e, (hb.setCell hA _).setCell hA _, blk_two e, ⟨((k.res.1.base hE).aside g0 _).aside g0 _, ((k.res.2.1.base hE).aside g1 _).aside g1 _, k.res.2.2⟩, g0, g1⟩

end Go.Proofs.YtaikmbfdhecjoaaGreat
