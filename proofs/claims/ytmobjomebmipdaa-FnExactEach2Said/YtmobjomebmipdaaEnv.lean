import Derived.Test.YtmobjomebmipdaaMark2
namespace Go.Proofs.Ytmobjomebmipdaa
open Go.RowKit
set_option linter.unusedVariables false

/-- a variable that holds an array -/
def Box (w : World) (A : Nat) (x0 x1 : Value) : Prop := A < w.heap.size ∧ w.cell? ⟨A, 0, none⟩ = some x0 ∧ w.cell? ⟨A, 1, none⟩ = some x1

theorem Box.below {w w' : World} {A B : Nat} {x0 x1 : Value} (h : Box w A x0 x1) (hb : Below B w w') (hA : A < B) : Box w' A x0 x1 :=
  ⟨Nat.lt_of_lt_of_le h.1 hb.size, (hb.cell (p := ⟨A, 0, none⟩) hA).trans h.2.1, (hb.cell (p := ⟨A, 1, none⟩) hA).trans h.2.2⟩
theorem Box.keep {w w' : World} {A : Nat} {x0 x1 : Value} (h : Box w A x0 x1) (hb : Below w.heap.size w w') : Box w' A x0 x1 := h.below hb h.1
theorem Box.kept2 {w w' : World} {A : Nat} {x0 x1 : Value} {r0 r1 : Option Nat} (h : Box w A x0 x1) (hk : Kept2 w w' r0 r1) (n0 : ∀ k, r0 = some k → k < A) (n1 : ∀ k, r1 = some k → k < A) : Box w' A x0 x1 := by
  have e := hk.block A h.1 (fun e => by have := n0 A e.symm; omega) (fun e => by have := n1 A e.symm; omega)
  exact ⟨Nat.lt_of_lt_of_le h.1 hk.size, (World.cell?_of_block (w := w) (a := ⟨A, 0, none⟩) e).trans h.2.1, (World.cell?_of_block (w := w) (a := ⟨A, 1, none⟩) e).trans h.2.2⟩
theorem Box.new (w : World) (x0 x1 : Value) (t : TypeId) : Box (w.alloc (.cells #[x0, x1] t)) w.heap.size x0 x1 := ⟨by simp, by simp [go_sem], by simp [go_sem]⟩

/-- what lies there behind the specification's answer: the argument (its variable at N), the answer (its variable at A) -/
structure Env (w : World) (A : Nat) (v0 v1 u0 u1 : Value) (S D : List Int) (w' : World) : Prop where
  bel : Below w.heap.size w w'
  lt : w.heap.size < A
  box : Box w' w.heap.size v0 v1
  boxW : Box w' A u0 u1
  rd0 : Rd A w' u0 S
  rd1 : Rd A w' u1 D

theorem Env.below {w w' w'' : World} {A B : Nat} {v0 v1 u0 u1 : Value} {S D : List Int} (h : Env w A v0 v1 u0 u1 S D w') (hb : Below B w' w'') (hA : A < B) : Env w A v0 v1 u0 u1 S D w'' :=
  ⟨h.bel.trans (hb.mono (by have := h.lt; omega)), h.lt, h.box.below hb (by have := h.lt; omega), h.boxW.below hb hA, h.rd0.keep (hb.mono (by omega)), h.rd1.keep (hb.mono (by omega))⟩
theorem Env.keep {w w' w'' : World} {A : Nat} {v0 v1 u0 u1 : Value} {S D : List Int} (h : Env w A v0 v1 u0 u1 S D w') (hb : Below w'.heap.size w' w'') : Env w A v0 v1 u0 u1 S D w'' := h.below hb h.boxW.1

/-- an array of the law's own: its variable at A, its rows from B on, ahead of A -/
structure Arr (B A : Nat) (u0 u1 : Value) (S D : List Int) (w' : World) : Prop where
  box : Box w' A u0 u1
  res : Res B w' u0 u1 S D
  r0 : ∀ k, rowOf u0 S = some k → k < A
  r1 : ∀ k, rowOf u1 D = some k → k < A

theorem Res.keep {B : Nat} {w w' : World} {u0 u1 : Value} {S D : List Int} (h : Res B w u0 u1 S D) (hb : Below w.heap.size w w') : Res B w' u0 u1 S D := ⟨h.1.keep hb, h.2.1.keep hb, h.2.2⟩
theorem Arr.keep {B A : Nat} {u0 u1 : Value} {S D : List Int} {w w' : World} (h : Arr B A u0 u1 S D w) (hb : Below w.heap.size w w') : Arr B A u0 u1 S D w' := ⟨h.box.keep hb, h.res.keep hb, h.r0, h.r1⟩
theorem Arr.new {B : Nat} {u0 u1 : Value} {S D : List Int} {w : World} (h : Res B w u0 u1 S D) (t : TypeId) : Arr B w.heap.size u0 u1 S D (w.alloc (.cells #[u0, u1] t)) :=
  ⟨Box.new w u0 u1 t, h.keep ((Below.refl _ _).alloc (Nat.le_refl _) _), fun k hk => (rowOf_ge h.1 k hk).2, fun k hk => (rowOf_ge h.2.1 k hk).2⟩
/-- another array is marked, which lies below -/
theorem Arr.kept2 {B A : Nat} {u0 u1 : Value} {S D : List Int} {w w' : World} {r0 r1 : Option Nat} (h : Arr B A u0 u1 S D w) (hk : Kept2 w w' r0 r1) (hA : B ≤ A) (n0 : ∀ k, r0 = some k → k < B) (n1 : ∀ k, r1 = some k → k < B) : Arr B A u0 u1 S D w' :=
  ⟨h.box.kept2 hk (fun k e => Nat.lt_of_lt_of_le (n0 k e) hA) (fun k e => Nat.lt_of_lt_of_le (n1 k e) hA), ⟨h.res.1.kept2 hk n0 n1, h.res.2.1.kept2 hk n0 n1, h.res.2.2⟩, h.r0, h.r1⟩

/-- toArray's answer, as an array of new memory -/
theorem toArray_res (v0 v1 : Value) (sh da : List Int) (w : World) (hl0 : sh.length ≤ 1048576) (hl1 : da.length ≤ 1048576) (h0 : Rd w.heap.size w v0 sh) (h1 : Rd w.heap.size w v1 da) :
    Calls Try.prog 13 #[.agg #[v0, v1]] w fun e w' => ∃ g0 g1 : Nat, e = .returned (.agg #[sl g0 sh.length, sl g1 da.length]) ∧ Res w.heap.size w' (sl g0 sh.length) (sl g1 da.length) sh da ∧ Below w.heap.size w w' := by
  refine (toArray_any v0 v1 sh da w hl0 hl1 h0 h1).mono ?_
  rintro e w' ⟨g0, g1, rfl, _, hlt, o0, o1, hb⟩
  refine ⟨g0, g1, rfl, ⟨own_of_owns o0 rfl, own_of_owns o1 rfl, .inr (.inr fun b e0 e1 => ?_)⟩, hb⟩
  simp [Value.ownBlock] at e0 e1
  omega

theorem Res.forms {B : Nat} {w : World} {u0 u1 : Value} {S D : List Int} (h : Res B w u0 u1 S D) : ∃ a0 d0 a1 d1, u0 = .slice a0 S.length d0 ∧ u1 = .slice a1 D.length d1 := by
  obtain ⟨a0, d0, e0⟩ := h.1.form
  obtain ⟨a1, d1, e1⟩ := h.2.1.form
  exact ⟨a0, d0, a1, d1, e0, e1⟩

theorem Res.rds {B : Nat} {w : World} {u0 u1 : Value} {S D : List Int} (h : Res B w u0 u1 S D) : Rd w.heap.size w u0 S ∧ Rd w.heap.size w u1 D := ⟨h.1.rd, h.2.1.rd⟩

end Go.Proofs.Ytmobjomebmipdaa
