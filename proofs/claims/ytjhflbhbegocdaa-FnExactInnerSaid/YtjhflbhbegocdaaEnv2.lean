import Derived.Test.YtjhflbhbegocdaaMark2
namespace Go.Proofs.Ytjhflbhbegocdaa
open Go.RowKit
set_option linter.unusedVariables false

/-- a variable that holds an array -/
def Box (w : World) (A : Nat) (x0 x1 : Value) : Prop := A < w.heap.size ∧ w.cell? ⟨A, 0, none⟩ = some x0 ∧ w.cell? ⟨A, 1, none⟩ = some x1

theorem Box.below {w w' : World} {A B : Nat} {x0 x1 : Value} (h : Box w A x0 x1) (hb : Below B w w') (hA : A < B) : Box w' A x0 x1 :=
  ⟨Nat.lt_of_lt_of_le h.1 hb.size, (hb.cell (p := ⟨A, 0, none⟩) hA).trans h.2.1, (hb.cell (p := ⟨A, 1, none⟩) hA).trans h.2.2⟩
theorem Box.keep {w w' : World} {A : Nat} {x0 x1 : Value} (h : Box w A x0 x1) (hb : Below w.heap.size w w') : Box w' A x0 x1 := h.below hb h.1
theorem Box.kept2 {w w' : World} {A : Nat} {x0 x1 : Value} {r0 r1 : Option Nat} (h : Box w A x0 x1) (hk : Kept2 w w' r0 r1) (n0 : ∀ k, r0 = some k → k < A) (n1 : ∀ k, r1 = some k → k < A) : Box w' A x0 x1 := by
  have e := hk.block A h.1 (fun e => by have := n0 A e.symm; omega) (fun e => by have := n1 A e.symm; omega)
  exact ⟨Nat.lt_of_lt_of_le h.1 hk.size, (World.cell?_of_block (w := w) (a := ⟨A, 0, none⟩) e).trans h.2.1, (World.cell?_of_block (w := w) (a := ⟨A, 1, none⟩) e).trans h.2.2⟩
theorem Box.new (w : World) (x0 x1 : Value) (t : TypeId) : Box (w.alloc (.cells #[x0, x1] t)) w.heap.size x0 x1 := ⟨by simp, by simp [go_sem], by simp [go_sem]⟩

/-- what lies there behind the specification's answer: the argument (its variable at N), the answer (its variable at A) -/
structure Env (w : World) (A : Nat) (v0 v1 u0 u1 : Value) (S D : List Int) (w' : World) : Prop where
  bel : Below w.heap.size w w'
  lt : w.heap.size < A
  box : Box w' w.heap.size v0 v1
  boxW : Box w' A u0 u1
  rd0 : Rd A w' u0 S
  rd1 : Rd A w' u1 D

theorem Env.below {w w' w'' : World} {A B : Nat} {v0 v1 u0 u1 : Value} {S D : List Int} (h : Env w A v0 v1 u0 u1 S D w') (hb : Below B w' w'') (hA : A < B) : Env w A v0 v1 u0 u1 S D w'' :=
  ⟨h.bel.trans (hb.mono (by have := h.lt; omega)), h.lt, h.box.below hb (by have := h.lt; omega), h.boxW.below hb hA, h.rd0.keep (hb.mono (by omega)), h.rd1.keep (hb.mono (by omega))⟩
theorem Env.keep {w w' w'' : World} {A : Nat} {v0 v1 u0 u1 : Value} {S D : List Int} (h : Env w A v0 v1 u0 u1 S D w') (hb : Below w'.heap.size w' w'') : Env w A v0 v1 u0 u1 S D w'' := h.below hb h.boxW.1

/-- an array of the law's own: its variable at A, its rows from B on, ahead of A -/
structure Arr (B A : Nat) (u0 u1 : Value) (S D : List Int) (w' : World) : Prop where
  box : Box w' A u0 u1
  res : Res B w' u0 u1 S D
  r0 : ∀ k, rowOf u0 S = some k → k < A
  r1 : ∀ k, rowOf u1 D = some k → k < A

theorem Res.keep {B : Nat} {w w' : World} {u0 u1 : Value} {S D : List Int} (h : Res B w u0 u1 S D) (hb : Below w.heap.size w w') : Res B w' u0 u1 S D := ⟨h.1.keep hb, h.2.1.keep hb, h.2.2⟩
theorem Arr.keep {B A : Nat} {u0 u1 : Value} {S D : List Int} {w w' : World} (h : Arr B A u0 u1 S D w) (hb : Below w.heap.size w w') : Arr B A u0 u1 S D w' := ⟨h.box.keep hb, h.res.keep hb, h.r0, h.r1⟩
theorem Arr.new {B : Nat} {u0 u1 : Value} {S D : List Int} {w : World} (h : Res B w u0 u1 S D) (t : TypeId) : Arr B w.heap.size u0 u1 S D (w.alloc (.cells #[u0, u1] t)) :=
  ⟨Box.new w u0 u1 t, h.keep ((Below.refl _ _).alloc (Nat.le_refl _) _), fun k hk => (rowOf_ge h.1 k hk).2, fun k hk => (rowOf_ge h.2.1 k hk).2⟩
/-- another array is marked, which lies below -/
theorem Arr.kept2 {B A : Nat} {u0 u1 : Value} {S D : List Int} {w w' : World} {r0 r1 : Option Nat} (h : Arr B A u0 u1 S D w) (hk : Kept2 w w' r0 r1) (hA : B ≤ A) (n0 : ∀ k, r0 = some k → k < B) (n1 : ∀ k, r1 = some k → k < B) : Arr B A u0 u1 S D w' :=
  ⟨h.box.kept2 hk (fun k e => Nat.lt_of_lt_of_le (n0 k e) hA) (fun k e => Nat.lt_of_lt_of_le (n1 k e) hA), ⟨h.res.1.kept2 hk n0 n1, h.res.2.1.kept2 hk n0 n1, h.res.2.2⟩, h.r0, h.r1⟩

/-- toArray's answer, as an array of new memory -/
theorem toArray_res (v0 v1 : Value) (sh da : List Int) (w : World) (hl0 : sh.length ≤ 1048576) (hl1 : da.length ≤ 1048576) (h0 : Rd w.heap.size w v0 sh) (h1 : Rd w.heap.size w v1 da) :
    Calls Try.prog 7 #[.agg #[v0, v1]] w fun e w' => ∃ g0 g1 : Nat, e = .returned (.agg #[sl g0 sh.length, sl g1 da.length]) ∧ Res w.heap.size w' (sl g0 sh.length) (sl g1 da.length) sh da ∧ Below w.heap.size w w' := by
  refine (toArray_any v0 v1 sh da w hl0 hl1 h0 h1).mono ?_
  rintro e w' ⟨g0, g1, rfl, _, hlt, o0, o1, hb⟩
  refine ⟨g0, g1, rfl, ⟨own_of_owns o0 rfl, own_of_owns o1 rfl, .inr (.inr fun b e0 e1 => ?_)⟩, hb⟩
  simp [Value.ownBlock] at e0 e1
  omega

theorem Res.forms {B : Nat} {w : World} {u0 u1 : Value} {S D : List Int} (h : Res B w u0 u1 S D) : ∃ a0 d0 a1 d1, u0 = .slice a0 S.length d0 ∧ u1 = .slice a1 D.length d1 := by
  obtain ⟨a0, d0, e0⟩ := h.1.form
  obtain ⟨a1, d1, e1⟩ := h.2.1.form
  exact ⟨a0, d0, a1, d1, e0, e1⟩

theorem Res.rds {B : Nat} {w : World} {u0 u1 : Value} {S D : List Int} (h : Res B w u0 u1 S D) : Rd w.heap.size w u0 S ∧ Rd w.heap.size w u1 D := ⟨h.1.rd, h.2.1.rd⟩

end Go.Proofs.Ytjhflbhbegocdaa

namespace Go.Proofs.Ytjhflbhbegocdaa
open Go.RowKit
set_option linter.unusedVariables false

/-- a new variable for an array, still empty -/
def Slot (wv : World) (A : Nat) (W : World) : Prop := wv.heap.size ≤ A ∧ A < W.heap.size ∧ W.cell? ⟨A, 0, none⟩ = some (.slice none 0 0) ∧ W.cell? ⟨A, 1, none⟩ = some (.slice none 0 0) ∧ ∀ o, W.frozen? ⟨A, o, none⟩ = false

theorem Slot.keep {wv W W' : World} {A : Nat} (h : Slot wv A W) (hb : Below W.heap.size W W') : Slot wv A W' :=
  ⟨h.1, Nat.lt_of_lt_of_le h.2.1 hb.size, (hb.cell (p := ⟨A, 0, none⟩) h.2.1).trans h.2.2.1, (hb.cell (p := ⟨A, 1, none⟩) h.2.1).trans h.2.2.2.1, fun o => (hb.frozen (p := ⟨A, o, none⟩) h.2.1).trans (h.2.2.2.2 o)⟩
theorem Slot.new {wv W : World} (h : wv.heap.size ≤ W.heap.size) (t : TypeId) : Slot wv W.heap.size (W.alloc (.cells #[.slice none 0 0, .slice none 0 0] t)) :=
  ⟨h, by simp, by simp [go_sem], by simp [go_sem], fun o => by simp [go_sem]⟩

theorem rd_set2 {B A : Nat} {w : World} {u x y : Value} {zs : List Int} (h : Rd B w u zs) (hne : zs.length = 0 ∨ ∀ b, u.ownBlock = some b → ¬ b = A) : Rd B ((w.setCell ⟨A, 0, none⟩ x).setCell ⟨A, 1, none⟩ y) u zs := by
  obtain ⟨ao, cap, rfl, h⟩ := h
  refine ⟨ao, cap, rfl, ?_⟩
  rcases h with h | ⟨g, off, hB, rfl, hc⟩
  · exact .inl h
  · rcases hne with hne | hne
    · exact .inl hne
    · have hg : ¬ g = A := hne g (by simp [Value.ownBlock])
      refine .inr ⟨g, off, hB, rfl, fun i hi => ?_⟩
      have e0 := Below.heap_setCell w ⟨A, 0, none⟩ x g (fun e => hg (by simpa using e))
      have e1 := Below.heap_setCell (w.setCell ⟨A, 0, none⟩ x) ⟨A, 1, none⟩ y g (fun e => hg (by simpa using e))
      exact (World.cell?_of_block (w := w.setCell ⟨A, 0, none⟩ x) (a := ⟨g, off + i, none⟩) e1).trans ((World.cell?_of_block (w := w) (a := ⟨g, off + i, none⟩) e0).trans (hc i hi))

/-- an answer in its variable -/
structure Got (wv : World) (A : Nat) (u0 u1 : Value) (S D : List Int) (wx : World) : Prop where
  bel : Below wv.heap.size wv wx
  box : Box wx A u0 u1
  lo : wv.heap.size ≤ A
  rd0 : Rd wx.heap.size wx u0 S
  rd1 : Rd wx.heap.size wx u1 D

theorem got_of {wv W : World} {A : Nat} {u0 u1 : Value} {S D : List Int} (hb : Below wv.heap.size wv W) (hs : Slot wv A W) (r0 : Rd W.heap.size W u0 S) (r1 : Rd W.heap.size W u1 D)
    (n0 : S.length = 0 ∨ ∀ b, u0.ownBlock = some b → ¬ b = A) (n1 : D.length = 0 ∨ ∀ b, u1.ownBlock = some b → ¬ b = A) : Got wv A u0 u1 S D ((W.setCell ⟨A, 0, none⟩ u0).setCell ⟨A, 1, none⟩ u1) := by
  obtain ⟨h1, h2, c0, c1, f⟩ := hs
  refine ⟨(hb.setCell (by simpa using h1) _).setCell (by simpa using h1) _, ⟨by simpa using h2, by simp [go_sem, c0], by simp [go_sem, c1]⟩, h1, ?_, ?_⟩
  · have := rd_set2 (A := A) (x := u0) (y := u1) r0 n0
    simpa using this
  · have := rd_set2 (A := A) (x := u0) (y := u1) r1 n1
    simpa using this

theorem own_ne_lo {B A : Nat} {w : World} {u : Value} {zs : List Int} (h : Own B w u zs) (hA : A < B) : zs.length = 0 ∨ ∀ b, u.ownBlock = some b → ¬ b = A := by
  obtain ⟨ao, cap, rfl, h⟩ := h
  rcases h with h | ⟨g, off, h1, _, rfl, _⟩
  · exact .inl h
  · refine .inr fun b e0 => ?_
    simp [Value.ownBlock] at e0
    omega
theorem own_ne_hi {B A : Nat} {w : World} {u : Value} {zs : List Int} (h : Own B w u zs) (hA : w.heap.size ≤ A) : zs.length = 0 ∨ ∀ b, u.ownBlock = some b → ¬ b = A := by
  obtain ⟨ao, cap, rfl, h⟩ := h
  rcases h with h | ⟨g, off, _, h1, rfl, _⟩
  · exact .inl h
  · refine .inr fun b e0 => ?_
    simp [Value.ownBlock] at e0
    omega

/-- what lies there behind the specification's answer: two arguments, the answer; all of it below E -/
structure Env2 (w : World) (A E : Nat) (v0 v1 v2 v3 u0 u1 : Value) (S D : List Int) (w' : World) : Prop where
  bel : Below w.heap.size w w'
  lt : w.heap.size + 1 < A
  hi : A < E
  le : E ≤ w'.heap.size
  box0 : Box w' w.heap.size v0 v1
  box1 : Box w' (w.heap.size + 1) v2 v3
  boxW : Box w' A u0 u1
  rd0 : Rd E w' u0 S
  rd1 : Rd E w' u1 D

theorem Env2.below {w w' w'' : World} {A E B : Nat} {v0 v1 v2 v3 u0 u1 : Value} {S D : List Int} (h : Env2 w A E v0 v1 v2 v3 u0 u1 S D w') (hb : Below B w' w'') (hE : E ≤ B) : Env2 w A E v0 v1 v2 v3 u0 u1 S D w'' := by
  have h1 := h.lt
  have h2 := h.hi
  exact ⟨h.bel.trans (hb.mono (by omega)), h.lt, h.hi, Nat.le_trans h.le hb.size, h.box0.below hb (by omega), h.box1.below hb (by omega), h.boxW.below hb (by omega), h.rd0.keep (hb.mono hE), h.rd1.keep (hb.mono hE)⟩
theorem Env2.keep {w w' w'' : World} {A E : Nat} {v0 v1 v2 v3 u0 u1 : Value} {S D : List Int} (h : Env2 w A E v0 v1 v2 v3 u0 u1 S D w') (hb : Below w'.heap.size w' w'') : Env2 w A E v0 v1 v2 v3 u0 u1 S D w'' := h.below hb h.le
theorem Got.keep {wv W W' : World} {A : Nat} {u0 u1 : Value} {S D : List Int} (h : Got wv A u0 u1 S D W) (hb : Below W.heap.size W W') : Got wv A u0 u1 S D W' :=
  ⟨h.bel.trans (hb.mono h.bel.size), h.box.keep hb, h.lo, (h.rd0.keep hb).up hb.size, (h.rd1.keep hb).up hb.size⟩
/-- an array of the law's own, marks of another one laid above -/
theorem Arr.below {B A C : Nat} {u0 u1 : Value} {S D : List Int} {w w' : World} (h : Arr B A u0 u1 S D w) (hb : Below C w w') (hA : A < C) : Arr B A u0 u1 S D w' := by
  refine ⟨h.box.below hb hA, ⟨?_, ?_, h.res.2.2⟩, h.r0, h.r1⟩
  · obtain ⟨ao, cap, rfl, g⟩ := h.res.1
    refine ⟨ao, cap, rfl, ?_⟩
    rcases g with g | ⟨b, off, g1, g2, rfl, g4⟩
    · exact .inl g
    · by_cases hz : S.length = 0
      · exact .inl hz
      · have hr := h.r0 b (by unfold rowOf; rw [if_neg hz]; rfl)
        exact .inr ⟨b, off, g1, Nat.lt_of_lt_of_le g2 hb.size, rfl, fun i hi => ⟨(hb.cell (p := ⟨b, off + i, none⟩) (by show b < _; omega)).trans (g4 i hi).1, (hb.frozen (p := ⟨b, off + i, none⟩) (by show b < _; omega)).trans (g4 i hi).2⟩⟩
  · obtain ⟨ao, cap, rfl, g⟩ := h.res.2.1
    refine ⟨ao, cap, rfl, ?_⟩
    rcases g with g | ⟨b, off, g1, g2, rfl, g4⟩
    · exact .inl g
    · by_cases hz : D.length = 0
      · exact .inl hz
      · have hr := h.r1 b (by unfold rowOf; rw [if_neg hz]; rfl)
        exact .inr ⟨b, off, g1, Nat.lt_of_lt_of_le g2 hb.size, rfl, fun i hi => ⟨(hb.cell (p := ⟨b, off + i, none⟩) (by show b < _; omega)).trans (g4 i hi).1, (hb.frozen (p := ⟨b, off + i, none⟩) (by show b < _; omega)).trans (g4 i hi).2⟩⟩

end Go.Proofs.Ytjhflbhbegocdaa

