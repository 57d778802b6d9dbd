import Derived.Test.YtmobjomebmipdaaEnv
namespace Go.Proofs.Ytmobjomebmipdaa
open Go.RowKit
set_option linter.unusedVariables false

/-- a new variable for an array, still empty -/
def Slot (wv : World) (A : Nat) (W : World) : Prop := wv.heap.size ≤ A ∧ A < W.heap.size ∧ W.cell? ⟨A, 0, none⟩ = some (.slice none 0 0) ∧ W.cell? ⟨A, 1, none⟩ = some (.slice none 0 0) ∧ ∀ o, W.frozen? ⟨A, o, none⟩ = false

theorem Slot.keep {wv W W' : World} {A : Nat} (h : Slot wv A W) (hb : Below W.heap.size W W') : Slot wv A W' :=
  ⟨h.1, Nat.lt_of_lt_of_le h.2.1 hb.size, (hb.cell (p := ⟨A, 0, none⟩) h.2.1).trans h.2.2.1, (hb.cell (p := ⟨A, 1, none⟩) h.2.1).trans h.2.2.2.1, fun o => (hb.frozen (p := ⟨A, o, none⟩) h.2.1).trans (h.2.2.2.2 o)⟩
theorem Slot.new {wv W : World} (h : wv.heap.size ≤ W.heap.size) (t : TypeId) : Slot wv W.heap.size (W.alloc (.cells #[.slice none 0 0, .slice none 0 0] t)) :=
  ⟨h, by simp, by simp [go_sem], by simp [go_sem], fun o => by simp [go_sem]⟩

theorem rd_set2 {B A : Nat} {w : World} {u x y : Value} {zs : List Int} (h : Rd B w u zs) (hne : zs.length = 0 ∨ ∀ b, u.ownBlock = some b → ¬ b = A) : Rd B ((w.setCell ⟨A, 0, none⟩ x).setCell ⟨A, 1, none⟩ y) u zs := by
  obtain ⟨ao, cap, rfl, h⟩ := h
  refine ⟨ao, cap, rfl, ?_⟩
  rcases h with h | ⟨g, off, hB, rfl, hc⟩
  · exact .inl h
  · rcases hne with hne | hne
    · exact .inl hne
    · have hg : ¬ g = A := hne g (by simp [Value.ownBlock])
      refine .inr ⟨g, off, hB, rfl, fun i hi => ?_⟩
      have e0 := Below.heap_setCell w ⟨A, 0, none⟩ x g (fun e => hg (by simpa using e))
      have e1 := Below.heap_setCell (w.setCell ⟨A, 0, none⟩ x) ⟨A, 1, none⟩ y g (fun e => hg (by simpa using e))
      exact (World.cell?_of_block (w := w.setCell ⟨A, 0, none⟩ x) (a := ⟨g, off + i, none⟩) e1).trans ((World.cell?_of_block (w := w) (a := ⟨g, off + i, none⟩) e0).trans (hc i hi))

/-- an answer in its variable -/
structure Got (wv : World) (A : Nat) (u0 u1 : Value) (S D : List Int) (wx : World) : Prop where
  bel : Below wv.heap.size wv wx
  box : Box wx A u0 u1
  lo : wv.heap.size ≤ A
  rd0 : Rd wx.heap.size wx u0 S
  rd1 : Rd wx.heap.size wx u1 D

theorem got_of {wv W : World} {A : Nat} {u0 u1 : Value} {S D : List Int} (hb : Below wv.heap.size wv W) (hs : Slot wv A W) (r0 : Rd W.heap.size W u0 S) (r1 : Rd W.heap.size W u1 D)
    (n0 : S.length = 0 ∨ ∀ b, u0.ownBlock = some b → ¬ b = A) (n1 : D.length = 0 ∨ ∀ b, u1.ownBlock = some b → ¬ b = A) : Got wv A u0 u1 S D ((W.setCell ⟨A, 0, none⟩ u0).setCell ⟨A, 1, none⟩ u1) := by
  obtain ⟨h1, h2, c0, c1, f⟩ := hs
  refine ⟨(hb.setCell (by simpa using h1) _).setCell (by simpa using h1) _, ⟨by simpa using h2, by simp [go_sem, c0], by simp [go_sem, c1]⟩, h1, ?_, ?_⟩
  · have := rd_set2 (A := A) (x := u0) (y := u1) r0 n0
    simpa using this
  · have := rd_set2 (A := A) (x := u0) (y := u1) r1 n1
    simpa using this

theorem own_ne_lo {B A : Nat} {w : World} {u : Value} {zs : List Int} (h : Own B w u zs) (hA : A < B) : zs.length = 0 ∨ ∀ b, u.ownBlock = some b → ¬ b = A := by
  obtain ⟨ao, cap, rfl, h⟩ := h
  rcases h with h | ⟨g, off, h1, _, rfl, _⟩
  · exact .inl h
  · refine .inr fun b e0 => ?_
    simp [Value.ownBlock] at e0
    omega
theorem own_ne_hi {B A : Nat} {w : World} {u : Value} {zs : List Int} (h : Own B w u zs) (hA : w.heap.size ≤ A) : zs.length = 0 ∨ ∀ b, u.ownBlock = some b → ¬ b = A := by
  obtain ⟨ao, cap, rfl, h⟩ := h
  rcases h with h | ⟨g, off, _, h1, rfl, _⟩
  · exact .inl h
  · refine .inr fun b e0 => ?_
    simp [Value.ownBlock] at e0
    omega

/-- what lies there behind the specification's answer: two arguments, the answer; all of it below E -/
structure Env2 (w : World) (A E : Nat) (v0 v1 v2 v3 u0 u1 : Value) (S D : List Int) (w' : World) : Prop where
  bel : Below w.heap.size w w'
  lt : w.heap.size + 1 < A
  hi : A < E
  le : E ≤ w'.heap.size
  box0 : Box w' w.heap.size v0 v1
  box1 : Box w' (w.heap.size + 1) v2 v3
  boxW : Box w' A u0 u1
  rd0 : Rd E w' u0 S
  rd1 : Rd E w' u1 D

theorem Env2.below {w w' w'' : World} {A E B : Nat} {v0 v1 v2 v3 u0 u1 : Value} {S D : List Int} (h : Env2 w A E v0 v1 v2 v3 u0 u1 S D w') (hb : Below B w' w'') (hE : E ≤ B) : Env2 w A E v0 v1 v2 v3 u0 u1 S D w'' := by
  have h1 := h.lt
  have h2 := h.hi
  exact ⟨h.bel.trans (hb.mono (by omega)), h.lt, h.hi, Nat.le_trans h.le hb.size, h.box0.below hb (by omega), h.box1.below hb (by omega), h.boxW.below hb (by omega), h.rd0.keep (hb.mono hE), h.rd1.keep (hb.mono hE)⟩
theorem Env2.keep {w w' w'' : World} {A E : Nat} {v0 v1 v2 v3 u0 u1 : Value} {S D : List Int} (h : Env2 w A E v0 v1 v2 v3 u0 u1 S D w') (hb : Below w'.heap.size w' w'') : Env2 w A E v0 v1 v2 v3 u0 u1 S D w'' := h.below hb h.le
theorem Got.keep {wv W W' : World} {A : Nat} {u0 u1 : Value} {S D : List Int} (h : Got wv A u0 u1 S D W) (hb : Below W.heap.size W W') : Got wv A u0 u1 S D W' :=
  ⟨h.bel.trans (hb.mono h.bel.size), h.box.keep hb, h.lo, (h.rd0.keep hb).up hb.size, (h.rd1.keep hb).up hb.size⟩
/-- an array of the law's own, marks of another one laid above -/
theorem Arr.below {B A C : Nat} {u0 u1 : Value} {S D : List Int} {w w' : World} (h : Arr B A u0 u1 S D w) (hb : Below C w w') (hA : A < C) : Arr B A u0 u1 S D w' := by
  refine ⟨h.box.below hb hA, ⟨?_, ?_, h.res.2.2⟩, h.r0, h.r1⟩
  · obtain ⟨ao, cap, rfl, g⟩ := h.res.1
    refine ⟨ao, cap, rfl, ?_⟩
    rcases g with g | ⟨b, off, g1, g2, rfl, g4⟩
    · exact .inl g
    · by_cases hz : S.length = 0
      · exact .inl hz
      · have hr := h.r0 b (by unfold rowOf; rw [if_neg hz]; rfl)
        exact .inr ⟨b, off, g1, Nat.lt_of_lt_of_le g2 hb.size, rfl, fun i hi => ⟨(hb.cell (p := ⟨b, off + i, none⟩) (by show b < _; omega)).trans (g4 i hi).1, (hb.frozen (p := ⟨b, off + i, none⟩) (by show b < _; omega)).trans (g4 i hi).2⟩⟩
  · obtain ⟨ao, cap, rfl, g⟩ := h.res.2.1
    refine ⟨ao, cap, rfl, ?_⟩
    rcases g with g | ⟨b, off, g1, g2, rfl, g4⟩
    · exact .inl g
    · by_cases hz : D.length = 0
      · exact .inl hz
      · have hr := h.r1 b (by unfold rowOf; rw [if_neg hz]; rfl)
        exact .inr ⟨b, off, g1, Nat.lt_of_lt_of_le g2 hb.size, rfl, fun i hi => ⟨(hb.cell (p := ⟨b, off + i, none⟩) (by show b < _; omega)).trans (g4 i hi).1, (hb.frozen (p := ⟨b, off + i, none⟩) (by show b < _; omega)).trans (g4 i hi).2⟩⟩

end Go.Proofs.Ytmobjomebmipdaa
