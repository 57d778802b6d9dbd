import Derived.Test.YtmobjomebmipdaaLies
import Derived.Test.YtmobjomebmipdaaSpec1
import Derived.Deep.RegionHeld3
import Derived.Deep.RegionHeld2
import Derived.Test.YtmobjomebmipdaaEnv
namespace Go.Proofs.Ytmobjomebmipdaa.Pl
set_option linter.unusedVariables false

theorem foldl_mul (l : List Int) (p : Int) : l.foldl (fun p x => p * x) p = p * l.foldl (fun p x => p * x) 1 := by
  induction l generalizing p with
  | nil => simp
  | cons x xs ih =>
    simp only [List.foldl_cons]
    rw [ih (p * x), ih (1 * x), Int.one_mul, Int.mul_assoc]
theorem prodP_cons (x : Int) (l : List Int) : prodP (x :: l) = x * prodP l := by
  unfold prodP
  rw [List.foldl_cons, Int.one_mul, foldl_mul]
theorem base_tail {sh : List Int} (h : baseB sh = true) : baseB sh.tail = true := by
  simp only [baseB, Bool.and_eq_true, decide_eq_true_eq, List.all_eq_true] at h ⊢
  refine ⟨by simp; omega, fun x hx => h.2 x (List.mem_of_mem_tail hx)⟩
/-- the number and size of the rows of a valid array -/
theorem ok_rows {sh da : List Int} (h : okB sh da = true) (h0 : ¬ sh.length = 0) (hn : ¬ sh.getD 0 0 = 0) :
    fitsB sh.tail = true ∧ ∃ n s : Nat, sh.getD 0 0 = n ∧ prodC sh.tail = s ∧ 1 ≤ n ∧ n ≤ 1000 ∧ da.length = n * s := by
  obtain ⟨hl, hf⟩ := ok_len h
  have hP := prod_eq hf
  cases sh with
  | nil => simp at h0
  | cons x tl =>
    have hx : (x :: tl).getD 0 0 = x := rfl
    rw [hx] at hn ⊢
    simp only [List.tail_cons]
    have hb : baseB (x :: tl) = true := by simp only [fitsB, Bool.and_eq_true] at hf; exact hf.1
    have hbt := base_tail hb
    simp only [List.tail_cons] at hbt
    have hp1000 : prodP (x :: tl) ≤ 1000 := by
      rw [fits_eq, hb] at hf
      simpa using hf
    rw [prodP_cons] at hp1000
    have hxr : 0 ≤ x ∧ x ≤ 1000 := by
      simp only [baseB, Bool.and_eq_true, List.all_cons] at hb
      exact inR_bd hb.2.1
    have ht := (prod_two tl hbt).1
    have h1 : 1 * prodP tl ≤ x * prodP tl := Int.mul_le_mul_of_nonneg_right (by omega) ht.1
    have hft : fitsB tl = true := by
      rw [fits_eq, hbt]
      simp only [Bool.true_and, decide_eq_true_eq]
      omega
    refine ⟨hft, x.toNat, (prodP tl).toNat, by omega, by rw [prod_eq hft]; omega, by omega, by omega, ?_⟩
    have e : (da.length : Int) = (x.toNat : Int) * ((prodP tl).toNat : Int) := by
      rw [hl, hP, prodP_cons]
      congr 1 <;> omega
    exact_mod_cast e
end Go.Proofs.Ytmobjomebmipdaa.Pl

namespace Go.Proofs.Ytmobjomebmipdaa
open Go.RowKit
set_option linter.unusedVariables false

/-- a new variable for an array, still empty -/
def Slot (wv : World) (A : Nat) (W : World) : Prop := wv.heap.size ≤ A ∧ A < W.heap.size ∧ W.cell? ⟨A, 0, none⟩ = some (.slice none 0 0) ∧ W.cell? ⟨A, 1, none⟩ = some (.slice none 0 0) ∧ ∀ o, W.frozen? ⟨A, o, none⟩ = false

theorem Slot.keep {wv W W' : World} {A : Nat} (h : Slot wv A W) (hb : Below W.heap.size W W') : Slot wv A W' :=
  ⟨h.1, Nat.lt_of_lt_of_le h.2.1 hb.size, (hb.cell (p := ⟨A, 0, none⟩) h.2.1).trans h.2.2.1, (hb.cell (p := ⟨A, 1, none⟩) h.2.1).trans h.2.2.2.1, fun o => (hb.frozen (p := ⟨A, o, none⟩) h.2.1).trans (h.2.2.2.2 o)⟩
theorem Slot.new {wv W : World} (h : wv.heap.size ≤ W.heap.size) (t : TypeId) : Slot wv W.heap.size (W.alloc (.cells #[.slice none 0 0, .slice none 0 0] t)) :=
  ⟨h, by simp, by simp [go_sem], by simp [go_sem], fun o => by simp [go_sem]⟩

/-- an answer in its variable -/
structure Got (wv : World) (A : Nat) (u0 u1 : Value) (S D : List Int) (wx : World) : Prop where
  bel : Below wv.heap.size wv wx
  box : Box wx A u0 u1
  lo : wv.heap.size ≤ A
  rd0 : Rd wx.heap.size wx u0 S
  rd1 : Rd wx.heap.size wx u1 D

theorem own_ne_lo {B A : Nat} {w : World} {u : Value} {zs : List Int} (h : Own B w u zs) (hA : A < B) : zs.length = 0 ∨ ∀ b, u.ownBlock = some b → ¬ b = A := by
  obtain ⟨ao, cap, rfl, h⟩ := h
  rcases h with h | ⟨g, off, h1, _, rfl, _⟩
  · exact .inl h
  · refine .inr fun b e0 => ?_
    simp [Value.ownBlock] at e0
    omega
theorem own_ne_hi {B A : Nat} {w : World} {u : Value} {zs : List Int} (h : Own B w u zs) (hA : w.heap.size ≤ A) : zs.length = 0 ∨ ∀ b, u.ownBlock = some b → ¬ b = A := by
  obtain ⟨ao, cap, rfl, h⟩ := h
  rcases h with h | ⟨g, off, _, h1, rfl, _⟩
  · exact .inl h
  · refine .inr fun b e0 => ?_
    simp [Value.ownBlock] at e0
    omega

/-- what lies there behind the specification's answer: two arguments, the answer; all of it below E -/
structure Env2 (w : World) (A E : Nat) (v0 v1 v2 v3 u0 u1 : Value) (S D : List Int) (w' : World) : Prop where
  bel : Below w.heap.size w w'
  lt : w.heap.size + 1 < A
  hi : A < E
  le : E ≤ w'.heap.size
  box0 : Box w' w.heap.size v0 v1
  box1 : Box w' (w.heap.size + 1) v2 v3
  boxW : Box w' A u0 u1
  rd0 : Rd E w' u0 S
  rd1 : Rd E w' u1 D

theorem Env2.below {w w' w'' : World} {A E B : Nat} {v0 v1 v2 v3 u0 u1 : Value} {S D : List Int} (h : Env2 w A E v0 v1 v2 v3 u0 u1 S D w') (hb : Below B w' w'') (hE : E ≤ B) : Env2 w A E v0 v1 v2 v3 u0 u1 S D w'' := by
  have h1 := h.lt
  have h2 := h.hi
  exact ⟨h.bel.trans (hb.mono (by omega)), h.lt, h.hi, Nat.le_trans h.le hb.size, h.box0.below hb (by omega), h.box1.below hb (by omega), h.boxW.below hb (by omega), h.rd0.keep (hb.mono hE), h.rd1.keep (hb.mono hE)⟩
theorem Env2.keep {w w' w'' : World} {A E : Nat} {v0 v1 v2 v3 u0 u1 : Value} {S D : List Int} (h : Env2 w A E v0 v1 v2 v3 u0 u1 S D w') (hb : Below w'.heap.size w' w'') : Env2 w A E v0 v1 v2 v3 u0 u1 S D w'' := h.below hb h.le
theorem Got.keep {wv W W' : World} {A : Nat} {u0 u1 : Value} {S D : List Int} (h : Got wv A u0 u1 S D W) (hb : Below W.heap.size W W') : Got wv A u0 u1 S D W' :=
  ⟨h.bel.trans (hb.mono h.bel.size), h.box.keep hb, h.lo, (h.rd0.keep hb).up hb.size, (h.rd1.keep hb).up hb.size⟩
/-- an array of the law's own, marks of another one laid above -/
theorem Arr.below {B A C : Nat} {u0 u1 : Value} {S D : List Int} {w w' : World} (h : Arr B A u0 u1 S D w) (hb : Below C w w') (hA : A < C) : Arr B A u0 u1 S D w' := by
  refine ⟨h.box.below hb hA, ⟨?_, ?_, h.res.2.2⟩, h.r0, h.r1⟩
  · obtain ⟨ao, cap, rfl, g⟩ := h.res.1
    refine ⟨ao, cap, rfl, ?_⟩
    rcases g with g | ⟨b, off, g1, g2, rfl, g4⟩
    · exact .inl g
    · by_cases hz : S.length = 0
      · exact .inl hz
      · have hr := h.r0 b (by unfold rowOf; rw [if_neg hz]; rfl)
        exact .inr ⟨b, off, g1, Nat.lt_of_lt_of_le g2 hb.size, rfl, fun i hi => ⟨(hb.cell (p := ⟨b, off + i, none⟩) (by show b < _; omega)).trans (g4 i hi).1, (hb.frozen (p := ⟨b, off + i, none⟩) (by show b < _; omega)).trans (g4 i hi).2⟩⟩
  · obtain ⟨ao, cap, rfl, g⟩ := h.res.2.1
    refine ⟨ao, cap, rfl, ?_⟩
    rcases g with g | ⟨b, off, g1, g2, rfl, g4⟩
    · exact .inl g
    · by_cases hz : D.length = 0
      · exact .inl hz
      · have hr := h.r1 b (by unfold rowOf; rw [if_neg hz]; rfl)
        exact .inr ⟨b, off, g1, Nat.lt_of_lt_of_le g2 hb.size, rfl, fun i hi => ⟨(hb.cell (p := ⟨b, off + i, none⟩) (by show b < _; omega)).trans (g4 i hi).1, (hb.frozen (p := ⟨b, off + i, none⟩) (by show b < _; omega)).trans (g4 i hi).2⟩⟩

end Go.Proofs.Ytmobjomebmipdaa
