import Derived.Test.YtjhflbhbegocdaaCat
namespace Go.Proofs.Ytjhflbhbegocdaa
open Go.RowKit
set_option linter.unusedVariables false

namespace Pl
/-- the code of the first cell that has one -/
def firstC (F : Int → Int × Int) : List Int → Int
  | [] => 0
  | x :: xs => if (F x).2 = 0 then firstC F xs else (F x).2
theorem firstC_zero (F : Int → Int × Int) (l : List Int) (h : ∀ x ∈ l, (F x).2 = 0) : firstC F l = 0 := by
  induction l with
  | nil => rfl
  | cons x xs ih => simp only [firstC]; rw [if_pos (h x (by simp))]; exact ih (fun y hy => h y (by simp [hy]))
theorem firstC_at (F : Int → Int × Int) (l : List Int) (k : Nat) (hk : k < l.length) (h : ∀ x ∈ l.take k, (F x).2 = 0) (hc : ¬ (F (l.getD k 0)).2 = 0) : firstC F l = (F (l.getD k 0)).2 := by
  induction l generalizing k with
  | nil => simp at hk
  | cons x xs ih =>
    cases k with
    | zero => simp only [firstC]; rw [if_neg (by simpa using hc)]; simp
    | succ k =>
      simp only [firstC]
      rw [if_pos (h x (by simp))]
      have := ih k (by simpa using hk) (fun y hy => h y (by simp [hy])) (by simpa using hc)
      rw [this]; simp
theorem firstC_ne {F : Int → Int × Int} {l : List Int} (h : ∀ x ∈ l, (F x).2 = 0) : firstC F l = 0 := firstC_zero F l h
/-- the first k done, the rest still 0 -/
def upF (F : Int → Int × Int) (zs : List Int) (k : Nat) : List Int := (zs.take k).map (fun x => (F x).1) ++ List.replicate (zs.length - k) 0
theorem upF_zero (F : Int → Int × Int) (zs : List Int) : upF F zs 0 = List.replicate zs.length 0 := by simp [upF]
theorem upF_all (F : Int → Int × Int) (zs : List Int) (k : Nat) (h : zs.length ≤ k) : upF F zs k = zs.map (fun x => (F x).1) := by
  simp [upF, List.take_of_length_le h, Nat.sub_eq_zero_of_le h]
theorem upF_len (F : Int → Int × Int) (zs : List Int) (k : Nat) (h : k ≤ zs.length) : (upF F zs k).length = zs.length := by simp [upF]; omega
theorem upF_step (F : Int → Int × Int) (zs : List Int) (k : Nat) (h : k < zs.length) : (upF F zs k).set k (F (zs.getD k 0)).1 = upF F zs (k + 1) := by
  unfold upF
  rw [take_snoc zs k h, List.map_append, List.set_append_right k _ (by simp; omega)]
  have e : zs.length - k = (zs.length - (k + 1)) + 1 := by omega
  have e2 : k - ((zs.take k).map (fun x => (F x).1)).length = 0 := by simp; omega
  rw [e2, e, List.replicate_succ]
  simp
end Pl

/-- what a function of cells does: a number, or a code -/
def CPost (W : World) (r : Int × Int) (e : Ending) (w' : World) : Prop :=
  Below W.heap.size W w' ∧ ((r.2 = 0 ∧ e = .returned (.int .i64 r.1)) ∨ (¬ r.2 = 0 ∧ e = .panicked [thrown r.2]))

theorem apart_left {B : Nat} {w : World} {u0 u1 : Value} {sh da : List Int} (h : Own B w u0 sh) (h1 : ∀ b, u1.ownBlock = some b → b < B) : Apart u0 u1 sh da := by
  obtain ⟨ao, cap, rfl, h⟩ := h
  rcases h with h | ⟨g, off, hB, _, rfl, _⟩
  · exact .inl h
  · refine .inr (.inr fun b e0 e1 => ?_)
    have := h1 b e1
    simp [Value.ownBlock] at e0
    omega

theorem owns_below {base : Nat} {w w' : World} {B g n cap : Nat} {xs : List Value} (h : w.ownsRow base 3 1 (.slice (some ⟨g, 0, none⟩) n cap) n xs) (hb : Below B w w') (hg : g < B) : w'.ownsRow base 3 1 (.slice (some ⟨g, 0, none⟩) n cap) n xs := by
  obtain ⟨h1, h2⟩ := h
  refine ⟨h1, ?_⟩
  rcases h2 with h2 | ⟨g', cp, cur, hv, hg', hh, r⟩
  · exact .inl h2
  · simp only [Value.slice.injEq, Option.some.injEq, Addr.mk.injEq, and_true, true_and] at hv
    obtain ⟨rfl, rfl⟩ := hv
    exact .inr ⟨g, cap, cur, rfl, hg', (hb.block g hg).trans hh, r⟩

end Go.Proofs.Ytjhflbhbegocdaa
