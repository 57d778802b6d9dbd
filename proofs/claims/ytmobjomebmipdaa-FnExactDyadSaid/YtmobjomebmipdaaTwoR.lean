import Derived.Test.YtmobjomebmipdaaAcc
import Derived.Test.YtmobjomebmipdaaMade
import Derived.Deep.DeepCutAuto
import Derived.Test.YtmobjomebmipdaaFold
namespace Go.Proofs.Ytmobjomebmipdaa
open Go.RowKit
set_option linter.unusedVariables false

theorem rd_cell {B b off cap : Nat} {w : World} {zs : List Int} (h : Rd B w (.slice (some ⟨b, off, none⟩) zs.length cap) zs) {i : Nat} (hi : i < zs.length) : b < B ∧ w.cell? ⟨b, off + i, none⟩ = some (.int .i64 (zs.getD i 0)) := by
  obtain ⟨ao, cp, e, g⟩ := h
  rcases g with g | ⟨b', off', hB, e2, hc⟩
  · omega
  · simp only [Value.slice.injEq] at e
    have e3 := e.1.trans e2
    simp only [Option.some.injEq, Addr.mk.injEq, and_true] at e3
    obtain ⟨rfl, rfl⟩ := e3
    exact ⟨hB, hc i hi⟩

/-- the argument's variable and the answer's -/
theorem boxes2 {w w1 : World} {x0 x1 : Value} (hb : Below (w.heap.size + 1 + 1) ((w.alloc (.cells #[x0, x1] 27)).alloc (.cells #[.slice none 0 0, .slice none 0 0] 27)) w1) :
    (w1.cell? ⟨w.heap.size, 0, none⟩ = some x0 ∧ w1.cell? ⟨w.heap.size, 1, none⟩ = some x1) ∧ (w1.cell? ⟨w.heap.size + 1, 0, none⟩ = some (.slice none 0 0) ∧ w1.cell? ⟨w.heap.size + 1, 1, none⟩ = some (.slice none 0 0) ∧ ∀ o, w1.frozen? ⟨w.heap.size + 1, o, none⟩ = false) ∧ Below w.heap.size w w1 := by
  have c : ∀ b o, b < w.heap.size + 1 + 1 → w1.cell? ⟨b, o, none⟩ = ((w.alloc (.cells #[x0, x1] 27)).alloc (.cells #[.slice none 0 0, .slice none 0 0] 27)).cell? ⟨b, o, none⟩ := fun b o h => hb.cell (p := ⟨b, o, none⟩) h
  have f : ∀ b o, b < w.heap.size + 1 + 1 → w1.frozen? ⟨b, o, none⟩ = ((w.alloc (.cells #[x0, x1] 27)).alloc (.cells #[.slice none 0 0, .slice none 0 0] 27)).frozen? ⟨b, o, none⟩ := fun b o h => hb.frozen (p := ⟨b, o, none⟩) h
  refine ⟨⟨?_, ?_⟩, ⟨?_, ?_, ?_⟩, ?_⟩
  · rw [c _ _ (by omega)]; simp [go_sem]
  · rw [c _ _ (by omega)]; simp [go_sem]
  · rw [c _ _ (by omega)]; simp [go_sem]
  · rw [c _ _ (by omega)]; simp [go_sem]
  · intro o; rw [f _ _ (by omega)]; simp [go_sem]
  · exact (((Below.refl _ _).alloc (Nat.le_refl _) _).alloc (by simp) _).trans (hb.mono (by omega))

end Go.Proofs.Ytmobjomebmipdaa

namespace Go.Proofs.Ytmobjomebmipdaa
open Go.RowKit
set_option linter.unusedVariables false

/-- Array{.., ..} of two rows that are made in the region: the literals so far, the rows so far -/
structure Rc (wb : World) (p0 p1 : Option (Nat × Value)) (r0 r1 : Option (Value × List Int)) (w : World) : Prop where
  bel : Below wb.heap.size wb w
  l0 : ∀ k v, p0 = some (k, v) → k < w.heap.size ∧ w.cell? ⟨k, 0, none⟩ = some v
  l1 : ∀ k v, p1 = some (k, v) → k < w.heap.size ∧ w.cell? ⟨k, 0, none⟩ = some v
  o0 : ∀ v zs, r0 = some (v, zs) → Own wb.heap.size w v zs
  o1 : ∀ v zs, r1 = some (v, zs) → Own wb.heap.size w v zs
  ap : ∀ v zs v' zs', r0 = some (v, zs) → r1 = some (v', zs') → Apart v v' zs zs'

theorem Rc.start (wb : World) : Rc wb none none none none wb.drew := ⟨(Below.refl _ _).drew, (by intro _ _ h; cases h), (by intro _ _ h; cases h), (by intro _ _ h; cases h), (by intro _ _ h; cases h), (by intro _ _ _ _ h; cases h)⟩

theorem Rc.keep {wb w w' : World} {p0 p1 : Option (Nat × Value)} {r0 r1 : Option (Value × List Int)} (h : Rc wb p0 p1 r0 r1 w) (hb : Below w.heap.size w w') : Rc wb p0 p1 r0 r1 w' :=
  ⟨h.bel.trans (hb.mono h.bel.size), fun k v e => ⟨Nat.lt_of_lt_of_le (h.l0 k v e).1 hb.size, (hb.cell (p := ⟨k, 0, none⟩) (h.l0 k v e).1).trans (h.l0 k v e).2⟩, fun k v e => ⟨Nat.lt_of_lt_of_le (h.l1 k v e).1 hb.size, (hb.cell (p := ⟨k, 0, none⟩) (h.l1 k v e).1).trans (h.l1 k v e).2⟩, fun v zs e => (h.o0 v zs e).keep hb, fun v zs e => (h.o1 v zs e).keep hb, h.ap⟩

theorem Rc.res {wb w : World} {p0 p1 : Option (Nat × Value)} {u v : Value} {ys zs : List Int} (h : Rc wb p0 p1 (some (u, ys)) (some (v, zs)) w) : Res wb.heap.size w u v ys zs := ⟨h.o0 _ _ rfl, h.o1 _ _ rfl, h.ap _ _ _ _ rfl rfl⟩

/-- impl.joined of one list -/
theorem joined1_own (b : Nat) (u : Value) (xs : List Int) (w : World) (hl : xs.length ≤ 1048576) (hb : b < w.heap.size) (c0 : w.cell? ⟨b, 0, none⟩ = some u) (h0 : Rd w.heap.size w u xs) :
    Calls Try.prog 84 #[.slice (some ⟨b, 0, none⟩) 1 1] w fun e w' => ∃ ao cap, e = .returned (.slice ao xs.length cap) ∧ Own w.heap.size w' (.slice ao xs.length cap) xs ∧ Below w.heap.size w w' := by
  refine (joined1_row b u xs w hl hb c0 h0).mono ?_
  rintro e w' ⟨v, rfl, ho, hb⟩
  obtain ⟨x, y, ev⟩ := owns_form ho
  subst ev
  exact ⟨x, y, rfl, own_of_any ho, hb⟩

end Go.Proofs.Ytmobjomebmipdaa
