import Derived.Test.YtmobjomebmipdaaLies
import Derived.Test.YtmobjomebmipdaaRed
namespace Go.Proofs.Ytmobjomebmipdaa
open Go.RowKit
set_option linter.unusedVariables false

/-- Array{.., ..} of two rows that are made in the region: the literals so far, the rows so far -/
structure Rc (wb : World) (p0 p1 : Option (Nat × Value)) (r0 r1 : Option (Value × List Int)) (w : World) : Prop where
  bel : Below wb.heap.size wb w
  l0 : ∀ k v, p0 = some (k, v) → k < w.heap.size ∧ w.cell? ⟨k, 0, none⟩ = some v
  l1 : ∀ k v, p1 = some (k, v) → k < w.heap.size ∧ w.cell? ⟨k, 0, none⟩ = some v
  o0 : ∀ v zs, r0 = some (v, zs) → Own wb.heap.size w v zs
  o1 : ∀ v zs, r1 = some (v, zs) → Own wb.heap.size w v zs
  ap : ∀ v zs v' zs', r0 = some (v, zs) → r1 = some (v', zs') → Apart v v' zs zs'

theorem Rc.start (wb : World) : Rc wb none none none none wb.drew := ⟨(Below.refl _ _).drew, (by intro _ _ h; cases h), (by intro _ _ h; cases h), (by intro _ _ h; cases h), (by intro _ _ h; cases h), (by intro _ _ _ _ h; cases h)⟩

theorem Rc.keep {wb w w' : World} {p0 p1 : Option (Nat × Value)} {r0 r1 : Option (Value × List Int)} (h : Rc wb p0 p1 r0 r1 w) (hb : Below w.heap.size w w') : Rc wb p0 p1 r0 r1 w' :=
  ⟨h.bel.trans (hb.mono h.bel.size), fun k v e => ⟨Nat.lt_of_lt_of_le (h.l0 k v e).1 hb.size, (hb.cell (p := ⟨k, 0, none⟩) (h.l0 k v e).1).trans (h.l0 k v e).2⟩, fun k v e => ⟨Nat.lt_of_lt_of_le (h.l1 k v e).1 hb.size, (hb.cell (p := ⟨k, 0, none⟩) (h.l1 k v e).1).trans (h.l1 k v e).2⟩, fun v zs e => (h.o0 v zs e).keep hb, fun v zs e => (h.o1 v zs e).keep hb, h.ap⟩

theorem lit_cell (w : World) (v : Value) (t : TypeId) : w.heap.size < (w.alloc (.cells #[v] t)).heap.size ∧ (w.alloc (.cells #[v] t)).cell? ⟨w.heap.size, 0, none⟩ = some v := ⟨by simp, by simp [go_sem]⟩

theorem Rc.lit0 {wb w : World} {p1 : Option (Nat × Value)} {r0 r1 : Option (Value × List Int)} (h : Rc wb none p1 r0 r1 w) (v : Value) (t : TypeId) : Rc wb (some (w.heap.size, v)) p1 r0 r1 (w.alloc (.cells #[v] t)) := by
  have k := h.keep ((Below.refl w.heap.size w).alloc (Nat.le_refl _) (.cells #[v] t))
  refine ⟨k.bel, ?_, k.l1, k.o0, k.o1, k.ap⟩
  intro k' v' e
  simp only [Option.some.injEq, Prod.mk.injEq] at e
  obtain ⟨rfl, rfl⟩ := e
  exact lit_cell w v t

theorem Rc.lit1 {wb w : World} {p0 : Option (Nat × Value)} {r0 r1 : Option (Value × List Int)} (h : Rc wb p0 none r0 r1 w) (v : Value) (t : TypeId) : Rc wb p0 (some (w.heap.size, v)) r0 r1 (w.alloc (.cells #[v] t)) := by
  have k := h.keep ((Below.refl w.heap.size w).alloc (Nat.le_refl _) (.cells #[v] t))
  refine ⟨k.bel, k.l0, ?_, k.o0, k.o1, k.ap⟩
  intro k' v' e
  simp only [Option.some.injEq, Prod.mk.injEq] at e
  obtain ⟨rfl, rfl⟩ := e
  exact lit_cell w v t

theorem Rc.row0 {wb w w' : World} {p0 p1 : Option (Nat × Value)} (h : Rc wb p0 p1 none none w) {v : Value} {zs : List Int} (ho : Own w.heap.size w' v zs) (hb : Below w.heap.size w w') : Rc wb p0 p1 (some (v, zs)) none w' := by
  have k := h.keep hb
  refine ⟨k.bel, k.l0, k.l1, ?_, k.o1, ?_⟩
  · intro v' zs' e
    simp only [Option.some.injEq, Prod.mk.injEq] at e
    obtain ⟨rfl, rfl⟩ := e
    exact ho.base h.bel.size
  · intro _ _ _ _ _ e
    cases e

theorem Rc.row1 {wb w w' : World} {p0 p1 : Option (Nat × Value)} {u : Value} {ys : List Int} (h : Rc wb p0 p1 (some (u, ys)) none w) {v : Value} {zs : List Int} (ho : Own w.heap.size w' v zs) (hb : Below w.heap.size w w') : Rc wb p0 p1 (some (u, ys)) (some (v, zs)) w' := by
  have k := h.keep hb
  refine ⟨k.bel, k.l0, k.l1, k.o0, ?_, ?_⟩
  · intro v' zs' e
    simp only [Option.some.injEq, Prod.mk.injEq] at e
    obtain ⟨rfl, rfl⟩ := e
    exact ho.base h.bel.size
  · intro v1 zs1 v2 zs2 e e'
    simp only [Option.some.injEq, Prod.mk.injEq] at e e'
    obtain ⟨rfl, rfl⟩ := e
    obtain ⟨rfl, rfl⟩ := e'
    exact apart_right ho (h.o0 _ _ rfl).lt

theorem Rc.res {wb w : World} {p0 p1 : Option (Nat × Value)} {u v : Value} {ys zs : List Int} (h : Rc wb p0 p1 (some (u, ys)) (some (v, zs)) w) : Res wb.heap.size w u v ys zs := ⟨h.o0 _ _ rfl, h.o1 _ _ rfl, h.ap _ _ _ _ rfl rfl⟩

/-- impl.joined of one list -/
theorem joined1_own (b : Nat) (u : Value) (xs : List Int) (w : World) (hl : xs.length ≤ 1048576) (hb : b < w.heap.size) (c0 : w.cell? ⟨b, 0, none⟩ = some u) (h0 : Rd w.heap.size w u xs) :
    Calls Try.prog 84 #[.slice (some ⟨b, 0, none⟩) 1 1] w fun e w' => ∃ ao cap, e = .returned (.slice ao xs.length cap) ∧ Own w.heap.size w' (.slice ao xs.length cap) xs ∧ Below w.heap.size w w' := by
  refine (joined1_row b u xs w hl hb c0 h0).mono ?_
  rintro e w' ⟨v, rfl, ho, hb⟩
  obtain ⟨x, y, ev⟩ := owns_form ho
  subst ev
  exact ⟨x, y, rfl, own_of_any ho, hb⟩

end Go.Proofs.Ytmobjomebmipdaa
