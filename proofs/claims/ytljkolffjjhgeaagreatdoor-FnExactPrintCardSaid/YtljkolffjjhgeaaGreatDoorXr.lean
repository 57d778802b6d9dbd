import Derived.Test.YtljkolffjjhgeaaGreatDoorSzn
import Derived.Laws.IdiomCopy
namespace Go.Proofs.YtljkolffjjhgeaaGreatDoor
open Go.RowKit
set_option linter.unusedVariables false
set_option maxRecDepth 100000
/-- what is read in blocks with P stays as it is, and they have Q -/
def Mv (P Q : Nat → Prop) (w w' : World) : Prop := ∀ b, P b → Q b ∧ ∀ o, w'.cell? ⟨b, o, none⟩ = w.cell? ⟨b, o, none⟩
def XI (P : Nat → Prop) (w : World) (ao : Option Addr) (l : List Int) : Prop :=
  l = [] ∨ ∃ b off, P b ∧ ao = some ⟨b, off, none⟩ ∧ ∀ (i : Nat) (x : Int), l[i]? = some x → w.cell? ⟨b, off + i, none⟩ = some (.int .i64 x)
theorem XI.mv {P Q : Nat → Prop} {w w' : World} {ao : Option Addr} {l : List Int} (h : XI P w ao l) (m : Mv P Q w w') : XI Q w' ao l := by
  rcases h with h | ⟨b, off, hB, rfl, hc⟩
  · exact .inl h
  · exact .inr ⟨b, off, (m b hB).1, rfl, fun i x hi => ((m b hB).2 _).trans (hc i x hi)⟩
def QS (P : Nat → Prop) (w : World) (b o : Nat) (s : Pl.Sv) : Prop :=
  ∃ an cn, w.cell? ⟨b, o, none⟩ = some (.int .i64 s.k) ∧ w.cell? ⟨b, o + 1, none⟩ = some (.slice an s.nums.length cn) ∧ w.cell? ⟨b, o + 2, none⟩ = some (.string (Pl.ba s.nm)) ∧ w.cell? ⟨b, o + 3, none⟩ = some (.int .i64 s.fn.k) ∧ w.cell? ⟨b, o + 4, none⟩ = some (.int .i64 s.fn.a) ∧ w.cell? ⟨b, o + 5, none⟩ = some (.int .i64 s.fn.b) ∧ w.cell? ⟨b, o + 6, none⟩ = some (.string (Pl.ba s.fn.nm)) ∧ XI P w an s.nums
theorem QS.mv {P Q : Nat → Prop} {w w' : World} {b o : Nat} {s : Pl.Sv} (h : QS P w b o s) (m : Mv P Q w w') (hc : ∀ j, j < 7 → w'.cell? ⟨b, o + j, none⟩ = w.cell? ⟨b, o + j, none⟩) : QS Q w' b o s := by
  obtain ⟨an, cn, h0, h1, h2, h3, h4, h5, h6, h7⟩ := h
  exact ⟨an, cn, (hc 0 (by omega)).trans h0, (hc 1 (by omega)).trans h1, (hc 2 (by omega)).trans h2, (hc 3 (by omega)).trans h3, (hc 4 (by omega)).trans h4, (hc 5 (by omega)).trans h5, (hc 6 (by omega)).trans h6, h7.mv m⟩
/-- records of z cells that are read -/
def XL {α : Type} (Q : (Nat → Prop) → World → Nat → Nat → α → Prop) (z : Nat) (P : Nat → Prop) (w : World) (ao : Option Addr) (c : List α) : Prop :=
  c = [] ∨ ∃ b off, P b ∧ ao = some ⟨b, off, none⟩ ∧ ∀ (i : Nat) (s : α), c[i]? = some s → Q P w b (off + i * z) s
/-- a record moves with its memory -/
structure Moves {α : Type} (Q : (Nat → Prop) → World → Nat → Nat → α → Prop) (z : Nat) : Prop where
  go : ∀ {P P' : Nat → Prop} {w w' : World} {b o : Nat} {s : α}, Q P w b o s → Mv P P' w w' → (∀ j, j < z → w'.cell? ⟨b, o + j, none⟩ = w.cell? ⟨b, o + j, none⟩) → Q P' w' b o s
theorem XL.mv {α : Type} {Q : (Nat → Prop) → World → Nat → Nat → α → Prop} {z : Nat} (mQ : Moves Q z) {P P' : Nat → Prop} {w w' : World} {ao : Option Addr} {c : List α} (h : XL Q z P w ao c) (m : Mv P P' w w') : XL Q z P' w' ao c := by
  rcases h with h | ⟨b, off, hB, rfl, hc⟩
  · exact .inl h
  · exact .inr ⟨b, off, (m b hB).1, rfl, fun i x hi => mQ.go (hc i x hi) m (fun j _ => (m b hB).2 _)⟩
theorem mS : Moves QS 7 := ⟨fun h m hc => h.mv m hc⟩
def QG (P : Nat → Prop) (w : World) (b o : Nat) (g : Pl.Gv) : Prop :=
  ∃ a1 c1 a2 c2, w.cell? ⟨b, o, none⟩ = some (.slice a1 g.test.length c1) ∧ w.cell? ⟨b, o + 1, none⟩ = some (.slice a2 g.thn.length c2) ∧ XL QS 7 P w a1 g.test ∧ XL QS 7 P w a2 g.thn
theorem mG : Moves QG 2 := ⟨fun h m hc => by
  obtain ⟨a1, c1, a2, c2, h0, h1, h2, h3⟩ := h
  exact ⟨a1, c1, a2, c2, (hc 0 (by omega)).trans h0, (hc 1 (by omega)).trans h1, h2.mv mS m, h3.mv mS m⟩⟩
def QT (P : Nat → Prop) (w : World) (b o : Nat) (s : Pl.Tv) : Prop :=
  ∃ a1 c1 a2 c2, w.cell? ⟨b, o, none⟩ = some (.int .i64 s.k) ∧ w.cell? ⟨b, o + 1, none⟩ = some (.string (Pl.ba s.nm)) ∧ w.cell? ⟨b, o + 2, none⟩ = some (.slice a1 s.code.length c1) ∧ w.cell? ⟨b, o + 3, none⟩ = some (.slice a2 s.gs.length c2) ∧ XL QS 7 P w a1 s.code ∧ XL QG 2 P w a2 s.gs
theorem mT : Moves QT 4 := ⟨fun h m hc => by
  obtain ⟨a1, c1, a2, c2, h0, h1, h2, h3, h4, h5⟩ := h
  exact ⟨a1, c1, a2, c2, (hc 0 (by omega)).trans h0, (hc 1 (by omega)).trans h1, (hc 2 (by omega)).trans h2, (hc 3 (by omega)).trans h3, h4.mv mS m, h5.mv mG m⟩⟩
/-- as the walks ask it -/
theorem XL.rdS {B : Nat} {w : World} {ao : Option Addr} {c : List Pl.Sv} (h : XL QS 7 (fun b => b < B) w ao c) : RdS B w ao c := by
  rcases h with h | ⟨b, off, hB, rfl, hc⟩
  · exact .inl h
  · refine .inr ⟨b, off, hB, rfl, fun i s hi => ?_⟩
    obtain ⟨an, cn, h0, h1, h2, h3, h4, h5, h6, h7⟩ := hc i s hi
    exact ⟨an, cn, h0, h1, h2, h3, h4, h5, h6, h7⟩
theorem XL.rdG {B : Nat} {w : World} {ao : Option Addr} {c : List Pl.Gv} (h : XL QG 2 (fun b => b < B) w ao c) : RdG B w ao c := by
  rcases h with h | ⟨b, off, hB, rfl, hc⟩
  · exact .inl h
  · refine .inr ⟨b, off, hB, rfl, fun i s hi => ?_⟩
    obtain ⟨a1, c1, a2, c2, h0, h1, h2, h3⟩ := hc i s hi
    exact ⟨a1, a2, c1, c2, h0, h1, h2.rdS, h3.rdS⟩
theorem XL.rdP {B : Nat} {w : World} {ao : Option Addr} {c : List Pl.Tv} (h : XL QT 4 (fun b => b < B) w ao c) : RdP B w ao c := by
  rcases h with h | ⟨b, off, hB, rfl, hc⟩
  · exact .inl h
  · refine .inr ⟨b, off, hB, rfl, fun i s hi => ?_⟩
    obtain ⟨a1, c1, a2, c2, h0, h1, h2, h3, h4, h5⟩ := hc i s hi
    exact ⟨a1, a2, c1, c2, h0, h1, h2, h3, h4.rdS, h5.rdG⟩
/-- blocks from B on -/
abbrev Fr (B : Nat) (w : World) : Nat → Prop := fun b => B ≤ b ∧ b < w.heap.size
theorem mv_below {B C : Nat} {w w' : World} (hb : Below C w w') (hC : w.heap.size ≤ C) {B' : Nat} (hB : B' ≤ B) : Mv (Fr B w) (Fr B' w') w w' := fun b h => ⟨⟨by omega, Nat.lt_of_lt_of_le h.2 hb.size⟩, fun o => hb.cell (p := ⟨b, o, none⟩) (by simp; omega)⟩
/-- z cells are put down -/
theorem setCells_size (b : Nat) : ∀ (vs : List Value) (o : Nat) (w : World), (w.setCells b o vs).heap.size = w.heap.size
  | [], _, _ => rfl
  | v :: r, o, w => by rw [World.setCells, setCells_size b r]; simp
theorem setCells_below {B : Nat} {a : World} (b : Nat) (hb : B ≤ b) : ∀ (vs : List Value) (o : Nat) (w : World), Below B a w → Below B a (w.setCells b o vs)
  | [], _, _, h => h
  | v :: r, o, w, h => by rw [World.setCells]; exact setCells_below b hb r _ _ (h.setCell hb v)
/-- a list is copied, record by record -/
structure Inv {α : Type} (Q : (Nat → Prop) → World → Nat → Nat → α → Prop) (z : Nat) (w : World) (c : List α) (n k : Nat) (wr : World) : Prop where
  bel : Below w.heap.size w wr
  lt : w.heap.size < wr.heap.size
  fz : ∀ o, wr.frozen? ⟨w.heap.size, o, none⟩ = false
  cl : ∀ o, o < n * z → ∃ v, wr.cell? ⟨w.heap.size, o, none⟩ = some v
  el : ∀ i s, i < k → c[i]? = some s → Q (Fr (w.heap.size + 1) wr) wr w.heap.size (i * z) s
theorem Inv.keep {α : Type} {Q : (Nat → Prop) → World → Nat → Nat → α → Prop} {z : Nat} (mQ : Moves Q z) {w : World} {c : List α} {n k : Nat} {wr w2 : World} (h : Inv Q z w c n k wr) (hb : Below wr.heap.size wr w2) : Inv Q z w c n k w2 :=
  ⟨h.bel.trans (hb.mono h.bel.size), Nat.lt_of_lt_of_le h.lt hb.size, fun o => (hb.frozen (p := ⟨w.heap.size, o, none⟩) h.lt).trans (h.fz o), fun o ho => by
    obtain ⟨v, hv⟩ := h.cl o ho
    exact ⟨v, (hb.cell (p := ⟨w.heap.size, o, none⟩) h.lt).trans hv⟩, fun i s hi hs => mQ.go (h.el i s hi hs) (mv_below hb (Nat.le_refl _) (Nat.le_refl _)) (fun j _ => hb.cell (p := ⟨w.heap.size, _, none⟩) h.lt)⟩
theorem Inv.put {α : Type} {Q : (Nat → Prop) → World → Nat → Nat → α → Prop} {z : Nat} (mQ : Moves Q z) {w : World} {c : List α} {n k : Nat} {w2 : World} (h : Inv Q z w c n k w2) (vs : List Value) (hz : vs.length = z) (hk : k < n) {s : α} (hs : c[k]? = some s)
    (hq : ∀ w3 : World, (∀ j (hj : j < vs.length), w3.cell? ⟨w.heap.size, k * z + j, none⟩ = some vs[j]) → Mv (Fr (w.heap.size + 1) w2) (Fr (w.heap.size + 1) w3) w2 w3 → Q (Fr (w.heap.size + 1) w3) w3 w.heap.size (k * z) s) :
    Inv Q z w c n (k + 1) (w2.setCells w.heap.size (k * z) vs) := by
  have hm : Mv (Fr (w.heap.size + 1) w2) (Fr (w.heap.size + 1) (w2.setCells w.heap.size (k * z) vs)) w2 (w2.setCells w.heap.size (k * z) vs) := fun b hb => ⟨⟨hb.1, by rw [setCells_size]; exact hb.2⟩, fun o => World.cell?_setCells_out _ _ _ _ _ (fun e _ => by have : b = w.heap.size := e; have := hb.1; omega)⟩
  have hzz : k * z + z ≤ n * z := by have := Nat.mul_le_mul_right z hk; rw [Nat.succ_mul] at this; exact this
  have hin : ∀ j (hj : j < vs.length), (w2.setCells w.heap.size (k * z) vs).cell? ⟨w.heap.size, k * z + j, none⟩ = some vs[j] := fun j hj => World.cell?_setCells_in _ _ _ _ (fun j hj => by
    obtain ⟨v, hv⟩ := h.cl (k * z + j) (by omega)
    rw [hv]; rfl) j hj
  refine ⟨setCells_below _ (Nat.le_refl _) _ _ _ h.bel, by rw [setCells_size]; exact h.lt, fun o => by rw [World.frozen?_setCells]; exact h.fz o, fun o ho => ?_, fun i t hi ht => ?_⟩
  · by_cases hr : k * z ≤ o ∧ o < k * z + z
    · have := hin (o - k * z) (by omega)
      rw [show k * z + (o - k * z) = o by omega] at this
      exact ⟨_, this⟩
    · obtain ⟨v, hv⟩ := h.cl o ho
      exact ⟨v, (World.cell?_setCells_out _ _ _ _ _ (fun _ _ => by simp only; omega)).trans hv⟩
  · by_cases hik : i = k
    · subst hik
      obtain rfl : s = t := Option.some.inj (hs.symm.trans ht)
      exact hq _ hin hm
    · have hlt : i < k := by omega
      have : i * z + z ≤ k * z := by have := Nat.mul_le_mul_right z hlt; rw [Nat.succ_mul] at this; exact this
      refine mQ.go (h.el i t hlt ht) hm (fun j hj => World.cell?_setCells_out _ _ _ _ _ (fun _ _ => by simp only; omega))
theorem Inv.done {α : Type} {Q : (Nat → Prop) → World → Nat → Nat → α → Prop} {z : Nat} (mQ : Moves Q z) {w : World} {c : List α} {n k : Nat} {w2 : World} (h : Inv Q z w c n k w2) (hk : c.length ≤ k) : XL Q z (Fr w.heap.size w2) w2 (some ⟨w.heap.size, 0, none⟩) c := by
  refine .inr ⟨w.heap.size, 0, ⟨Nat.le_refl _, h.lt⟩, rfl, fun i s hs => ?_⟩
  have hi : i < c.length := (List.getElem?_eq_some_iff.1 hs).1
  rw [Nat.zero_add]
  exact mQ.go (h.el i s (by omega) hs) (fun b hb => ⟨⟨by have := hb.1; omega, hb.2⟩, fun _ => rfl⟩) (fun _ _ => rfl)
theorem Inv.made {α : Type} {Q : (Nat → Prop) → World → Nat → Nat → α → Prop} {z : Nat} {w : World} {c : List α} {n : Nat} {w1 : World} {t : TypeId} {xs : List Value} (ho : w1.ownsRow w.heap.size t z (.slice (some ⟨w.heap.size, 0, none⟩) n n) n xs) (hl : xs.length = n * z) (hb : Below w.heap.size w w1) : Inv Q z w c n 0 w1 :=
  ⟨hb, (ho.lt _ rfl).2, fun o => ho.frozenAt o, fun o hlt => ⟨_, (ho.cellAt o hlt).trans (List.getElem?_eq_getElem (by omega))⟩, fun i s hi => absurd hi (by omega)⟩
end Go.Proofs.YtljkolffjjhgeaaGreatDoor
