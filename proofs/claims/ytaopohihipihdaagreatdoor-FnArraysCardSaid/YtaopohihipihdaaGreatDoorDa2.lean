import Derived.Test.YtaopohihipihdaaGreatDoorDa1
namespace Go.Proofs.YtaopohihipihdaaGreatDoor
open Go.RowKit
set_option linter.unusedVariables false

/-- the variables that hold arrays are kept -/
def K25 (w0 w : World) : Prop := ∀ (b : Nat) (c : Array Value), w0.heap[b]? = some (.cells c 25 (0, 0)) → w.heap[b]? = some (.cells c 25 (0, 0))
theorem K25.keep {w0 w w' : World} (h : K25 w0 w) (hb : Below w.heap.size w w') : K25 w0 w' := fun b c hc => (hb.block _ (Array.getElem?_eq_some_iff.1 (h b c hc)).1).trans (h b c hc)
theorem K25.row {w0 w w' : World} {r : Option Nat} (h : K25 w0 w) (hg : w.grownBy w' r) (hr : ∀ b c, w.heap[b]? = some (.cells c 25 (0, 0)) → ¬ r = some b) : K25 w0 w' := fun b c hc => (hg.block _ (Array.getElem?_eq_some_iff.1 (h b c hc)).1 (fun e => hr b c (h b c hc) e.symm)).trans (h b c hc)
theorem K25.set {w0 w : World} (h : K25 w0 w) {X : Nat} (hX : w0.heap.size ≤ X) (j : Nat) (v : Value) : K25 w0 (w.setCell ⟨X, j, none⟩ v) := fun b c hc => ((grown_set w X j v).block _ (Array.getElem?_eq_some_iff.1 (h b c hc)).1 (fun e => by injection e with e; have := (Array.getElem?_eq_some_iff.1 hc).1; omega)).trans (h b c hc)
theorem K25.next {B P : Nat} {w0 w w' : World} (h : K25 w0 w) (hg : w.grownBy w' (some P)) (hr : Rdr B P w) : K25 w0 w' := h.row hg (fun b c hc e => by
  injection e with e
  subst e
  obtain ⟨c', hc'⟩ := hr.blk
  rw [hc'] at hc
  injection hc with hc
  injection hc with _ h2
  exact absurd h2 (by decide))
theorem K25.own {B : Nat} {w0 w w' : World} {u : Value} {zs : List Int} (h : K25 w0 w) (hu : Row B w u zs) (hg : w.grownBy w' u.ownBlock) : K25 w0 w' := h.row hg (fun b c hc e => own_blk_ne hu.1 hc (by decide) e)

/-- an array in a variable, the answer's behind it, and the reader -/
structure SpSt (B P A : Nat) (w0 : World) (v0 v1 : Value) (sh da : List Int) (w : World) : Prop where
  o0 : Row B w v0 sh
  o1 : Row B w v1 da
  ne : ¬ v1.ownBlock = v0.ownBlock
  r : Rdr B P w
  a : w.heap[A]? = some (.cells #[v0, v1] 25 (0, 0))
  z : w.heap[A + 1]? = some (.cells #[.slice none 0 0, .slice none 0 0] 25 (0, 0))
  b : Below B w0 w
  p : P < A
  k : B ≤ w.heap.size
  bA : B ≤ A
  f : K25 w0 w
  aA : w0.heap.size ≤ A
theorem SpSt.lt {B P A : Nat} {w0 w : World} {v0 v1 : Value} {sh da : List Int} (h : SpSt B P A w0 v0 v1 sh da w) : A + 1 < w.heap.size := (Array.getElem?_eq_some_iff.1 h.z).1
theorem SpSt.keep {B P A : Nat} {w0 w w' : World} {v0 v1 : Value} {sh da : List Int} (h : SpSt B P A w0 v0 v1 sh da w) (hb : Below w.heap.size w w') : SpSt B P A w0 v0 v1 sh da w' :=
  ⟨h.o0.keep hb, h.o1.keep hb, h.ne, h.r.keep hb, (hb.block _ (by have := h.lt; omega)).trans h.a, (hb.block _ h.lt).trans h.z, h.b.trans (hb.mono h.k), h.p, Nat.le_trans h.k hb.size, h.bA, h.f.keep hb, h.aA⟩
theorem SpSt.next {B P A : Nat} {w0 w w' : World} {v0 v1 : Value} {sh da : List Int} (h : SpSt B P A w0 v0 v1 sh da w) (hg : w.grownBy w' (some P)) (hr : Rdr B P w') : SpSt B P A w0 v0 v1 sh da w' := by
  obtain ⟨c, hc⟩ := h.r.blk
  have hp := h.p
  have hl := h.lt
  exact ⟨h.o0.other hc (by decide) hg, h.o1.other hc (by decide) hg, h.ne, hr, (hg.block _ (by omega) (by intro e; injection e with e; omega)).trans h.a, (hg.block _ hl (by intro e; injection e with e; omega)).trans h.z, h.b.trans (grown_below hg h.r.1 h.k), h.p, Nat.le_trans h.k hg.size, h.bA, h.f.next hg h.r, h.aA⟩
theorem SpSt.cells {B P A : Nat} {w0 w : World} {v0 v1 : Value} {sh da : List Int} (h : SpSt B P A w0 v0 v1 sh da w) : (w.cell? ⟨A, 0, none⟩ = some v0 ∧ w.cell? ⟨A, 1, none⟩ = some v1 ∧ ∀ o, w.frozen? ⟨A, o, none⟩ = false) ∧ (w.cell? ⟨A + 1, 0, none⟩ = some (.slice none 0 0) ∧ w.cell? ⟨A + 1, 1, none⟩ = some (.slice none 0 0) ∧ ∀ o, w.frozen? ⟨A + 1, o, none⟩ = false) :=
  ⟨⟨by rw [Lib.cell_of_heap h.a]; rfl, by rw [Lib.cell_of_heap h.a]; rfl, fun o => frozen_blk h.a⟩, ⟨by rw [Lib.cell_of_heap h.z]; rfl, by rw [Lib.cell_of_heap h.z]; rfl, fun o => frozen_blk h.z⟩⟩
/-- another shape put into the variable -/
theorem SpSt.put0 {B P A : Nat} {w0 w : World} {v0 v1 v : Value} {sh da zs : List Int} (h : SpSt B P A w0 v0 v1 sh da w) (hv : Row B w v zs) (hn : ¬ v1.ownBlock = v.ownBlock) : SpSt B P A w0 v v1 zs da (w.setCell ⟨A, 0, none⟩ v) := by
  have hg := grown_set w A 0 v
  have hp := h.p
  have hl := h.lt
  have ha := h.bA
  exact ⟨hv.other h.a (by decide) hg, h.o1.other h.a (by decide) hg, hn, h.r.kept hg (fun k hk => by injection hk with hk; omega), heap_setCell_same w A 0 #[v0, v1] 25 v h.a, (hg.block _ hl (by intro e; injection e with e; omega)).trans h.z, h.b.setCell (by show B ≤ A; omega) _, h.p, by have := h.k; simpa using this, h.bA, h.f.set h.aA _ _, h.aA⟩
theorem SpSt.put1 {B P A : Nat} {w0 w : World} {v0 v1 v : Value} {sh da zs : List Int} (h : SpSt B P A w0 v0 v1 sh da w) (hv : Row B w v zs) (hn : ¬ v.ownBlock = v0.ownBlock) : SpSt B P A w0 v0 v sh zs (w.setCell ⟨A, 1, none⟩ v) := by
  have hg := grown_set w A 1 v
  have hp := h.p
  have hl := h.lt
  have ha := h.bA
  exact ⟨h.o0.other h.a (by decide) hg, hv.other h.a (by decide) hg, hn, h.r.kept hg (fun k hk => by injection hk with hk; omega), heap_setCell_same w A 1 #[v0, v1] 25 v h.a, (hg.block _ hl (by intro e; injection e with e; omega)).trans h.z, h.b.setCell (by show B ≤ A; omega) _, h.p, by have := h.k; simpa using this, h.bA, h.f.set h.aA _ _, h.aA⟩
/-- a row of numbers written, all else kept -/
theorem SpSt.row {B P A : Nat} {w0 w w' : World} {v0 v1 : Value} {sh da : List Int} (h : SpSt B P A w0 v0 v1 sh da w) {u : Value} {zs : List Int} (hu : Row B w u zs) (hg : w.grownBy w' u.ownBlock) :
    w'.heap[A]? = some (.cells #[v0, v1] 25 (0, 0)) ∧ w'.heap[A + 1]? = some (.cells #[.slice none 0 0, .slice none 0 0] 25 (0, 0)) ∧ Rdr B P w' ∧ Below B w0 w' ∧ B ≤ w'.heap.size := by
  obtain ⟨c, hc⟩ := h.r.blk
  have hl := h.lt
  refine ⟨(hg.block _ (by omega) (fun e => own_blk_ne hu.1 h.a (by decide) e.symm)).trans h.a, (hg.block _ hl (fun e => own_blk_ne hu.1 h.z (by decide) e.symm)).trans h.z, h.r.kept hg (fun k hk => ⟨(hu.1.lt k hk).1, fun e => own_blk_ne hu.1 hc (by decide) (by rw [hk, e])⟩), h.b.grown hg h.k (fun k hk => (hu.1.lt k hk).1), Nat.le_trans h.k hg.size⟩

/-- what l1Spoil leaves -/
def SpPost (B : Nat) (w : World) (e : Ending) (w' : World) : Prop := ∃ (v0 v1 : Value) (sh da : List Int), e = .returned (.agg #[v0, v1]) ∧ sh.length ≤ 4 ∧ da.length ≤ 1001 ∧ Row B w' v0 sh ∧ Row B w' v1 da ∧ Below B w w' ∧ K25 w w'
theorem SpSt.done {B P A : Nat} {w0 w : World} {v0 v1 : Value} {sh da : List Int} (h : SpSt B P A w0 v0 v1 sh da w) (hs : sh.length ≤ 4) (hd : da.length ≤ 1001) : SpPost B w0 (.returned (.agg #[v0, v1])) ((w.setCell ⟨A + 1, 0, none⟩ v0).setCell ⟨A + 1, 1, none⟩ v1) := by
  have g1 := grown_set w (A + 1) 0 v0
  have g2 := grown_set (w.setCell ⟨A + 1, 0, none⟩ v0) (A + 1) 1 v1
  have z1 := heap_setCell_same w (A + 1) 0 #[.slice none 0 0, .slice none 0 0] 25 v0 h.z
  have := h.bA
  exact ⟨v0, v1, sh, da, rfl, hs, hd, (h.o0.other h.z (by decide) g1).other z1 (by decide) g2, (h.o1.other h.z (by decide) g1).other z1 (by decide) g2, (h.b.setCell (by show B ≤ A + 1; omega) _).setCell (by show B ≤ A + 1; omega) _, (h.f.set (by have := h.aA; omega) _ _).set (by have := h.aA; omega) _ _⟩

/-- behind an append to the shape, to the data -/
theorem SpSt.app0 {B P A : Nat} {w0 w w' : World} {v0 v1 v' : Value} {sh da : List Int} {x : Int} (h : SpSt B P A w0 v0 v1 sh da w) (hg : w.grownBy w' v0.ownBlock) (ho : w'.ownsRow B 3 1 v' (sh.length + 1) (sh.map (Value.int .i64) ++ [.int .i64 x]))
    {m : Nat} (hm : w.heap.size ≤ m) (hat : v'.ownBlock = v0.ownBlock ∨ v'.ownBlock = some m) : SpSt B P A w0 v' v1 (sh ++ [x]) da (w'.setCell ⟨A, 0, none⟩ v') := by
  obtain ⟨a1, a2, a3, a4, a5⟩ := h.row h.o0 hg
  have o1 : Row B w' v1 da := ⟨h.o1.1.kept hg (.inr h.ne), h.o1.2⟩
  have hv : Row B w' v' (sh ++ [x]) := ⟨by rw [List.length_append, List.map_append]; exact ho, by
    rcases hat with e | e
    · rw [e]; exact h.o0.2
    · exact ⟨_, e⟩⟩
  have hn : ¬ v1.ownBlock = v'.ownBlock := by
    rcases hat with e | e
    · rw [e]; exact h.ne
    · rw [e]; intro e'
      have := (h.o1.1.lt _ e').2
      omega
  have hg2 := grown_set w' A 0 v'
  have hl : A + 1 < w'.heap.size := (Array.getElem?_eq_some_iff.1 a2).1
  have hp := h.p
  have ha := h.bA
  exact ⟨hv.other a1 (by decide) hg2, o1.other a1 (by decide) hg2, hn, a3.kept hg2 (fun k hk => by injection hk with hk; omega), heap_setCell_same w' A 0 #[v0, v1] 25 v' a1, (hg2.block _ hl (by intro e; injection e with e; omega)).trans a2, a4.setCell (by show B ≤ A; omega) _, h.p, by simpa using a5, h.bA, (h.f.own h.o0 hg).set h.aA _ _, h.aA⟩
theorem SpSt.app1 {B P A : Nat} {w0 w w' : World} {v0 v1 v' : Value} {sh da : List Int} {x : Int} (h : SpSt B P A w0 v0 v1 sh da w) (hg : w.grownBy w' v1.ownBlock) (ho : w'.ownsRow B 3 1 v' (da.length + 1) (da.map (Value.int .i64) ++ [.int .i64 x]))
    {m : Nat} (hm : w.heap.size ≤ m) (hat : v'.ownBlock = v1.ownBlock ∨ v'.ownBlock = some m) : SpSt B P A w0 v0 v' sh (da ++ [x]) (w'.setCell ⟨A, 1, none⟩ v') := by
  obtain ⟨a1, a2, a3, a4, a5⟩ := h.row h.o1 hg
  have o0 : Row B w' v0 sh := ⟨h.o0.1.kept hg (.inr (fun e => h.ne e.symm)), h.o0.2⟩
  have hv : Row B w' v' (da ++ [x]) := ⟨by rw [List.length_append, List.map_append]; exact ho, by
    rcases hat with e | e
    · rw [e]; exact h.o1.2
    · exact ⟨_, e⟩⟩
  have hn : ¬ v'.ownBlock = v0.ownBlock := by
    rcases hat with e | e
    · rw [e]; exact h.ne
    · rw [e]; intro e'
      have := (h.o0.1.lt _ e'.symm).2
      omega
  have hg2 := grown_set w' A 1 v'
  have hl : A + 1 < w'.heap.size := (Array.getElem?_eq_some_iff.1 a2).1
  have hp := h.p
  have ha := h.bA
  exact ⟨o0.other a1 (by decide) hg2, hv.other a1 (by decide) hg2, hn, a3.kept hg2 (fun k hk => by injection hk with hk; omega), heap_setCell_same w' A 1 #[v0, v1] 25 v' a1, (hg2.block _ hl (by intro e; injection e with e; omega)).trans a2, a4.setCell (by show B ≤ A; omega) _, h.p, by simpa using a5, h.bA, (h.f.own h.o1 hg).set h.aA _ _, h.aA⟩
/-- behind a cell written -/
theorem SpSt.cell {B P A g n cap : Nat} {w0 w : World} {v0 : Value} {sh da : List Int} (h : SpSt B P A w0 v0 (.slice (some ⟨g, 0, none⟩) n cap) sh da w) (hn : da.length = n) (q : Nat) (x : Int) : SpSt B P A w0 v0 (.slice (some ⟨g, 0, none⟩) n cap) sh (da.set q x) (w.setCell ⟨g, q, none⟩ (.int .i64 x)) := by
  subst hn
  have hg := grown_set w g q (.int .i64 x)
  obtain ⟨a1, a2, a3, a4, a5⟩ := h.row h.o1 (u := .slice (some ⟨g, 0, none⟩) da.length cap) hg
  have o0 : Row B _ v0 sh := ⟨h.o0.1.kept hg (.inr (fun e => h.ne e.symm)), h.o0.2⟩
  have hst := (h.o1.1.stored q (.int .i64 x)).1
  exact ⟨o0, ⟨by rw [List.length_set, List.map_set]; exact hst, h.o1.2⟩, h.ne, a3, a1, a2, a4, h.p, a5, h.bA, h.f.own h.o1 hg, h.aA⟩

end Go.Proofs.YtaopohihipihdaaGreatDoor
