import Derived.Test.YtmobjomebmipdaaMade
import Derived.Maps.AppendAt
namespace Go.Proofs.Ytmobjomebmipdaa
open Go.RowKit
set_option linter.unusedVariables false

/-- append_rd', and where the row lies -/
theorem append_rd_at {base B : Nat} (w : World) (v : Value) (n : Nat) (ys : List Int) (hown : w.ownsRow base 3 1 v n (ys.map (Value.int .i64))) (u : Value) (xs : List Int) (hrd : Rd B w u xs) (hbd : n + xs.length ≤ 16777216) (hbase : base ≤ w.heap.size) (ty : TypeId) :
    ∃ v' w', (Builtin.append_ #[22, 22] ty #[v, u]).run Try.prog w = .ok v' w' ∧ w'.ownsRow base 3 1 v' (n + xs.length) ((ys ++ xs).map (Value.int .i64)) ∧ w.grownBy w' v.ownBlock ∧ (v'.ownBlock = v.ownBlock ∨ v'.ownBlock = some w.heap.size) := by
  obtain ⟨i0, hi, hz0, hz1, hz2⟩ := info_parts Try.info3
  obtain ⟨ao, cap, rfl, h⟩ := hrd
  rcases h with h | ⟨b, off, hB, rfl, hc⟩
  · obtain rfl := List.length_eq_zero_iff.1 h
    refine ⟨v, w, ?_, by simpa using hown, World.grownBy.refl _ _, .inl rfl⟩
    rcases hown.2 with ⟨rfl, rfl⟩ | ⟨g, cp, cur, rfl, _, _, hnc, _⟩
    · cases ao <;> simp [Builtin.append_, run_underlying Try.underlying22, sizeOf, typeInfo, hi, Builtin.lenOf, Builtin.firstCells, loadCells, loadCellsFrom]
    · cases ao <;> simp [Builtin.append_, run_underlying Try.underlying22, sizeOf, typeInfo, hi, Builtin.lenOf, Builtin.firstCells, loadCells, loadCellsFrom, hnc, storeCells]
  · obtain ⟨v', w', hr, ho, hg, _, hat⟩ := run_append_own_at (P := Try.prog) w base 22 ty 3 i0 (.int .i64 0) 1 8 Try.underlying22 hi hz0 hz1 hz2 rfl (by decide) v n _ hown ⟨b, off, none⟩ xs.length cap (xs.map (Value.int .i64)) (by simp)
      (by
        intro j x hj
        rw [List.getElem?_map] at hj
        obtain ⟨y, hy, rfl⟩ := Option.map_eq_some_iff.1 hj
        have hlt : j < xs.length := (List.getElem?_eq_some_iff.1 hy).1
        rw [Addr.add_lit, hc j hlt]
        simp [List.getD, hy])
      (ints_oneCell _ _) (by unfold maxLen; omega) (by omega) hbase
    exact ⟨v', w', hr, by simpa using ho, hg, hat⟩

/-- append(v, u...) in a region that draws -/
theorem step_append_at {base B : Nat} {ops : Array Oper} {o : Oper} {a : Act} {K : Act → World → Prop} {Q : Exit → Act → World → Prop} {E : Prop} (w : World) (hg : o.guard = none) (s y : Operand)
    (hop : o.op = Op.call { callee := Callee.builtin Builtin.append, args := #[s, y], argTypes := #[22, 22] }) (v u : Value) (hs : a.eval s = v) (hx : a.eval y = u) (n : Nat) (ys xs : List Int)
    (hown : w.ownsRow base 3 1 v n (ys.map (Value.int .i64))) (hrd : Rd B w u xs) (hbd : n + xs.length ≤ 16777216) (hbase : base ≤ w.heap.size)
    (hK : ∀ v' w', w'.ownsRow base 3 1 v' (n + xs.length) ((ys ++ xs).map (Value.int .i64)) → w.grownBy w' v.ownBlock → (v'.ownBlock = v.ownBlock ∨ v'.ownBlock = some w.heap.size) → K (a.put o.dst v') w') : if Region.wanted o (yielded ops a.tmps) = true then Oper.wp Try.prog o a w K Q else E := by
  obtain ⟨v', w', hr, ho, hb, hat⟩ := append_rd_at w v n ys hown u xs hrd hbd hbase o.type
  exact step_append_eq hg s y _ hop v _ v' hs hx hr (hK v' w' ho hb hat)

/-- append(v, x): one number, laid in a block of its own first -/
theorem wpList_append_one_at {base : Nat} (w : World) (x : Int) (t : TypeId) {ops : Array Oper} {rest : List Oper} {o : Oper} {a : Act} {Q : Exit → Act → World → Prop} (hg : o.guard = none) (s y : Operand)
    (hop : o.op = Op.call { callee := Callee.builtin Builtin.append, args := #[s, y], argTypes := #[22, 22] }) (v : Value) (hs : a.eval s = v) (hx : a.eval y = .slice (some ⟨w.heap.size, 0, none⟩) 1 1) (n : Nat) (ys : List Int)
    (hown : w.ownsRow base 3 1 v n (ys.map (Value.int .i64))) (hbd : n + 1 ≤ 16777216) (hbase : base ≤ w.heap.size)
    (hK : ∀ v' w', w'.ownsRow base 3 1 v' (n + 1) ((ys ++ [x]).map (Value.int .i64)) → (w.alloc (.cells #[.int .i64 x] t)).grownBy w' v.ownBlock → (v'.ownBlock = v.ownBlock ∨ v'.ownBlock = some (w.heap.size + 1)) → wpList Try.prog ops Q rest (a.put o.dst v') w') : wpList Try.prog ops Q (o :: rest) a (w.alloc (.cells #[.int .i64 x] t)) := by
  have hrd : Rd (w.heap.size + 1) (w.alloc (.cells #[.int .i64 x] t)) (.slice (some ⟨w.heap.size, 0, none⟩) 1 1) [x] := by
    refine ⟨_, _, rfl, .inr ⟨w.heap.size, 0, by omega, rfl, fun i hi => ?_⟩⟩
    have : i = 0 := by simp at hi; omega
    subst this
    simp [go_sem]
  obtain ⟨v', w', hr, ho, hb, hat⟩ := append_rd_at _ v n ys (hown.alloc _) _ [x] hrd hbd (by simp; omega) o.type
  exact wpList_append_eq _ w' hg s y _ hop v _ v' hs hx hr (hK v' w' ho hb (by simpa using hat))

/-- out, code := l2Made(append(l2Copy(..), ..), []int{}) under way: the copy and what was appended, the empty list, the variable -/
structure Rg (wv : World) (oc : Option (Value × List Int)) (og op : Option Nat) (w : World) : Prop where
  bel : Below wv.heap.size wv w
  c : ∀ v zs, oc = some (v, zs) → w.ownsRow wv.heap.size 3 1 v zs.length (zs.map (Value.int .i64))
  g : ∀ k, og = some k → w.ownsRow wv.heap.size 3 1 (.slice (some ⟨k, 0, none⟩) 0 0) 0 (([] : List Int).map (Value.int .i64))
  p : ∀ k, op = some k → wv.heap.size ≤ k ∧ w.heap[k]? = some (.cells #[.slice none 0 0, .slice none 0 0] 27 (0, 0))
  cg : ∀ v zs k, oc = some (v, zs) → og = some k → ¬ v.ownBlock = some k

theorem Rg.start (wv : World) : Rg wv none none none wv.drew := ⟨(Below.refl _ _).drew, (by intro _ _ h; cases h), (by intro _ h; cases h), (by intro _ h; cases h), (by intro _ _ _ h; cases h)⟩

theorem Rg.keep {wv w w' : World} {oc : Option (Value × List Int)} {og op : Option Nat} (h : Rg wv oc og op w) (hb : Below w.heap.size w w') : Rg wv oc og op w' :=
  ⟨h.bel.trans (hb.mono h.bel.size), fun v zs e => owns_keep (h.c v zs e) hb, fun k e => owns_keep (h.g k e) hb, fun k e => ⟨(h.p k e).1, by
    have := (h.p k e).2
    rw [hb.block k (Array.getElem?_eq_some_iff.1 this).1]
    exact this⟩, h.cg⟩

theorem Rg.copy {wv w w' : World} {og op : Option Nat} (h : Rg wv none og op w) {v : Value} {zs : List Int} (ho : w'.ownsRow w.heap.size 3 1 v zs.length (zs.map (Value.int .i64))) (hb : Below w.heap.size w w') : Rg wv (some (v, zs)) og op w' := by
  have k := h.keep hb
  refine ⟨k.bel, ?_, k.g, k.p, ?_⟩
  · intro v' zs' e
    simp only [Option.some.injEq, Prod.mk.injEq] at e
    obtain ⟨rfl, rfl⟩ := e
    exact owns_base ho h.bel.size
  · intro v' zs' k' e e' e2
    simp only [Option.some.injEq, Prod.mk.injEq] at e
    obtain ⟨rfl, rfl⟩ := e
    have h1 := (ho.lt k' e2).1
    have h2 := ((h.g k' e').lt k' rfl).2
    omega

theorem Rg.app {wv w w' : World} {og op : Option Nat} {v v' : Value} {zs xs sh : List Int} (h : Rg wv (some (v, zs)) og op w) (e : zs ++ xs = sh) (ho : w'.ownsRow wv.heap.size 3 1 v' (zs.length + xs.length) ((zs ++ xs).map (Value.int .i64)))
    (hg : w.grownBy w' v.ownBlock) (hat : v'.ownBlock = v.ownBlock ∨ v'.ownBlock = some w.heap.size) : Rg wv (some (v', sh)) og op w' := by
  subst e
  have hv := h.c v zs rfl
  refine ⟨h.bel.grown hg h.bel.size (fun k hk => (hv.lt k hk).1), ?_, ?_, ?_, ?_⟩
  · intro v1 zs1 e
    simp only [Option.some.injEq, Prod.mk.injEq] at e
    obtain ⟨rfl, rfl⟩ := e
    rw [List.length_append]
    exact ho
  · intro k e
    refine (h.g k e).kept hg (.inr ?_)
    intro e2
    exact h.cg v zs k rfl e e2.symm
  · intro k e
    refine ⟨(h.p k e).1, ?_⟩
    have hp := (h.p k e).2
    rw [hg.block k (Array.getElem?_eq_some_iff.1 hp).1 (fun e2 => own_ne hv hp (by decide) e2.symm)]
    exact hp
  · intro v1 zs1 k e e' e2
    simp only [Option.some.injEq, Prod.mk.injEq] at e
    obtain ⟨rfl, rfl⟩ := e
    rcases hat with hat | hat
    · rw [hat] at e2
      exact h.cg v zs k rfl e' e2
    · rw [hat] at e2
      have h2 := ((h.g k e').lt k rfl).2
      simp only [Option.some.injEq] at e2
      omega

theorem Rg.lit {wv w : World} {oc : Option (Value × List Int)} {op : Option Nat} (h : Rg wv oc none op w) : Rg wv oc (some w.heap.size) op (w.alloc (.cells #[] 3)) := by
  have k := h.keep ((Below.refl w.heap.size w).alloc (Nat.le_refl _) (.cells #[] 3))
  refine ⟨k.bel, k.c, ?_, k.p, ?_⟩
  · intro k' e
    simp only [Option.some.injEq] at e
    subst e
    exact owns_empty w _ h.bel.size
  · intro v zs k' e e' e2
    simp only [Option.some.injEq] at e'
    subst e'
    have := ((h.c v zs e).lt _ e2).2
    omega

theorem Rg.var {wv w : World} {oc : Option (Value × List Int)} {og : Option Nat} (h : Rg wv oc og none w) : Rg wv oc og (some w.heap.size) (w.alloc (.cells #[.slice none 0 0, .slice none 0 0] 27)) := by
  have k := h.keep ((Below.refl w.heap.size w).alloc (Nat.le_refl _) (.cells #[.slice none 0 0, .slice none 0 0] 27))
  refine ⟨k.bel, k.c, k.g, ?_, k.cg⟩
  intro k' e
  simp only [Option.some.injEq] at e
  subst e
  exact ⟨h.bel.size, heap_alloc_new w _⟩

/-- the answer of spec.Outer under way: its variable, the shape, the cells so far -/
structure Lp (wv : World) (sh : List Int) (P : Nat) (u0 nv : Value) (zs : List Int) (w : World) : Prop where
  bel : Below wv.heap.size wv w
  le : wv.heap.size ≤ P
  blk : w.heap[P]? = some (.cells #[u0, nv] 27 (0, 0))
  c : w.ownsRow wv.heap.size 3 1 u0 sh.length (sh.map (Value.int .i64))
  d : w.ownsRow wv.heap.size 3 1 nv zs.length (zs.map (Value.int .i64))
  ap : ∀ k, u0.ownBlock = some k → ¬ nv.ownBlock = some k

/-- behind l2Made -/
def Mk (wv : World) (sh : List Int) (P : Nat) (cc : Int) (u0 u1 : Value) (w : World) : Prop :=
  Below wv.heap.size wv w ∧ ((Pl.fitsB sh = true ∧ cc = 0 ∧ Lp wv sh P u0 u1 [] w) ∨ (Pl.fitsB sh = false ∧ cc = 6 ∧ wv.heap.size ≤ P ∧ w.heap[P]? = some (.cells #[.slice none 0 0, .slice none 0 0] 27 (0, 0))))

theorem blk_two {w : World} {P : Nat} {a b u0 u1 : Value} (h : w.heap[P]? = some (.cells #[a, b] 27 (0, 0))) : ((w.setCell ⟨P, 0, none⟩ u0).setCell ⟨P, 1, none⟩ u1).heap[P]? = some (.cells #[u0, u1] 27 (0, 0)) :=
  heap_setCell_same _ P 1 #[u0, b] 27 u1 (heap_setCell_same w P 0 #[a, b] 27 u0 h)

theorem owns_two {base n P : Nat} {w : World} {v a b u0 u1 : Value} {xs : List Value} (h : w.ownsRow base 3 1 v n xs) (hP : w.heap[P]? = some (.cells #[a, b] 27 (0, 0))) : ((w.setCell ⟨P, 0, none⟩ u0).setCell ⟨P, 1, none⟩ u1).ownsRow base 3 1 v n xs :=
  (h.kept (grown_setCell w P 0 u0) (.inr (own_ne h hP (by decide)))).kept (grown_setCell _ P 1 u1) (.inr (own_ne h hP (by decide)))

theorem Rg.done {wv w : World} {v : Value} {sh : List Int} {k P : Nat} {cc : Int} {u0 u1 : Value} (h : Rg wv (some (v, sh)) (some k) (some P) w)
    (hm : (Pl.fitsB sh = true ∧ cc = 0 ∧ u0 = v ∧ u1 = .slice (some ⟨k, 0, none⟩) 0 0) ∨ (Pl.fitsB sh = false ∧ cc = 6 ∧ u0 = .slice none 0 0 ∧ u1 = .slice none 0 0)) :
    Mk wv sh P cc u0 u1 ((w.setCell ⟨P, 0, none⟩ u0).setCell ⟨P, 1, none⟩ u1) := by
  have hP := (h.p P rfl).2
  have hle := (h.p P rfl).1
  have hb : Below wv.heap.size wv ((w.setCell ⟨P, 0, none⟩ u0).setCell ⟨P, 1, none⟩ u1) := (h.bel.setCell hle _).setCell hle _
  refine ⟨hb, ?_⟩
  rcases hm with ⟨hf, rfl, rfl, rfl⟩ | ⟨hf, rfl, rfl, rfl⟩
  · refine .inl ⟨hf, rfl, hb, hle, blk_two hP, owns_two (h.c _ _ rfl) hP, owns_two (h.g _ rfl) hP, ?_⟩
    intro k' e e2
    simp [Value.ownBlock] at e2
    subst e2
    exact h.cg _ _ k rfl rfl e
  · exact .inr ⟨hf, rfl, hle, blk_two hP⟩

/-- one cell more -/
theorem Lp.step {wv wr w9 : World} {sh zs : List Int} {P : Nat} {u0 nv v' : Value} {r : Int} {t : TypeId} (h : Lp wv sh P u0 nv zs wr) (hg : (wr.alloc (.cells #[.int .i64 r] t)).grownBy w9 nv.ownBlock)
    (ho : w9.ownsRow wv.heap.size 3 1 v' (zs.length + 1) ((zs ++ [r]).map (Value.int .i64))) (hat : v'.ownBlock = nv.ownBlock ∨ v'.ownBlock = some (wr.heap.size + 1)) :
    w9.heap[P]? = some (.cells #[u0, nv] 27 (0, 0)) ∧ Lp wv sh P u0 v' (zs ++ [r]) (w9.setCell ⟨P, 1, none⟩ v') := by
  have hs := h.bel.size
  have k : Below wr.heap.size wr (wr.alloc (.cells #[.int .i64 r] t)) := (Below.refl _ _).alloc (Nat.le_refl _) _
  have hc : w9.ownsRow wv.heap.size 3 1 u0 sh.length (sh.map (Value.int .i64)) := by
    refine (owns_keep h.c k).kept hg ?_
    rcases hb : u0.ownBlock with _ | b
    · exact .inl rfl
    · right
      intro e
      exact h.ap b hb e.symm
  obtain ⟨h1, h2, h3, h4⟩ := out_step h.blk h.d h.le h.bel hg ho
  refine ⟨h1, h4, h.le, h2, ?_, ?_, ?_⟩
  · exact hc.kept (grown_setCell w9 P 1 v') (.inr (own_ne hc h1 (by decide)))
  · rw [List.length_append]
    exact h3
  · intro b e e2
    rcases hat with hat | hat
    · rw [hat] at e2
      exact h.ap b e e2
    · rw [hat] at e2
      have := (h.c.lt b e).2
      simp only [Option.some.injEq] at e2
      omega

theorem Lp.quiet {wv wr wq : World} {sh zs : List Int} {P : Nat} {u0 nv : Value} (h : Lp wv sh P u0 nv zs wr) (hb : Below wr.heap.size wr wq) : Lp wv sh P u0 nv zs wq :=
  ⟨h.bel.trans (hb.mono h.bel.size), h.le, by
    rw [hb.block P (Array.getElem?_eq_some_iff.1 h.blk).1]
    exact h.blk, owns_keep h.c hb, owns_keep h.d hb, h.ap⟩

/-- spec.l2Made, its answer as one value -/
theorem l2Made_two (B : Nat) (a0 a1 : Option Addr) (n d0 d1 : Nat) (zs : List Int) (w : World) (hl : zs.length ≤ 1048576) (h : Rd B w (.slice a0 zs.length d0) zs) (hB : B ≤ w.heap.size) :
    Calls Try.prog 78 #[.slice a0 zs.length d0, .slice a1 n d1] w fun e w' => ∃ q0 n0 c0 q1 n1 c1 cc, e = .returned (.tuple #[.agg #[.slice q0 n0 c0, .slice q1 n1 c1], .int .i64 cc]) ∧ Below w.heap.size w w' ∧
      ((Pl.fitsB zs = true ∧ cc = 0 ∧ Value.slice q0 n0 c0 = .slice a0 zs.length d0 ∧ Value.slice q1 n1 c1 = .slice a1 n d1) ∨ (Pl.fitsB zs = false ∧ cc = 6 ∧ Value.slice q0 n0 c0 = .slice none 0 0 ∧ Value.slice q1 n1 c1 = .slice none 0 0)) := by
  refine (l2Made_any B a0 a1 n d0 d1 zs w hl h hB).mono ?_
  rintro e w' ⟨hb, ⟨hf, rfl⟩ | ⟨hf, rfl⟩⟩
  · exact ⟨_, _, _, _, _, _, _, rfl, hb, .inl ⟨hf, rfl, rfl, rfl⟩⟩
  · exact ⟨_, _, _, _, _, _, _, rfl, hb, .inr ⟨hf, rfl, rfl, rfl⟩⟩

end Go.Proofs.Ytmobjomebmipdaa
