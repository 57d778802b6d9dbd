import Derived.Test.YtjhflbhbegocdaaSpec1
namespace Go.Proofs.Ytjhflbhbegocdaa
open Go.RowKit
set_option linter.unusedVariables false

theorem own_ne {base n P : Nat} {w : World} {v : Value} {xs : List Value} {c : Array Value} {fr : Nat × Nat} {t : TypeId} (h : w.ownsRow base 3 1 v n xs) (hP : w.heap[P]? = some (.cells c t fr)) (ht : ¬ t = 3) : v.ownBlock ≠ some P := by
  intro e
  rcases h.2 with ⟨rfl, _⟩ | ⟨g, cap, cur, rfl, _, hg, _⟩
  · simp [Value.ownBlock] at e
  · simp [Value.ownBlock] at e
    subst e
    rw [hg] at hP
    simp at hP
    exact ht hP.2.1.symm

theorem owns_form {base n : Nat} {w : World} {v : Value} {xs : List Value} (h : w.ownsRow base 3 1 v n xs) : ∃ ao cap, v = .slice ao n cap := by
  rcases h.2 with ⟨rfl, rfl⟩ | ⟨g, cap, cur, rfl, _⟩
  · exact ⟨none, 0, rfl⟩
  · exact ⟨_, cap, rfl⟩

/-- append_rd, and what is not written -/
theorem append_rd' {base B : Nat} (w : World) (v : Value) (n : Nat) (ys : List Int) (hown : w.ownsRow base 3 1 v n (ys.map (Value.int .i64))) (u : Value) (xs : List Int) (hrd : Rd B w u xs) (hbd : n + xs.length ≤ 16777216) (hbase : base ≤ w.heap.size) (ty : TypeId) :
    ∃ v' w', (Builtin.append_ #[22, 22] ty #[v, u]).run Try.prog w = .ok v' w' ∧ w'.ownsRow base 3 1 v' (n + xs.length) ((ys ++ xs).map (Value.int .i64)) ∧ w.grownBy w' v.ownBlock := by
  obtain ⟨i0, hi, hz0, hz1, hz2⟩ := info_parts Try.info3
  obtain ⟨ao, cap, rfl, h⟩ := hrd
  rcases h with h | ⟨b, off, hB, rfl, hc⟩
  · obtain rfl := List.length_eq_zero_iff.1 h
    refine ⟨v, w, ?_, by simpa using hown, World.grownBy.refl _ _⟩
    rcases hown.2 with ⟨rfl, rfl⟩ | ⟨g, cp, cur, rfl, _, _, hnc, _⟩
    · cases ao <;> simp [Builtin.append_, run_underlying Try.underlying22, sizeOf, typeInfo, hi, Builtin.lenOf, Builtin.firstCells, loadCells, loadCellsFrom]
    · cases ao <;> simp [Builtin.append_, run_underlying Try.underlying22, sizeOf, typeInfo, hi, Builtin.lenOf, Builtin.firstCells, loadCells, loadCellsFrom, hnc, storeCells]
  · obtain ⟨v', w', hr, ho, hg, _⟩ := run_append_own (P := Try.prog) w base 22 ty 3 i0 (.int .i64 0) 1 8 Try.underlying22 hi hz0 hz1 hz2 rfl (by decide) v n _ hown ⟨b, off, none⟩ xs.length cap (xs.map (Value.int .i64)) (by simp)
      (by
        intro j x hj
        rw [List.getElem?_map] at hj
        obtain ⟨y, hy, rfl⟩ := Option.map_eq_some_iff.1 hj
        have hlt : j < xs.length := (List.getElem?_eq_some_iff.1 hy).1
        rw [Addr.add_lit, hc j hlt]
        simp [List.getD, hy])
      (ints_oneCell _ _) (by unfold maxLen; omega) (by omega) hbase
    exact ⟨v', w', hr, by simpa using ho, hg⟩

/-- append(v, x): one number, laid in a block of its own first -/
theorem wpList_append_one {base : Nat} (w : World) (x : Int) (t : TypeId) {ops : Array Oper} {rest : List Oper} {o : Oper} {a : Act} {Q : Exit → Act → World → Prop} (hg : o.guard = none) (s y : Operand)
    (hop : o.op = Op.call { callee := Callee.builtin Builtin.append, args := #[s, y], argTypes := #[22, 22] }) (v : Value) (hs : a.eval s = v) (hx : a.eval y = .slice (some ⟨w.heap.size, 0, none⟩) 1 1) (n : Nat) (ys : List Int)
    (hown : w.ownsRow base 3 1 v n (ys.map (Value.int .i64))) (hbd : n + 1 ≤ 16777216) (hbase : base ≤ w.heap.size)
    (hK : ∀ v' w', w'.ownsRow base 3 1 v' (n + 1) ((ys ++ [x]).map (Value.int .i64)) → (w.alloc (.cells #[.int .i64 x] t)).grownBy w' v.ownBlock → wpList Try.prog ops Q rest (a.put o.dst v') w') : wpList Try.prog ops Q (o :: rest) a (w.alloc (.cells #[.int .i64 x] t)) := by
  have hrd : Rd (w.heap.size + 1) (w.alloc (.cells #[.int .i64 x] t)) (.slice (some ⟨w.heap.size, 0, none⟩) 1 1) [x] := by
    refine ⟨_, _, rfl, .inr ⟨w.heap.size, 0, by omega, rfl, fun i hi => ?_⟩⟩
    have : i = 0 := by simp at hi; omega
    subst this
    simp [go_sem]
  obtain ⟨v', w', hr, ho, hb⟩ := append_rd' _ v n ys (hown.alloc _) _ [x] hrd hbd (by simp; omega) o.type
  exact wpList_append_eq _ w' hg s y _ hop v _ v' hs hx hr (hK v' w' ho hb)

theorem cell_blk {w : World} {P j : Nat} {c : Array Value} {t : TypeId} (h : w.heap[P]? = some (.cells c t (0, 0))) : w.cell? ⟨P, j, none⟩ = c[j]? := cell_of_row w P j c t (0, 0) h
theorem frozen_blk {w : World} {P j : Nat} {c : Array Value} {t : TypeId} (h : w.heap[P]? = some (.cells c t (0, 0))) : w.frozen? ⟨P, j, none⟩ = false := frozen_of_row w P j c t h
theorem grown_setCell (w : World) (P j : Nat) (v : Value) : w.grownBy (w.setCell ⟨P, j, none⟩ v) (some P) :=
  ⟨rfl, rfl, rfl, by simp, fun k _ hk => heap_setCell_other w ⟨P, j, none⟩ k v (fun e => hk (by simp [e]))⟩

theorem apart_right {B : Nat} {w : World} {u0 u1 : Value} {sh da : List Int} (h : Own B w u1 da) (h1 : sh.length = 0 ∨ ∀ b, u0.ownBlock = some b → b < B) : Apart u0 u1 sh da := by
  rcases h1 with h1 | h1
  · exact .inl h1
  obtain ⟨ao, cap, rfl, h⟩ := h
  rcases h with h | ⟨g, off, hB, _, rfl, _⟩
  · exact .inr (.inl h)
  · refine .inr (.inr fun b e0 e1 => ?_)
    have := h1 b e0
    simp [Value.ownBlock] at e1
    omega

theorem Own.lt {B : Nat} {w : World} {u : Value} {zs : List Int} (h : Own B w u zs) : zs.length = 0 ∨ ∀ b, u.ownBlock = some b → b < w.heap.size := by
  obtain ⟨ao, cap, rfl, h⟩ := h
  rcases h with h | ⟨g, off, _, hB, rfl, _⟩
  · exact .inl h
  · refine .inr fun b e0 => ?_
    simp [Value.ownBlock] at e0
    omega

/-- the array that is built, out.Data grown by one -/
theorem out_step {E P : Nat} {W wr w' : World} {x : Int} {t : TypeId} {sv nv v' : Value} {n m : Nat} {ys zs : List Value} (hP : wr.heap[P]? = some (.cells #[sv, nv] 26 (0, 0))) (ho : wr.ownsRow E 3 1 nv n ys) (hE : E ≤ P) (hb : Below E W wr)
    (hg : (wr.alloc (.cells #[.int .i64 x] t)).grownBy w' nv.ownBlock) (ho' : w'.ownsRow E 3 1 v' m zs) :
    w'.heap[P]? = some (.cells #[sv, nv] 26 (0, 0)) ∧ (w'.setCell ⟨P, 1, none⟩ v').heap[P]? = some (.cells #[sv, v'] 26 (0, 0)) ∧ (w'.setCell ⟨P, 1, none⟩ v').ownsRow E 3 1 v' m zs ∧ Below E W (w'.setCell ⟨P, 1, none⟩ v') := by
  have hlt : P < wr.heap.size := (Array.getElem?_eq_some_iff.1 hP).1
  have hE' : E ≤ wr.heap.size := by omega
  have h1 : w'.heap[P]? = some (.cells #[sv, nv] 26 (0, 0)) := by
    rw [hg.block P (by simp; omega) (fun e => own_ne ho hP (by decide) e.symm)]
    rw [Below.heap_alloc wr _ P hlt]
    exact hP
  have h2 := heap_setCell_same w' P 1 #[sv, nv] 26 v' h1
  refine ⟨h1, h2, ?_, ?_⟩
  · exact ho'.kept (grown_setCell w' P 1 v') (.inr (own_ne ho' h1 (by decide)))
  · refine Below.setCell ?_ hE _
    refine (hb.alloc hE' _).grown hg (by simp; omega) (fun k hk => (ho.lt k hk).1)

end Go.Proofs.Ytjhflbhbegocdaa
