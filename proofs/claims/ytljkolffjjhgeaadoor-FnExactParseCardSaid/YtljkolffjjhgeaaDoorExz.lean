import Derived.Deep.RegionHeld
import Derived.Shelf.Abstract
import Derived.Test.YtljkolffjjhgeaaDoorSpl
namespace Go.Proofs.YtljkolffjjhgeaaDoor
open Go.RowKit
set_option linter.unusedVariables false
set_option maxRecDepth 100000
theorem ready_val {P : Program} {ops : Array Oper} {Q : Exit → Act → World → Prop} {o : Oper} {a : Act} {w w' : World} {K : Act → World → Prop} (hg : o.guard = none) (v : Value) (h : (execOp a.eval o).run P w = .ok (.value v) w') (hK : K (a.put o.dst v) w') :
    if Region.wanted o (yielded ops a.tmps) = true then Oper.wp P o a w K Q else K (a.put o.dst undef) w := by
  have hw : Region.wanted o (yielded ops a.tmps) = true := by simp [Region.wanted, hg]
  rw [if_pos hw]
  unfold Oper.wp
  rw [h]
  exact hK
theorem ready_call {P : Program} {ops : Array Oper} {Q : Exit → Act → World → Prop} {o : Oper} {a : Act} {w : World} {K : Act → World → Prop} (hg : o.guard = none) (f : FuncId) (args : Array Value) (h : (execOp a.eval o).run P w = .ok (.enter f args) w) (hK : Calls P f args w fun e w' => ∃ v, e = .returned v ∧ K (a.put o.dst v) w') :
    if Region.wanted o (yielded ops a.tmps) = true then Oper.wp P o a w K Q else K (a.put o.dst undef) w := by
  have hw : Region.wanted o (yielded ops a.tmps) = true := by simp [Region.wanted, hg]
  rw [if_pos hw]
  unfold Oper.wp
  rw [h]
  refine hK.mono ?_
  rintro e w' ⟨v, rfl, h⟩
  exact h
theorem step_val {P : Program} {md : Region.Mode} {ops : Array Oper} {Q : Exit → Act → World → Prop} {S : World → Prop} {fuel : Nat} {listed : Array Bool} {i : Nat} {o : Oper} {a : Act} {w w' : World} (hr : Region.ready md ops listed = [i]) (ho : ops[i]? = some o) (hg : o.guard = none) (v : Value) (h : (execOp a.eval o).run P w = .ok (.value v) w') (hS : S w')
    (hN : wpAnyH P md ops Q S fuel (listed.setIfInBounds i true) (a.put o.dst v) w') : wpAnyH P md ops Q S (fuel + 1) listed a w :=
  wpAnyH_ready hr (by simp) (AllReadyH.cons ho (fun K hK => ready_val hg v h (hK.out _ _ hS (fun _ => hN))) AllReadyH.nil)
theorem step_call {P : Program} {md : Region.Mode} {ops : Array Oper} {Q : Exit → Act → World → Prop} {S : World → Prop} {fuel : Nat} {listed : Array Bool} {i : Nat} {o : Oper} {a : Act} {w : World} (hr : Region.ready md ops listed = [i]) (ho : ops[i]? = some o) (hg : o.guard = none) (f : FuncId) (args : Array Value) (h : (execOp a.eval o).run P w = .ok (.enter f args) w)
    (hN : Calls P f args w fun e w' => ∃ v, e = .returned v ∧ S w' ∧ wpAnyH P md ops Q S fuel (listed.setIfInBounds i true) (a.put o.dst v) w') : wpAnyH P md ops Q S (fuel + 1) listed a w :=
  wpAnyH_ready hr (by simp) (AllReadyH.cons ho (fun K hK => ready_call hg f args h (hN.mono (by
    rintro e w' ⟨v, rfl, hS, hW⟩
    exact ⟨v, rfl, hK.out _ _ hS (fun _ => hW)⟩))) AllReadyH.nil)
theorem ready_skip {P : Program} {ops : Array Oper} {Q : Exit → Act → World → Prop} {o : Oper} {a : Act} {w w' : World} {K : Act → World → Prop} (hg : o.guard = none) (h : (execOp a.eval o).run P w = .ok .skip w') (hK : K (a.put o.dst undef) w') :
    if Region.wanted o (yielded ops a.tmps) = true then Oper.wp P o a w K Q else K (a.put o.dst undef) w := by
  have hw : Region.wanted o (yielded ops a.tmps) = true := by simp [Region.wanted, hg]
  rw [if_pos hw]
  unfold Oper.wp
  rw [h]
  exact hK
theorem step_skip {P : Program} {md : Region.Mode} {ops : Array Oper} {Q : Exit → Act → World → Prop} {S : World → Prop} {fuel : Nat} {listed : Array Bool} {i : Nat} {o : Oper} {a : Act} {w w' : World} (hr : Region.ready md ops listed = [i]) (ho : ops[i]? = some o) (hg : o.guard = none) (h : (execOp a.eval o).run P w = .ok .skip w') (hS : S w')
    (hN : wpAnyH P md ops Q S fuel (listed.setIfInBounds i true) (a.put o.dst undef) w') : wpAnyH P md ops Q S (fuel + 1) listed a w :=
  wpAnyH_ready hr (by simp) (AllReadyH.cons ho (fun K hK => ready_skip hg h (hK.out _ _ hS (fun _ => hN))) AllReadyH.nil)
theorem exec_assign {o : Oper} {a : Act} (x : Operand) (v : Value) (ho : o.op = Op.assign x) (hx : a.eval x = v) (w : World) : (execOp a.eval o).run Tryd.prog w = .ok (.value v) w := by
  simp [execOp, ho, hx]
theorem exec_move {o : Oper} {a : Act} (x : Operand) (v : Value) (ho : o.op = Op.move x) (hx : a.eval x = v) (w : World) : (execOp a.eval o).run Tryd.prog w = .ok (.value v) w := by
  simp [execOp, ho, hx]
theorem exec_sub3 {o : Oper} {a : Act} (x y : Operand) (m n r : Int) (ho : o.op = Op.binOp BinOp.sub 3 x y 3) (hx : a.eval x = .int .i64 m) (hy : a.eval y = .int .i64 n) (hr : IntKind.i64.wrap (m - n) = r) (w : World) : (execOp a.eval o).run Tryd.prog w = .ok (.value (.int .i64 r)) w := by
  subst hr
  simp only [execOp, ho, hx, hy]
  go_simp
theorem exec_idx28 {o : Oper} {a : Act} (x y : Operand) (b off n cap i : Nat) (ho : o.op = Op.indexAddr 28 x y) (hx : a.eval x = .slice (some ⟨b, off, none⟩) n cap) (hy : a.eval y = .int .i64 (i : Int)) (hi : i < n) (w : World) : (execOp a.eval o).run Tryd.prog w = .ok (.value (.pointer (some ⟨b, off + i * 4, none⟩))) w := by
  have h1 : ¬ ((i : Int) < 0) := by omega
  have h2 : (i : Int) < (n : Int) := by omega
  simp only [execOp, ho, hx, hy]
  go_simp
theorem exec_load31 {o : Oper} {a : Act} (x : Operand) (b off : Nat) (t : Pl.Tok) (w : World) (ho : o.op = Op.load 31 x) (hx : a.eval x = .pointer (some ⟨b, off, none⟩)) (d0 : w.cell? ⟨b, off, none⟩ = some (.int .u8 t.k)) (d1 : w.cell? ⟨b, off + 1, none⟩ = some (.string t.tx)) (d2 : w.cell? ⟨b, off + 2, none⟩ = some (.int .i64 t.v)) (d3 : w.cell? ⟨b, off + 3, none⟩ = some (.int .i64 t.pos)) :
    (execOp a.eval o).run Tryd.prog w = .ok (.value (.agg #[.int .u8 t.k, .string t.tx, .int .i64 t.v, .int .i64 t.pos])) w := by
  have z := Tryd.sizeOf31
  have g := Tryd.isAgg31
  simp only [execOp, ho, hx]
  go_simp
theorem exec_load79 {o : Oper} {a : Act} (x : Operand) (b : Nat) (k p q : Int) (s : ByteArray) (w : World) (ho : o.op = Op.load 79 x) (hx : a.eval x = .pointer (some ⟨b, 0, none⟩)) (d0 : w.cell? ⟨b, 0, none⟩ = some (.int .i64 k)) (d1 : w.cell? ⟨b, 1, none⟩ = some (.int .i64 p)) (d2 : w.cell? ⟨b, 2, none⟩ = some (.int .i64 q)) (d3 : w.cell? ⟨b, 3, none⟩ = some (.string s)) :
    (execOp a.eval o).run Tryd.prog w = .ok (.value (.agg #[.int .i64 k, .int .i64 p, .int .i64 q, .string s])) w := by
  have z := Tryd.sizeOf79
  have g := Tryd.isAgg79
  simp only [execOp, ho, hx]
  go_simp
theorem exec_call1 {o : Oper} {a : Act} (f : FuncId) (he : ∀ args w, (callFunc f args).run Tryd.prog w = .ok (.enter f args) w) (x : Operand) (v : Value) (ts : Array TypeId) (ho : o.op = Op.call { callee := .value (.func f), args := #[x], argTypes := ts }) (hx : a.eval x = v) (w : World) : (execOp a.eval o).run Tryd.prog w = .ok (.enter f #[v]) w := by
  have hf : a.eval (.func f) = .func (.func f) #[] #[] := rfl
  simp [execOp, ho, hx, hf, resolve, invoke, Deferred.ofValue, he]
theorem enter60 : ∀ args w, (callFunc 60 args).run Tryd.prog w = .ok (.enter 60 args) w := enters_of Tryd.func60 (by kernel_rfl) rfl
theorem exec_build79a {o : Oper} {a : Act} (x y : Operand) (m n : Int) (ho : o.op = Op.build 79 #[(0, x), (1, y)]) (hx : a.eval x = .int .i64 m) (hy : a.eval y = .int .i64 n) (w : World) : (execOp a.eval o).run Tryd.prog w = .ok (.value (.agg #[.int .i64 m, .int .i64 n, .int .i64 0, .string ⟨#[]⟩])) w := by
  simp [execOp, ho, hx, hy]
  go_simp
theorem exec_build79b {o : Oper} {a : Act} (x y z : Operand) (m n p : Int) (ho : o.op = Op.build 79 #[(0, x), (1, y), (2, z)]) (hx : a.eval x = .int .i64 m) (hy : a.eval y = .int .i64 n) (hz : a.eval z = .int .i64 p) (w : World) : (execOp a.eval o).run Tryd.prog w = .ok (.value (.agg #[.int .i64 m, .int .i64 n, .int .i64 p, .string ⟨#[]⟩])) w := by
  simp [execOp, ho, hx, hy, hz]
  go_simp
theorem exec_store79 {o : Oper} {a : Act} (x y : Operand) (b : Nat) (k p q : Int) (s : ByteArray) (u0 u1 u2 u3 : Value) (w : World) (ho : o.op = Op.store 79 x y) (hx : a.eval x = .pointer (some ⟨b, 0, none⟩)) (hy : a.eval y = .agg #[.int .i64 k, .int .i64 p, .int .i64 q, .string s]) (d0 : w.cell? ⟨b, 0, none⟩ = some u0) (d1 : w.cell? ⟨b, 1, none⟩ = some u1) (d2 : w.cell? ⟨b, 2, none⟩ = some u2) (d3 : w.cell? ⟨b, 3, none⟩ = some u3) (hf : ∀ j, w.frozen? ⟨b, j, none⟩ = false) :
    (execOp a.eval o).run Tryd.prog w = .ok .skip ((((w.setCell ⟨b, 0, none⟩ (.int .i64 k)).setCell ⟨b, 1, none⟩ (.int .i64 p)).setCell ⟨b, 2, none⟩ (.int .i64 q)).setCell ⟨b, 3, none⟩ (.string s)) := by
  have z := Tryd.sizeOf79
  have g := Tryd.isAgg79
  simp only [execOp, ho, hx, hy]
  go_simp
namespace Pl
theorem rfun_suf {r r' : List T} {f : F} (h : rfun r = some (f, r')) : ∃ p, r = p ++ r' ∧ p ≠ [] := by
  revert h
  unfold rfun
  split <;> intro h
  all_goals first
    | (cases h; done)
    | (split at h <;> first | (cases h; done) | (cases h; first | exact ⟨[_, _], rfl, by simp⟩ | exact ⟨[_, _, _], rfl, by simp⟩))
    | (cases h; exact ⟨[_], rfl, by simp⟩)
theorem rv_suf {l : List Tok} {fr : Nat} {p r : List T} (h : rv l fr = p ++ r) (hf : fr ≤ l.length) : r = rv l r.length := by
  have h1 := congrArg List.reverse h
  have h3 := congrArg List.length h
  rw [rv_len hf, List.length_append] at h3
  unfold rv at h1 ⊢
  rw [List.reverse_reverse, List.reverse_append] at h1
  have h2 := congrArg (List.take r.length) h1
  rw [List.take_left' (by simp), ← List.map_take, List.take_take, Nat.min_eq_left (by omega)] at h2
  rw [h2, List.reverse_reverse]
/-- one round of the loop, as the places go -/
theorem rfun_at {l : List Tok} {fr : Nat} {f : F} {r : List T} (hf : fr ≤ l.length) (h : rfun (rv l fr) = some (f, r)) : r = rv l r.length ∧ r.length < fr := by
  obtain ⟨p, hp, hn⟩ := rfun_suf h
  have := congrArg List.length hp
  rw [rv_len hf, List.length_append] at this
  have : 0 < p.length := List.length_pos_iff.2 hn
  exact ⟨rv_suf hp hf, by omega⟩
theorem ends_at {l : List Tok} (hk : ∀ t ∈ l, kOk t.k) {a : Nat} (ha : a < l.length) : ends (rv l (a + 1)) = endV (tq l a) := by
  rw [rv_succ ha, end_T (hk _ (tq_mem ha))]
  cases tkT (tq l a) <;> rfl
theorem ropnd_at {l : List Tok} {n fr : Nat} {o : O} {r : List T} (hf : fr ≤ l.length) (h : ropnd n (rv l fr) = some (o, r)) : r = rv l r.length ∧ o.toks.length + r.length = fr ∧ o.wf := by
  obtain ⟨h1, h2⟩ := (rsound n).2.1 _ _ _ h
  have := congrArg List.length h1
  rw [rv_len hf, List.length_append, List.length_reverse] at this
  exact ⟨rv_suf h1 hf, by omega, h2⟩
end Pl
/-- l3Expr's boxes: the result's, and that of what is read -/
structure Lx (w : World) (p : Nat) (wr : World) (ao : Option Addr) (n cap : Nat) (fr : Int) (ok : Bool) (ne : Int) (lo : Bool) : Prop where
  b : Below w.heap.size w wr
  r0 : wr.cell? ⟨w.heap.size, 0, none⟩ = some (.slice none 0 0)
  r1 : wr.cell? ⟨w.heap.size, 1, none⟩ = some (.int .i64 0)
  r2 : wr.cell? ⟨w.heap.size, 2, none⟩ = some (.bool false)
  r3 : wr.cell? ⟨w.heap.size, 3, none⟩ = some (.int .i64 0)
  r4 : wr.cell? ⟨w.heap.size, 4, none⟩ = some (.bool false)
  rf : ∀ j, wr.frozen? ⟨w.heap.size, j, none⟩ = false
  ge : w.heap.size < p
  lt : p < wr.heap.size
  c0 : wr.cell? ⟨p, 0, none⟩ = some (.slice ao n cap)
  c1 : wr.cell? ⟨p, 1, none⟩ = some (.int .i64 fr)
  c2 : wr.cell? ⟨p, 2, none⟩ = some (.bool ok)
  c3 : wr.cell? ⟨p, 3, none⟩ = some (.int .i64 ne)
  c4 : wr.cell? ⟨p, 4, none⟩ = some (.bool lo)
  cf : ∀ j, wr.frozen? ⟨p, j, none⟩ = false
section
variable {w : World} {p : Nat} {wr wr' : World} {ao : Option Addr} {n cap : Nat} {fr : Int} {ok : Bool} {ne : Int} {lo : Bool}
/-- the two boxes are as they were -/
theorem Lx.same (h : Lx w p wr ao n cap fr ok ne lo) (hb : Below w.heap.size w wr') (h1 : wr'.heap[w.heap.size]? = wr.heap[w.heap.size]?) (h2 : wr'.heap[p]? = wr.heap[p]?) (hs : wr.heap.size ≤ wr'.heap.size) : Lx w p wr' ao n cap fr ok ne lo := by
  have g1 (j : Nat) : wr'.cell? ⟨w.heap.size, j, none⟩ = wr.cell? ⟨w.heap.size, j, none⟩ := World.cell?_of_block h1
  have g2 (j : Nat) : wr'.cell? ⟨p, j, none⟩ = wr.cell? ⟨p, j, none⟩ := World.cell?_of_block h2
  exact ⟨hb, (g1 0).trans h.r0, (g1 1).trans h.r1, (g1 2).trans h.r2, (g1 3).trans h.r3, (g1 4).trans h.r4, fun j => (World.frozen?_of_block (a := ⟨w.heap.size, j, none⟩) h1).trans (h.rf j), h.ge, Nat.lt_of_lt_of_le h.lt hs, (g2 0).trans h.c0, (g2 1).trans h.c1, (g2 2).trans h.c2, (g2 3).trans h.c3, (g2 4).trans h.c4, fun j => (World.frozen?_of_block (a := ⟨p, j, none⟩) h2).trans (h.cf j)⟩
theorem Lx.keep (h : Lx w p wr ao n cap fr ok ne lo) (hb : Below wr.heap.size wr wr') : Lx w p wr' ao n cap fr ok ne lo :=
  h.same (h.b.trans (hb.mono (by have := h.ge; have := h.lt; omega))) (hb.block _ (by have := h.ge; have := h.lt; omega)) (hb.block _ h.lt) hb.size
theorem Lx.grown (h : Lx w p wr ao n cap fr ok ne lo) {r : Option Nat} (hg : wr.grownBy wr' r) (hr : ∀ b, r = some b → w.heap.size < b ∧ b ≠ p) : Lx w p wr' ao n cap fr ok ne lo :=
  h.same (h.b.grown hg (by have := h.ge; have := h.lt; omega) (fun k hk => Nat.le_of_lt (hr k hk).1)) (hg.block _ (by have := h.ge; have := h.lt; omega) (fun e => by have := (hr _ e.symm).1; omega)) (hg.block _ h.lt (fun e => (hr _ e.symm).2 rfl)) hg.size
theorem Lx.drew (h : Lx w p wr ao n cap fr ok ne lo) : Lx w p wr.drew ao n cap fr ok ne lo := h.keep ((Below.refl _ _).drew)
theorem Lx.new {w2 : World} (hb : Below (w.heap.size + 1) (w.alloc box0) w2) : Lx w w2.heap.size (w2.alloc (.cells #[.slice ao n cap, .int .i64 fr, .bool ok, .int .i64 ne, .bool lo] 63)) ao n cap fr ok ne lo := by
  have z := hb.size
  simp at z
  have h2 : Below (w.heap.size + 1) (w.alloc box0) (w2.alloc (.cells #[.slice ao n cap, .int .i64 fr, .bool ok, .int .i64 ne, .bool lo] 63)) := hb.alloc (by omega) _
  exact ⟨((Below.refl _ _).alloc (Nat.le_refl _) _).trans (h2.mono (by omega)), bcell h2 (by omega) (by simp [go_sem]), bcell h2 (by omega) (by simp [go_sem]), bcell h2 (by omega) (by simp [go_sem]), bcell h2 (by omega) (by simp [go_sem]), bcell h2 (by omega) (by simp [go_sem]), fun j => bfroz h2 (by omega) (by simp [go_sem]), by omega, by simp, by simp [go_sem], by simp [go_sem], by simp [go_sem], by simp [go_sem], by simp [go_sem], fun j => by simp [go_sem]⟩
/-- the box of what is read is written -/
theorem Lx.put (h : Lx w p wr ao n cap fr ok ne lo) (j : Nat) (v : Value) : wr.grownBy (wr.setCell ⟨p, j, none⟩ v) (some p) ∧ Below w.heap.size w (wr.setCell ⟨p, j, none⟩ v) ∧ (∀ i, (wr.setCell ⟨p, j, none⟩ v).cell? ⟨w.heap.size, i, none⟩ = wr.cell? ⟨w.heap.size, i, none⟩) ∧ (∀ i, ¬ j = i → (wr.setCell ⟨p, j, none⟩ v).cell? ⟨p, i, none⟩ = wr.cell? ⟨p, i, none⟩) :=
  ⟨grown_one p j v (World.grownBy.refl _ _), h.b.setCell (Nat.le_of_lt h.ge) _, fun i => World.cell?_setCell_far _ _ _ _ (by have := h.ge; show p ≠ w.heap.size; omega), fun i hi => World.cell?_setCell_other _ _ _ _ (by intro e; cases e; exact hi rfl)⟩
theorem Lx.set0 (h : Lx w p wr ao n cap fr ok ne lo) (ao' : Option Addr) (n' cap' : Nat) : Lx w p (wr.setCell ⟨p, 0, none⟩ (.slice ao' n' cap')) ao' n' cap' fr ok ne lo := by
  obtain ⟨_, hb, g1, g2⟩ := h.put 0 (.slice ao' n' cap')
  exact ⟨hb, (g1 0).trans h.r0, (g1 1).trans h.r1, (g1 2).trans h.r2, (g1 3).trans h.r3, (g1 4).trans h.r4, fun j => by rw [World.frozen?_setCell]; exact h.rf j, h.ge, by simpa using h.lt, World.cell?_setCell_same _ _ _ h.c0, (g2 1 (by omega)).trans h.c1, (g2 2 (by omega)).trans h.c2, (g2 3 (by omega)).trans h.c3, (g2 4 (by omega)).trans h.c4, fun j => by rw [World.frozen?_setCell]; exact h.cf j⟩
theorem Lx.set1 (h : Lx w p wr ao n cap fr ok ne lo) (fr' : Int) : Lx w p (wr.setCell ⟨p, 1, none⟩ (.int .i64 fr')) ao n cap fr' ok ne lo := by
  obtain ⟨_, hb, g1, g2⟩ := h.put 1 (.int .i64 fr')
  exact ⟨hb, (g1 0).trans h.r0, (g1 1).trans h.r1, (g1 2).trans h.r2, (g1 3).trans h.r3, (g1 4).trans h.r4, fun j => by rw [World.frozen?_setCell]; exact h.rf j, h.ge, by simpa using h.lt, (g2 0 (by omega)).trans h.c0, World.cell?_setCell_same _ _ _ h.c1, (g2 2 (by omega)).trans h.c2, (g2 3 (by omega)).trans h.c3, (g2 4 (by omega)).trans h.c4, fun j => by rw [World.frozen?_setCell]; exact h.cf j⟩
theorem Lx.set3 (h : Lx w p wr ao n cap fr ok ne lo) (ne' : Int) : Lx w p (wr.setCell ⟨p, 3, none⟩ (.int .i64 ne')) ao n cap fr ok ne' lo := by
  obtain ⟨_, hb, g1, g2⟩ := h.put 3 (.int .i64 ne')
  exact ⟨hb, (g1 0).trans h.r0, (g1 1).trans h.r1, (g1 2).trans h.r2, (g1 3).trans h.r3, (g1 4).trans h.r4, fun j => by rw [World.frozen?_setCell]; exact h.rf j, h.ge, by simpa using h.lt, (g2 0 (by omega)).trans h.c0, (g2 1 (by omega)).trans h.c1, (g2 2 (by omega)).trans h.c2, World.cell?_setCell_same _ _ _ h.c3, (g2 4 (by omega)).trans h.c4, fun j => by rw [World.frozen?_setCell]; exact h.cf j⟩
theorem Lx.set4 (h : Lx w p wr ao n cap fr ok ne lo) (lo' : Bool) : Lx w p (wr.setCell ⟨p, 4, none⟩ (.bool lo')) ao n cap fr ok ne lo' := by
  obtain ⟨_, hb, g1, g2⟩ := h.put 4 (.bool lo')
  exact ⟨hb, (g1 0).trans h.r0, (g1 1).trans h.r1, (g1 2).trans h.r2, (g1 3).trans h.r3, (g1 4).trans h.r4, fun j => by rw [World.frozen?_setCell]; exact h.rf j, h.ge, by simpa using h.lt, (g2 0 (by omega)).trans h.c0, (g2 1 (by omega)).trans h.c1, (g2 2 (by omega)).trans h.c2, (g2 3 (by omega)).trans h.c3, World.cell?_setCell_same _ _ _ h.c4, fun j => by rw [World.frozen?_setCell]; exact h.cf j⟩
end
/-- an own list that does not hold the box -/
theorem Own.box {α : Type} {et z : Nat} {Q : World → List Value → α → List Nat → Prop} (L : Lives Q) {w : World} {v : Value} {c : List α} {F : List Nat} {B p j : Nat} (h : Own et z Q w v c F) (hi : Inb B w F) (hp : p ∉ F) (u : Value) : Own et z Q (w.setCell ⟨p, j, none⟩ u) v c F ∧ Inb B (w.setCell ⟨p, j, none⟩ u) F :=
  ⟨h.grown L hi (grown_one p j u (World.grownBy.refl _ _)) (fun b hb => by cases hb; exact hp), hi.up (Nat.le_refl _) (by simp)⟩
/-- one list behind another -/
theorem OwS.join {w : World} {ve : Value} {ce cl : List Pl.Sv} {F G : List Nat} {ao : Option Addr} {cap B : Nat} (h : OwS w ve ce F) (hi : Inb B w F) (k : OwS w (.slice ao cl.length cap) cl G) (ki : Inb B w G) (hne : cl ≠ []) (hd : ∀ x ∈ G, x ∉ F) (hbd : ce.length + cl.length ≤ 16777216) (hB : B ≤ w.heap.size) (ty : TypeId) :
    ∃ v' w' F', (Builtin.append_ #[34, 34] ty #[ve, .slice ao cl.length cap]).run Tryd.prog w = .ok v' w' ∧ OwS w' v' (ce ++ cl) F' ∧ Inb B w' F' ∧ w.grownBy w' ve.ownBlock ∧ ∀ x ∈ F', x ∈ F ∨ x ∈ G ∨ x = w.heap.size := by
  obtain ⟨g, cap', xs, fp, e, rfl, hl, hq, hnd, hlt, hcell, _⟩ := k.cells hne
  cases e
  rw [List.nodup_cons] at hnd
  have hlen := hq.len Qs.len
  obtain ⟨v', w', F', h1, h2, h3, h4, h5, h6⟩ := h.append el34 Qs.lives hi hq (fun b hb => ki b (List.mem_cons_of_mem _ hb)) hnd.2 (fun x hx => hd x (List.mem_cons_of_mem _ hx)) hl (b := g) (off := 0) (cap := cap) (fun j u hu => by rw [Nat.zero_add]; exact hcell j u hu) hlen.2 hbd hB ty
  exact ⟨v', w', F', h1, h2, h3, h4, fun x hx => by rcases h6 x hx with h | h | h; exact .inl h; exact .inr (.inl (List.mem_cons_of_mem _ h)); exact .inr (.inr h)⟩
/-- a step behind a list -/
theorem OwS.push {w : World} {ve : Value} {ce : List Pl.Sv} {F : List Nat} {q z B : Nat} {k : Int} {nm : List UInt8} {f : Pl.Fnv} {cap : Nat} (h : OwS w ve ce F) (hi : Inb B w F) (hz : Own 3 1 Qi w (.slice (some ⟨z, 0, none⟩) 0 0) [] [z]) (hzF : z ∉ F) (hzB : B ≤ z ∧ z < w.heap.size)
    (hc : ∀ j u, [Value.int .i64 k, .slice (some ⟨z, 0, none⟩) 0 0, .string (Pl.ba nm), .int .i64 f.k, .int .i64 f.a, .int .i64 f.b, .string (Pl.ba f.nm)][j]? = some u → w.cell? ⟨q, 0 + j, none⟩ = some u) (hbd : ce.length + 1 ≤ 16777216) (hB : B ≤ w.heap.size) (ty : TypeId) :
    ∃ v' w' F', (Builtin.append_ #[34, 34] ty #[ve, .slice (some ⟨q, 0, none⟩) 1 cap]).run Tryd.prog w = .ok v' w' ∧ OwS w' v' (ce ++ [⟨k, [], nm, f⟩]) F' ∧ Inb B w' F' ∧ w.grownBy w' ve.ownBlock ∧ ∀ x ∈ F', x ∈ F ∨ x = z ∨ x = w.heap.size := by
  obtain ⟨v', w', F', h1, h2, h3, h4, h5, h6⟩ := h.append el34 Qs.lives hi (d := [⟨k, [], nm, f⟩]) (G := [z]) (ys := [Value.int .i64 k, .slice (some ⟨z, 0, none⟩) 0 0, .string (Pl.ba nm), .int .i64 f.k, .int .i64 f.a, .int .i64 f.b, .string (Pl.ba f.nm)]) (RowQ.one ⟨_, rfl, hz⟩) (fun b hb => by simp at hb; subst hb; exact hzB) (by simp) (fun x hx => by simp at hx; subst hx; exact hzF) rfl (b := q) (off := 0) (cap := cap) hc (fun u hu => by
    simp only [List.mem_cons, List.not_mem_nil, or_false] at hu
    rcases hu with rfl | rfl | rfl | rfl | rfl | rfl | rfl <;> rfl) hbd hB ty
  exact ⟨v', w', F', h1, h2, h3, h4, fun x hx => by rcases h6 x hx with h | h | h; exact .inl h; simp at h; exact .inr (.inl h); exact .inr (.inr h)⟩
theorem exec_f63_0 {o : Oper} {a : Act} (x : Operand) (b : Nat) (ho : o.op = Op.fieldAddr 63 x 0) (hx : a.eval x = .pointer (some ⟨b, 0, none⟩)) (w : World) : (execOp a.eval o).run Tryd.prog w = .ok (.value (.pointer (some ⟨b, 0, none⟩))) w := by
  simp only [execOp, ho, hx]
  go_simp
theorem exec_load34 {o : Oper} {a : Act} (x : Operand) (b j : Nat) (ao : Option Addr) (n cap : Nat) (w : World) (ho : o.op = Op.load 34 x) (hx : a.eval x = .pointer (some ⟨b, j, none⟩)) (d : w.cell? ⟨b, j, none⟩ = some (.slice ao n cap)) : (execOp a.eval o).run Tryd.prog w = .ok (.value (.slice ao n cap)) w := by
  simp only [execOp, ho, hx]
  go_simp
theorem exec_app34 {o : Oper} {a : Act} (x y : Operand) (v u r : Value) (w w' : World) (ho : o.op = Op.call { callee := .builtin .append, args := #[x, y], argTypes := #[34, 34] }) (hx : a.eval x = v) (hy : a.eval y = u) (hr : (Builtin.append_ #[34, 34] o.type #[v, u]).run Tryd.prog w = .ok r w') : (execOp a.eval o).run Tryd.prog w = .ok (.value r) w' := by
  simp [execOp, ho, hx, hy, resolve, invoke, builtin, hr, Result.andThen]
theorem exec_bs77 {o : Oper} {a : Act} (ho : o.op = Op.buildSlice 77 0 #[]) (w : World) : (execOp a.eval o).run Tryd.prog w = .ok (.value (.slice (some ⟨w.heap.size, 0, none⟩) 0 0)) (w.alloc (.cells #[] 3)) := by
  simp [execOp, ho]
  go_simp
theorem exec_build81 {o : Oper} {a : Act} (c x y : Operand) (z : Nat) (k fk fa fb : Int) (fn : ByteArray) (ho : o.op = Op.build 81 #[(0, c), (1, x), (3, y)]) (hc : a.eval c = .int .i64 k) (hx : a.eval x = .slice (some ⟨z, 0, none⟩) 0 0) (hy : a.eval y = .agg #[.int .i64 fk, .int .i64 fa, .int .i64 fb, .string fn]) (w : World) : (execOp a.eval o).run Tryd.prog w = .ok (.value (.agg #[.int .i64 k, .slice (some ⟨z, 0, none⟩) 0 0, .string ⟨#[]⟩, .int .i64 fk, .int .i64 fa, .int .i64 fb, .string fn])) w := by
  simp [execOp, ho, hc, hx, hy]
  go_simp
theorem exec_bs34 {o : Oper} {a : Act} (x : Operand) (z : Nat) (k fk fa fb : Int) (fn : ByteArray) (ho : o.op = Op.buildSlice 34 1 #[(0, x)]) (hx : a.eval x = .agg #[.int .i64 k, .slice (some ⟨z, 0, none⟩) 0 0, .string ⟨#[]⟩, .int .i64 fk, .int .i64 fa, .int .i64 fb, .string fn]) (w : World) : (execOp a.eval o).run Tryd.prog w = .ok (.value (.slice (some ⟨w.heap.size, 0, none⟩) 1 1)) (w.alloc (.cells #[.int .i64 k, .slice (some ⟨z, 0, none⟩) 0 0, .string ⟨#[]⟩, .int .i64 fk, .int .i64 fa, .int .i64 fb, .string fn] 81)) := by
  simp [execOp, ho, hx]
  go_simp
theorem exec_bs34' {o : Oper} {a : Act} (x : Operand) (z q : Nat) (k fk fa fb : Int) (fn : ByteArray) (ho : o.op = Op.buildSlice 34 1 #[(0, x)]) (hx : a.eval x = .agg #[.int .i64 k, .slice (some ⟨z, 0, none⟩) 0 0, .string ⟨#[]⟩, .int .i64 fk, .int .i64 fa, .int .i64 fb, .string fn]) (w : World) (hq : q = w.heap.size) : (execOp a.eval o).run Tryd.prog w = .ok (.value (.slice (some ⟨q, 0, none⟩) 1 1)) (w.alloc (.cells #[.int .i64 k, .slice (some ⟨z, 0, none⟩) 0 0, .string ⟨#[]⟩, .int .i64 fk, .int .i64 fa, .int .i64 fb, .string fn] 81)) := by
  subst hq
  exact exec_bs34 x z k fk fa fb fn ho hx w
theorem exec_store34 {o : Oper} {a : Act} (x y : Operand) (b j : Nat) (u : Value) (ao : Option Addr) (n cap : Nat) (w : World) (ho : o.op = Op.store 34 x y) (hx : a.eval x = .pointer (some ⟨b, j, none⟩)) (hy : a.eval y = .slice ao n cap) (d : w.cell? ⟨b, j, none⟩ = some u) (hf : w.frozen? ⟨b, j, none⟩ = false) : (execOp a.eval o).run Tryd.prog w = .ok .skip (w.setCell ⟨b, j, none⟩ (.slice ao n cap)) := by
  simp only [execOp, ho, hx, hy]
  go_simp
/-- two may come next -/
theorem step_two {P : Program} {md : Region.Mode} {ops : Array Oper} {Q : Exit → Act → World → Prop} {S : World → Prop} {fuel : Nat} {listed : Array Bool} {i j : Nat} {o o2 : Oper} {a : Act} {w w' w2 : World} (hr : Region.ready md ops listed = [i, j]) (ho : ops[i]? = some o) (hg : o.guard = none) (v : Value) (h : (execOp a.eval o).run P w = .ok (.value v) w') (hS : S w')
    (ho2 : ops[j]? = some o2) (hg2 : o2.guard = none) (v2 : Value) (h2 : (execOp a.eval o2).run P w = .ok (.value v2) w2) (hS2 : S w2)
    (hN : wpAnyH P md ops Q S fuel (listed.setIfInBounds i true) (a.put o.dst v) w') (hN2 : wpAnyH P md ops Q S fuel (listed.setIfInBounds j true) (a.put o2.dst v2) w2) : wpAnyH P md ops Q S (fuel + 1) listed a w :=
  wpAnyH_ready hr (by simp) (AllReadyH.cons ho (fun K hK => ready_val hg v h (hK.out _ _ hS (fun _ => hN))) (AllReadyH.cons ho2 (fun K hK => ready_val hg2 v2 h2 (hK.out _ _ hS2 (fun _ => hN2))) AllReadyH.nil))
/-- what region 10 of l3Expr reads -/
structure Sx (s p3 p6 p7 : Nat) (W : World) (ae al : Option Addr) (ne nl ce cl : Nat) (f : Pl.Fq) : Prop where
  c3 : W.cell? ⟨p3, 0, none⟩ = some (.slice ae ne ce)
  c7 : W.cell? ⟨p7, 0, none⟩ = some (.slice al nl cl)
  f0 : W.cell? ⟨p6, 0, none⟩ = some (.int .i64 f.1)
  f1 : W.cell? ⟨p6, 1, none⟩ = some (.int .i64 f.2.1)
  f2 : W.cell? ⟨p6, 2, none⟩ = some (.int .i64 f.2.2.1)
  f3 : W.cell? ⟨p6, 3, none⟩ = some (.string f.2.2.2)
  l3 : p3 < W.heap.size
  l6 : p6 < W.heap.size
  l7 : p7 < W.heap.size
theorem Sx.same {s p3 p6 p7 : Nat} {W W' : World} {ae al : Option Addr} {ne nl ce cl : Nat} {f : Pl.Fq} (h : Sx s p3 p6 p7 W ae al ne nl ce cl f) (h3 : W'.heap[p3]? = W.heap[p3]?) (h6 : W'.heap[p6]? = W.heap[p6]?) (h7 : W'.heap[p7]? = W.heap[p7]?) (hs : W.heap.size ≤ W'.heap.size) : Sx s p3 p6 p7 W' ae al ne nl ce cl f :=
  ⟨(World.cell?_of_block (a := ⟨p3, 0, none⟩) h3).trans h.c3, (World.cell?_of_block (a := ⟨p7, 0, none⟩) h7).trans h.c7, (World.cell?_of_block (a := ⟨p6, 0, none⟩) h6).trans h.f0, (World.cell?_of_block (a := ⟨p6, 1, none⟩) h6).trans h.f1, (World.cell?_of_block (a := ⟨p6, 2, none⟩) h6).trans h.f2, (World.cell?_of_block (a := ⟨p6, 3, none⟩) h6).trans h.f3, Nat.lt_of_lt_of_le h.l3 hs, Nat.lt_of_lt_of_le h.l6 hs, Nat.lt_of_lt_of_le h.l7 hs⟩
theorem Sx.alloc {s p3 p6 p7 : Nat} {W : World} {ae al : Option Addr} {ne nl ce cl : Nat} {f : Pl.Fq} (h : Sx s p3 p6 p7 W ae al ne nl ce cl f) (o : Obj) : Sx s p3 p6 p7 (W.alloc o) ae al ne nl ce cl f :=
  h.same (Below.heap_alloc _ _ _ h.l3) (Below.heap_alloc _ _ _ h.l6) (Below.heap_alloc _ _ _ h.l7) (by simp)
theorem Sx.grown {s p3 p6 p7 : Nat} {W W' : World} {ae al : Option Addr} {ne nl ce cl : Nat} {f : Pl.Fq} (h : Sx s p3 p6 p7 W ae al ne nl ce cl f) {r : Option Nat} (hg : W.grownBy W' r) (hr : ∀ b, r = some b → b ≠ p3 ∧ b ≠ p6 ∧ b ≠ p7) : Sx s p3 p6 p7 W' ae al ne nl ce cl f :=
  h.same (hg.block _ h.l3 (fun e => (hr _ e.symm).1 rfl)) (hg.block _ h.l6 (fun e => (hr _ e.symm).2.1 rfl)) (hg.block _ h.l7 (fun e => (hr _ e.symm).2.2 rfl)) hg.size
namespace Pl
/-- the first colon among the first k tokens -/
def fcol (l : List Tok) : Nat → Option Nat
  | 0 => none
  | k + 1 => match fcol l k with
    | some c => some c
    | none => if isV l k ⟨#[58]⟩ = true then some k else none
theorem col_is {l : List Tok} (hl : ∀ t ∈ l, kOk t.k) {k : Nat} (h : k < l.length) : isV l k ⟨#[58]⟩ = true ↔ tkT (tq l k) = .col := by
  have a0 : isV l k ⟨#[58]⟩ = decide (sgTx (tkT (tq l k)) = [58]) := isV_in hl (c := [58]) (by decide) h
  rw [a0]
  cases tkT (tq l k) <;> simp [sgTx]
theorem fcol_spec {l : List Tok} (hl : ∀ t ∈ l, kOk t.k) : ∀ k, k ≤ l.length → match fcol l k with | none => ∀ i, i < k → tkT (tq l i) ≠ .col | some c => c < k ∧ tkT (tq l c) = .col ∧ ∀ i, i < c → tkT (tq l i) ≠ .col
  | 0, _ => by intro i hi; omega
  | k + 1, h => by
    have ih := fcol_spec hl k (by omega)
    rw [fcol]
    cases hf : fcol l k with
    | some c =>
      rw [hf] at ih
      exact ⟨by omega, ih.2⟩
    | none =>
      rw [hf] at ih
      simp only
      by_cases hc : isV l k ⟨#[58]⟩ = true
      · rw [if_pos hc]
        exact ⟨by omega, (col_is hl (by omega)).1 hc, ih⟩
      · rw [if_neg hc]
        intro i hi
        by_cases e : i = k
        · subst e; exact fun h2 => hc ((col_is hl (by omega)).2 h2)
        · exact ih i (by omega)
theorem cutc_no : ∀ a : List T, (∀ t ∈ a, t ≠ .col) → cutc a = none
  | [], _ => rfl
  | t :: a, h => by
    have h1 := h t (by simp)
    have h2 := cutc_no a (fun x hx => h x (by simp [hx]))
    cases t <;> simp_all [cutc]
theorem cutc_at : ∀ (a b : List T), (∀ t ∈ a, t ≠ .col) → cutc (a ++ .col :: b) = some (a, b)
  | [], b, _ => rfl
  | t :: a, b, h => by
    have h1 := h t (by simp)
    have h2 := cutc_at a b (fun x hx => h x (by simp [hx]))
    cases t <;> simp_all [cutc]
theorem mem_tq {l : List Tok} {k : Nat} {t : T} (hk : k ≤ l.length) (h : t ∈ (l.take k).map tkT) : ∃ i, i < k ∧ tkT (tq l i) = t := by
  obtain ⟨x, hx, rfl⟩ := List.mem_map.1 h
  obtain ⟨i, hi, e⟩ := List.mem_iff_getElem.1 hx
  simp at hi
  refine ⟨i, by omega, ?_⟩
  unfold tq
  rw [List.getElem?_eq_getElem (by omega)]
  simp at e
  rw [← e]
  rfl
theorem cutc_T {l : List Tok} (hl : ∀ t ∈ l, kOk t.k) : cutc (l.map tkT) = match fcol l l.length with | none => none | some c => some ((l.take c).map tkT, (l.drop (c + 1)).map tkT) := by
  have h := fcol_spec hl l.length (Nat.le_refl _)
  cases hf : fcol l l.length with
  | none =>
    rw [hf] at h
    simp only
    refine cutc_no _ (fun t ht => ?_)
    obtain ⟨i, hi, e⟩ := mem_tq (Nat.le_refl _) (by rw [List.take_length]; exact ht)
    rw [← e]
    exact h i hi
  | some c =>
    rw [hf] at h
    obtain ⟨h1, h2, h3⟩ := h
    simp only
    have e : l.map tkT = (l.take c).map tkT ++ .col :: (l.drop (c + 1)).map tkT := by
      have : l = l.take c ++ (tq l c :: l.drop (c + 1)) := by
        have hd : l.drop c = tq l c :: l.drop (c + 1) := by
          rw [List.drop_eq_getElem_cons h1]
          unfold tq
          rw [List.getElem?_eq_getElem h1]
          rfl
        rw [← hd, List.take_append_drop]
      have h4 := congrArg (List.map tkT) this
      rw [List.map_append, List.map_cons, h2] at h4
      exact h4
    rw [e]
    refine cutc_at _ _ (fun t ht => ?_)
    obtain ⟨i, hi, e⟩ := mem_tq (by omega) ht
    rw [← e]
    exact h3 i hi
theorem rbd_last (n : Nat) (p : List T) : rbd n [p] = match cutc p with | some _ => none | none => (rexpr n p).map fun e => ([], e) := by
  rw [rbd]
  cases cutc p with
  | some _ => rfl
  | none => cases rexpr n p <;> rfl
theorem rbd_cons (n : Nat) (p q : List T) (ps : List (List T)) : rbd n (p :: q :: ps) = match cutc p with | none => none | some (a, b) => match rexpr n a, rexpr n b, rbd n (q :: ps) with | some x, some y, some (gs, e) => some ((x, y) :: gs, e) | _, _, _ => none := by
  rw [rbd] <;> first | rfl | (intro h; cases h)
def gv (g : E × E) : Gv := ⟨g.1.code, g.2.code⟩
end Pl
/-- l3Body's boxes -/
structure Bo (w : World) (p : Nat) (wr : World) (kd : Int) (nm : ByteArray) (ac : Option Addr) (nc cc : Nat) (ag : Option Addr) (ng cg : Nat) (ok fi : Bool) : Prop where
  b : Below w.heap.size w wr
  r0 : wr.cell? ⟨w.heap.size, 0, none⟩ = some (.int .i64 0)
  r1 : wr.cell? ⟨w.heap.size, 1, none⟩ = some (.string ⟨#[]⟩)
  r2 : wr.cell? ⟨w.heap.size, 2, none⟩ = some (.slice none 0 0)
  r3 : wr.cell? ⟨w.heap.size, 3, none⟩ = some (.slice none 0 0)
  r4 : wr.cell? ⟨w.heap.size, 4, none⟩ = some (.bool false)
  r5 : wr.cell? ⟨w.heap.size, 5, none⟩ = some (.bool false)
  rf : ∀ j, wr.frozen? ⟨w.heap.size, j, none⟩ = false
  ge : w.heap.size < p
  lt : p < wr.heap.size
  c0 : wr.cell? ⟨p, 0, none⟩ = some (.int .i64 kd)
  c1 : wr.cell? ⟨p, 1, none⟩ = some (.string nm)
  c2 : wr.cell? ⟨p, 2, none⟩ = some (.slice ac nc cc)
  c3 : wr.cell? ⟨p, 3, none⟩ = some (.slice ag ng cg)
  c4 : wr.cell? ⟨p, 4, none⟩ = some (.bool ok)
  c5 : wr.cell? ⟨p, 5, none⟩ = some (.bool fi)
  cf : ∀ j, wr.frozen? ⟨p, j, none⟩ = false
section
variable {w : World} {p : Nat} {wr wr' : World} {kd : Int} {nm : ByteArray} {ac : Option Addr} {nc cc : Nat} {ag : Option Addr} {ng cg : Nat} {ok fi : Bool}
theorem Bo.same (h : Bo w p wr kd nm ac nc cc ag ng cg ok fi) (hb : Below w.heap.size w wr') (h1 : wr'.heap[w.heap.size]? = wr.heap[w.heap.size]?) (h2 : wr'.heap[p]? = wr.heap[p]?) (hs : wr.heap.size ≤ wr'.heap.size) : Bo w p wr' kd nm ac nc cc ag ng cg ok fi := by
  have g1 (j : Nat) : wr'.cell? ⟨w.heap.size, j, none⟩ = wr.cell? ⟨w.heap.size, j, none⟩ := World.cell?_of_block h1
  have g2 (j : Nat) : wr'.cell? ⟨p, j, none⟩ = wr.cell? ⟨p, j, none⟩ := World.cell?_of_block h2
  exact ⟨hb, (g1 0).trans h.r0, (g1 1).trans h.r1, (g1 2).trans h.r2, (g1 3).trans h.r3, (g1 4).trans h.r4, (g1 5).trans h.r5, fun j => (World.frozen?_of_block (a := ⟨w.heap.size, j, none⟩) h1).trans (h.rf j), h.ge, Nat.lt_of_lt_of_le h.lt hs, (g2 0).trans h.c0, (g2 1).trans h.c1, (g2 2).trans h.c2, (g2 3).trans h.c3, (g2 4).trans h.c4, (g2 5).trans h.c5, fun j => (World.frozen?_of_block (a := ⟨p, j, none⟩) h2).trans (h.cf j)⟩
theorem Bo.keep (h : Bo w p wr kd nm ac nc cc ag ng cg ok fi) (hb : Below wr.heap.size wr wr') : Bo w p wr' kd nm ac nc cc ag ng cg ok fi :=
  h.same (h.b.trans (hb.mono (by have := h.ge; have := h.lt; omega))) (hb.block _ (by have := h.ge; have := h.lt; omega)) (hb.block _ h.lt) hb.size
theorem Bo.grown (h : Bo w p wr kd nm ac nc cc ag ng cg ok fi) {r : Option Nat} (hg : wr.grownBy wr' r) (hr : ∀ b, r = some b → w.heap.size < b ∧ b ≠ p) : Bo w p wr' kd nm ac nc cc ag ng cg ok fi :=
  h.same (h.b.grown hg (by have := h.ge; have := h.lt; omega) (fun k hk => Nat.le_of_lt (hr k hk).1)) (hg.block _ (by have := h.ge; have := h.lt; omega) (fun e => by have := (hr _ e.symm).1; omega)) (hg.block _ h.lt (fun e => (hr _ e.symm).2 rfl)) hg.size
theorem Bo.put (h : Bo w p wr kd nm ac nc cc ag ng cg ok fi) (j : Nat) (v : Value) : wr.grownBy (wr.setCell ⟨p, j, none⟩ v) (some p) ∧ Below w.heap.size w (wr.setCell ⟨p, j, none⟩ v) ∧ (∀ i, (wr.setCell ⟨p, j, none⟩ v).cell? ⟨w.heap.size, i, none⟩ = wr.cell? ⟨w.heap.size, i, none⟩) ∧ (∀ i, ¬ j = i → (wr.setCell ⟨p, j, none⟩ v).cell? ⟨p, i, none⟩ = wr.cell? ⟨p, i, none⟩) :=
  ⟨grown_one p j v (World.grownBy.refl _ _), h.b.setCell (Nat.le_of_lt h.ge) _, fun i => World.cell?_setCell_far _ _ _ _ (by have := h.ge; show p ≠ w.heap.size; omega), fun i hi => World.cell?_setCell_other _ _ _ _ (by intro e; cases e; exact hi rfl)⟩
theorem Bo.set2 (h : Bo w p wr kd nm ac nc cc ag ng cg ok fi) (ac' : Option Addr) (nc' cc' : Nat) : Bo w p (wr.setCell ⟨p, 2, none⟩ (.slice ac' nc' cc')) kd nm ac' nc' cc' ag ng cg ok fi := by
  obtain ⟨_, hb, g1, g2⟩ := h.put 2 (.slice ac' nc' cc')
  exact ⟨hb, (g1 0).trans h.r0, (g1 1).trans h.r1, (g1 2).trans h.r2, (g1 3).trans h.r3, (g1 4).trans h.r4, (g1 5).trans h.r5, fun j => by rw [World.frozen?_setCell]; exact h.rf j, h.ge, by simpa using h.lt, (g2 0 (by omega)).trans h.c0, (g2 1 (by omega)).trans h.c1, World.cell?_setCell_same _ _ _ h.c2, (g2 3 (by omega)).trans h.c3, (g2 4 (by omega)).trans h.c4, (g2 5 (by omega)).trans h.c5, fun j => by rw [World.frozen?_setCell]; exact h.cf j⟩
theorem Bo.set3 (h : Bo w p wr kd nm ac nc cc ag ng cg ok fi) (ag' : Option Addr) (ng' cg' : Nat) : Bo w p (wr.setCell ⟨p, 3, none⟩ (.slice ag' ng' cg')) kd nm ac nc cc ag' ng' cg' ok fi := by
  obtain ⟨_, hb, g1, g2⟩ := h.put 3 (.slice ag' ng' cg')
  exact ⟨hb, (g1 0).trans h.r0, (g1 1).trans h.r1, (g1 2).trans h.r2, (g1 3).trans h.r3, (g1 4).trans h.r4, (g1 5).trans h.r5, fun j => by rw [World.frozen?_setCell]; exact h.rf j, h.ge, by simpa using h.lt, (g2 0 (by omega)).trans h.c0, (g2 1 (by omega)).trans h.c1, (g2 2 (by omega)).trans h.c2, World.cell?_setCell_same _ _ _ h.c3, (g2 4 (by omega)).trans h.c4, (g2 5 (by omega)).trans h.c5, fun j => by rw [World.frozen?_setCell]; exact h.cf j⟩
theorem Bo.set4 (h : Bo w p wr kd nm ac nc cc ag ng cg ok fi) (ok' : Bool) : Bo w p (wr.setCell ⟨p, 4, none⟩ (.bool ok')) kd nm ac nc cc ag ng cg ok' fi := by
  obtain ⟨_, hb, g1, g2⟩ := h.put 4 (.bool ok')
  exact ⟨hb, (g1 0).trans h.r0, (g1 1).trans h.r1, (g1 2).trans h.r2, (g1 3).trans h.r3, (g1 4).trans h.r4, (g1 5).trans h.r5, fun j => by rw [World.frozen?_setCell]; exact h.rf j, h.ge, by simpa using h.lt, (g2 0 (by omega)).trans h.c0, (g2 1 (by omega)).trans h.c1, (g2 2 (by omega)).trans h.c2, (g2 3 (by omega)).trans h.c3, World.cell?_setCell_same _ _ _ h.c4, (g2 5 (by omega)).trans h.c5, fun j => by rw [World.frozen?_setCell]; exact h.cf j⟩
theorem Bo.set5 (h : Bo w p wr kd nm ac nc cc ag ng cg ok fi) (fi' : Bool) : Bo w p (wr.setCell ⟨p, 5, none⟩ (.bool fi')) kd nm ac nc cc ag ng cg ok fi' := by
  obtain ⟨_, hb, g1, g2⟩ := h.put 5 (.bool fi')
  exact ⟨hb, (g1 0).trans h.r0, (g1 1).trans h.r1, (g1 2).trans h.r2, (g1 3).trans h.r3, (g1 4).trans h.r4, (g1 5).trans h.r5, fun j => by rw [World.frozen?_setCell]; exact h.rf j, h.ge, by simpa using h.lt, (g2 0 (by omega)).trans h.c0, (g2 1 (by omega)).trans h.c1, (g2 2 (by omega)).trans h.c2, (g2 3 (by omega)).trans h.c3, (g2 4 (by omega)).trans h.c4, World.cell?_setCell_same _ _ _ h.c5, fun j => by rw [World.frozen?_setCell]; exact h.cf j⟩
end
/-- six cells are put down -/
theorem grown_box6 (w : World) (p : Nat) (v0 v1 v2 v3 v4 v5 : Value) : w.grownBy ((((((w.setCell ⟨p, 0, none⟩ v0).setCell ⟨p, 1, none⟩ v1).setCell ⟨p, 2, none⟩ v2).setCell ⟨p, 3, none⟩ v3).setCell ⟨p, 4, none⟩ v4).setCell ⟨p, 5, none⟩ v5) (some p) :=
  grown_one p 5 _ (grown_one p 4 _ (grown_one p 3 _ (grown_one p 2 _ (grown_one p 1 _ (grown_one p 0 _ (World.grownBy.refl w _))))))
/-- guards of which nothing is known -/
def Qx (w : World) (x : List Value) (a : Unit) (f : List Nat) : Prop := (∃ a1 n1 c1 a2 n2 c2, x = [.slice a1 n1 c1, .slice a2 n2 c2]) ∧ f = []
theorem Qx.lives : Lives Qx := ⟨fun _ _ _ _ _ h _ => h⟩
theorem RowQ.forget {w : World} : ∀ {xs : List Value} {c : List Pl.Gv} {F : List Nat}, RowQ Qg w xs c F → RowQ Qx w xs (c.map fun _ => ()) []
  | xs, [], F, h => ⟨h.1, rfl⟩
  | xs, a :: c, F, h => by
    obtain ⟨x, xs', f, F', rfl, rfl, h1, h2⟩ := h
    obtain ⟨v1, v2, f1, f2, rfl, _, k1, k2⟩ := h1
    obtain ⟨a1, c1, rfl⟩ := k1.slice
    obtain ⟨a2, c2, rfl⟩ := k2.slice
    exact ⟨_, xs', [], [], rfl, rfl, ⟨⟨_, _, _, _, _, _, rfl⟩, rfl⟩, h2.forget⟩
theorem Own.forget {w : World} {v : Value} {c : List Pl.Gv} {F : List Nat} (h : OwG w v c F) : ∃ F', Own 84 2 Qx w v (c.map fun _ => ()) F' ∧ ∀ b ∈ F', b ∈ F := by
  obtain ⟨xs, fp, rfl, ho, hq, hn⟩ := h
  refine ⟨v.ownBlock.toList, ⟨xs, [], by simp, by rw [List.length_map]; exact ho, hq.forget, ?_⟩, fun b hb => List.mem_append_left _ hb⟩
  rw [List.nodup_append] at hn
  exact hn.1
/-- a function as a value -/
def agF (f : Pl.Fq) : Value := .agg #[.int .i64 f.1, .int .i64 f.2.1, .int .i64 f.2.2.1, .string f.2.2.2]
/-- l3Func's boxes -/
structure Fx (w X : World) (s : Nat) : Prop where
  b : Below s w X
  sz : s + 3 ≤ X.heap.size
  a0 : X.cell? ⟨s, 0, none⟩ = some (.int .i64 0)
  a1 : X.cell? ⟨s, 1, none⟩ = some (.int .i64 0)
  a2 : X.cell? ⟨s, 2, none⟩ = some (.int .i64 0)
  a3 : X.cell? ⟨s, 3, none⟩ = some (.string ⟨#[]⟩)
  b0 : X.cell? ⟨s + 1, 0, none⟩ = some (.int .i64 0)
  b1 : X.cell? ⟨s + 1, 1, none⟩ = some (.int .i64 0)
  b2 : X.cell? ⟨s + 1, 2, none⟩ = some (.int .i64 0)
  b3 : X.cell? ⟨s + 1, 3, none⟩ = some (.string ⟨#[]⟩)
  n0 : X.cell? ⟨s + 2, 0, none⟩ = some (.int .i64 0)
  n1 : X.cell? ⟨s + 2, 1, none⟩ = some (.int .i64 0)
  n2 : X.cell? ⟨s + 2, 2, none⟩ = some (.int .i64 0)
  n3 : X.cell? ⟨s + 2, 3, none⟩ = some (.string ⟨#[]⟩)
  fa : ∀ j, X.frozen? ⟨s, j, none⟩ = false
  fb : ∀ j, X.frozen? ⟨s + 1, j, none⟩ = false
theorem Fx.keep {w X X' : World} {s : Nat} (h : Fx w X s) (hb : Below X.heap.size X X') : Fx w X' s := by
  have z := h.sz
  exact ⟨h.b.trans (hb.mono (by omega)), Nat.le_trans h.sz hb.size, bcell hb (by omega) h.a0, bcell hb (by omega) h.a1, bcell hb (by omega) h.a2, bcell hb (by omega) h.a3, bcell hb (by omega) h.b0, bcell hb (by omega) h.b1, bcell hb (by omega) h.b2, bcell hb (by omega) h.b3,
    bcell hb (by omega) h.n0, bcell hb (by omega) h.n1, bcell hb (by omega) h.n2, bcell hb (by omega) h.n3, fun j => bfroz hb (by omega) (h.fa j), fun j => bfroz hb (by omega) (h.fb j)⟩
theorem Fx.drew {w X : World} {s : Nat} (h : Fx w X s) : Fx w X.drew s := h.keep ((Below.refl _ _).drew)
theorem Pl.isV_tx {l : List Pl.Tok} {k : Nat} {c : ByteArray} (hk : k < l.length) (h : Pl.isV l k c = true) : (Pl.tq l k).tx = c := by
  unfold Pl.isV at h
  rw [if_pos (by omega), show ((k : Int)).toNat = k by omega, List.getElem?_eq_getElem hk] at h
  unfold Pl.tq
  rw [List.getElem?_eq_getElem hk]
  simp at h
  exact h.2
/-- l3Func's boxes with the token -/
structure Fy (w X : World) (s q : Nat) (t : Pl.Tok) : Prop where
  fx : Fx w X s
  ge : s + 3 ≤ q
  lt : q < X.heap.size
  c0 : X.cell? ⟨q, 0, none⟩ = some (.int .u8 t.k)
  c1 : X.cell? ⟨q, 1, none⟩ = some (.string t.tx)
  c2 : X.cell? ⟨q, 2, none⟩ = some (.int .i64 t.v)
  c3 : X.cell? ⟨q, 3, none⟩ = some (.int .i64 t.pos)
theorem Fy.keep {w X X' : World} {s q : Nat} {t : Pl.Tok} (h : Fy w X s q t) (hb : Below X.heap.size X X') : Fy w X' s q t :=
  ⟨h.fx.keep hb, h.ge, Nat.lt_of_lt_of_le h.lt hb.size, bcell hb h.lt h.c0, bcell hb h.lt h.c1, bcell hb h.lt h.c2, bcell hb h.lt h.c3⟩
theorem Fy.drew {w X : World} {s q : Nat} {t : Pl.Tok} (h : Fy w X s q t) : Fy w X.drew s q t := h.keep ((Below.refl _ _).drew)
theorem Fx.put {w X : World} {s : Nat} (h : Fx w X s) (t : Pl.Tok) : Fy w (X.alloc (.cells #[.int .u8 t.k, .string t.tx, .int .i64 t.v, .int .i64 t.pos] 31)) s X.heap.size t :=
  ⟨h.keep ((Below.refl _ _).alloc (Nat.le_refl _) _), h.sz, by simp, by simp [go_sem], by simp [go_sem], by simp [go_sem], by simp [go_sem]⟩
/-- both results are put down -/
theorem Fx.res {w X : World} {s : Nat} (h : Fx w X s) (f g : Pl.Fq) (Y : World)
    (hY : Y = ((((((((X.setCell ⟨s, 0, none⟩ (.int .i64 f.1)).setCell ⟨s, 1, none⟩ (.int .i64 f.2.1)).setCell ⟨s, 2, none⟩ (.int .i64 f.2.2.1)).setCell ⟨s, 3, none⟩ (.string f.2.2.2)).setCell ⟨s + 1, 0, none⟩ (.int .i64 g.1)).setCell ⟨s + 1, 1, none⟩ (.int .i64 g.2.1)).setCell ⟨s + 1, 2, none⟩ (.int .i64 g.2.2.1)).setCell ⟨s + 1, 3, none⟩ (.string g.2.2.2))) :
    Below s w Y ∧ Y.cell? ⟨s, 0, none⟩ = some (.int .i64 f.1) ∧ Y.cell? ⟨s, 1, none⟩ = some (.int .i64 f.2.1) ∧ Y.cell? ⟨s, 2, none⟩ = some (.int .i64 f.2.2.1) ∧ Y.cell? ⟨s, 3, none⟩ = some (.string f.2.2.2) ∧ Y.cell? ⟨s + 1, 0, none⟩ = some (.int .i64 g.1) ∧ Y.cell? ⟨s + 1, 1, none⟩ = some (.int .i64 g.2.1) ∧ Y.cell? ⟨s + 1, 2, none⟩ = some (.int .i64 g.2.2.1) ∧ Y.cell? ⟨s + 1, 3, none⟩ = some (.string g.2.2.2) := by
  subst hY
  obtain ⟨hb, _, a0, a1, a2, a3, b0, b1, b2, b3, _⟩ := h
  refine ⟨(((((((hb.setCell (Nat.le_refl _) _).setCell (Nat.le_refl _) _).setCell (Nat.le_refl _) _).setCell (Nat.le_refl _) _).setCell (Nat.le_succ _) _).setCell (Nat.le_succ _) _).setCell (Nat.le_succ _) _).setCell (Nat.le_succ _) _, ?_, ?_, ?_, ?_, ?_, ?_, ?_, ?_⟩ <;> simp [go_sem, a0, a1, a2, a3, b0, b1, b2, b3]
/-- what the drawn returns read -/
structure Fs (w X : World) (s : Nat) : Prop where
  b : Below s w X
  n0 : X.cell? ⟨s + 2, 0, none⟩ = some (.int .i64 0)
  n1 : X.cell? ⟨s + 2, 1, none⟩ = some (.int .i64 0)
  n2 : X.cell? ⟨s + 2, 2, none⟩ = some (.int .i64 0)
  n3 : X.cell? ⟨s + 2, 3, none⟩ = some (.string ⟨#[]⟩)
theorem Fx.fs {w X : World} {s : Nat} (h : Fx w X s) : Fs w X s := ⟨h.b, h.n0, h.n1, h.n2, h.n3⟩
theorem Fs.set {w X : World} {s : Nat} (h : Fs w X s) (p : Nat) (hp : p = s ∨ p = s + 1) (j : Nat) (v : Value) : Fs w (X.setCell ⟨p, j, none⟩ v) s := by
  have g (q : Nat) : (X.setCell ⟨p, j, none⟩ v).cell? ⟨s + 2, q, none⟩ = X.cell? ⟨s + 2, q, none⟩ := World.cell?_setCell_far _ _ _ _ (by simp; omega)
  exact ⟨h.b.setCell (by simp; omega) _, (g 0).trans h.n0, (g 1).trans h.n1, (g 2).trans h.n2, (g 3).trans h.n3⟩
theorem Fs.set4 {w X : World} {s : Nat} (h : Fs w X s) (p : Nat) (hp : p = s ∨ p = s + 1) (v0 v1 v2 v3 : Value) : Fs w ((((X.setCell ⟨p, 0, none⟩ v0).setCell ⟨p, 1, none⟩ v1).setCell ⟨p, 2, none⟩ v2).setCell ⟨p, 3, none⟩ v3) s := (((h.set p hp 0 v0).set p hp 1 v1).set p hp 2 v2).set p hp 3 v3
structure Ft (w X : World) (s q : Nat) (t : Pl.Tok) : Prop where
  fs : Fs w X s
  ge : s + 3 ≤ q
  c0 : X.cell? ⟨q, 0, none⟩ = some (.int .u8 t.k)
  c1 : X.cell? ⟨q, 1, none⟩ = some (.string t.tx)
  c2 : X.cell? ⟨q, 2, none⟩ = some (.int .i64 t.v)
  c3 : X.cell? ⟨q, 3, none⟩ = some (.int .i64 t.pos)
theorem Ft.set {w X : World} {s q : Nat} {t : Pl.Tok} (h : Ft w X s q t) (p : Nat) (hp : p = s ∨ p = s + 1) (j : Nat) (v : Value) : Ft w (X.setCell ⟨p, j, none⟩ v) s q t := by
  have hg := h.ge
  have g (i : Nat) : (X.setCell ⟨p, j, none⟩ v).cell? ⟨q, i, none⟩ = X.cell? ⟨q, i, none⟩ := World.cell?_setCell_far _ _ _ _ (by simp; omega)
  exact ⟨h.fs.set p hp j v, h.ge, (g 0).trans h.c0, (g 1).trans h.c1, (g 2).trans h.c2, (g 3).trans h.c3⟩
theorem Ft.set4 {w X : World} {s q : Nat} {t : Pl.Tok} (h : Ft w X s q t) (p : Nat) (hp : p = s ∨ p = s + 1) (v0 v1 v2 v3 : Value) : Ft w ((((X.setCell ⟨p, 0, none⟩ v0).setCell ⟨p, 1, none⟩ v1).setCell ⟨p, 2, none⟩ v2).setCell ⟨p, 3, none⟩ v3) s q t := (((h.set p hp 0 v0).set p hp 1 v1).set p hp 2 v2).set p hp 3 v3
/-- behind the first store, what the second asks -/
theorem Fx.half {w X : World} {s : Nat} (h : Fx w X s) (v0 v1 v2 v3 : Value) (Y : World) (hY : Y = ((((X.setCell ⟨s, 0, none⟩ v0).setCell ⟨s, 1, none⟩ v1).setCell ⟨s, 2, none⟩ v2).setCell ⟨s, 3, none⟩ v3)) : Y.cell? ⟨s + 1, 0, none⟩ = some (.int .i64 0) ∧ Y.cell? ⟨s + 1, 1, none⟩ = some (.int .i64 0) ∧ Y.cell? ⟨s + 1, 2, none⟩ = some (.int .i64 0) ∧ Y.cell? ⟨s + 1, 3, none⟩ = some (.string ⟨#[]⟩) ∧ ∀ j, Y.frozen? ⟨s + 1, j, none⟩ = false := by
  subst hY
  refine ⟨by simp [go_sem, h.b0], by simp [go_sem, h.b1], by simp [go_sem, h.b2], by simp [go_sem, h.b3], fun j => by simp [go_sem, h.fb]⟩
mutual
theorem Pl.E.code_ne : ∀ e : Pl.E, e.code ≠ []
  | .opd o => Pl.O.code_ne o
  | .one f e => by simp [Pl.E.code]
  | .two o f e => by simp [Pl.E.code]
theorem Pl.O.code_ne : ∀ o : Pl.O, o.code ≠ []
  | .nums _ _ => by simp [Pl.O.code]
  | .name _ => by simp [Pl.O.code]
  | .br e => Pl.E.code_ne e
end
/-- the contract of l3Func -/
def HF41 : Prop := ∀ (l : List Pl.Tok) (ao : Option Addr) (cap : Nat) (hi : Nat) (w : World), l.length ≤ 1048576 → 1 ≤ hi → hi ≤ l.length → (∀ t ∈ l, Pl.kOk t.k) → RdK w.heap.size w ao l →
    Calls Tryd.prog 41 #[.slice ao l.length cap, .int .i64 hi] w fun e w' => e = .returned (.tuple #[.int .i64 (Pl.fnR (Pl.rfun (Pl.rv l hi))).1, agF (Pl.fnR (Pl.rfun (Pl.rv l hi))).2.1, agF (Pl.fnR (Pl.rfun (Pl.rv l hi))).2.2]) ∧ Below w.heap.size w w'
/-- how far l3Expr is: what the rest of the loop makes of it -/
def Far (l : List Pl.Tok) (N : Nat) (R : Option Pl.E) (e : Pl.E) (fr : Nat) : Prop := ∃ m, R = Pl.rloop m e (Pl.rv l fr) ∧ 2 * fr + 1 ≤ m ∧ m ≤ N ∧ e.wf ∧ e.toks.length + fr = l.length
theorem Far.code {l : List Pl.Tok} {N : Nat} {R : Option Pl.E} {e : Pl.E} {fr : Nat} (h : Far l N R e fr) : e.code.length + fr ≤ l.length ∧ e.nest + fr ≤ l.length := by
  obtain ⟨m, _, _, _, hw, hl⟩ := h
  have := e.code_len hw
  have := e.nest_len
  omega
theorem Far.done {l : List Pl.Tok} {N : Nat} {R : Option Pl.E} {e : Pl.E} (h : Far l N R e 0) : R = some e := by
  obtain ⟨m, rfl, hm, _⟩ := h
  obtain ⟨k, rfl⟩ : ∃ k, m = k + 1 := ⟨m - 1, by omega⟩
  rw [Pl.rv_zero, Pl.rloop, if_pos rfl]
theorem Pl.rv_ne {l : List Pl.Tok} {k : Nat} (h : k < l.length) : ¬ Pl.rv l (k + 1) = [] := by rw [Pl.rv_succ h]; simp
theorem Far.fail {l : List Pl.Tok} {N : Nat} {R : Option Pl.E} {e : Pl.E} {fr : Nat} (h : Far l N R e (fr + 1)) (hf : Pl.rfun (Pl.rv l (fr + 1)) = none) : R = none := by
  obtain ⟨m, rfl, hm, _, hw, hl⟩ := h
  obtain ⟨k, rfl⟩ : ∃ k, m = k + 1 := ⟨m - 1, by omega⟩
  rw [Pl.rloop, if_neg (Pl.rv_ne (by omega)), hf]
theorem Far.one {l : List Pl.Tok} {N : Nat} {R : Option Pl.E} {e : Pl.E} {fr : Nat} {f : Pl.F} {r : List Pl.T} (h : Far l N R e (fr + 1)) (hf : Pl.rfun (Pl.rv l (fr + 1)) = some (f, r)) (he : Pl.ends r = false) : (f.one.k = 0 → R = none) ∧ (¬ f.one.k = 0 → Far l N R (.one f e) r.length) := by
  obtain ⟨m, rfl, hm, hmN, hw, hl⟩ := h
  obtain ⟨k, rfl⟩ : ∃ k, m = k + 1 := ⟨m - 1, by omega⟩
  obtain ⟨h1, h2⟩ := Pl.rfun_at (by omega) hf
  rw [Pl.rloop, if_neg (Pl.rv_ne (by omega)), hf]
  simp only [he]
  refine ⟨fun h => by rw [if_pos h]; rfl, fun h => ?_⟩
  have hb := Pl.bad_one h
  have hs := Pl.rfun_sound hf hb
  have hlen := congrArg List.length hs.1
  rw [Pl.rv_len (by omega)] at hlen
  simp at hlen
  refine ⟨k, ?_, by omega, by omega, ⟨hs.2, h, hw⟩, ?_⟩
  · rw [if_neg h, ← h1]; rfl
  · rw [Pl.E.toks, List.length_append]; omega
theorem Far.two {l : List Pl.Tok} {N : Nat} {R : Option Pl.E} {e : Pl.E} {fr : Nat} {f : Pl.F} {r : List Pl.T} (h : Far l N R e (fr + 1)) (hf : Pl.rfun (Pl.rv l (fr + 1)) = some (f, r)) (he : Pl.ends r = true) : ∃ k, 2 * r.length ≤ k + 1 ∧ k + 1 < N ∧ (Pl.ropnd (k + 1) (Pl.rv l r.length) = none → R = none) ∧ (f.two.k = 0 → R = none) ∧ (∀ o r2, Pl.ropnd (k + 1) (Pl.rv l r.length) = some (o, r2) → ¬ f.two.k = 0 → Far l N R (.two o f e) r2.length ∧ o.code.length ≤ 1 + l.length ∧ o.code ≠ [] ∧ o.nest ≤ l.length ∧ r2.length < fr + 1) := by
  obtain ⟨m, rfl, hm, hmN, hw, hl⟩ := h
  obtain ⟨k, rfl⟩ : ∃ k, m = k + 1 + 1 := ⟨m - 2, by omega⟩
  obtain ⟨h1, h2⟩ := Pl.rfun_at (by omega) hf
  refine ⟨k, by omega, by omega, ?_⟩
  have hr : Pl.rloop (k + 1 + 1) e (Pl.rv l (fr + 1)) = match Pl.ropnd (k + 1) r with | none => none | some (o, r2) => if f.two.k = 0 then none else Pl.rloop (k + 1) (.two o f e) r2 := by
    rw [Pl.rloop, if_neg (Pl.rv_ne (by omega)), hf]
    simp only [he]
    rfl
  rw [hr, ← h1]
  refine ⟨fun h => by rw [h], fun h => ?_, fun o r2 ho h => ?_⟩
  · cases Pl.ropnd (k + 1) r with
    | none => rfl
    | some q => simp only; rw [if_pos h]
  · have ho' := ho
    rw [h1] at ho'
    obtain ⟨h3, h4, h5⟩ := Pl.ropnd_at (by omega) ho'
    have hb := Pl.bad_two h
    have hs := Pl.rfun_sound hf hb
    have hlen := congrArg List.length hs.1
    rw [Pl.rv_len (by omega)] at hlen
    simp at hlen
    have hc := o.code_len h5
    have hn := o.nest_len
    refine ⟨⟨k + 1, ?_, by omega, by omega, ⟨h5, hs.2, h, hw⟩, ?_⟩, by omega, ?_, by omega, by omega⟩
    · rw [ho]
      simp only
      rw [if_neg h, ← h3]
    · rw [Pl.E.toks, List.length_append, List.length_append]; omega
    · exact o.code_ne
/-- a step without a name, in cells -/
abbrev recF (k : Int) (z : Nat) (f : Pl.Fnv) : List Value := [.int .i64 k, .slice (some ⟨z, 0, none⟩) 0 0, .string ⟨#[]⟩, .int .i64 f.k, .int .i64 f.a, .int .i64 f.b, .string (Pl.ba f.nm)]
abbrev objF (k : Int) (z : Nat) (f : Pl.Fnv) : Obj := .cells #[.int .i64 k, .slice (some ⟨z, 0, none⟩) 0 0, .string ⟨#[]⟩, .int .i64 f.k, .int .i64 f.a, .int .i64 f.b, .string (Pl.ba f.nm)] 81
/-- ready for the last append of a round -/
structure R9 (s : Nat) (X : World) (va : Value) (c : List Pl.Sv) (Fa : List Nat) (z q : Nat) (k : Int) (f : Pl.Fnv) : Prop where
  o : OwS X va c Fa
  i : Inb (s + 1) X Fa
  z1 : Own 3 1 Qi X (.slice (some ⟨z, 0, none⟩) 0 0) [] [z]
  zn : z ∉ Fa
  zb : s + 1 ≤ z ∧ z < X.heap.size
  rc : ∀ j u, (recF k z f)[j]? = some u → X.cell? ⟨q, 0 + j, none⟩ = some u
section
variable {s : Nat} {W0 : World} {ve : Value} {ce cl : List Pl.Sv} {F G : List Nat} {al : Option Addr} {capl : Nat}
theorem R9.p1 (hE : OwS W0 ve ce F) (iE : Inb (s + 1) W0 F) (hL : OwS W0 (.slice al cl.length capl) cl G) (iL : Inb (s + 1) W0 G) (hne : cl ≠ []) (hd : ∀ x ∈ G, x ∉ F) (hbd : ce.length + cl.length ≤ 16777216) (hs : s + 1 ≤ W0.heap.size) (ty : TypeId) (f : Pl.Fnv) :
    ∃ va Wa Fa, (Builtin.append_ #[34, 34] ty #[ve, .slice al cl.length capl]).run Tryd.prog W0 = .ok va Wa ∧ W0.grownBy Wa ve.ownBlock ∧ (∀ x ∈ Fa, x ∈ F ∨ x ∈ G ∨ W0.heap.size ≤ x) ∧ R9 s ((Wa.alloc (.cells #[] 3)).alloc (objF 4 Wa.heap.size f)) va (ce ++ cl) Fa Wa.heap.size (Wa.heap.size + 1) 4 f := by
  obtain ⟨va, Wa, Fa, h1, h2, h3, h4, h5⟩ := hE.join iE hL iL hne hd hbd hs ty
  have hb : Below Wa.heap.size Wa ((Wa.alloc (.cells #[] 3)).alloc (objF 4 Wa.heap.size f)) := ((Below.refl _ _).alloc (Nat.le_refl _) _).alloc (by simp) _
  have hsz := h4.size
  refine ⟨va, Wa, Fa, h1, h4, fun x hx => by rcases h5 x hx with h | h | h; exact .inl h; exact .inr (.inl h); exact .inr (.inr (by omega)), ⟨h2.below Qs.lives h3 hb (Nat.le_refl _), h3.up (Nat.le_refl _) hb.size, ?_, fun hm => by have := (h3 _ hm).2; omega, ⟨by omega, by simp; omega⟩, fun j u hu => ?_⟩⟩
  · exact (Own.emp Wa Wa.heap.size rfl).below (B := 0) (C := Wa.heap.size + 1) Qi.lives (fun b hb => by simp at hb; subst hb; simp) ((Below.refl _ _).alloc (by simp) _) (by simp)
  · exact cells_new (l := recF 4 Wa.heap.size f) (by simp) j u hu
theorem R9.p2 (hE : OwS W0 ve ce F) (iE : Inb (s + 1) W0 F) (hL : OwS W0 (.slice al cl.length capl) cl G) (iL : Inb (s + 1) W0 G) (hne : cl ≠ []) (hd : ∀ x ∈ G, x ∉ F) (hbd : ce.length + cl.length ≤ 16777216) (hs : s + 1 ≤ W0.heap.size) (ty : TypeId) (f : Pl.Fnv) :
    ∃ va Wa Fa, (Builtin.append_ #[34, 34] ty #[ve, .slice al cl.length capl]).run Tryd.prog (W0.alloc (.cells #[] 3)) = .ok va Wa ∧ (W0.alloc (.cells #[] 3)).grownBy Wa ve.ownBlock ∧ (∀ x ∈ Fa, x ∈ F ∨ x ∈ G ∨ W0.heap.size ≤ x) ∧ R9 s (Wa.alloc (objF 4 W0.heap.size f)) va (ce ++ cl) Fa W0.heap.size Wa.heap.size 4 f := by
  have hb0 : Below W0.heap.size W0 (W0.alloc (.cells #[] 3)) := (Below.refl _ _).alloc (Nat.le_refl _) _
  obtain ⟨va, Wa, Fa, h1, h2, h3, h4, h5⟩ := OwS.join (hE.below Qs.lives iE hb0 (Nat.le_refl _)) (iE.up (Nat.le_refl _) hb0.size) (hL.below Qs.lives iL hb0 (Nat.le_refl _)) (iL.up (Nat.le_refl _) hb0.size) hne hd hbd (by simp; omega) ty
  have hb : Below Wa.heap.size Wa (Wa.alloc (objF 4 W0.heap.size f)) := (Below.refl _ _).alloc (Nat.le_refl _) _
  have hsz := h4.size
  simp at hsz h5
  have hown : ∀ b, ve.ownBlock = some b → b ∈ F := fun b hb => (hE.lt b hb).1
  have hzn : W0.heap.size ∉ Fa := fun hm => by
    rcases h5 _ hm with h | h | h
    · have := (iE _ h).2; omega
    · have := (iL _ h).2; omega
    · omega
  refine ⟨va, Wa, Fa, h1, h4, fun x hx => by rcases h5 x hx with h | h | h; exact .inl h; exact .inr (.inl h); exact .inr (.inr (by omega)), ⟨h2.below Qs.lives h3 hb (Nat.le_refl _), h3.up (Nat.le_refl _) hb.size, ?_, hzn, ⟨by omega, by simp; omega⟩, fun j u hu => ?_⟩⟩
  · have hz0 := Own.emp (et := 3) (z := 1) (Q := Qi) W0 W0.heap.size rfl
    have hiz : Inb 0 (W0.alloc (.cells #[] 3)) [W0.heap.size] := fun b hb => by simp at hb; subst hb; simp
    exact (hz0.grown Qi.lives hiz h4 (fun b hb hm => by simp at hm; subst hm; have := (iE _ (hown _ hb)).2; omega)).below (B := 0) (C := Wa.heap.size) Qi.lives (hiz.up (Nat.le_refl _) h4.size) hb (Nat.le_refl _)
  · exact cells_new (l := recF 4 W0.heap.size f) rfl j u hu
theorem R9.p3 (hE : OwS W0 ve ce F) (iE : Inb (s + 1) W0 F) (hL : OwS W0 (.slice al cl.length capl) cl G) (iL : Inb (s + 1) W0 G) (hne : cl ≠ []) (hd : ∀ x ∈ G, x ∉ F) (hbd : ce.length + cl.length ≤ 16777216) (hs : s + 1 ≤ W0.heap.size) (ty : TypeId) (f : Pl.Fnv) :
    ∃ va Wa Fa, (Builtin.append_ #[34, 34] ty #[ve, .slice al cl.length capl]).run Tryd.prog ((W0.alloc (.cells #[] 3)).alloc (objF 4 W0.heap.size f)) = .ok va Wa ∧ ((W0.alloc (.cells #[] 3)).alloc (objF 4 W0.heap.size f)).grownBy Wa ve.ownBlock ∧ (∀ x ∈ Fa, x ∈ F ∨ x ∈ G ∨ W0.heap.size ≤ x) ∧ R9 s Wa va (ce ++ cl) Fa W0.heap.size (W0.heap.size + 1) 4 f := by
  have hb0 : Below W0.heap.size W0 ((W0.alloc (.cells #[] 3)).alloc (objF 4 W0.heap.size f)) := ((Below.refl _ _).alloc (Nat.le_refl _) _).alloc (by simp) _
  obtain ⟨va, Wa, Fa, h1, h2, h3, h4, h5⟩ := OwS.join (hE.below Qs.lives iE hb0 (Nat.le_refl _)) (iE.up (Nat.le_refl _) hb0.size) (hL.below Qs.lives iL hb0 (Nat.le_refl _)) (iL.up (Nat.le_refl _) hb0.size) hne hd hbd (by simp; omega) ty
  have hsz := h4.size
  simp at hsz h5
  have hown : ∀ b, ve.ownBlock = some b → b ∈ F := fun b hb => (hE.lt b hb).1
  have hzn : W0.heap.size ∉ Fa := fun hm => by
    rcases h5 _ hm with h | h | h
    · have := (iE _ h).2; omega
    · have := (iL _ h).2; omega
    · omega
  refine ⟨va, Wa, Fa, h1, h4, fun x hx => by rcases h5 x hx with h | h | h; exact .inl h; exact .inr (.inl h); exact .inr (.inr (by omega)), ⟨h2, h3, ?_, hzn, ⟨by omega, by omega⟩, fun j u hu => ?_⟩⟩
  · have hz0 := Own.emp (et := 3) (z := 1) (Q := Qi) W0 W0.heap.size rfl
    have hiz : Inb 0 (W0.alloc (.cells #[] 3)) [W0.heap.size] := fun b hb => by simp at hb; subst hb; simp
    have hz1 := hz0.below (B := 0) (C := W0.heap.size + 1) Qi.lives hiz ((Below.refl (W0.heap.size + 1) (W0.alloc (.cells #[] 3))).alloc (by simp) (objF 4 W0.heap.size f)) (by simp)
    exact hz1.grown Qi.lives (hiz.up (Nat.le_refl _) (by simp)) h4 (fun b hb hm => by simp at hm; subst hm; have := (iE _ (hown _ hb)).2; omega)
  · have hq := cells_new (w := W0.alloc (.cells #[] 3)) (l := recF 4 W0.heap.size f) (t := 81) (b := W0.heap.size + 1) (by simp) j u hu
    exact h4.cell hq (fun e => by have := (iE _ (hown _ e.symm)).2; simp only at this; omega)
end
/-- the loop of l3Expr -/
def Ivx (l : List Pl.Tok) (N : Nat) (R : Option Pl.E) (w : World) (p : Nat) (wr : World) : Prop :=
  ∃ ao n cap fr ok ne lo, Lx w p wr ao n cap fr ok ne lo ∧ ((ok = false ∧ R = none) ∨ (ok = true ∧ ∃ (e : Pl.E) (k : Nat) (F : List Nat), n = e.code.length ∧ fr = k ∧ ne = e.nest ∧ lo = e.long ∧ Far l N R e k ∧ OwS wr (.slice ao n cap) e.code F ∧ Inb (w.heap.size + 1) wr F ∧ p ∉ F))
/-- the boxes of the function and of the left operand -/
structure Sy (p6 p7 : Nat) (W : World) (al : Option Addr) (nl cl : Nat) (fr ne : Int) (lo : Bool) (f : Pl.Fnv) : Prop where
  c0 : W.cell? ⟨p7, 0, none⟩ = some (.slice al nl cl)
  c1 : W.cell? ⟨p7, 1, none⟩ = some (.int .i64 fr)
  c3 : W.cell? ⟨p7, 3, none⟩ = some (.int .i64 ne)
  c4 : W.cell? ⟨p7, 4, none⟩ = some (.bool lo)
  f0 : W.cell? ⟨p6, 0, none⟩ = some (.int .i64 f.k)
  f1 : W.cell? ⟨p6, 1, none⟩ = some (.int .i64 f.a)
  f2 : W.cell? ⟨p6, 2, none⟩ = some (.int .i64 f.b)
  f3 : W.cell? ⟨p6, 3, none⟩ = some (.string (Pl.ba f.nm))
  l6 : p6 < W.heap.size
  l7 : p7 < W.heap.size
section
variable {p6 p7 : Nat} {W W' : World} {al : Option Addr} {nl cl : Nat} {fr ne : Int} {lo : Bool} {f : Pl.Fnv}
theorem Sy.same (h : Sy p6 p7 W al nl cl fr ne lo f) (h6 : W'.heap[p6]? = W.heap[p6]?) (h7 : W'.heap[p7]? = W.heap[p7]?) (hs : W.heap.size ≤ W'.heap.size) : Sy p6 p7 W' al nl cl fr ne lo f := by
  have g6 (j : Nat) : W'.cell? ⟨p6, j, none⟩ = W.cell? ⟨p6, j, none⟩ := World.cell?_of_block h6
  have g7 (j : Nat) : W'.cell? ⟨p7, j, none⟩ = W.cell? ⟨p7, j, none⟩ := World.cell?_of_block h7
  exact ⟨(g7 0).trans h.c0, (g7 1).trans h.c1, (g7 3).trans h.c3, (g7 4).trans h.c4, (g6 0).trans h.f0, (g6 1).trans h.f1, (g6 2).trans h.f2, (g6 3).trans h.f3, Nat.lt_of_lt_of_le h.l6 hs, Nat.lt_of_lt_of_le h.l7 hs⟩
theorem Sy.alloc (h : Sy p6 p7 W al nl cl fr ne lo f) (o : Obj) : Sy p6 p7 (W.alloc o) al nl cl fr ne lo f :=
  h.same (Below.heap_alloc _ _ _ h.l6) (Below.heap_alloc _ _ _ h.l7) (by simp)
theorem Sy.grown (h : Sy p6 p7 W al nl cl fr ne lo f) {r : Option Nat} (hg : W.grownBy W' r) (hr : ∀ b, r = some b → b ≠ p6 ∧ b ≠ p7) : Sy p6 p7 W' al nl cl fr ne lo f :=
  h.same (hg.block _ h.l6 (fun e => (hr _ e.symm).1 rfl)) (hg.block _ h.l7 (fun e => (hr _ e.symm).2 rfl)) hg.size
theorem Sy.set (h : Sy p6 p7 W al nl cl fr ne lo f) (p j : Nat) (v : Value) (h6 : p ≠ p6) (h7 : p ≠ p7) : Sy p6 p7 (W.setCell ⟨p, j, none⟩ v) al nl cl fr ne lo f :=
  h.same (Below.heap_setCell _ _ _ _ (Ne.symm h6)) (Below.heap_setCell _ _ _ _ (Ne.symm h7)) (by simp)
end
section
variable {l : List Pl.Tok} {N : Nat} {R : Option Pl.E} {w w9 : World} {p : Nat} {ao ao9 : Option Addr} {n cap cap9 cx : Nat} {fr : Int} {e : Pl.E} {o : Pl.O} {f : Pl.F} {F9 : List Nat} {k : Nat}
theorem Ivx.two (L9 : Lx w p w9 ao n cap fr true e.nest e.long) (ho : OwS w9 (.slice ao9 cx cap9) (e.code ++ o.code ++ [⟨4, [], [], f.two⟩]) F9) (hc : cx = (e.code ++ o.code ++ [(⟨4, [], [], f.two⟩ : Pl.Sv)]).length) (hi : Inb (w.heap.size + 1) w9 F9) (hp : p ∉ F9) (hf : Far l N R (.two o f e) k) (lo : Bool) (hlo : lo = (e.long || o.long)) :
    (¬ e.nest < o.nest → Ivx l N R w p (((w9.setCell ⟨p, 0, none⟩ (.slice ao9 cx cap9)).setCell ⟨p, 1, none⟩ (.int .i64 k)).setCell ⟨p, 4, none⟩ (.bool lo))) ∧ (e.nest < o.nest → Ivx l N R w p ((((w9.setCell ⟨p, 0, none⟩ (.slice ao9 cx cap9)).setCell ⟨p, 1, none⟩ (.int .i64 k)).setCell ⟨p, 4, none⟩ (.bool lo)).setCell ⟨p, 3, none⟩ (.int .i64 o.nest))) := by
  have hx := ((L9.set0 ao9 cx cap9).set1 (k : Int)).set4 lo
  obtain ⟨o1, i1⟩ := ho.box Qs.lives hi hp (j := 0) (.slice ao9 cx cap9)
  obtain ⟨o2, i2⟩ := o1.box Qs.lives i1 hp (j := 1) (.int .i64 k)
  obtain ⟨o3, i3⟩ := o2.box Qs.lives i2 hp (j := 4) (.bool lo)
  obtain ⟨o4, i4⟩ := o3.box Qs.lives i3 hp (j := 3) (.int .i64 o.nest)
  have hcd : (Pl.E.two o f e).code = e.code ++ o.code ++ [⟨4, [], [], f.two⟩] := by rw [Pl.E.code, List.append_assoc]
  refine ⟨fun hn => ?_, fun hn => ?_⟩
  · refine ⟨ao9, cx, cap9, k, true, e.nest, lo, hx, .inr ⟨rfl, .two o f e, k, F9, by rw [hcd, hc], rfl, ?_, hlo, hf, by rw [hcd]; exact o3, i3, hp⟩⟩
    show (e.nest : Int) = ((max e.nest o.nest : Nat) : Int)
    omega
  · refine ⟨ao9, cx, cap9, k, true, o.nest, lo, hx.set3 (o.nest : Int), .inr ⟨rfl, .two o f e, k, F9, by rw [hcd, hc], rfl, ?_, hlo, hf, by rw [hcd]; exact o4, i4, hp⟩⟩
    show (o.nest : Int) = ((max e.nest o.nest : Nat) : Int)
    omega
end
end Go.Proofs.YtljkolffjjhgeaaDoor
