import Derived.Test.YtljkolffjjhgeaaDoorBdm
namespace Go.Proofs.YtljkolffjjhgeaaDoor
open Go.RowKit
set_option linter.unusedVariables false
set_option maxRecDepth 100000
theorem exec_f31_1 {o : Oper} {a : Act} (x : Operand) (b k : Nat) (ho : o.op = Op.fieldAddr 31 x 1) (hx : a.eval x = .pointer (some ⟨b, k, none⟩)) (w : World) : (execOp a.eval o).run Tryd.prog w = .ok (.value (.pointer (some ⟨b, k + 1, none⟩))) w := by
  simp only [execOp, ho, hx]
  go_simp
theorem exec_load9 {o : Oper} {a : Act} (x : Operand) (b j : Nat) (s : ByteArray) (w : World) (ho : o.op = Op.load 9 x) (hx : a.eval x = .pointer (some ⟨b, j, none⟩)) (d : w.cell? ⟨b, j, none⟩ = some (.string s)) : (execOp a.eval o).run Tryd.prog w = .ok (.value (.string s)) w := by
  simp only [execOp, ho, hx]
  go_simp
theorem exec_sl28 {o : Oper} {a : Act} (x y z : Operand) (b off n cap i j : Nat) (ho : o.op = Op.slice 28 x (some y) (some z) none) (hx : a.eval x = .slice (some ⟨b, off, none⟩) n cap) (hy : a.eval y = .int .i64 (i : Int)) (hz : a.eval z = .int .i64 (j : Int)) (hi : i ≤ j) (hj : j ≤ cap) (hc : i < cap) (w : World) : (execOp a.eval o).run Tryd.prog w = .ok (.value (.slice (some ⟨b, off + i * 4, none⟩) (j - i) (cap - i))) w := by
  have h1 : ¬ ((i : Int) < 0) := by omega
  have h2 : (i : Int) ≤ (j : Int) := by omega
  have h3 : (j : Int) ≤ (cap : Int) := by omega
  have h4 : ¬ i = cap := by omega
  have h5 : ¬ ((j : Int) < 0) := by omega
  have h6 : ¬ cap = i := by omega
  simp [execOp, ho, hx, hy, hz]
  go_simp
theorem exec_call2 {o : Oper} {a : Act} (f : FuncId) (he : ∀ args w, (callFunc f args).run Tryd.prog w = .ok (.enter f args) w) (x y : Operand) (v u : Value) (ts : Array TypeId) (ho : o.op = Op.call { callee := .value (.func f), args := #[x, y], argTypes := ts }) (hx : a.eval x = v) (hy : a.eval y = u) (w : World) : (execOp a.eval o).run Tryd.prog w = .ok (.enter f #[v, u]) w := by
  have hf : a.eval (.func f) = .func (.func f) #[] #[] := rfl
  simp [execOp, ho, hx, hy, hf, resolve, invoke, Deferred.ofValue, he]
theorem enter27 : ∀ args w, (callFunc 27 args).run Tryd.prog w = .ok (.enter 27 args) w := enters_of Tryd.func27 (by kernel_rfl) rfl
theorem enter29 : ∀ args w, (callFunc 29 args).run Tryd.prog w = .ok (.enter 29 args) w := enters_of Tryd.func29 (by kernel_rfl) rfl
theorem exec_load37 {o : Oper} {a : Act} (x : Operand) (b : Nat) (k : Int) (s : ByteArray) (ac : Option Addr) (nc cc : Nat) (ag : Option Addr) (ng cg : Nat) (w : World) (ho : o.op = Op.load 37 x) (hx : a.eval x = .pointer (some ⟨b, 0, none⟩)) (d0 : w.cell? ⟨b, 0, none⟩ = some (.int .i64 k)) (d1 : w.cell? ⟨b, 1, none⟩ = some (.string s)) (d2 : w.cell? ⟨b, 2, none⟩ = some (.slice ac nc cc)) (d3 : w.cell? ⟨b, 3, none⟩ = some (.slice ag ng cg)) :
    (execOp a.eval o).run Tryd.prog w = .ok (.value (.agg #[.int .i64 k, .string s, .slice ac nc cc, .slice ag ng cg])) w := by
  have z := Tryd.sizeOf37
  have g := Tryd.isAgg37
  simp only [execOp, ho, hx]
  go_simp
theorem exec_f63_2 {o : Oper} {a : Act} (x : Operand) (b : Nat) (ho : o.op = Op.fieldAddr 63 x 2) (hx : a.eval x = .pointer (some ⟨b, 0, none⟩)) (w : World) : (execOp a.eval o).run Tryd.prog w = .ok (.value (.pointer (some ⟨b, 2, none⟩))) w := by
  simp only [execOp, ho, hx]
  go_simp
theorem exec_load4 {o : Oper} {a : Act} (x : Operand) (b j : Nat) (s : Bool) (w : World) (ho : o.op = Op.load 4 x) (hx : a.eval x = .pointer (some ⟨b, j, none⟩)) (d : w.cell? ⟨b, j, none⟩ = some (.bool s)) : (execOp a.eval o).run Tryd.prog w = .ok (.value (.bool s)) w := by
  simp only [execOp, ho, hx]
  go_simp
theorem exec_load63 {o : Oper} {a : Act} (x : Operand) (b : Nat) (ac : Option Addr) (nc cc : Nat) (fr ne : Int) (ok lo : Bool) (w : World) (ho : o.op = Op.load 63 x) (hx : a.eval x = .pointer (some ⟨b, 0, none⟩)) (d0 : w.cell? ⟨b, 0, none⟩ = some (.slice ac nc cc)) (d1 : w.cell? ⟨b, 1, none⟩ = some (.int .i64 fr)) (d2 : w.cell? ⟨b, 2, none⟩ = some (.bool ok)) (d3 : w.cell? ⟨b, 3, none⟩ = some (.int .i64 ne)) (d4 : w.cell? ⟨b, 4, none⟩ = some (.bool lo)) :
    (execOp a.eval o).run Tryd.prog w = .ok (.value (.agg #[.slice ac nc cc, .int .i64 fr, .bool ok, .int .i64 ne, .bool lo])) w := by
  have z := Tryd.sizeOf63
  have g := Tryd.isAgg63
  simp only [execOp, ho, hx]
  go_simp
theorem exec_build39 {o : Oper} {a : Act} (x y z : Operand) (k : Int) (s : ByteArray) (ac : Option Addr) (nc cc : Nat) (ag : Option Addr) (ng cg : Nat) (ok fi : Bool) (ho : o.op = Op.build 39 #[(0, x), (1, y), (2, z)]) (hx : a.eval x = .agg #[.int .i64 k, .string s, .slice ac nc cc, .slice ag ng cg]) (hy : a.eval y = .bool ok) (hz : a.eval z = .bool fi) (w : World) : (execOp a.eval o).run Tryd.prog w = .ok (.value (.agg #[.int .i64 k, .string s, .slice ac nc cc, .slice ag ng cg, .bool ok, .bool fi])) w := by
  simp [execOp, ho, hx, hy, hz]
  go_simp
theorem exec_store39 {o : Oper} {a : Act} (x y : Operand) (b : Nat) (k : Int) (s : ByteArray) (ac : Option Addr) (nc cc : Nat) (ag : Option Addr) (ng cg : Nat) (ok fi : Bool) (u0 u1 u2 u3 u4 u5 : Value) (w : World) (ho : o.op = Op.store 39 x y) (hx : a.eval x = .pointer (some ⟨b, 0, none⟩)) (hy : a.eval y = .agg #[.int .i64 k, .string s, .slice ac nc cc, .slice ag ng cg, .bool ok, .bool fi]) (d0 : w.cell? ⟨b, 0, none⟩ = some u0) (d1 : w.cell? ⟨b, 1, none⟩ = some u1) (d2 : w.cell? ⟨b, 2, none⟩ = some u2) (d3 : w.cell? ⟨b, 3, none⟩ = some u3) (d4 : w.cell? ⟨b, 4, none⟩ = some u4) (d5 : w.cell? ⟨b, 5, none⟩ = some u5) (hf : ∀ j, w.frozen? ⟨b, j, none⟩ = false) :
    (execOp a.eval o).run Tryd.prog w = .ok .skip ((((((w.setCell ⟨b, 0, none⟩ (.int .i64 k)).setCell ⟨b, 1, none⟩ (.string s)).setCell ⟨b, 2, none⟩ (.slice ac nc cc)).setCell ⟨b, 3, none⟩ (.slice ag ng cg)).setCell ⟨b, 4, none⟩ (.bool ok)).setCell ⟨b, 5, none⟩ (.bool fi)) := by
  have z := Tryd.sizeOf39
  have g := Tryd.isAgg39
  simp only [execOp, ho, hx, hy]
  go_simp
/-- the result's box -/
structure Rx (w X : World) : Prop where
  b : Below w.heap.size w X
  lt : w.heap.size < X.heap.size
  r0 : X.cell? ⟨w.heap.size, 0, none⟩ = some (.int .i64 0)
  r1 : X.cell? ⟨w.heap.size, 1, none⟩ = some (.string ⟨#[]⟩)
  r2 : X.cell? ⟨w.heap.size, 2, none⟩ = some (.slice none 0 0)
  r3 : X.cell? ⟨w.heap.size, 3, none⟩ = some (.slice none 0 0)
  r4 : X.cell? ⟨w.heap.size, 4, none⟩ = some (.bool false)
  r5 : X.cell? ⟨w.heap.size, 5, none⟩ = some (.bool false)
  rf : ∀ j, X.frozen? ⟨w.heap.size, j, none⟩ = false
theorem Rx.keep {w X X' : World} (h : Rx w X) (hb : Below X.heap.size X X') : Rx w X' :=
  ⟨h.b.trans (hb.mono (Nat.le_of_lt h.lt)), Nat.lt_of_lt_of_le h.lt hb.size, bcell hb h.lt h.r0, bcell hb h.lt h.r1, bcell hb h.lt h.r2, bcell hb h.lt h.r3, bcell hb h.lt h.r4, bcell hb h.lt h.r5, fun j => bfroz hb h.lt (h.rf j)⟩
theorem Rx.new (w : World) : Rx w (w.alloc (.cells #[.int .i64 0, .string ⟨#[]⟩, .slice none 0 0, .slice none 0 0, .bool false, .bool false] 39)) :=
  ⟨(Below.refl _ _).alloc (Nat.le_refl _) _, by simp, by simp [go_sem], by simp [go_sem], by simp [go_sem], by simp [go_sem], by simp [go_sem], by simp [go_sem], fun j => by simp [go_sem]⟩
theorem Rx.far {w X X' : World} (h : Rx w X) {p : Nat} (hg : X.grownBy X' (some p)) (hp : w.heap.size < p) : Rx w X' := by
  have e := hg.block w.heap.size h.lt (fun e => by cases e; omega)
  have g (j : Nat) : X'.cell? ⟨w.heap.size, j, none⟩ = X.cell? ⟨w.heap.size, j, none⟩ := World.cell?_of_block e
  exact ⟨h.b.grown hg (Nat.le_of_lt h.lt) (fun k hk => by cases hk; omega), Nat.lt_of_lt_of_le h.lt hg.size, (g 0).trans h.r0, (g 1).trans h.r1, (g 2).trans h.r2, (g 3).trans h.r3, (g 4).trans h.r4, (g 5).trans h.r5, fun j => (World.frozen?_of_block (a := ⟨w.heap.size, j, none⟩) e).trans (h.rf j)⟩
theorem ReadR.far {B p : Nat} {w w' : World} {v : Value} {r : Option Pl.S} (h : ReadR B w v r) (hg : w.grownBy w' (some p)) (hp : p < B) : ReadR B w' v r := by
  cases r with
  | none => exact h
  | some s =>
    obtain ⟨ac, nc, cc, ag, ng, cg, F, G, e, h1, h2, h3, h4, h5⟩ := h
    exact ⟨ac, nc, cc, ag, ng, cg, F, G, e, h1.grown Qs.lives h3 hg (fun b hb hm => by cases hb; have := (h3 _ hm).1; omega), h2.grown Qg.lives h4 hg (fun b hb hm => by cases hb; have := (h4 _ hm).1; omega), h3.up (Nat.le_refl _) hg.size, h4.up (Nat.le_refl _) hg.size, h5⟩
theorem ReadR.low {B B' : Nat} {w : World} {v : Value} {r : Option Pl.S} (h : ReadR B w v r) (hB : B' ≤ B) : ReadR B' w v r := by
  cases r with
  | none => exact h
  | some s =>
    obtain ⟨ac, nc, cc, ag, ng, cg, F, G, e, h1, h2, h3, h4, h5⟩ := h
    exact ⟨ac, nc, cc, ag, ng, cg, F, G, e, h1, h2, h3.up hB (Nat.le_refl _), h4.up hB (Nat.le_refl _), h5⟩
theorem ReadR.form {B : Nat} {w : World} {v : Value} {r : Option Pl.S} (h : ReadR B w v r) : ∃ k nm ac nc cc ag ng cg ok fi, v = .agg #[.int .i64 k, .string nm, .slice ac nc cc, .slice ag ng cg, .bool ok, .bool fi] := by
  cases r with
  | none =>
    obtain ⟨k, nm, ac, nc, cc, ag, ng, cg, fi, e⟩ := h
    exact ⟨k, nm, ac, nc, cc, ag, ng, cg, false, fi, e⟩
  | some s =>
    obtain ⟨ac, nc, cc, ag, ng, cg, F, G, e, _⟩ := h
    exact ⟨_, _, ac, nc, cc, ag, ng, cg, true, _, e⟩
namespace Pl
theorem asg_is {l : List Tok} (hl : ∀ t ∈ l, kOk t.k) {k : Nat} (h : k < l.length) : isV l k ⟨#[58, 61]⟩ = true ↔ tkT (tq l k) = .asg := by
  have a0 : isV l k ⟨#[58, 61]⟩ = decide (sgTx (tkT (tq l k)) = [58, 61]) := isV_in hl (c := [58, 61]) (by decide) h
  rw [a0]
  cases tkT (tq l k) <;> simp [sgTx]
theorem lb_is {l : List Tok} (hl : ∀ t ∈ l, kOk t.k) {k : Nat} (h : k < l.length) : isV l k ⟨#[123]⟩ = true ↔ tkT (tq l k) = .lb := by
  have a0 : isV l k ⟨#[123]⟩ = decide (sgTx (tkT (tq l k)) = [123]) := isV_in hl (c := [123]) (by decide) h
  rw [a0]
  cases tkT (tq l k) <;> simp [sgTx]
theorem rb_is {l : List Tok} (hl : ∀ t ∈ l, kOk t.k) {k : Nat} (h : k < l.length) : isV l k ⟨#[125]⟩ = true ↔ tkT (tq l k) = .rb := by
  have a0 : isV l k ⟨#[125]⟩ = decide (sgTx (tkT (tq l k)) = [125]) := isV_in hl (c := [125]) (by decide) h
  rw [a0]
  cases tkT (tq l k) <;> simp [sgTx]
theorem isV_past {l : List Tok} {k : Nat} (h : l.length ≤ k) (c : ByteArray) : isV l k c = false := by
  unfold isV
  rw [if_pos (by omega), List.getElem?_eq_none (by omega)]
theorem map_cons {l : List Tok} (h : 0 < l.length) : l.map tkT = tkT (tq l 0) :: (l.drop 1).map tkT := by
  cases l with
  | nil => simp at h
  | cons a l => rfl
theorem map_two {l : List Tok} (h : 1 < l.length) : l.map tkT = tkT (tq l 0) :: tkT (tq l 1) :: (l.drop 2).map tkT := by
  match l, h with
  | a :: b :: l, _ => rfl
theorem map_three {l : List Tok} (h : 2 < l.length) : l.map tkT = tkT (tq l 0) :: tkT (tq l 1) :: tkT (tq l 2) :: (l.drop 3).map tkT := by
  match l, h with
  | a :: b :: c :: l, _ => rfl
theorem kind_fn {t : Tok} (h : kOk t.k) : (t.k = 70 ↔ tkT t = .fn t.tx.data.toList) := by
  obtain ⟨k, tx, v, p⟩ := t
  simp only at h
  unfold tkT
  simp only
  rcases h with rfl | rfl | rfl | rfl | rfl
  · simp
  · simp
  · simp
  · simp
  · rw [if_neg (by decide), if_neg (by decide), if_neg (by decide), if_neg (by decide)]
    constructor
    · intro h; exact absurd h (by decide)
    · intro h
      exfalso
      unfold sgT at h
      repeat (split at h <;> first | cases h | skip)
/-- neither a name nor a function in front of := -/
theorem no_arr {t : Tok} (h : kOk t.k) (h1 : ¬ t.k = 119) (nm : List UInt8) : tkT t ≠ .arr nm := fun e => by
  obtain ⟨k, tx, v, p⟩ := t
  simp only at h h1
  unfold tkT at e
  simp only at e
  rcases h with rfl | rfl | rfl | rfl | rfl
  · simp at e
  · exact h1 rfl
  · simp at e
  · simp at e
  · rw [if_neg (by decide), if_neg (by decide), if_neg (by decide), if_neg (by decide)] at e
    unfold sgT at e
    repeat (split at e <;> first | cases e | skip)
theorem no_fn {t : Tok} (h : kOk t.k) (h1 : ¬ t.k = 70) (nm : List UInt8) : tkT t ≠ .fn nm := fun e => by
  obtain ⟨k, tx, v, p⟩ := t
  simp only at h h1
  unfold tkT at e
  simp only at e
  rcases h with rfl | rfl | rfl | rfl | rfl
  · simp at e
  · simp at e
  · exact h1 rfl
  · simp at e
  · rw [if_neg (by decide), if_neg (by decide), if_neg (by decide), if_neg (by decide)] at e
    unfold sgT at e
    repeat (split at e <;> first | cases e | skip)
theorem rstmt_val {n : Nat} {l : List Tok} (h : ¬ isV l 1 ⟨#[58, 61]⟩ = true) (hk : ∀ t ∈ l, kOk t.k) : rstmt n (l.map tkT) = (rexpr n (l.map tkT)).map .val := by
  have hd : rstmt n (l.map tkT) = match rexpr n (l.map tkT) with | some e => some (.val e) | none => none := by
    refine rstmt_default ?_
    by_cases h2 : 1 < l.length
    · rw [map_two h2]
      have : tkT (tq l 1) ≠ .asg := fun e => h ((asg_is hk h2).2 e)
      intro t r e
      exact this (List.cons.inj (List.cons.inj e).2).1
    · match l, h2 with
      | [], _ => intro t r e; cases e
      | [a], _ => intro t r e; cases e
      | a :: b :: l, h2 => simp at h2
  rw [hd]
  cases rexpr n (l.map tkT) <;> rfl
theorem rstmt_other {n : Nat} {l : List Tok} (hk : ∀ t ∈ l, kOk t.k) (h2 : 1 < l.length) (ha : isV l 1 ⟨#[58, 61]⟩ = true) (h1 : ¬ (tq l 0).k = 119) (h3 : ¬ (tq l 0).k = 70) : rstmt n (l.map tkT) = (rexpr n (l.map tkT)).map .val := by
  rw [map_two h2, (asg_is hk h2).1 ha]
  have e1 := no_arr (hk _ (tq_mem (show 0 < l.length by omega))) h1
  have e2 := no_fn (hk _ (tq_mem (show 0 < l.length by omega))) h3
  generalize tkT (tq l 0) = t at *
  cases t <;> first
    | exact absurd rfl (e1 _)
    | exact absurd rfl (e2 _)
    | (simp only [rstmt]; generalize rexpr n _ = q; cases q <;> rfl)
theorem rstmt_asg {n : Nat} {l : List Tok} (hk : ∀ t ∈ l, kOk t.k) (h2 : 1 < l.length) (ha : isV l 1 ⟨#[58, 61]⟩ = true) (h1 : (tq l 0).k = 119) : rstmt n (l.map tkT) = (rexpr n ((l.drop 2).map tkT)).map (.asg (tq l 0).tx.data.toList) := by
  rw [map_two h2, (asg_is hk h2).1 ha, (kind_arr (hk _ (tq_mem (show 0 < l.length by omega)))).1 h1, rstmt]
  cases rexpr n ((l.drop 2).map tkT) <;> rfl
theorem rexpr_asg {n : Nat} {l : List Tok} (hk : ∀ t ∈ l, kOk t.k) (h2 : 1 < l.length) (ha : isV l 1 ⟨#[58, 61]⟩ = true) : rexpr n (l.map tkT) = none := by
  cases h : rexpr n (l.map tkT) with
  | none => rfl
  | some e =>
    have h1 := ((rsound n).1 _ _ h).1
    have h3 := E.ein e .asg (by rw [← h1, map_two h2, (asg_is hk h2).1 ha]; simp)
    simp [ein] at h3
theorem rstmt_fn_eq (n : Nat) (nm : List UInt8) (r : List T) : rstmt n (.fn nm :: .asg :: r) = if nm = selfW then none else match r with | .lb :: r2 => (match r2.reverse with | .rb :: r3 => (match rbd n (rsp 0 [] r3.reverse) with | some (gs, e) => some (.fn nm gs e) | none => none) | _ => none) | _ => none := by
  cases r with
  | nil => rfl
  | cons t r => cases t <;> rfl
theorem rstmt_self {n : Nat} {l : List Tok} (hk : ∀ t ∈ l, kOk t.k) (h2 : 1 < l.length) (ha : isV l 1 ⟨#[58, 61]⟩ = true) (h1 : (tq l 0).k = 70) (hs : (tq l 0).tx.data.toList = selfW) : rstmt n (l.map tkT) = (rexpr n (l.map tkT)).map .val := by
  rw [rexpr_asg hk h2 ha, map_two h2, (asg_is hk h2).1 ha, (kind_fn (hk _ (tq_mem (show 0 < l.length by omega)))).1 h1, rstmt_fn_eq, if_pos hs]
  rfl
theorem rstmt_fn {n : Nat} {l : List Tok} (hk : ∀ t ∈ l, kOk t.k) (h2 : 1 < l.length) (ha : isV l 1 ⟨#[58, 61]⟩ = true) (h1 : (tq l 0).k = 70) (hs : ¬ (tq l 0).tx.data.toList = selfW) : rstmt n (l.map tkT) = if l.length < 4 ∨ ¬ isV l 2 ⟨#[123]⟩ = true ∨ ¬ isV l ((l.length : Int) - 1) ⟨#[125]⟩ = true then none else (rbd n (rsp 0 [] (((l.take (l.length - 1)).drop 3).map tkT))).map fun q => .fn (tq l 0).tx.data.toList q.1 q.2 := by
  have e0 : rstmt n (l.map tkT) = match (l.drop 2).map tkT with | .lb :: r2 => (match r2.reverse with | .rb :: r3 => (match rbd n (rsp 0 [] r3.reverse) with | some (gs, e) => some (.fn (tq l 0).tx.data.toList gs e) | none => none) | _ => none) | _ => none := by
    rw [map_two h2, (asg_is hk h2).1 ha, (kind_fn (hk _ (tq_mem (show 0 < l.length by omega)))).1 h1, rstmt_fn_eq, if_neg hs]
  rw [e0]
  by_cases h3 : 2 < l.length
  · have hd2 : (l.drop 2).map tkT = tkT (tq l 2) :: (l.drop 3).map tkT := by
      have := map_three h3
      rw [map_two (show 1 < l.length by omega)] at this
      exact (List.cons.inj (List.cons.inj this).2).2
    rw [hd2]
    by_cases hlb : isV l 2 ⟨#[123]⟩ = true
    · have hlb' : tkT (tq l 2) = .lb := (lb_is (k := 2) hk h3).1 hlb
      rw [hlb']
      simp only
      by_cases h4 : 3 < l.length
      · have hlast : (l.drop 3).map tkT = ((l.take (l.length - 1)).drop 3).map tkT ++ [tkT (tq l (l.length - 1))] := by
          have h5 : l = l.take (l.length - 1) ++ [tq l (l.length - 1)] := by
            have := List.take_add_one (l := l) (i := l.length - 1)
            rw [show l.length - 1 + 1 = l.length by omega, List.take_length, List.getElem?_eq_getElem (by omega)] at this
            unfold tq
            rw [List.getElem?_eq_getElem (by omega)]
            exact this
          have h6 := congrArg (fun x => (x.drop 3).map tkT) h5
          rw [List.drop_append_of_le_length (by simp; omega), List.map_append] at h6
          exact h6
        rw [hlast, List.reverse_append, List.reverse_singleton, List.singleton_append]
        have hrbi := rb_is hk (show l.length - 1 < l.length by omega)
        rw [show ((l.length - 1 : Nat) : Int) = (l.length : Int) - 1 by omega] at hrbi
        by_cases hrb : isV l ((l.length : Int) - 1) ⟨#[125]⟩ = true
        · rw [hrbi.1 hrb, if_neg (by rintro (h | h | h); omega; exact h hlb; exact h hrb)]
          change (match rbd n (rsp 0 [] (List.reverse (List.reverse (((l.take (l.length - 1)).drop 3).map tkT)))) with | some (gs, e) => some (S.fn (tq l 0).tx.data.toList gs e) | none => none) = _
          rw [List.reverse_reverse]
          cases rbd n (rsp 0 [] (((l.take (l.length - 1)).drop 3).map tkT)) with
          | none => rfl
          | some q => rfl
        · rw [if_pos (.inr (.inr hrb))]
          have hne : tkT (tq l (l.length - 1)) ≠ .rb := fun e => hrb (hrbi.2 e)
          generalize tkT (tq l (l.length - 1)) = t at *
          cases t <;> first | exact absurd rfl hne | rfl
      · rw [if_pos (.inl (by omega)), List.drop_eq_nil_of_le (by omega)]
        rfl
    · rw [if_pos (.inr (.inl hlb))]
      have hne : tkT (tq l 2) ≠ .lb := fun e => hlb ((lb_is (k := 2) hk h3).2 e)
      generalize tkT (tq l 2) = t at *
      cases t <;> first | exact absurd rfl hne | rfl
  · rw [if_pos (.inl (by omega)), List.drop_eq_nil_of_le (by omega)]
    rfl
end Pl
end Go.Proofs.YtljkolffjjhgeaaDoor
