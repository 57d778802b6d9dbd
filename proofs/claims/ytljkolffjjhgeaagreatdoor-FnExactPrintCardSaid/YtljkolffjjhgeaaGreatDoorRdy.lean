import Derived.Test.YtljkolffjjhgeaaGreatDoorNst
namespace Go.Proofs.YtljkolffjjhgeaaGreatDoor
open Go.RowKit
set_option linter.unusedVariables false
set_option maxRecDepth 100000
theorem und116 : Tryz.prog.underlying 116 = some (.slice (Tryz.prog.elem 116)) := by kernel_rfl
theorem und116' : Tryz.prog.underlying 116 = some (.slice 104) := by kernel_rfl
theorem elem116 : Tryz.prog.elem 116 = 104 := by kernel_rfl
theorem Tryz.info104 : (Tryz.prog.info? 104).map (fun i => (i.zero, i.size, i.bytes)) = some (some .nilIface, 1, 16) := by kernel_rfl
def lo116 (ao : Option Addr) (cp j : Nat) : Option Addr := if cp = j then ao else ao.map (fun a => a.add (j * 1))
theorem exec_hi116 {o : Oper} {a : Act} (x y : Operand) (ao : Option Addr) (n cp j : Nat) (ho : o.op = Op.slice 116 x none (some y) none) (hx : a.eval x = .slice ao n cp) (hy : a.eval y = .int .i64 (j : Int)) (h : j ≤ cp) (w : World) :
    (execOp a.eval o).run Tryz.prog w = .ok (.value (.slice ao j cp)) w := by
  have e : (Instr.sliceAt 116 (.slice ao n cp) none (some (.int .i64 (j : Int))) none).run Tryz.prog w = .ok (.slice ao j cp) w := by
    rw [run_sliceAt_slice _ _ _ _ _ _ und116, run_slice_h _ _ _ _ _ und116 _ _ (by omega) (by omega), elem116, Tryz.sizeOf104]
    cases ao <;> simp [Result.andThen, sliced, Addr.add]
  simp [execOp, ho, hx, hy, e, Result.andThen]
theorem exec_lo116 {o : Oper} {a : Act} (x y : Operand) (ao : Option Addr) (n cp j : Nat) (ho : o.op = Op.slice 116 x (some y) none none) (hx : a.eval x = .slice ao n cp) (hy : a.eval y = .int .i64 (j : Int)) (h : j ≤ n) (hc : n ≤ cp) (w : World) :
    (execOp a.eval o).run Tryz.prog w = .ok (.value (.slice (lo116 ao cp j) (n - j) (cp - j))) w := by
  have e : (Instr.sliceAt 116 (.slice ao n cp) (some (.int .i64 (j : Int))) none none).run Tryz.prog w = .ok (.slice (lo116 ao cp j) (n - j) (cp - j)) w := by
    rw [run_sliceAt_slice _ _ _ _ _ _ und116, run_slice_l _ _ _ _ _ und116 _ _ (by omega) (by omega), elem116, Tryz.sizeOf104]
    simp only [Result.andThen, sliced, lo116, Int.toNat_natCast]
  simp [execOp, ho, hx, hy, e, Result.andThen]
theorem exec_move {o : Oper} {a : Act} (x : Operand) (v : Value) (ho : o.op = Op.move x) (hx : a.eval x = v) (w : World) : (execOp a.eval o).run Tryz.prog w = .ok (.value v) w := by
  simp [execOp, ho, hx]
theorem ownsRow_cut {base e n r yo : Nat} {xo : Option Addr} {w : World} {xs : List Value} (h : w.ownsRow base e 1 (.slice xo n yo) n xs) (hr : r ≤ n) : w.ownsRow base e 1 (.slice xo r yo) r (xs.take r) := by
  obtain ⟨h1, h2⟩ := h
  refine ⟨by rw [List.length_take]; omega, ?_⟩
  rcases h2 with ⟨h2, h3⟩ | ⟨g, cap, cur, h2, h3, h4, h5, h6, h7, h8⟩
  · injection h2 with a1 a2 a3
    subst a1 a2 a3
    obtain rfl : r = 0 := by omega
    exact .inl ⟨rfl, rfl⟩
  · injection h2 with a1 a2 a3
    subst a1 a3
    refine .inr ⟨g, yo, cur, rfl, h3, h4, by omega, h6, h7, ?_⟩
    rw [← h8, List.take_take]
    congr 1
    omega
theorem owns_keep {base e n : Nat} {w w' : World} {v : Value} {xs : List Value} (h : w.ownsRow base e 1 v n xs) (hb : Below w.heap.size w w') : w'.ownsRow base e 1 v n xs := by
  refine ⟨h.1, ?_⟩
  rcases h.2 with h | ⟨g, cap, cur, e, h1, h2, h3⟩
  · exact .inl h
  · exact .inr ⟨g, cap, cur, e, h1, (hb.block g (Array.getElem?_eq_some_iff.1 h2).1).trans h2, h3⟩
theorem owns_form {base e n : Nat} {w : World} {v : Value} {xs : List Value} (h : w.ownsRow base e 1 v n xs) : ∃ xo yo, v = .slice xo n yo ∧ n ≤ yo := by
  rcases h.2 with ⟨e, h0⟩ | ⟨g, cp, cur, e, _, _, h, _⟩
  · exact ⟨none, 0, by rw [h0]; exact e, by omega⟩
  · exact ⟨_, _, e, h⟩
/-- nodes on the stack, topmost first -/
def Stk (B : Nat) (w : World) : List (Pl.Nd Pl.Sv) → List Value → Prop
  | [], [] => True
  | t :: st, v :: rx => NdV B w t v ∧ Stk B w st rx
  | _, _ => False
theorem Stk.keep {B : Nat} {w w' : World} (hb : Below B w w') : ∀ {st : List (Pl.Nd Pl.Sv)} {rx : List Value}, Stk B w st rx → Stk B w' st rx := by
  intro st
  induction st with
  | nil => intro rx h; cases rx <;> exact h
  | cons t st ih =>
    intro rx h
    cases rx with
    | nil => exact h
    | cons v rx => exact ⟨NdV.keep hb h.1, ih h.2⟩
theorem Stk.len {B : Nat} {w : World} : ∀ {st : List (Pl.Nd Pl.Sv)} {rx : List Value}, Stk B w st rx → rx.length = st.length := by
  intro st
  induction st with
  | nil => intro rx h; cases rx with | nil => rfl | cons v rx => cases h
  | cons t st ih =>
    intro rx h
    cases rx with
    | nil => cases h
    | cons v rx => simp [ih h.2]
theorem Stk.one {B : Nat} {w : World} : ∀ {st : List (Pl.Nd Pl.Sv)} {rx : List Value}, Stk B w st rx → ∀ v ∈ rx, v.oneCell' = true := by
  intro st
  induction st with
  | nil => intro rx h; cases rx with | nil => intro v hv; cases hv | cons v rx => cases h
  | cons t st ih =>
    intro rx h v hv
    cases rx with
    | nil => cases h
    | cons u rx =>
      rcases List.mem_cons.1 hv with rfl | hv
      · obtain ⟨T, p, rfl⟩ := h.1.iface
        rfl
      · exact ih h.2 v hv
namespace Pl
theorem run_snoc {α : Type} (ar : α → Nat) : ∀ (c : List α) (s : α) (st : List (Nd α)), run ar (c ++ [s]) st = match run ar c st with | none => none | some st' => run ar [s] st' := by
  intro c
  induction c with
  | nil => intro s st; rfl
  | cons x c ih =>
    intro s st
    simp only [List.cons_append, run]
    split
    · exact ih s _
    · split
      · cases st with
        | nil => rfl
        | cons y st => exact ih s _
      · match st with
        | [] => rfl
        | [y] => rfl
        | l :: r :: st => exact ih s _
theorem run_none {α : Type} (ar : α → Nat) (c : List α) : ∀ (b : List α) (st : List (Nd α)), run ar c st = none → run ar (c ++ b) st = none := by
  intro b
  induction b generalizing c with
  | nil => intro st h; rw [List.append_nil]; exact h
  | cons s b ih =>
    intro st h
    have : c ++ s :: b = (c ++ [s]) ++ b := by simp
    rw [this]
    apply ih
    rw [run_snoc, h]
theorem run_take {c : List Sv} {k : Nat} {s : Sv} (h : c[k]? = some s) {st : List (Nd Sv)} (hr : run ar (c.take k) [] = some st) : run ar (c.take (k + 1)) [] = run ar [s] st := by
  rw [List.take_add_one, h]
  show run ar (c.take k ++ [s]) [] = _
  rw [run_snoc, hr]
theorem run_fail {c : List Sv} {k : Nat} (h : run ar (c.take k) [] = none) : run ar c [] = none := by
  have := run_none ar (c.take k) (c.drop k) [] h
  rwa [List.take_append_drop] at this
theorem run_len : ∀ (c : List Sv) (st st' : List (Nd Sv)), run ar c st = some st' → st'.length ≤ st.length + c.length := by
  intro c
  induction c with
  | nil => intro st st' h; simp only [run, Option.some.injEq] at h; rw [h]; simp
  | cons s c ih =>
    intro st st' h
    simp only [run] at h
    split at h
    · have := ih _ _ h; simp only [List.length_cons] at *; omega
    · split at h
      · cases st with
        | nil => cases h
        | cons y st => have := ih _ _ h; simp only [List.length_cons] at *; omega
      · match st, h with
        | [], h => cases h
        | [y], h => cases h
        | l :: r :: st, h => have := ih _ _ h; simp only [List.length_cons] at *; omega
end Pl
theorem ready_val {P : Program} {ops : Array Oper} {Q : Exit → Act → World → Prop} {o : Oper} {a : Act} {w w' : World} {K : Act → World → Prop} (hg : o.guard = none) (v : Value) (h : (execOp a.eval o).run P w = .ok (.value v) w') (hK : K (a.put o.dst v) w') :
    if Region.wanted o (yielded ops a.tmps) = true then Oper.wp P o a w K Q else K (a.put o.dst undef) w := by
  have hw : Region.wanted o (yielded ops a.tmps) = true := by simp [Region.wanted, hg]
  rw [if_pos hw]
  unfold Oper.wp
  rw [h]
  exact hK
theorem ready_call {P : Program} {ops : Array Oper} {Q : Exit → Act → World → Prop} {o : Oper} {a : Act} {w : World} {K : Act → World → Prop} (hg : o.guard = none) (f : FuncId) (args : Array Value) (h : (execOp a.eval o).run P w = .ok (.enter f args) w) (hK : Calls P f args w fun e w' => ∃ v, e = .returned v ∧ K (a.put o.dst v) w') :
    if Region.wanted o (yielded ops a.tmps) = true then Oper.wp P o a w K Q else K (a.put o.dst undef) w := by
  have hw : Region.wanted o (yielded ops a.tmps) = true := by simp [Region.wanted, hg]
  rw [if_pos hw]
  unfold Oper.wp
  rw [h]
  refine hK.mono ?_
  rintro e w' ⟨v, rfl, h⟩
  exact h
theorem step_val {P : Program} {md : Region.Mode} {ops : Array Oper} {Q : Exit → Act → World → Prop} {S : World → Prop} {fuel : Nat} {listed : Array Bool} {i : Nat} {o : Oper} {a : Act} {w w' : World} (hr : Region.ready md ops listed = [i]) (ho : ops[i]? = some o) (hg : o.guard = none) (v : Value) (h : (execOp a.eval o).run P w = .ok (.value v) w') (hS : S w')
    (hN : wpAnyH P md ops Q S fuel (listed.setIfInBounds i true) (a.put o.dst v) w') : wpAnyH P md ops Q S (fuel + 1) listed a w :=
  wpAnyH_ready hr (by simp) (AllReadyH.cons ho (fun K hK => ready_val hg v h (hK.out _ _ hS (fun _ => hN))) AllReadyH.nil)
theorem step_call {P : Program} {md : Region.Mode} {ops : Array Oper} {Q : Exit → Act → World → Prop} {S : World → Prop} {fuel : Nat} {listed : Array Bool} {i : Nat} {o : Oper} {a : Act} {w : World} (hr : Region.ready md ops listed = [i]) (ho : ops[i]? = some o) (hg : o.guard = none) (f : FuncId) (args : Array Value) (h : (execOp a.eval o).run P w = .ok (.enter f args) w)
    (hN : Calls P f args w fun e w' => ∃ v, e = .returned v ∧ S w' ∧ wpAnyH P md ops Q S fuel (listed.setIfInBounds i true) (a.put o.dst v) w') : wpAnyH P md ops Q S (fuel + 1) listed a w :=
  wpAnyH_ready hr (by simp) (AllReadyH.cons ho (fun K hK => ready_call hg f args h (hN.mono (by
    rintro e w' ⟨v, rfl, hS, hW⟩
    exact ⟨v, rfl, hK.out _ _ hS (fun _ => hW)⟩))) AllReadyH.nil)
theorem exec_assign {o : Oper} {a : Act} (x : Operand) (v : Value) (ho : o.op = Op.assign x) (hx : a.eval x = v) (w : World) : (execOp a.eval o).run Tryz.prog w = .ok (.value v) w := by
  simp [execOp, ho, hx]
theorem exec_call71 {o : Oper} {a : Act} (x y : Operand) (v u : Value) (ts : Array TypeId) (ho : o.op = Op.call { callee := .value (.func 71), args := #[x, y], argTypes := ts }) (hx : a.eval x = v) (hy : a.eval y = u) (w : World) : (execOp a.eval o).run Tryz.prog w = .ok (.enter 71 #[v, u]) w := by
  have he : ∀ args w, (callFunc 71 args).run Tryz.prog w = .ok (.enter 71 args) w := enters_of Tryz.func71 (by kernel_rfl) rfl
  have hf : a.eval (.func 71) = .func (.func 71) #[] #[] := rfl
  simp [execOp, ho, hx, hy, hf, resolve, invoke, Deferred.ofValue, he]
theorem exec_build104 {o : Oper} {a : Act} (x : Operand) (T : TypeId) (p : Value) (ho : o.op = Op.buildSlice 116 1 #[(0, x)]) (hx : a.eval x = .iface T p) (w : World) : (execOp a.eval o).run Tryz.prog w = .ok (.value (.slice (some ⟨w.heap.size, 0, none⟩) 1 1)) (w.alloc (.cells #[.iface T p] 104)) := by
  simp [execOp, ho, hx]
  go_simp
theorem exec_app104 {o : Oper} {a : Act} (x y : Operand) (v u r : Value) (w w' : World) (ho : o.op = Op.call { callee := .builtin .append, args := #[x, y], argTypes := #[116, 116] }) (hx : a.eval x = v) (hy : a.eval y = u) (hr : (Builtin.append_ #[116, 116] o.type #[v, u]).run Tryz.prog w = .ok r w') : (execOp a.eval o).run Tryz.prog w = .ok (.value r) w' := by
  simp [execOp, ho, hx, hy, resolve, invoke, builtin, hr, Result.andThen]
theorem exec_load80 {o : Oper} {a : Act} (x : Operand) (b : Nat) (v0 v3 v4 v5 : Int) (an : Option Addr) (sn cn : Nat) (nm fnm : ByteArray) (w : World) (ho : o.op = Op.load 80 x) (hx : a.eval x = .pointer (some ⟨b, 0, none⟩))
    (d0 : w.cell? ⟨b, 0, none⟩ = some (.int .i64 v0)) (d1 : w.cell? ⟨b, 1, none⟩ = some (.slice an sn cn)) (d2 : w.cell? ⟨b, 2, none⟩ = some (.string nm)) (d3 : w.cell? ⟨b, 3, none⟩ = some (.int .i64 v3)) (d4 : w.cell? ⟨b, 4, none⟩ = some (.int .i64 v4)) (d5 : w.cell? ⟨b, 5, none⟩ = some (.int .i64 v5)) (d6 : w.cell? ⟨b, 6, none⟩ = some (.string fnm)) :
    (execOp a.eval o).run Tryz.prog w = .ok (.value (.agg #[.int .i64 v0, .slice an sn cn, .string nm, .int .i64 v3, .int .i64 v4, .int .i64 v5, .string fnm])) w := by
  have z80 := Tryz.sizeOf80
  have a80 := Tryz.isAgg80
  simp only [execOp, ho, hx]
  go_simp
end Go.Proofs.YtljkolffjjhgeaaGreatDoor
