import Derived.Test.YthhfpcdbgndioaaGreatDoorLok
import Derived.Test.YthhfpcdbgndioaaGreatDoorNst
namespace Go.Proofs.YthhfpcdbgndioaaGreatDoor
open Go.RowKit
set_option linter.unusedVariables false
namespace Pl
theorem xt_len {c : List Sv} {e : List UInt8} (h : xt nt c = some e) : e.length ≤ 40 * csz c := by
  obtain ⟨t, h1, h2, rfl⟩ := xt_get h
  exact (nd_all h2 h1).2
def lx (p : List Tv) (k : Nat) : List UInt8 := (ltx nt (p.take k)).getD []
def gx (p : List Gv) (k : Nat) : List UInt8 := (gtx nt (p.take k)).getD []
theorem gtx_get {l : List Gv} {x : List UInt8} (h : gtx nt l = some x) : ∀ g ∈ l, ∃ a b, xt nt g.test = some a ∧ xt nt g.thn = some b := by
  intro g hg
  cases e1 : xt nt g.test with
  | none => rw [gtx_none hg (.inl e1)] at h; cases h
  | some a =>
    cases e2 : xt nt g.thn with
    | none => rw [gtx_none hg (.inr e2)] at h; cases h
    | some b => exact ⟨a, b, rfl, rfl⟩
theorem gx_succ {l : List Gv} (hl : ∀ g ∈ l, ∃ a b, xt nt g.test = some a ∧ xt nt g.thn = some b) {k : Nat} {g : Gv} (h : l[k]? = some g) {a b : List UInt8} (ha : xt nt g.test = some a) (hb : xt nt g.thn = some b) : gx l (k + 1) = gx l k ++ (a ++ [32, 58, 32] ++ b ++ [59, 32]) := by
  have h1 : (gtx nt (l.take k)).isSome = true := gtx_some (fun g hg => by
    obtain ⟨a, b, e1, e2⟩ := hl g (List.mem_of_mem_take hg)
    rw [e1, e2]; exact ⟨rfl, rfl⟩)
  obtain ⟨t, ht⟩ := Option.isSome_iff_exists.1 h1
  unfold gx
  rw [List.take_add_one, h]
  show (gtx nt (l.take k ++ [g])).getD [] = _
  rw [gtx_snoc, ht, ha, hb]
  rfl
theorem gx_all {l : List Gv} {x : List UInt8} (h : gtx nt l = some x) : gx l l.length = x := by unfold gx; rw [List.take_length, h]; rfl
theorem gx_len {l : List Gv} (hl : ∀ g ∈ l, ∃ a b, xt nt g.test = some a ∧ xt nt g.thn = some b) : ∀ k, k ≤ l.length → (gx l k).length ≤ 40 * gsum l k + 5 * k := by
  intro k
  induction k with
  | zero => intro _; simp [gx, gtx]
  | succ k ih =>
    intro hk
    have hk' : k < l.length := hk
    have hg : l[k]? = some l[k] := List.getElem?_eq_getElem hk'
    obtain ⟨a, b, e1, e2⟩ := hl _ (List.getElem_mem hk')
    rw [gx_succ hl hg e1 e2, gsum_succ hg]
    have := ih (by omega)
    have h1 := xt_len e1
    have h2 := xt_len e2
    simp only [List.length_append, List.length_cons, List.length_nil, gsz]
    omega
theorem stx_get {s : Tv} {x : List UInt8} (h : stx nt s = some x) : ∃ e g, xt nt s.code = some e ∧ gtx nt s.gs = some g ∧ ((s.k = 1 ∧ x = e) ∨ (s.k = 2 ∧ x = s.nm ++ [32, 58, 61, 32] ++ e ∧ s.nm.length ≤ 20) ∨ (s.k = 3 ∧ x = s.nm ++ [32, 58, 61, 32, 123] ++ g ++ e ++ [125] ∧ s.nm.length ≤ 20)) := by
  unfold stx at h
  cases e1 : xt nt s.code with
  | none => rw [e1] at h; cases h
  | some e =>
    cases e2 : gtx nt s.gs with
    | none => rw [e1, e2] at h; cases h
    | some g =>
      rw [e1, e2] at h
      simp only [] at h
      refine ⟨e, g, rfl, rfl, ?_⟩
      split at h
      · rename_i k1
        split at h
        · exact .inl ⟨k1, (Option.some.inj h).symm⟩
        · cases h
      split at h
      · rename_i k2
        split at h
        · rename_i hn
          exact .inr (.inl ⟨k2, (Option.some.inj h).symm, wk_len (by rw [hn.1]; decide)⟩)
        · cases h
      split at h
      · rename_i k3
        split at h
        · rename_i hn
          exact .inr (.inr ⟨k3, (Option.some.inj h).symm, wk_len (by rw [hn.1]; decide)⟩)
        · cases h
      · cases h
theorem ssz_mem {p : List Tv} {s : Tv} (hs : s ∈ p) : ssz s ≤ psz p := by
  have : ssz s ≤ (p.map ssz).sum := by
    induction p with
    | nil => cases hs
    | cons x p ih =>
      rw [List.map_cons, List.sum_cons]
      rcases List.mem_cons.1 hs with rfl | h
      · omega
      · have := ih h; omega
  unfold psz
  omega
theorem okP_get {p : List Tv} (h : okP p = true) : psz p ≤ 16000 ∧ ∀ s ∈ p, ∃ x, stx nt s = some x := by
  unfold okP at h
  rw [Bool.and_eq_true, decide_eq_true_eq, List.all_eq_true] at h
  refine ⟨h.1, fun s hs => ?_⟩
  have := h.2 s hs
  rw [stB_eq] at this
  exact Option.isSome_iff_exists.1 this
theorem prt_no {p : List Tv} (h : okP p = false) : prt nt p = ([], false) := by
  unfold prt
  split
  · rename_i hz
    unfold okP at h
    rw [decide_eq_true hz, Bool.true_and] at h
    have : ∃ s ∈ p, stx nt s = none := by
      apply Classical.byContradiction
      intro hn
      have : p.all (stB nt) = true := by
        rw [List.all_eq_true]
        intro s hs
        rw [stB_eq]
        cases e : stx nt s with
        | none => exact absurd ⟨s, hs, e⟩ hn
        | some x => rfl
      rw [this] at h; cases h
    obtain ⟨s, hs, e⟩ := this
    rw [ltx_none hs e]
  · rfl
theorem lx_succ {p : List Tv} (hp : ∀ s ∈ p, ∃ x, stx nt s = some x) {k : Nat} {s : Tv} (h : p[k]? = some s) {x : List UInt8} (hx : stx nt s = some x) : lx p (k + 1) = lx p k ++ (x ++ [10]) := by
  have h1 : (ltx nt (p.take k)).isSome = true := ltx_some (fun s hs => by
    obtain ⟨x, e⟩ := hp s (List.mem_of_mem_take hs)
    rw [e]; rfl)
  obtain ⟨t, ht⟩ := Option.isSome_iff_exists.1 h1
  unfold lx
  rw [List.take_add_one, h]
  show (ltx nt (p.take k ++ [s])).getD [] = _
  rw [ltx_snoc, ht, hx]
  rfl
theorem lx_mono {p : List Tv} (hp : ∀ s ∈ p, ∃ x, stx nt s = some x) (k : Nat) : ∀ d, k + d ≤ p.length → (lx p k).length ≤ (lx p (k + d)).length := by
  intro d
  induction d with
  | zero => intro _; exact Nat.le_refl _
  | succ d ih =>
    intro h
    have hk : k + d < p.length := by omega
    obtain ⟨x, hx⟩ := hp _ (List.getElem_mem hk)
    have := lx_succ hp (List.getElem?_eq_getElem hk) hx
    rw [show k + (d + 1) = k + d + 1 by omega, this, List.length_append]
    have := ih (by omega)
    omega
theorem prt_yes {p : List Tv} (h : okP p = true) : prt nt p = if (lx p p.length).length ≤ 4000 then (lx p p.length, true) else ([], false) := by
  obtain ⟨hz, hp⟩ := okP_get h
  have h1 : (ltx nt p).isSome = true := ltx_some (fun s hs => by
    obtain ⟨x, e⟩ := hp s hs
    rw [e]; rfl)
  obtain ⟨t, ht⟩ := Option.isSome_iff_exists.1 h1
  unfold prt lx
  rw [if_pos hz, List.take_length, ht]
  rfl
end Pl
set_option maxRecDepth 100000
theorem und116 : Tryz.prog.underlying 127 = some (.slice (Tryz.prog.elem 127)) := by kernel_rfl
theorem und116' : Tryz.prog.underlying 127 = some (.slice 115) := by kernel_rfl
theorem elem116 : Tryz.prog.elem 127 = 115 := by kernel_rfl
theorem Tryz.info115 : (Tryz.prog.info? 115).map (fun i => (i.zero, i.size, i.bytes)) = some (some .nilIface, 1, 16) := by kernel_rfl
def lo116 (ao : Option Addr) (cp j : Nat) : Option Addr := if cp = j then ao else ao.map (fun a => a.add (j * 1))
theorem exec_hi116 {o : Oper} {a : Act} (x y : Operand) (ao : Option Addr) (n cp j : Nat) (ho : o.op = Op.slice 127 x none (some y) none) (hx : a.eval x = .slice ao n cp) (hy : a.eval y = .int .i64 (j : Int)) (h : j ≤ cp) (w : World) :
    (execOp a.eval o).run Tryz.prog w = .ok (.value (.slice ao j cp)) w := by
  have e : (Instr.sliceAt 127 (.slice ao n cp) none (some (.int .i64 (j : Int))) none).run Tryz.prog w = .ok (.slice ao j cp) w := by
    rw [run_sliceAt_slice _ _ _ _ _ _ und116, run_slice_h _ _ _ _ _ und116 _ _ (by omega) (by omega), elem116, Tryz.sizeOf115]
    cases ao <;> simp [Result.andThen, sliced, Addr.add]
  simp [execOp, ho, hx, hy, e, Result.andThen]
theorem exec_lo116 {o : Oper} {a : Act} (x y : Operand) (ao : Option Addr) (n cp j : Nat) (ho : o.op = Op.slice 127 x (some y) none none) (hx : a.eval x = .slice ao n cp) (hy : a.eval y = .int .i64 (j : Int)) (h : j ≤ n) (hc : n ≤ cp) (w : World) :
    (execOp a.eval o).run Tryz.prog w = .ok (.value (.slice (lo116 ao cp j) (n - j) (cp - j))) w := by
  have e : (Instr.sliceAt 127 (.slice ao n cp) (some (.int .i64 (j : Int))) none none).run Tryz.prog w = .ok (.slice (lo116 ao cp j) (n - j) (cp - j)) w := by
    rw [run_sliceAt_slice _ _ _ _ _ _ und116, run_slice_l _ _ _ _ _ und116 _ _ (by omega) (by omega), elem116, Tryz.sizeOf115]
    simp only [Result.andThen, sliced, lo116, Int.toNat_natCast]
  simp [execOp, ho, hx, hy, e, Result.andThen]
theorem exec_move {o : Oper} {a : Act} (x : Operand) (v : Value) (ho : o.op = Op.move x) (hx : a.eval x = v) (w : World) : (execOp a.eval o).run Tryz.prog w = .ok (.value v) w := by
  simp [execOp, ho, hx]
theorem ownsRow_cut {base e n r yo : Nat} {xo : Option Addr} {w : World} {xs : List Value} (h : w.ownsRow base e 1 (.slice xo n yo) n xs) (hr : r ≤ n) : w.ownsRow base e 1 (.slice xo r yo) r (xs.take r) := by
  obtain ⟨h1, h2⟩ := h
  refine ⟨by rw [List.length_take]; omega, ?_⟩
  rcases h2 with ⟨h2, h3⟩ | ⟨g, cap, cur, h2, h3, h4, h5, h6, h7, h8⟩
  · injection h2 with a1 a2 a3
    subst a1 a2 a3
    obtain rfl : r = 0 := by omega
    exact .inl ⟨rfl, rfl⟩
  · injection h2 with a1 a2 a3
    subst a1 a3
    refine .inr ⟨g, yo, cur, rfl, h3, h4, by omega, h6, h7, ?_⟩
    rw [← h8, List.take_take]
    congr 1
    omega
theorem owns_keep {base e n : Nat} {w w' : World} {v : Value} {xs : List Value} (h : w.ownsRow base e 1 v n xs) (hb : Below w.heap.size w w') : w'.ownsRow base e 1 v n xs := by
  refine ⟨h.1, ?_⟩
  rcases h.2 with h | ⟨g, cap, cur, e, h1, h2, h3⟩
  · exact .inl h
  · exact .inr ⟨g, cap, cur, e, h1, (hb.block g (Array.getElem?_eq_some_iff.1 h2).1).trans h2, h3⟩
theorem owns_form {base e n : Nat} {w : World} {v : Value} {xs : List Value} (h : w.ownsRow base e 1 v n xs) : ∃ xo yo, v = .slice xo n yo ∧ n ≤ yo := by
  rcases h.2 with ⟨e, h0⟩ | ⟨g, cp, cur, e, _, _, h, _⟩
  · exact ⟨none, 0, by rw [h0]; exact e, by omega⟩
  · exact ⟨_, _, e, h⟩
/-- nodes on the stack, topmost first -/
def Stk (B : Nat) (w : World) : List (Pl.Nd Pl.Sv) → List Value → Prop
  | [], [] => True
  | t :: st, v :: rx => NdV B w t v ∧ Stk B w st rx
  | _, _ => False
theorem Stk.keep {B : Nat} {w w' : World} (hb : Below B w w') : ∀ {st : List (Pl.Nd Pl.Sv)} {rx : List Value}, Stk B w st rx → Stk B w' st rx := by
  intro st
  induction st with
  | nil => intro rx h; cases rx <;> exact h
  | cons t st ih =>
    intro rx h
    cases rx with
    | nil => exact h
    | cons v rx => exact ⟨NdV.keep hb h.1, ih h.2⟩
theorem Stk.len {B : Nat} {w : World} : ∀ {st : List (Pl.Nd Pl.Sv)} {rx : List Value}, Stk B w st rx → rx.length = st.length := by
  intro st
  induction st with
  | nil => intro rx h; cases rx with | nil => rfl | cons v rx => cases h
  | cons t st ih =>
    intro rx h
    cases rx with
    | nil => cases h
    | cons v rx => simp [ih h.2]
theorem Stk.one {B : Nat} {w : World} : ∀ {st : List (Pl.Nd Pl.Sv)} {rx : List Value}, Stk B w st rx → ∀ v ∈ rx, v.oneCell' = true := by
  intro st
  induction st with
  | nil => intro rx h; cases rx with | nil => intro v hv; cases hv | cons v rx => cases h
  | cons t st ih =>
    intro rx h v hv
    cases rx with
    | nil => cases h
    | cons u rx =>
      rcases List.mem_cons.1 hv with rfl | hv
      · obtain ⟨T, p, rfl⟩ := h.1.iface
        rfl
      · exact ih h.2 v hv
namespace Pl
theorem run_snoc {α : Type} (ar : α → Nat) : ∀ (c : List α) (s : α) (st : List (Nd α)), run ar (c ++ [s]) st = match run ar c st with | none => none | some st' => run ar [s] st' := by
  intro c
  induction c with
  | nil => intro s st; rfl
  | cons x c ih =>
    intro s st
    simp only [List.cons_append, run]
    split
    · exact ih s _
    · split
      · cases st with
        | nil => rfl
        | cons y st => exact ih s _
      · match st with
        | [] => rfl
        | [y] => rfl
        | l :: r :: st => exact ih s _
theorem run_none {α : Type} (ar : α → Nat) (c : List α) : ∀ (b : List α) (st : List (Nd α)), run ar c st = none → run ar (c ++ b) st = none := by
  intro b
  induction b generalizing c with
  | nil => intro st h; rw [List.append_nil]; exact h
  | cons s b ih =>
    intro st h
    have : c ++ s :: b = (c ++ [s]) ++ b := by simp
    rw [this]
    apply ih
    rw [run_snoc, h]
theorem run_take {c : List Sv} {k : Nat} {s : Sv} (h : c[k]? = some s) {st : List (Nd Sv)} (hr : run ar (c.take k) [] = some st) : run ar (c.take (k + 1)) [] = run ar [s] st := by
  rw [List.take_add_one, h]
  show run ar (c.take k ++ [s]) [] = _
  rw [run_snoc, hr]
theorem run_fail {c : List Sv} {k : Nat} (h : run ar (c.take k) [] = none) : run ar c [] = none := by
  have := run_none ar (c.take k) (c.drop k) [] h
  rwa [List.take_append_drop] at this
theorem run_len : ∀ (c : List Sv) (st st' : List (Nd Sv)), run ar c st = some st' → st'.length ≤ st.length + c.length := by
  intro c
  induction c with
  | nil => intro st st' h; simp only [run, Option.some.injEq] at h; rw [h]; simp
  | cons s c ih =>
    intro st st' h
    simp only [run] at h
    split at h
    · have := ih _ _ h; simp only [List.length_cons] at *; omega
    · split at h
      · cases st with
        | nil => cases h
        | cons y st => have := ih _ _ h; simp only [List.length_cons] at *; omega
      · match st, h with
        | [], h => cases h
        | [y], h => cases h
        | l :: r :: st, h => have := ih _ _ h; simp only [List.length_cons] at *; omega
end Pl
theorem ready_val {P : Program} {ops : Array Oper} {Q : Exit → Act → World → Prop} {o : Oper} {a : Act} {w w' : World} {K : Act → World → Prop} (hg : o.guard = none) (v : Value) (h : (execOp a.eval o).run P w = .ok (.value v) w') (hK : K (a.put o.dst v) w') :
    if Region.wanted o (yielded ops a.tmps) = true then Oper.wp P o a w K Q else K (a.put o.dst undef) w := by
  have hw : Region.wanted o (yielded ops a.tmps) = true := by simp [Region.wanted, hg]
  rw [if_pos hw]
  unfold Oper.wp
  rw [h]
  exact hK
theorem ready_call {P : Program} {ops : Array Oper} {Q : Exit → Act → World → Prop} {o : Oper} {a : Act} {w : World} {K : Act → World → Prop} (hg : o.guard = none) (f : FuncId) (args : Array Value) (h : (execOp a.eval o).run P w = .ok (.enter f args) w) (hK : Calls P f args w fun e w' => ∃ v, e = .returned v ∧ K (a.put o.dst v) w') :
    if Region.wanted o (yielded ops a.tmps) = true then Oper.wp P o a w K Q else K (a.put o.dst undef) w := by
  have hw : Region.wanted o (yielded ops a.tmps) = true := by simp [Region.wanted, hg]
  rw [if_pos hw]
  unfold Oper.wp
  rw [h]
  refine hK.mono ?_
  rintro e w' ⟨v, rfl, h⟩
  exact h
theorem step_val {P : Program} {md : Region.Mode} {ops : Array Oper} {Q : Exit → Act → World → Prop} {S : World → Prop} {fuel : Nat} {listed : Array Bool} {i : Nat} {o : Oper} {a : Act} {w w' : World} (hr : Region.ready md ops listed = [i]) (ho : ops[i]? = some o) (hg : o.guard = none) (v : Value) (h : (execOp a.eval o).run P w = .ok (.value v) w') (hS : S w')
    (hN : wpAnyH P md ops Q S fuel (listed.setIfInBounds i true) (a.put o.dst v) w') : wpAnyH P md ops Q S (fuel + 1) listed a w :=
  wpAnyH_ready hr (by simp) (AllReadyH.cons ho (fun K hK => ready_val hg v h (hK.out _ _ hS (fun _ => hN))) AllReadyH.nil)
theorem step_call {P : Program} {md : Region.Mode} {ops : Array Oper} {Q : Exit → Act → World → Prop} {S : World → Prop} {fuel : Nat} {listed : Array Bool} {i : Nat} {o : Oper} {a : Act} {w : World} (hr : Region.ready md ops listed = [i]) (ho : ops[i]? = some o) (hg : o.guard = none) (f : FuncId) (args : Array Value) (h : (execOp a.eval o).run P w = .ok (.enter f args) w)
    (hN : Calls P f args w fun e w' => ∃ v, e = .returned v ∧ S w' ∧ wpAnyH P md ops Q S fuel (listed.setIfInBounds i true) (a.put o.dst v) w') : wpAnyH P md ops Q S (fuel + 1) listed a w :=
  wpAnyH_ready hr (by simp) (AllReadyH.cons ho (fun K hK => ready_call hg f args h (hN.mono (by
    rintro e w' ⟨v, rfl, hS, hW⟩
    exact ⟨v, rfl, hK.out _ _ hS (fun _ => hW)⟩))) AllReadyH.nil)
theorem exec_assign {o : Oper} {a : Act} (x : Operand) (v : Value) (ho : o.op = Op.assign x) (hx : a.eval x = v) (w : World) : (execOp a.eval o).run Tryz.prog w = .ok (.value v) w := by
  simp [execOp, ho, hx]
theorem exec_call71 {o : Oper} {a : Act} (x y : Operand) (v u : Value) (ts : Array TypeId) (ho : o.op = Op.call { callee := .value (.func 86), args := #[x, y], argTypes := ts }) (hx : a.eval x = v) (hy : a.eval y = u) (w : World) : (execOp a.eval o).run Tryz.prog w = .ok (.enter 86 #[v, u]) w := by
  have he : ∀ args w, (callFunc 86 args).run Tryz.prog w = .ok (.enter 86 args) w := enters_of Tryz.func86 (by kernel_rfl) rfl
  have hf : a.eval (.func 86) = .func (.func 86) #[] #[] := rfl
  simp [execOp, ho, hx, hy, hf, resolve, invoke, Deferred.ofValue, he]
theorem exec_build104 {o : Oper} {a : Act} (x : Operand) (T : TypeId) (p : Value) (ho : o.op = Op.buildSlice 127 1 #[(0, x)]) (hx : a.eval x = .iface T p) (w : World) : (execOp a.eval o).run Tryz.prog w = .ok (.value (.slice (some ⟨w.heap.size, 0, none⟩) 1 1)) (w.alloc (.cells #[.iface T p] 115)) := by
  simp [execOp, ho, hx]
  go_simp
theorem exec_app104 {o : Oper} {a : Act} (x y : Operand) (v u r : Value) (w w' : World) (ho : o.op = Op.call { callee := .builtin .append, args := #[x, y], argTypes := #[127, 127] }) (hx : a.eval x = v) (hy : a.eval y = u) (hr : (Builtin.append_ #[127, 127] o.type #[v, u]).run Tryz.prog w = .ok r w') : (execOp a.eval o).run Tryz.prog w = .ok (.value r) w' := by
  simp [execOp, ho, hx, hy, resolve, invoke, builtin, hr, Result.andThen]
theorem exec_load80 {o : Oper} {a : Act} (x : Operand) (b : Nat) (v0 v3 v4 v5 : Int) (an : Option Addr) (sn cn : Nat) (nm fnm : ByteArray) (w : World) (ho : o.op = Op.load 40 x) (hx : a.eval x = .pointer (some ⟨b, 0, none⟩))
    (d0 : w.cell? ⟨b, 0, none⟩ = some (.int .i64 v0)) (d1 : w.cell? ⟨b, 1, none⟩ = some (.slice an sn cn)) (d2 : w.cell? ⟨b, 2, none⟩ = some (.string nm)) (d3 : w.cell? ⟨b, 3, none⟩ = some (.int .i64 v3)) (d4 : w.cell? ⟨b, 4, none⟩ = some (.int .i64 v4)) (d5 : w.cell? ⟨b, 5, none⟩ = some (.int .i64 v5)) (d6 : w.cell? ⟨b, 6, none⟩ = some (.string fnm)) :
    (execOp a.eval o).run Tryz.prog w = .ok (.value (.agg #[.int .i64 v0, .slice an sn cn, .string nm, .int .i64 v3, .int .i64 v4, .int .i64 v5, .string fnm])) w := by
  have z80 := Tryz.sizeOf40
  have a80 := Tryz.isAgg40
  simp only [execOp, ho, hx]
  go_simp
theorem exec_f40_1 {o : Oper} {a : Act} (x : Operand) (b : Nat) (ho : o.op = Op.fieldAddr 44 x 1) (hx : a.eval x = .pointer (some ⟨b, 0, none⟩)) (w : World) : (execOp a.eval o).run Tryz.prog w = .ok (.value (.pointer (some ⟨b, 1, none⟩))) w := by
  simp only [execOp, ho, hx]
  go_simp
theorem exec_load9 {o : Oper} {a : Act} (x : Operand) (b j : Nat) (s : ByteArray) (w : World) (ho : o.op = Op.load 9 x) (hx : a.eval x = .pointer (some ⟨b, j, none⟩)) (d : w.cell? ⟨b, j, none⟩ = some (.string s)) : (execOp a.eval o).run Tryz.prog w = .ok (.value (.string s)) w := by
  simp only [execOp, ho, hx]
  go_simp
theorem exec_add9 {o : Oper} {a : Act} (x y : Operand) (s t : ByteArray) (ho : o.op = Op.binOp BinOp.add 9 x y 9) (hx : a.eval x = .string s) (hy : a.eval y = .string t) (hl : ¬ (9223372036854775807 < s.size + t.size)) (w : World) : (execOp a.eval o).run Tryz.prog w = .ok (.value (.string (s ++ t))) w := by
  simp only [execOp, ho, hx, hy]
  go_simp
theorem exec_eql3 {o : Oper} {a : Act} (x y : Operand) (m n : Int) (r : Bool) (ho : o.op = Op.binOp BinOp.eql 3 x y 3) (hx : a.eval x = .int .i64 m) (hy : a.eval y = .int .i64 n) (hr : (m == n) = r) (w : World) : (execOp a.eval o).run Tryz.prog w = .ok (.value (.bool r)) w := by
  simp only [execOp, ho, hx, hy]
  go_simp
theorem exec_pickF {o : Oper} {a : Act} (c x : Operand) (v : Value) (ho : o.op = Op.pick c x (.const v)) (hc : a.eval c = .bool false) (w : World) : (execOp a.eval o).run Tryz.prog w = .ok (.value v) w := by
  simp only [execOp, ho, hc]
  go_simp
theorem exec_call45 {o : Oper} {a : Act} (x : Operand) (v : Value) (ts : Array TypeId) (ho : o.op = Op.call { callee := .value (.func 47), args := #[x], argTypes := ts }) (hx : a.eval x = v) (w : World) : (execOp a.eval o).run Tryz.prog w = .ok (.enter 47 #[v]) w := by
  have he : ∀ args w, (callFunc 47 args).run Tryz.prog w = .ok (.enter 47 args) w := enters_of Tryz.func47 (by kernel_rfl) rfl
  have hf : a.eval (.func 47) = .func (.func 47) #[] #[] := rfl
  simp [execOp, ho, hx, hf, resolve, invoke, Deferred.ofValue, he]
set_option maxHeartbeats 16000000 in
theorem stt_2b (nm se sg : ByteArray) (a1 a2 : Option Addr) (cl c1 G c2 : Nat) (z : Int) (w : World) (hz : z ≠ 2) (h1 : nm.size ≤ 100000000) (h2 : se.size ≤ 100000000) (h3 : sg.size ≤ 100000000) (hG : G ≤ 1048576)
    (k1 : ∀ w', Below w.heap.size w w' → Calls Tryz.prog 45 #[.slice a1 cl c1] w' fun e w2 => e = .returned (.tuple #[.string se, .bool true]) ∧ Below w'.heap.size w' w2)
    (k2 : ∀ w', Below w.heap.size w w' → Calls Tryz.prog 46 #[.slice a2 G c2] w' fun e w2 => e = .returned (.tuple #[.string sg, .bool true]) ∧ Below w'.heap.size w' w2)
    (kw : ∀ w', Below w.heap.size w w' → Calls Tryz.prog 47 #[.string nm] w' fun e w2 => e = .returned (.int .i64 z) ∧ Below w'.heap.size w' w2) :
    Calls Tryz.prog 25 #[.agg #[.int .i64 2, .string nm, .slice a1 cl c1, .slice a2 G c2]] w fun e w' => e = .returned (.tuple #[.string (nm ++ ⟨#[32, 58, 61, 32]⟩ ++ se), .bool false]) ∧ Below w.heap.size w w' := by
  have HB : Hid (∀ o, Below w.heap.size w (w.alloc o)) := fun o => (Below.refl _ _).alloc (Nat.le_refl _) _
  have K1 := hideP k1
  have K2 := hideP k2
  have KW := hideP kw
  clear k1 k2 kw
  have C : Hid (∀ (w1 w' : World) (j : Nat) (v : Value), Below w1.heap.size w1 w' → w.heap.size < w1.heap.size → w1.cell? ⟨w.heap.size, j, none⟩ = some v → w'.cell? ⟨w.heap.size, j, none⟩ = some v) := fun w1 w' j v hb h1 h => (hb.cell (p := ⟨w.heap.size, j, none⟩) h1).trans h
  have Q : Hid ((z == 2) = false) := by show _ = _; simp [hz]
  have hs4 : (⟨#[32, 58, 61, 32]⟩ : ByteArray).size = 4 := rfl
  have hs5 : (⟨#[32, 58, 61, 32, 123]⟩ : ByteArray).size = 5 := rfl
  have hs1 : (⟨#[125]⟩ : ByteArray).size = 1 := rfl
  have M1 : Hid (¬ (9223372036854775807 < nm.size + (⟨#[32, 58, 61, 32]⟩ : ByteArray).size)) := by show ¬ _; omega
  have M2 : Hid (¬ (9223372036854775807 < (nm ++ ⟨#[32, 58, 61, 32]⟩).size + se.size)) := by show ¬ _; rw [ByteArray.size_append]; omega
  have M3 : Hid (¬ (9223372036854775807 < nm.size + (⟨#[32, 58, 61, 32, 123]⟩ : ByteArray).size)) := by show ¬ _; omega
  have M4 : Hid (¬ (9223372036854775807 < (nm ++ ⟨#[32, 58, 61, 32, 123]⟩).size + sg.size)) := by show ¬ _; rw [ByteArray.size_append]; omega
  have M5 : Hid (¬ (9223372036854775807 < (nm ++ ⟨#[32, 58, 61, 32, 123]⟩ ++ sg).size + se.size)) := by show ¬ _; rw [ByteArray.size_append, ByteArray.size_append]; omega
  have M6 : Hid (¬ (9223372036854775807 < (nm ++ ⟨#[32, 58, 61, 32, 123]⟩ ++ sg ++ se).size + (⟨#[125]⟩ : ByteArray).size)) := by show ¬ _; rw [ByteArray.size_append, ByteArray.size_append, ByteArray.size_append]; omega
  clear hs4 hs5 hs1
  go_enter Tryz.func25, Tryz.ntmps25
  go_wp2_with fail
  refine (K1.out _ (HB.out _)).mono ?_
  rintro e' w2 ⟨rfl, hb2⟩
  have d0 := C.out _ _ 0 _ hb2 (by simp) (by simp [go_sem]; rfl)
  have d1 := C.out _ _ 1 _ hb2 (by simp) (by simp [go_sem]; rfl)
  have d3 := C.out _ _ 3 _ hb2 (by simp) (by simp [go_sem]; rfl)
  have B2 := hideP ((HB.out _).trans (hb2.mono (by simp)))
  have z2 : w.heap.size < w2.heap.size := Nat.lt_of_lt_of_le (by simp) hb2.size
  clear hb2
  go_wp2_with fail
  refine (K2.out _ B2.out).mono ?_
  rintro e' w3 ⟨rfl, hb3⟩
  have e0 := C.out _ _ 0 _ hb3 z2 d0
  have e1 := C.out _ _ 1 _ hb3 z2 d1
  have B3 := hideP (B2.out.trans (hb3.mono B2.out.size))
  have z3 : w.heap.size < w3.heap.size := Nat.lt_of_lt_of_le z2 hb3.size
  clear hb3 d0 d1 d3
  go_wp2_with fail
  have E1 : Hid (w3.drew.cell? ⟨w.heap.size, 1, none⟩ = some (.string nm)) := e1
  have B3D : Hid (Below w.heap.size w w3.drew) := B3.out.drew
  have Z3 : Hid (w.heap.size < w3.drew.heap.size) := z3
  clear e0 e1 z2 z3
  refine wp_region_held (S := fun w' => w'.cell? ⟨w.heap.size, 1, none⟩ = some (.string nm)) (by kernel_rfl) ?_
  change wpAnyH _ _ _ _ _ _ _ _ (World.drew _)
  generalize World.drew w3 = wd at E1 B3D Z3 ⊢
  refine wpAnyH_take (i := 0) (v := .pointer (some ⟨w.heap.size, 1, none⟩)) rfl (by kernel_rfl) (by kernel_rfl) (by kernel_rfl) (fun _ _ _ h => h) (Or.inl ⟨by rfl, fun w' hS => exec_f40_1 (.tmp 1) w.heap.size rfl (by kernel_rfl) w'⟩) E1.out ?_
  refine wpAnyH_take (i := 1) (v := .string nm) rfl (by kernel_rfl) (by kernel_rfl) (by kernel_rfl) (fun _ _ _ h => h) (Or.inl ⟨by rfl, fun w' hS => exec_load9 (.tmp 42) w.heap.size 1 nm w' rfl (by kernel_rfl) hS⟩) E1.out ?_
  refine wpAnyH_take (i := 2) (v := .string (nm ++ ⟨#[32, 58, 61, 32]⟩)) rfl (by kernel_rfl) (by kernel_rfl) (by kernel_rfl) (fun _ _ _ h => h) (Or.inl ⟨by rfl, fun w' hS => exec_add9 (.tmp 43) (.const (.string ⟨#[32, 58, 61, 32]⟩)) (nm) (⟨#[32, 58, 61, 32]⟩) rfl (by kernel_rfl) (by kernel_rfl) M1.out w'⟩) E1.out ?_
  refine wpAnyH_take (i := 3) (v := .string se) rfl (by kernel_rfl) (by kernel_rfl) (by kernel_rfl) (fun _ _ _ h => h) (Or.inl ⟨by rfl, fun w' hS => exec_move (.tmp 4) (.string se) rfl (by kernel_rfl) w'⟩) E1.out ?_
  refine wpAnyH_take (i := 4) (v := .string (nm ++ ⟨#[32, 58, 61, 32]⟩ ++ se)) rfl (by kernel_rfl) (by kernel_rfl) (by kernel_rfl) (fun _ _ _ h => h) (Or.inl ⟨by rfl, fun w' hS => exec_add9 (.tmp 44) (.tmp 45) (nm ++ ⟨#[32, 58, 61, 32]⟩) (se) rfl (by kernel_rfl) (by kernel_rfl) M2.out w'⟩) E1.out ?_
  refine wpAnyH_take (i := 5) (v := .pointer (some ⟨w.heap.size, 1, none⟩)) rfl (by kernel_rfl) (by kernel_rfl) (by kernel_rfl) (fun _ _ _ h => h) (Or.inl ⟨by rfl, fun w' hS => exec_f40_1 (.tmp 1) w.heap.size rfl (by kernel_rfl) w'⟩) E1.out ?_
  refine wpAnyH_take (i := 6) (v := .string nm) rfl (by kernel_rfl) (by kernel_rfl) (by kernel_rfl) (fun _ _ _ h => h) (Or.inl ⟨by rfl, fun w' hS => exec_load9 (.tmp 47) w.heap.size 1 nm w' rfl (by kernel_rfl) hS⟩) E1.out ?_
  refine step_call (i := 7) (by kernel_rfl) rfl rfl 47 _ (exec_call45 (.tmp 48) (.string nm) _ rfl (by kernel_rfl) wd) ?_
  refine (KW.out _ B3D.out).mono ?_
  rintro e' w4 ⟨rfl, hb4⟩
  have E4 : Hid (w4.cell? ⟨w.heap.size, 1, none⟩ = some (.string nm)) := C.out _ _ 1 _ hb4 Z3.out E1.out
  have B4 := hideP (B3D.out.trans (hb4.mono B3D.out.size))
  clear hb4
  refine ⟨_, rfl, E4.out, ?_⟩
  refine wpAnyH_take (i := 8) (v := .bool false) rfl (by kernel_rfl) (by kernel_rfl) (by kernel_rfl) (fun _ _ _ h => h) (Or.inl ⟨by rfl, fun w' hS => exec_eql3 (.tmp 49) (.const (.int .i64 2)) z 2 false rfl (by kernel_rfl) (by kernel_rfl) Q.out w'⟩) E4.out ?_
  refine wpAnyH_take (i := 9) (v := .bool false) rfl (by kernel_rfl) (by kernel_rfl) (by kernel_rfl) (fun _ _ _ h => h) (Or.inl ⟨by rfl, fun w' hS => exec_move (.tmp 50) (.bool false) rfl (by kernel_rfl) w'⟩) E4.out ?_
  refine wpAnyH_take (i := 10) (v := undef) rfl (by kernel_rfl) (by kernel_rfl) (by kernel_rfl) (fun _ _ _ h => h) (Or.inr ⟨by kernel_rfl, rfl⟩) E4.out ?_
  refine wpAnyH_take (i := 11) (v := undef) rfl (by kernel_rfl) (by kernel_rfl) (by kernel_rfl) (fun _ _ _ h => h) (Or.inr ⟨by kernel_rfl, rfl⟩) E4.out ?_
  refine wpAnyH_take (i := 12) (v := undef) rfl (by kernel_rfl) (by kernel_rfl) (by kernel_rfl) (fun _ _ _ h => h) (Or.inr ⟨by kernel_rfl, rfl⟩) E4.out ?_
  refine wpAnyH_take (i := 13) (v := undef) rfl (by kernel_rfl) (by kernel_rfl) (by kernel_rfl) (fun _ _ _ h => h) (Or.inr ⟨by kernel_rfl, rfl⟩) E4.out ?_
  refine wpAnyH_take (i := 14) (v := .bool false) rfl (by kernel_rfl) (by kernel_rfl) (by kernel_rfl) (fun _ _ _ h => h) (Or.inl ⟨by rfl, fun w' hS => exec_pickF (.tmp 51) (.tmp 55) (.bool false) rfl (by kernel_rfl) w'⟩) E4.out ?_
  refine step_val (i := 15) (by kernel_rfl) rfl rfl _ (exec_assign (.tmp 46) (.string (nm ++ ⟨#[32, 58, 61, 32]⟩ ++ se)) rfl (by kernel_rfl) w4) E4.out ?_
  refine step_val (i := 16) (by kernel_rfl) rfl rfl _ (exec_assign (.tmp 56) (.bool false) rfl (by kernel_rfl) w4) E4.out ?_
  refine wpAnyH_done (by kernel_rfl) ?_ _
  go_simp
  go_wp2_with fail
  go_ret2
  exact ⟨rfl, B4.out⟩
set_option maxHeartbeats 16000000 in
theorem stt_3b (nm se sg : ByteArray) (a1 a2 : Option Addr) (cl c1 G c2 : Nat) (z : Int) (w : World) (hz : z ≠ 3) (h1 : nm.size ≤ 100000000) (h2 : se.size ≤ 100000000) (h3 : sg.size ≤ 100000000) (hG : G ≤ 1048576)
    (k1 : ∀ w', Below w.heap.size w w' → Calls Tryz.prog 45 #[.slice a1 cl c1] w' fun e w2 => e = .returned (.tuple #[.string se, .bool true]) ∧ Below w'.heap.size w' w2)
    (k2 : ∀ w', Below w.heap.size w w' → Calls Tryz.prog 46 #[.slice a2 G c2] w' fun e w2 => e = .returned (.tuple #[.string sg, .bool true]) ∧ Below w'.heap.size w' w2)
    (kw : ∀ w', Below w.heap.size w w' → Calls Tryz.prog 47 #[.string nm] w' fun e w2 => e = .returned (.int .i64 z) ∧ Below w'.heap.size w' w2) :
    Calls Tryz.prog 25 #[.agg #[.int .i64 3, .string nm, .slice a1 cl c1, .slice a2 G c2]] w fun e w' => e = .returned (.tuple #[.string (nm ++ ⟨#[32, 58, 61, 32, 123]⟩ ++ sg ++ se ++ ⟨#[125]⟩), .bool false]) ∧ Below w.heap.size w w' := by
  have HB : Hid (∀ o, Below w.heap.size w (w.alloc o)) := fun o => (Below.refl _ _).alloc (Nat.le_refl _) _
  have K1 := hideP k1
  have K2 := hideP k2
  have KW := hideP kw
  clear k1 k2 kw
  have C : Hid (∀ (w1 w' : World) (j : Nat) (v : Value), Below w1.heap.size w1 w' → w.heap.size < w1.heap.size → w1.cell? ⟨w.heap.size, j, none⟩ = some v → w'.cell? ⟨w.heap.size, j, none⟩ = some v) := fun w1 w' j v hb h1 h => (hb.cell (p := ⟨w.heap.size, j, none⟩) h1).trans h
  have Q : Hid ((z == 3) = false) := by show _ = _; simp [hz]
  have hs4 : (⟨#[32, 58, 61, 32]⟩ : ByteArray).size = 4 := rfl
  have hs5 : (⟨#[32, 58, 61, 32, 123]⟩ : ByteArray).size = 5 := rfl
  have hs1 : (⟨#[125]⟩ : ByteArray).size = 1 := rfl
  have M1 : Hid (¬ (9223372036854775807 < nm.size + (⟨#[32, 58, 61, 32]⟩ : ByteArray).size)) := by show ¬ _; omega
  have M2 : Hid (¬ (9223372036854775807 < (nm ++ ⟨#[32, 58, 61, 32]⟩).size + se.size)) := by show ¬ _; rw [ByteArray.size_append]; omega
  have M3 : Hid (¬ (9223372036854775807 < nm.size + (⟨#[32, 58, 61, 32, 123]⟩ : ByteArray).size)) := by show ¬ _; omega
  have M4 : Hid (¬ (9223372036854775807 < (nm ++ ⟨#[32, 58, 61, 32, 123]⟩).size + sg.size)) := by show ¬ _; rw [ByteArray.size_append]; omega
  have M5 : Hid (¬ (9223372036854775807 < (nm ++ ⟨#[32, 58, 61, 32, 123]⟩ ++ sg).size + se.size)) := by show ¬ _; rw [ByteArray.size_append, ByteArray.size_append]; omega
  have M6 : Hid (¬ (9223372036854775807 < (nm ++ ⟨#[32, 58, 61, 32, 123]⟩ ++ sg ++ se).size + (⟨#[125]⟩ : ByteArray).size)) := by show ¬ _; rw [ByteArray.size_append, ByteArray.size_append, ByteArray.size_append]; omega
  clear hs4 hs5 hs1
  go_enter Tryz.func25, Tryz.ntmps25
  go_wp2_with fail
  refine (K1.out _ (HB.out _)).mono ?_
  rintro e' w2 ⟨rfl, hb2⟩
  have d0 := C.out _ _ 0 _ hb2 (by simp) (by simp [go_sem]; rfl)
  have d1 := C.out _ _ 1 _ hb2 (by simp) (by simp [go_sem]; rfl)
  have d3 := C.out _ _ 3 _ hb2 (by simp) (by simp [go_sem]; rfl)
  have B2 := hideP ((HB.out _).trans (hb2.mono (by simp)))
  have z2 : w.heap.size < w2.heap.size := Nat.lt_of_lt_of_le (by simp) hb2.size
  clear hb2
  go_wp2_with fail
  refine (K2.out _ B2.out).mono ?_
  rintro e' w3 ⟨rfl, hb3⟩
  have e0 := C.out _ _ 0 _ hb3 z2 d0
  have e1 := C.out _ _ 1 _ hb3 z2 d1
  have B3 := hideP (B2.out.trans (hb3.mono B2.out.size))
  have z3 : w.heap.size < w3.heap.size := Nat.lt_of_lt_of_le z2 hb3.size
  clear hb3 d0 d1 d3
  go_wp2_with fail
  have E1 : Hid (w3.drew.cell? ⟨w.heap.size, 1, none⟩ = some (.string nm)) := e1
  have B3D : Hid (Below w.heap.size w w3.drew) := B3.out.drew
  have Z3 : Hid (w.heap.size < w3.drew.heap.size) := z3
  clear e0 e1 z2 z3
  refine wp_region_held (S := fun w' => w'.cell? ⟨w.heap.size, 1, none⟩ = some (.string nm)) (by kernel_rfl) ?_
  change wpAnyH _ _ _ _ _ _ _ _ (World.drew _)
  generalize World.drew w3 = wd at E1 B3D Z3 ⊢
  refine wpAnyH_take (i := 0) (v := .pointer (some ⟨w.heap.size, 1, none⟩)) rfl (by kernel_rfl) (by kernel_rfl) (by kernel_rfl) (fun _ _ _ h => h) (Or.inl ⟨by rfl, fun w' hS => exec_f40_1 (.tmp 1) w.heap.size rfl (by kernel_rfl) w'⟩) E1.out ?_
  refine wpAnyH_take (i := 1) (v := .string nm) rfl (by kernel_rfl) (by kernel_rfl) (by kernel_rfl) (fun _ _ _ h => h) (Or.inl ⟨by rfl, fun w' hS => exec_load9 (.tmp 59) w.heap.size 1 nm w' rfl (by kernel_rfl) hS⟩) E1.out ?_
  refine wpAnyH_take (i := 2) (v := .string (nm ++ ⟨#[32, 58, 61, 32, 123]⟩)) rfl (by kernel_rfl) (by kernel_rfl) (by kernel_rfl) (fun _ _ _ h => h) (Or.inl ⟨by rfl, fun w' hS => exec_add9 (.tmp 60) (.const (.string ⟨#[32, 58, 61, 32, 123]⟩)) (nm) (⟨#[32, 58, 61, 32, 123]⟩) rfl (by kernel_rfl) (by kernel_rfl) M3.out w'⟩) E1.out ?_
  refine wpAnyH_take (i := 3) (v := .string sg) rfl (by kernel_rfl) (by kernel_rfl) (by kernel_rfl) (fun _ _ _ h => h) (Or.inl ⟨by rfl, fun w' hS => exec_move (.tmp 6) (.string sg) rfl (by kernel_rfl) w'⟩) E1.out ?_
  refine wpAnyH_take (i := 4) (v := .string (nm ++ ⟨#[32, 58, 61, 32, 123]⟩ ++ sg)) rfl (by kernel_rfl) (by kernel_rfl) (by kernel_rfl) (fun _ _ _ h => h) (Or.inl ⟨by rfl, fun w' hS => exec_add9 (.tmp 61) (.tmp 62) (nm ++ ⟨#[32, 58, 61, 32, 123]⟩) (sg) rfl (by kernel_rfl) (by kernel_rfl) M4.out w'⟩) E1.out ?_
  refine wpAnyH_take (i := 5) (v := .string se) rfl (by kernel_rfl) (by kernel_rfl) (by kernel_rfl) (fun _ _ _ h => h) (Or.inl ⟨by rfl, fun w' hS => exec_move (.tmp 4) (.string se) rfl (by kernel_rfl) w'⟩) E1.out ?_
  refine wpAnyH_take (i := 6) (v := .string (nm ++ ⟨#[32, 58, 61, 32, 123]⟩ ++ sg ++ se)) rfl (by kernel_rfl) (by kernel_rfl) (by kernel_rfl) (fun _ _ _ h => h) (Or.inl ⟨by rfl, fun w' hS => exec_add9 (.tmp 63) (.tmp 64) (nm ++ ⟨#[32, 58, 61, 32, 123]⟩ ++ sg) (se) rfl (by kernel_rfl) (by kernel_rfl) M5.out w'⟩) E1.out ?_
  refine wpAnyH_take (i := 7) (v := .string (nm ++ ⟨#[32, 58, 61, 32, 123]⟩ ++ sg ++ se ++ ⟨#[125]⟩)) rfl (by kernel_rfl) (by kernel_rfl) (by kernel_rfl) (fun _ _ _ h => h) (Or.inl ⟨by rfl, fun w' hS => exec_add9 (.tmp 65) (.const (.string ⟨#[125]⟩)) (nm ++ ⟨#[32, 58, 61, 32, 123]⟩ ++ sg ++ se) (⟨#[125]⟩) rfl (by kernel_rfl) (by kernel_rfl) M6.out w'⟩) E1.out ?_
  refine wpAnyH_take (i := 8) (v := .pointer (some ⟨w.heap.size, 1, none⟩)) rfl (by kernel_rfl) (by kernel_rfl) (by kernel_rfl) (fun _ _ _ h => h) (Or.inl ⟨by rfl, fun w' hS => exec_f40_1 (.tmp 1) w.heap.size rfl (by kernel_rfl) w'⟩) E1.out ?_
  refine wpAnyH_take (i := 9) (v := .string nm) rfl (by kernel_rfl) (by kernel_rfl) (by kernel_rfl) (fun _ _ _ h => h) (Or.inl ⟨by rfl, fun w' hS => exec_load9 (.tmp 67) w.heap.size 1 nm w' rfl (by kernel_rfl) hS⟩) E1.out ?_
  refine step_call (i := 10) (by kernel_rfl) rfl rfl 47 _ (exec_call45 (.tmp 68) (.string nm) _ rfl (by kernel_rfl) wd) ?_
  refine (KW.out _ B3D.out).mono ?_
  rintro e' w4 ⟨rfl, hb4⟩
  have E4 : Hid (w4.cell? ⟨w.heap.size, 1, none⟩ = some (.string nm)) := C.out _ _ 1 _ hb4 Z3.out E1.out
  have B4 := hideP (B3D.out.trans (hb4.mono B3D.out.size))
  clear hb4
  refine ⟨_, rfl, E4.out, ?_⟩
  refine wpAnyH_take (i := 11) (v := .bool false) rfl (by kernel_rfl) (by kernel_rfl) (by kernel_rfl) (fun _ _ _ h => h) (Or.inl ⟨by rfl, fun w' hS => exec_eql3 (.tmp 69) (.const (.int .i64 3)) z 3 false rfl (by kernel_rfl) (by kernel_rfl) Q.out w'⟩) E4.out ?_
  refine wpAnyH_take (i := 12) (v := .bool false) rfl (by kernel_rfl) (by kernel_rfl) (by kernel_rfl) (fun _ _ _ h => h) (Or.inl ⟨by rfl, fun w' hS => exec_move (.tmp 70) (.bool false) rfl (by kernel_rfl) w'⟩) E4.out ?_
  refine wpAnyH_take (i := 13) (v := undef) rfl (by kernel_rfl) (by kernel_rfl) (by kernel_rfl) (fun _ _ _ h => h) (Or.inr ⟨by kernel_rfl, rfl⟩) E4.out ?_
  refine wpAnyH_take (i := 14) (v := undef) rfl (by kernel_rfl) (by kernel_rfl) (by kernel_rfl) (fun _ _ _ h => h) (Or.inr ⟨by kernel_rfl, rfl⟩) E4.out ?_
  refine wpAnyH_take (i := 15) (v := undef) rfl (by kernel_rfl) (by kernel_rfl) (by kernel_rfl) (fun _ _ _ h => h) (Or.inr ⟨by kernel_rfl, rfl⟩) E4.out ?_
  refine wpAnyH_take (i := 16) (v := .bool false) rfl (by kernel_rfl) (by kernel_rfl) (by kernel_rfl) (fun _ _ _ h => h) (Or.inl ⟨by rfl, fun w' hS => exec_pickF (.tmp 71) (.tmp 74) (.bool false) rfl (by kernel_rfl) w'⟩) E4.out ?_
  refine step_val (i := 17) (by kernel_rfl) rfl rfl _ (exec_assign (.tmp 66) (.string (nm ++ ⟨#[32, 58, 61, 32, 123]⟩ ++ sg ++ se ++ ⟨#[125]⟩)) rfl (by kernel_rfl) w4) E4.out ?_
  refine step_val (i := 18) (by kernel_rfl) rfl rfl _ (exec_assign (.tmp 75) (.bool false) rfl (by kernel_rfl) w4) E4.out ?_
  refine wpAnyH_done (by kernel_rfl) ?_ _
  go_simp
  go_wp2_with fail
  go_ret2
  exact ⟨rfl, B4.out⟩
end Go.Proofs.YthhfpcdbgndioaaGreatDoor
