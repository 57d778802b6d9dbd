import Derived.Test.YtljkolffjjhgeaaDoorSmt
import Derived.Test.YtljkolffjjhgeaaDoorFnc1
import Derived.Test.YtljkolffjjhgeaaDoorFnc2
import Derived.Test.YtljkolffjjhgeaaDoorExv
namespace Go.Proofs.YtljkolffjjhgeaaDoor
open Go.RowKit
set_option linter.unusedVariables false
set_option maxRecDepth 100000
theorem ready_callw {P : Program} {ops : Array Oper} {Q : Exit → Act → World → Prop} {o : Oper} {a : Act} {w : World} {K : Act → World → Prop} (hw : Region.wanted o (yielded ops a.tmps) = true) (f : FuncId) (args : Array Value) (h : (execOp a.eval o).run P w = .ok (.enter f args) w) (hK : Calls P f args w fun e w' => ∃ v, e = .returned v ∧ K (a.put o.dst v) w') :
    if Region.wanted o (yielded ops a.tmps) = true then Oper.wp P o a w K Q else K (a.put o.dst undef) w := by
  rw [if_pos hw]
  unfold Oper.wp
  rw [h]
  refine hK.mono ?_
  rintro e w' ⟨v, rfl, h⟩
  exact h
theorem step_callw {P : Program} {md : Region.Mode} {ops : Array Oper} {Q : Exit → Act → World → Prop} {S : World → Prop} {fuel : Nat} {listed : Array Bool} {i : Nat} {o : Oper} {a : Act} {w : World} (hr : Region.ready md ops listed = [i]) (ho : ops[i]? = some o) (hw : Region.wanted o (yielded ops a.tmps) = true) (f : FuncId) (args : Array Value) (h : (execOp a.eval o).run P w = .ok (.enter f args) w)
    (hN : Calls P f args w fun e w' => ∃ v, e = .returned v ∧ S w' ∧ wpAnyH P md ops Q S fuel (listed.setIfInBounds i true) (a.put o.dst v) w') : wpAnyH P md ops Q S (fuel + 1) listed a w :=
  wpAnyH_ready hr (by simp) (AllReadyH.cons ho (fun K hK => ready_callw hw f args h (hN.mono (by
    rintro e w' ⟨v, rfl, hS, hW⟩
    exact ⟨v, rfl, hK.out _ _ hS (fun _ => hW)⟩))) AllReadyH.nil)
theorem exec_not {o : Oper} {a : Act} (x : Operand) (b c : Bool) (ho : o.op = Op.unOp UnOp.not 4 x) (hx : a.eval x = .bool b) (hb : (!b) = c) (w : World) : (execOp a.eval o).run Tryd.prog w = .ok (.value (.bool c)) w := by
  subst hb
  simp only [execOp, ho, hx]
  go_simp
theorem exec_nilp {o : Oper} {a : Act} (x : Operand) (b j : Nat) (ho : o.op = Op.nilCheck x) (hx : a.eval x = .pointer (some ⟨b, j, none⟩)) (w : World) : (execOp a.eval o).run Tryd.prog w = .ok (.value (.pointer (some ⟨b, j, none⟩))) w := by
  simp [execOp, ho, hx]
theorem exec_f46_0 {o : Oper} {a : Act} (x : Operand) (b : Nat) (ho : o.op = Op.fieldAddr 46 x 0) (hx : a.eval x = .pointer (some ⟨b, 0, none⟩)) (w : World) : (execOp a.eval o).run Tryd.prog w = .ok (.value (.pointer (some ⟨b, 0, none⟩))) w := by
  simp only [execOp, ho, hx]
  go_simp
theorem exec_f46_1 {o : Oper} {a : Act} (x : Operand) (b : Nat) (ho : o.op = Op.fieldAddr 46 x 1) (hx : a.eval x = .pointer (some ⟨b, 0, none⟩)) (w : World) : (execOp a.eval o).run Tryd.prog w = .ok (.value (.pointer (some ⟨b, 1, none⟩))) w := by
  simp only [execOp, ho, hx]
  go_simp
theorem exec_load3b {o : Oper} {a : Act} (x : Operand) (b j : Nat) (z : Int) (w : World) (ho : o.op = Op.load 3 x) (hx : a.eval x = .pointer (some ⟨b, j, none⟩)) (d : w.cell? ⟨b, j, none⟩ = some (.int .i64 z)) : (execOp a.eval o).run Tryd.prog w = .ok (.value (.int .i64 z)) w := by
  simp only [execOp, ho, hx]
  go_simp
theorem exec_load41 {o : Oper} {a : Act} (x : Operand) (b j : Nat) (ao : Option Addr) (n cap : Nat) (w : World) (ho : o.op = Op.load 41 x) (hx : a.eval x = .pointer (some ⟨b, j, none⟩)) (d : w.cell? ⟨b, j, none⟩ = some (.slice ao n cap)) : (execOp a.eval o).run Tryd.prog w = .ok (.value (.slice ao n cap)) w := by
  simp only [execOp, ho, hx]
  go_simp
theorem exec_len41 {o : Oper} {a : Act} (x : Operand) (ao : Option Addr) (n cap : Nat) (ho : o.op = Op.call { callee := .builtin .len, args := #[x], argTypes := #[41] }) (hx : a.eval x = .slice ao n cap) (w : World) : (execOp a.eval o).run Tryd.prog w = .ok (.value (.int .i64 n)) w := by
  simp [execOp, ho, hx, resolve, invoke, builtin]
  go_simp
theorem exec_lss3 {o : Oper} {a : Act} (x y : Operand) (m n : Int) (b : Bool) (ho : o.op = Op.binOp BinOp.lss 3 x y 3) (hx : a.eval x = .int .i64 m) (hy : a.eval y = .int .i64 n) (hb : decide (m < n) = b) (w : World) : (execOp a.eval o).run Tryd.prog w = .ok (.value (.bool b)) w := by
  subst hb
  simp only [execOp, ho, hx, hy]
  go_simp
theorem exec_pick {o : Oper} {a : Act} (c x y : Operand) (b : Bool) (v : Value) (ho : o.op = Op.pick c x y) (hc : a.eval c = .bool b) (hv : (match b with | true => a.eval x | false => a.eval y) = v) (w : World) : (execOp a.eval o).run Tryd.prog w = .ok (.value v) w := by
  subst hv
  cases b <;> simp only [execOp, ho, hc] <;> go_simp
theorem enter33 : ∀ args w, (callFunc 33 args).run Tryd.prog w = .ok (.enter 33 args) w := enters_of Tryd.func33 (by kernel_rfl) rfl
set_option maxHeartbeats 2000000 in
/-- spec.l3Split of no tokens -/
theorem l3Split_nil (b off cap : Nat) (w : World) : Calls Tryd.prog 10 #[.slice none 0 0] w fun e w' => ∃ v F, e = .returned v ∧ Below w.heap.size w w' ∧ Own 28 1 (Qk b off cap) w' v [] F ∧ Inb w.heap.size w' F := by
  have B0 : Hid (Below w.heap.size w (w.alloc (.cells #[] 28))) := (Below.refl _ _).alloc (Nat.le_refl _) _
  have O0 : Hid (Own 28 1 (Qk b off cap) (w.alloc (.cells #[] 28)) (.slice (some ⟨w.heap.size, 0, none⟩) 0 0) [] [w.heap.size]) := Own.emp _ _ rfl
  have I0 : Hid (Inb w.heap.size (w.alloc (.cells #[] 28)) [w.heap.size]) := fun x hx => by simp at hx ⊢; omega
  go_enter Tryd.func10, Tryd.ntmps10
  go_wp2_with fail
  go_loopw [3, 4, 5, 6] (fun v3 v4 v5 v6 wr => ∃ (i : Nat), i ≤ 1 ∧ wr = w.alloc (.cells #[] 28) ∧ v6 = .int .i64 i ∧ v4 = .int .i64 i ∧ v5 = .int .i64 0 ∧ v3 = .slice (some ⟨w.heap.size, 0, none⟩) 0 0) (fun _ _ _ v6 _ => 2 - (intOf v6).toNat)
  case atStart => exact ⟨0, by omega, rfl, rfl, rfl, rfl, rfl⟩
  case round =>
    obtain ⟨i, hi, rfl, rfl, rfl, rfl, rfl⟩ := hrel
    by_cases h0 : i = 0
    · subst h0
      go_wp2_with fail
      go_roundw
      case rel => exact ⟨1, by omega, by first | rfl | trivial, rfl, rfl, rfl, rfl⟩
      case measure => simp [intOf] <;> omega
    · obtain rfl : i = 1 := by omega
      go_wp2_with fail
      refine bodyPost_ret (v := .slice (some ⟨w.heap.size, 0, none⟩) 0 0) (by simp [results, Tryd.results10, go_sem]) rfl ⟨_, _, rfl, B0.out, O0.out, I0.out⟩
/-- spec.l3Func -/
theorem l3Func_any (l : List Pl.Tok) (ao : Option Addr) (cap : Nat) (hi : Nat) (w : World) (hl : l.length ≤ 1048576) (h1 : 1 ≤ hi) (h2 : hi ≤ l.length) (hk : ∀ t ∈ l, Pl.kOk t.k) (hR : RdK w.heap.size w ao l) :
    Calls Tryd.prog 41 #[.slice ao l.length cap, .int .i64 hi] w fun e w' => e = .returned (.tuple #[.int .i64 (Pl.fnR (Pl.rfun (Pl.rv l hi))).1, agF (Pl.fnR (Pl.rfun (Pl.rv l hi))).2.1, agF (Pl.fnR (Pl.rfun (Pl.rv l hi))).2.2]) ∧ Below w.heap.size w w' := by
  rw [← Pl.fn_rfun hk h1 h2]
  by_cases hs : Pl.isV l ((hi : Int) - 1) ⟨#[47]⟩ = true ∨ Pl.isV l ((hi : Int) - 1) ⟨#[92]⟩ = true
  · exact l3Func_s l ao cap hi w hl h1 h2 hR hs
  · exact l3Func_e l ao cap hi w hl h1 h2 hR hs
theorem l3Expr_upto : ∀ n k, k ≤ n → HE k
  | 0, k, h => by
    obtain rfl : k = 0 := by omega
    intro l ao cap w _ _ _ h5
    omega
  | n + 1, k, h => by
    by_cases hk : k ≤ n
    · exact l3Expr_upto n k hk
    · obtain rfl : k = n + 1 := by omega
      exact l3Expr_step (fun l ao cap hi w h1 h2 h3 h4 h5 => l3Func_any l ao cap hi w h1 h2 h3 h4 h5) n (l3Expr_upto n)
/-- spec.l3Expr -/
theorem l3Expr_all (n : Nat) : HE n := l3Expr_upto n n (Nat.le_refl _)
end Go.Proofs.YtljkolffjjhgeaaDoor
