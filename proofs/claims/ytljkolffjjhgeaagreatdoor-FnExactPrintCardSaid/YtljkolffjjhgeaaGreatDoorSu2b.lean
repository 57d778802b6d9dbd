import Derived.Test.YtljkolffjjhgeaaGreatDoorRdy
namespace Go.Proofs.YtljkolffjjhgeaaGreatDoor
open Go.RowKit
set_option linter.unusedVariables false
set_option maxRecDepth 100000
theorem exec_f40_1 {o : Oper} {a : Act} (x : Operand) (b : Nat) (ho : o.op = Op.fieldAddr 40 x 1) (hx : a.eval x = .pointer (some ⟨b, 0, none⟩)) (w : World) : (execOp a.eval o).run Tryz.prog w = .ok (.value (.pointer (some ⟨b, 1, none⟩))) w := by
  simp only [execOp, ho, hx]
  go_simp
theorem exec_load9 {o : Oper} {a : Act} (x : Operand) (b j : Nat) (s : ByteArray) (w : World) (ho : o.op = Op.load 9 x) (hx : a.eval x = .pointer (some ⟨b, j, none⟩)) (d : w.cell? ⟨b, j, none⟩ = some (.string s)) : (execOp a.eval o).run Tryz.prog w = .ok (.value (.string s)) w := by
  simp only [execOp, ho, hx]
  go_simp
theorem exec_add9 {o : Oper} {a : Act} (x y : Operand) (s t : ByteArray) (ho : o.op = Op.binOp BinOp.add 9 x y 9) (hx : a.eval x = .string s) (hy : a.eval y = .string t) (hl : ¬ (9223372036854775807 < s.size + t.size)) (w : World) : (execOp a.eval o).run Tryz.prog w = .ok (.value (.string (s ++ t))) w := by
  simp only [execOp, ho, hx, hy]
  go_simp
theorem exec_eql3 {o : Oper} {a : Act} (x y : Operand) (m n : Int) (r : Bool) (ho : o.op = Op.binOp BinOp.eql 3 x y 3) (hx : a.eval x = .int .i64 m) (hy : a.eval y = .int .i64 n) (hr : (m == n) = r) (w : World) : (execOp a.eval o).run Tryz.prog w = .ok (.value (.bool r)) w := by
  simp only [execOp, ho, hx, hy]
  go_simp
theorem exec_pickF {o : Oper} {a : Act} (c x : Operand) (v : Value) (ho : o.op = Op.pick c x (.const v)) (hc : a.eval c = .bool false) (w : World) : (execOp a.eval o).run Tryz.prog w = .ok (.value v) w := by
  simp only [execOp, ho, hc]
  go_simp
theorem exec_call45 {o : Oper} {a : Act} (x : Operand) (v : Value) (ts : Array TypeId) (ho : o.op = Op.call { callee := .value (.func 45), args := #[x], argTypes := ts }) (hx : a.eval x = v) (w : World) : (execOp a.eval o).run Tryz.prog w = .ok (.enter 45 #[v]) w := by
  have he : ∀ args w, (callFunc 45 args).run Tryz.prog w = .ok (.enter 45 args) w := enters_of Tryz.func45 (by kernel_rfl) rfl
  have hf : a.eval (.func 45) = .func (.func 45) #[] #[] := rfl
  simp [execOp, ho, hx, hf, resolve, invoke, Deferred.ofValue, he]
set_option maxHeartbeats 16000000 in
theorem stt_2b (nm se sg : ByteArray) (a1 a2 : Option Addr) (cl c1 G c2 : Nat) (z : Int) (w : World) (hz : z ≠ 2) (h1 : nm.size ≤ 100000000) (h2 : se.size ≤ 100000000) (h3 : sg.size ≤ 100000000) (hG : G ≤ 1048576)
    (k1 : ∀ w', Below w.heap.size w w' → Calls Tryz.prog 43 #[.slice a1 cl c1] w' fun e w2 => e = .returned (.tuple #[.string se, .bool true]) ∧ Below w'.heap.size w' w2)
    (k2 : ∀ w', Below w.heap.size w w' → Calls Tryz.prog 44 #[.slice a2 G c2] w' fun e w2 => e = .returned (.tuple #[.string sg, .bool true]) ∧ Below w'.heap.size w' w2)
    (kw : ∀ w', Below w.heap.size w w' → Calls Tryz.prog 45 #[.string nm] w' fun e w2 => e = .returned (.int .i64 z) ∧ Below w'.heap.size w' w2) :
    Calls Tryz.prog 24 #[.agg #[.int .i64 2, .string nm, .slice a1 cl c1, .slice a2 G c2]] w fun e w' => e = .returned (.tuple #[.string (nm ++ ⟨#[32, 58, 61, 32]⟩ ++ se), .bool false]) ∧ Below w.heap.size w w' := by
  have HB : Hid (∀ o, Below w.heap.size w (w.alloc o)) := fun o => (Below.refl _ _).alloc (Nat.le_refl _) _
  have K1 := hideP k1
  have K2 := hideP k2
  have KW := hideP kw
  clear k1 k2 kw
  have C : Hid (∀ (w1 w' : World) (j : Nat) (v : Value), Below w1.heap.size w1 w' → w.heap.size < w1.heap.size → w1.cell? ⟨w.heap.size, j, none⟩ = some v → w'.cell? ⟨w.heap.size, j, none⟩ = some v) := fun w1 w' j v hb h1 h => (hb.cell (p := ⟨w.heap.size, j, none⟩) h1).trans h
  have Q : Hid ((z == 2) = false) := by show _ = _; simp [hz]
  have hs4 : (⟨#[32, 58, 61, 32]⟩ : ByteArray).size = 4 := rfl
  have hs5 : (⟨#[32, 58, 61, 32, 123]⟩ : ByteArray).size = 5 := rfl
  have hs1 : (⟨#[125]⟩ : ByteArray).size = 1 := rfl
  have M1 : Hid (¬ (9223372036854775807 < nm.size + (⟨#[32, 58, 61, 32]⟩ : ByteArray).size)) := by show ¬ _; omega
  have M2 : Hid (¬ (9223372036854775807 < (nm ++ ⟨#[32, 58, 61, 32]⟩).size + se.size)) := by show ¬ _; rw [ByteArray.size_append]; omega
  have M3 : Hid (¬ (9223372036854775807 < nm.size + (⟨#[32, 58, 61, 32, 123]⟩ : ByteArray).size)) := by show ¬ _; omega
  have M4 : Hid (¬ (9223372036854775807 < (nm ++ ⟨#[32, 58, 61, 32, 123]⟩).size + sg.size)) := by show ¬ _; rw [ByteArray.size_append]; omega
  have M5 : Hid (¬ (9223372036854775807 < (nm ++ ⟨#[32, 58, 61, 32, 123]⟩ ++ sg).size + se.size)) := by show ¬ _; rw [ByteArray.size_append, ByteArray.size_append]; omega
  have M6 : Hid (¬ (9223372036854775807 < (nm ++ ⟨#[32, 58, 61, 32, 123]⟩ ++ sg ++ se).size + (⟨#[125]⟩ : ByteArray).size)) := by show ¬ _; rw [ByteArray.size_append, ByteArray.size_append, ByteArray.size_append]; omega
  clear hs4 hs5 hs1
  go_enter Tryz.func24, Tryz.ntmps24
  go_wp2_with fail
  refine (K1.out _ (HB.out _)).mono ?_
  rintro e' w2 ⟨rfl, hb2⟩
  have d0 := C.out _ _ 0 _ hb2 (by simp) (by simp [go_sem]; rfl)
  have d1 := C.out _ _ 1 _ hb2 (by simp) (by simp [go_sem]; rfl)
  have d3 := C.out _ _ 3 _ hb2 (by simp) (by simp [go_sem]; rfl)
  have B2 := hideP ((HB.out _).trans (hb2.mono (by simp)))
  have z2 : w.heap.size < w2.heap.size := Nat.lt_of_lt_of_le (by simp) hb2.size
  clear hb2
  go_wp2_with fail
  refine (K2.out _ B2.out).mono ?_
  rintro e' w3 ⟨rfl, hb3⟩
  have e0 := C.out _ _ 0 _ hb3 z2 d0
  have e1 := C.out _ _ 1 _ hb3 z2 d1
  have B3 := hideP (B2.out.trans (hb3.mono B2.out.size))
  have z3 : w.heap.size < w3.heap.size := Nat.lt_of_lt_of_le z2 hb3.size
  clear hb3 d0 d1 d3
  go_wp2_with fail
  have E1 : Hid (w3.drew.cell? ⟨w.heap.size, 1, none⟩ = some (.string nm)) := e1
  have B3D : Hid (Below w.heap.size w w3.drew) := B3.out.drew
  have Z3 : Hid (w.heap.size < w3.drew.heap.size) := z3
  clear e0 e1 z2 z3
  refine wp_region_held (S := fun w' => w'.cell? ⟨w.heap.size, 1, none⟩ = some (.string nm)) (by kernel_rfl) ?_
  change wpAnyH _ _ _ _ _ _ _ _ (World.drew _)
  generalize World.drew w3 = wd at E1 B3D Z3 ⊢
  refine wpAnyH_take (i := 0) (v := .pointer (some ⟨w.heap.size, 1, none⟩)) rfl (by kernel_rfl) (by kernel_rfl) (by kernel_rfl) (fun _ _ _ h => h) (Or.inl ⟨by rfl, fun w' hS => exec_f40_1 (.tmp 1) w.heap.size rfl (by kernel_rfl) w'⟩) E1.out ?_
  refine wpAnyH_take (i := 1) (v := .string nm) rfl (by kernel_rfl) (by kernel_rfl) (by kernel_rfl) (fun _ _ _ h => h) (Or.inl ⟨by rfl, fun w' hS => exec_load9 (.tmp 42) w.heap.size 1 nm w' rfl (by kernel_rfl) hS⟩) E1.out ?_
  refine wpAnyH_take (i := 2) (v := .string (nm ++ ⟨#[32, 58, 61, 32]⟩)) rfl (by kernel_rfl) (by kernel_rfl) (by kernel_rfl) (fun _ _ _ h => h) (Or.inl ⟨by rfl, fun w' hS => exec_add9 (.tmp 43) (.const (.string ⟨#[32, 58, 61, 32]⟩)) (nm) (⟨#[32, 58, 61, 32]⟩) rfl (by kernel_rfl) (by kernel_rfl) M1.out w'⟩) E1.out ?_
  refine wpAnyH_take (i := 3) (v := .string se) rfl (by kernel_rfl) (by kernel_rfl) (by kernel_rfl) (fun _ _ _ h => h) (Or.inl ⟨by rfl, fun w' hS => exec_move (.tmp 4) (.string se) rfl (by kernel_rfl) w'⟩) E1.out ?_
  refine wpAnyH_take (i := 4) (v := .string (nm ++ ⟨#[32, 58, 61, 32]⟩ ++ se)) rfl (by kernel_rfl) (by kernel_rfl) (by kernel_rfl) (fun _ _ _ h => h) (Or.inl ⟨by rfl, fun w' hS => exec_add9 (.tmp 44) (.tmp 45) (nm ++ ⟨#[32, 58, 61, 32]⟩) (se) rfl (by kernel_rfl) (by kernel_rfl) M2.out w'⟩) E1.out ?_
  refine wpAnyH_take (i := 5) (v := .pointer (some ⟨w.heap.size, 1, none⟩)) rfl (by kernel_rfl) (by kernel_rfl) (by kernel_rfl) (fun _ _ _ h => h) (Or.inl ⟨by rfl, fun w' hS => exec_f40_1 (.tmp 1) w.heap.size rfl (by kernel_rfl) w'⟩) E1.out ?_
  refine wpAnyH_take (i := 6) (v := .string nm) rfl (by kernel_rfl) (by kernel_rfl) (by kernel_rfl) (fun _ _ _ h => h) (Or.inl ⟨by rfl, fun w' hS => exec_load9 (.tmp 47) w.heap.size 1 nm w' rfl (by kernel_rfl) hS⟩) E1.out ?_
  refine step_call (i := 7) (by kernel_rfl) rfl rfl 45 _ (exec_call45 (.tmp 48) (.string nm) _ rfl (by kernel_rfl) wd) ?_
  refine (KW.out _ B3D.out).mono ?_
  rintro e' w4 ⟨rfl, hb4⟩
  have E4 : Hid (w4.cell? ⟨w.heap.size, 1, none⟩ = some (.string nm)) := C.out _ _ 1 _ hb4 Z3.out E1.out
  have B4 := hideP (B3D.out.trans (hb4.mono B3D.out.size))
  clear hb4
  refine ⟨_, rfl, E4.out, ?_⟩
  refine wpAnyH_take (i := 8) (v := .bool false) rfl (by kernel_rfl) (by kernel_rfl) (by kernel_rfl) (fun _ _ _ h => h) (Or.inl ⟨by rfl, fun w' hS => exec_eql3 (.tmp 49) (.const (.int .i64 2)) z 2 false rfl (by kernel_rfl) (by kernel_rfl) Q.out w'⟩) E4.out ?_
  refine wpAnyH_take (i := 9) (v := .bool false) rfl (by kernel_rfl) (by kernel_rfl) (by kernel_rfl) (fun _ _ _ h => h) (Or.inl ⟨by rfl, fun w' hS => exec_move (.tmp 50) (.bool false) rfl (by kernel_rfl) w'⟩) E4.out ?_
  refine wpAnyH_take (i := 10) (v := undef) rfl (by kernel_rfl) (by kernel_rfl) (by kernel_rfl) (fun _ _ _ h => h) (Or.inr ⟨by kernel_rfl, rfl⟩) E4.out ?_
  refine wpAnyH_take (i := 11) (v := undef) rfl (by kernel_rfl) (by kernel_rfl) (by kernel_rfl) (fun _ _ _ h => h) (Or.inr ⟨by kernel_rfl, rfl⟩) E4.out ?_
  refine wpAnyH_take (i := 12) (v := undef) rfl (by kernel_rfl) (by kernel_rfl) (by kernel_rfl) (fun _ _ _ h => h) (Or.inr ⟨by kernel_rfl, rfl⟩) E4.out ?_
  refine wpAnyH_take (i := 13) (v := undef) rfl (by kernel_rfl) (by kernel_rfl) (by kernel_rfl) (fun _ _ _ h => h) (Or.inr ⟨by kernel_rfl, rfl⟩) E4.out ?_
  refine wpAnyH_take (i := 14) (v := .bool false) rfl (by kernel_rfl) (by kernel_rfl) (by kernel_rfl) (fun _ _ _ h => h) (Or.inl ⟨by rfl, fun w' hS => exec_pickF (.tmp 51) (.tmp 55) (.bool false) rfl (by kernel_rfl) w'⟩) E4.out ?_
  refine step_val (i := 15) (by kernel_rfl) rfl rfl _ (exec_assign (.tmp 46) (.string (nm ++ ⟨#[32, 58, 61, 32]⟩ ++ se)) rfl (by kernel_rfl) w4) E4.out ?_
  refine step_val (i := 16) (by kernel_rfl) rfl rfl _ (exec_assign (.tmp 56) (.bool false) rfl (by kernel_rfl) w4) E4.out ?_
  refine wpAnyH_done (by kernel_rfl) ?_ _
  go_simp
  go_wp2_with fail
  go_ret2
  exact ⟨rfl, B4.out⟩
end Go.Proofs.YtljkolffjjhgeaaGreatDoor
