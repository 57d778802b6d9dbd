import Derived.Test.YthhfpcdbgndioaaGreatDoorNdv
import Derived.Shelf.Abstract
namespace Go.Proofs.YthhfpcdbgndioaaGreatDoor
open Go.RowKit
set_option linter.unusedVariables false
set_option maxRecDepth 100000
theorem nest121 (p : Value) (w : World) : Calls Tryz.prog 157 #[.agg #[p]] w fun e w' => e = .returned (.int .i64 0) ∧ Below w.heap.size w w' := by
  have HB : Hid (∀ o, Below w.heap.size w (w.alloc o)) := fun o => (Below.refl _ _).alloc (Nat.le_refl _) _
  go_enter Tryz.func157, Tryz.ntmps157
  go_wp2
  go_ret
  exact ⟨rfl, HB.out _⟩
theorem nest123 (p : Value) (w : World) : Calls Tryz.prog 160 #[.agg #[p]] w fun e w' => e = .returned (.int .i64 0) ∧ Below w.heap.size w w' := by
  have HB : Hid (∀ o, Below w.heap.size w (w.alloc o)) := fun o => (Below.refl _ _).alloc (Nat.le_refl _) _
  go_enter Tryz.func160, Tryz.ntmps160
  go_wp2
  go_ret
  exact ⟨rfl, HB.out _⟩
theorem bare121 (p : Value) (w : World) : Calls Tryz.prog 155 #[.agg #[p]] w fun e w' => e = .returned (.bool true) ∧ Below w.heap.size w w' := by
  have HB : Hid (∀ o, Below w.heap.size w (w.alloc o)) := fun o => (Below.refl _ _).alloc (Nat.le_refl _) _
  go_enter Tryz.func155, Tryz.ntmps155
  go_wp2
  go_ret
  exact ⟨rfl, HB.out _⟩
theorem bare123 (p : Value) (w : World) : Calls Tryz.prog 158 #[.agg #[p]] w fun e w' => e = .returned (.bool true) ∧ Below w.heap.size w w' := by
  have HB : Hid (∀ o, Below w.heap.size w (w.alloc o)) := fun o => (Below.refl _ _).alloc (Nat.le_refl _) _
  go_enter Tryz.func158, Tryz.ntmps158
  go_wp2
  go_ret
  exact ⟨rfl, HB.out _⟩
theorem bare125 (p : Array Value) (w : World) : Calls Tryz.prog 161 #[.agg p] w fun e w' => e = .returned (.bool false) ∧ Below w.heap.size w w' := by
  have HB : Hid (∀ o, Below w.heap.size w (w.alloc o)) := fun o => (Below.refl _ _).alloc (Nat.le_refl _) _
  go_enter Tryz.func161, Tryz.ntmps161
  go_wp2
  go_ret
  exact ⟨rfl, HB.out _⟩
theorem bare128 (p : Array Value) (w : World) : Calls Tryz.prog 164 #[.agg p] w fun e w' => e = .returned (.bool false) ∧ Below w.heap.size w w' := by
  have HB : Hid (∀ o, Below w.heap.size w (w.alloc o)) := fun o => (Below.refl _ _).alloc (Nat.le_refl _) _
  go_enter Tryz.func164, Tryz.ntmps164
  go_wp2
  go_ret
  exact ⟨rfl, HB.out _⟩
theorem meth_n121 (p : Value) (w : World) : (method 292 131 p "loop.example/s02135/impl.nesting").run Tryz.prog w = .ok (157, p) w := by kernel_rfl
theorem meth_n123 (p : Value) (w : World) : (method 292 133 p "loop.example/s02135/impl.nesting").run Tryz.prog w = .ok (160, p) w := by kernel_rfl
theorem meth_n125 (p : Value) (w : World) : (method 292 135 p "loop.example/s02135/impl.nesting").run Tryz.prog w = .ok (163, p) w := by kernel_rfl
theorem meth_n128 (p : Value) (w : World) : (method 292 138 p "loop.example/s02135/impl.nesting").run Tryz.prog w = .ok (166, p) w := by kernel_rfl
theorem meth_b121 (p : Value) (w : World) : (method 292 131 p "loop.example/s02135/impl.bare").run Tryz.prog w = .ok (155, p) w := by kernel_rfl
theorem meth_b123 (p : Value) (w : World) : (method 292 133 p "loop.example/s02135/impl.bare").run Tryz.prog w = .ok (158, p) w := by kernel_rfl
theorem meth_b125 (p : Value) (w : World) : (method 292 135 p "loop.example/s02135/impl.bare").run Tryz.prog w = .ok (161, p) w := by kernel_rfl
theorem meth_b128 (p : Value) (w : World) : (method 292 138 p "loop.example/s02135/impl.bare").run Tryz.prog w = .ok (164, p) w := by kernel_rfl
/-- the two methods of a node -/
def Nsk (t : Pl.Nd Pl.Sv) (v : Value) : Prop := ∃ T p fn fb, v = .iface T p ∧ (∀ w, (method 292 T p "loop.example/s02135/impl.nesting").run Tryz.prog w = .ok (fn, p) w) ∧ (∀ w, (method 292 T p "loop.example/s02135/impl.bare").run Tryz.prog w = .ok (fb, p) w) ∧ (∀ args w, (callFunc fn args).run Tryz.prog w = .ok (.enter fn args) w) ∧ (∀ args w, (callFunc fb args).run Tryz.prog w = .ok (.enter fb args) w) ∧ (∀ w, Calls Tryz.prog fn #[p] w fun e w' => e = .returned (.int .i64 (Pl.nest t : Nat)) ∧ Below w.heap.size w w') ∧ (∀ w, Calls Tryz.prog fb #[p] w fun e w' => e = .returned (.bool (Pl.bareN t)) ∧ Below w.heap.size w w')
theorem nest_one (k a b : Int) (nm : ByteArray) (r : Pl.Nd Pl.Sv) (v : Value) (h : Nsk r v) (w : World) : Calls Tryz.prog 163 #[.agg #[.int .i64 k, .int .i64 a, .int .i64 b, .string nm, v]] w fun e w' => e = .returned (.int .i64 (Pl.nest r : Nat)) ∧ Below w.heap.size w w' := by
  have HB : Hid (∀ o, Below w.heap.size w (w.alloc o)) := fun o => (Below.refl _ _).alloc (Nat.le_refl _) _
  obtain ⟨T, p, fn, fb, rfl, m1, m2, e1, e2, k1, k2⟩ := h
  have K := hideP k1
  clear k1 k2 m2 e2
  generalize Pl.nest r = q at *
  go_enter Tryz.func163, Tryz.ntmps163
  go_wp2_with fail
  refine (K.out _).mono ?_
  rintro e w2 ⟨rfl, hb2⟩
  go_wp2_with fail
  go_ret
  exact ⟨rfl, (HB.out _).trans (hb2.mono (by simp))⟩
theorem nest_two (k a b : Int) (nm : ByteArray) (l r : Pl.Nd Pl.Sv) (vl vr : Value) (hl : Nsk l vl) (hr : Nsk r vr) (hb1 : Pl.nest l ≤ 1048576) (hb2 : Pl.nest r ≤ 1048576) (s : Pl.Sv) (w : World) : Calls Tryz.prog 166 #[.agg #[vl, .int .i64 k, .int .i64 a, .int .i64 b, .string nm, vr]] w fun e w' => e = .returned (.int .i64 (Pl.nest (.two s l r) : Nat)) ∧ Below w.heap.size w w' := by
  have HB : Hid (∀ o, Below w.heap.size w (w.alloc o)) := fun o => (Below.refl _ _).alloc (Nat.le_refl _) _
  obtain ⟨T, p, fn, fb, rfl, m1, m2, e1, e2, k1, k2⟩ := hl
  obtain ⟨T', p', fn', fb', rfl, m1', m2', e1', e2', k1', k2'⟩ := hr
  have K1 := hideP k1
  have K2 := hideP k2
  have K3 := hideP k1'
  have HN : Hid (Pl.nest (.two s l r) = max (if Pl.bareN l = true then Pl.nest l else Pl.nest l + 1) (Pl.nest r)) := by
    show max (match Pl.bareN l with | true => Pl.nest l | false => Pl.nest l + 1) (Pl.nest r) = _
    cases Pl.bareN l <;> rfl
  have C : Hid (∀ (w1 w' : World) (j : Nat) (v : Value), Below w1.heap.size w1 w' → w.heap.size < w1.heap.size → w1.cell? ⟨w.heap.size, j, none⟩ = some v → w'.cell? ⟨w.heap.size, j, none⟩ = some v) := fun w1 w' j v hb h1 h => (hb.cell (p := ⟨w.heap.size, j, none⟩) h1).trans h
  clear k1 k2 k1' k2' m2' e2'
  generalize Pl.nest (.two s l r) = qq at *
  generalize Pl.nest l = ql at *
  generalize Pl.nest r = qr at *
  generalize Pl.bareN l = bl at *
  cases bl
  all_goals
    simp only [if_true, if_false, Bool.false_eq_true] at HN
    go_enter Tryz.func166, Tryz.ntmps166
    go_wp2_with fail
    refine (K1.out _).mono ?_
    rintro e w2 ⟨rfl, hb2⟩
    have d0 := C.out _ _ 0 _ hb2 (by simp) (by simp [go_sem]; rfl)
    have d5 := C.out _ _ 5 _ hb2 (by simp) (by simp [go_sem]; rfl)
    have hs2 : w.heap.size < w2.heap.size := Nat.lt_of_lt_of_le (by simp) hb2.size
    have H2 := hideP ((HB.out _).trans (hb2.mono (by simp)))
    clear hb2
    go_wp2_with fail
    refine (K2.out _).mono ?_
    rintro e w3 ⟨rfl, hb3⟩
    have f5 := C.out _ _ 5 _ hb3 hs2 d5
    have H3 := hideP (H2.out.trans (hb3.mono H2.out.size))
    clear hb3 d0 d5
    go_wp2_with fail
    refine (K3.out _).mono ?_
    rintro e w4 ⟨rfl, hb4⟩
    have H4 := hideP (H3.out.trans (hb4.mono H3.out.size))
    clear hb4
    go_wp2_with fail
    all_goals (go_ret; exact ⟨ret_int (by rw [HN.out]; omega), H4.out⟩)
theorem NdV.nsk {B : Nat} {w : World} : ∀ {t : Pl.Nd Pl.Sv} {v : Value}, NdV B w t v → t.post.length ≤ 1048576 → Nsk t v := by
  intro t
  induction t with
  | «at» s =>
    intro v h _
    rcases h with ⟨_, an, cn, rfl, _⟩ | ⟨_, rfl⟩
    · exact ⟨_, _, 157, 155, rfl, meth_n121 _, meth_b121 _, enters_of Tryz.func157 (by kernel_rfl) rfl, enters_of Tryz.func155 (by kernel_rfl) rfl, nest121 _, bare121 _⟩
    · exact ⟨_, _, 160, 158, rfl, meth_n123 _, meth_b123 _, enters_of Tryz.func160 (by kernel_rfl) rfl, enters_of Tryz.func158 (by kernel_rfl) rfl, nest123 _, bare123 _⟩
  | one s r ih =>
    intro v h hl
    obtain ⟨vr, rfl, h2⟩ := h
    have hl' : r.post.length ≤ 1048576 := by simp only [Pl.Nd.post, List.length_append] at hl; omega
    exact ⟨_, _, 163, 161, rfl, meth_n125 _, meth_b125 _, enters_of Tryz.func163 (by kernel_rfl) rfl, enters_of Tryz.func161 (by kernel_rfl) rfl, nest_one _ _ _ _ r vr (ih h2 hl'), bare125 _⟩
  | two s l r il ir =>
    intro v h hl
    obtain ⟨vl, vr, rfl, h2, h3⟩ := h
    have hl1 : l.post.length ≤ 1048576 := by simp only [Pl.Nd.post, List.length_append] at hl; omega
    have hl2 : r.post.length ≤ 1048576 := by simp only [Pl.Nd.post, List.length_append] at hl; omega
    have n1 := Pl.nest_le l
    have n2 := Pl.nest_le r
    exact ⟨_, _, 166, 164, rfl, meth_n128 _, meth_b128 _, enters_of Tryz.func166 (by kernel_rfl) rfl, enters_of Tryz.func164 (by kernel_rfl) rfl, nest_two _ _ _ _ l r vl vr (il h2 hl1) (ir h3 hl2) (by omega) (by omega) s, bare128 _⟩
end Go.Proofs.YthhfpcdbgndioaaGreatDoor
