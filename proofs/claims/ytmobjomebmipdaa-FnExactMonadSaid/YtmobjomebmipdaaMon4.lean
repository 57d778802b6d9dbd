import Derived.Test.YtmobjomebmipdaaMon3
namespace Go.Proofs.Ytmobjomebmipdaa
open Go.RowKit
set_option linter.unusedVariables false

namespace Pl
/-- an array with axes: a scalar is a vector of one cell -/
def axesS (sh da : List Int) : List Int := if sh.length = 0 then [(da.length : Int)] else sh
def countM (sh da : List Int) : Int × List Int × List Int := (0, [], [(axesS sh da).getD 0 0])
end Pl

set_option maxRecDepth 100000 in
set_option maxHeartbeats 2000000 in
/-- impl.withAxes -/
theorem withAxes_any (v0 v1 : Value) (sh da : List Int) (w : World) (h0 : Rd w.heap.size w v0 sh) (h1 : Rd w.heap.size w v1 da) :
    Calls Try.prog 147 #[.agg #[v0, v1]] w fun e w' => ∃ u0 u1, e = .returned (.agg #[u0, u1]) ∧ Rd w'.heap.size w' u0 (Pl.axesS sh da) ∧ Rd w'.heap.size w' u1 da ∧ Below w.heap.size w w' := by
  have H0 := hideP h0
  have H1 := hideP h1
  have KS : Hid (∀ w', Calls Try.prog 91 #[.agg #[v0, v1]] w' fun e w'' => e = .returned (.bool (decide (sh.length = 0))) ∧ Below w'.heap.size w' w'') := fun w' => isScalar_any _ _ sh w.heap.size w' w h0
  obtain ⟨a0, d0, e0⟩ := h0.form
  obtain ⟨a1, d1, e1⟩ := h1.form
  subst e0
  subst e1
  have PB : Hid (∀ W, Below (w.heap.size + 1 + 1) ((w.alloc (.cells #[.slice a0 sh.length d0, .slice a1 da.length d1] 27)).alloc (.cells #[.slice none 0 0, .slice none 0 0] 27)) W → (W.cell? ⟨w.heap.size, 0, none⟩ = some (.slice a0 sh.length d0) ∧ W.cell? ⟨w.heap.size, 1, none⟩ = some (.slice a1 da.length d1)) ∧ (W.cell? ⟨w.heap.size + 1, 0, none⟩ = some (.slice none 0 0) ∧ W.cell? ⟨w.heap.size + 1, 1, none⟩ = some (.slice none 0 0) ∧ ∀ o, W.frozen? ⟨w.heap.size + 1, o, none⟩ = false) ∧ Below w.heap.size w W) := fun W hb => boxes2 hb
  unfold Pl.axesS
  by_cases hsl : sh.length = 0
  · have KS' : Hid (∀ w', Calls Try.prog 91 #[.agg #[.slice a0 sh.length d0, .slice a1 da.length d1]] w' fun e w'' => e = .returned (.bool true) ∧ Below w'.heap.size w' w'') := fun w' => by have := KS.out w'; rw [decide_eq_true hsl] at this; exact this
    rw [if_pos hsl]
    clear h0 h1 KS hsl
    go_enter Try.func147, Try.ntmps147
    go_wp2_with fail
    refine (KS'.out _).mono ?_
    rintro e w1 ⟨rfl, hb1⟩
    have B1 := hideP (show Below (w.heap.size + 1 + 1) _ w1 from hb1.mono (by simp))
    have hs1 : w.heap.size + 1 + 1 ≤ w1.heap.size := by have := hb1.size; simpa using this
    have c11 := (PB.out _ B1.out).1.2
    clear hb1
    go_wp2_with fail
    refine (vector_any a1 d1 da.length w1).mono ?_
    rintro e w2 ⟨g, rfl, ho2, hb2⟩
    have B2 := hideP (B1.out.trans (hb2.mono hs1))
    have X2 := hideP (PB.out _ B2.out)
    have OS := hideP ho2
    have hs2 := hb2.size
    clear ho2 hb2 c11
    have r0 := X2.out.2.1.1
    have r1 := X2.out.2.1.2.1
    have f2 := X2.out.2.1.2.2
    have BW : Hid (∀ x y, Below w.heap.size w ((w2.setCell ⟨w.heap.size + 1, 0, none⟩ x).setCell ⟨w.heap.size + 1, 1, none⟩ y)) := fun x y => (X2.out.2.2.setCell (by simp) _).setCell (by simp) _
    go_wp2_with fail
    refine bodyPost_ret (v := .agg #[.slice (some ⟨g, 0, none⟩) 1 1, .slice a1 da.length d1]) (by simp [results, Try.results147, go_sem, r0, r1]) rfl ⟨_, _, rfl, ?_, ?_, BW.out _ _⟩
    · exact (Own.store (Own.store OS.out (by omega) _) (by omega) _).rd
    · exact (H1.out.keep (BW.out _ _)).up (BW.out _ _).size
  · have KS' : Hid (∀ w', Calls Try.prog 91 #[.agg #[.slice a0 sh.length d0, .slice a1 da.length d1]] w' fun e w'' => e = .returned (.bool false) ∧ Below w'.heap.size w' w'') := fun w' => by have := KS.out w'; rw [decide_eq_false hsl] at this; exact this
    rw [if_neg hsl]
    clear h0 h1 KS hsl
    go_enter Try.func147, Try.ntmps147
    go_wp2_with fail
    refine (KS'.out _).mono ?_
    rintro e w1 ⟨rfl, hb1⟩
    have X1 := hideP (PB.out _ (show Below (w.heap.size + 1 + 1) _ w1 from hb1.mono (by simp)))
    have hs1 : w.heap.size + 1 + 1 ≤ w1.heap.size := by have := hb1.size; simpa using this
    clear hb1
    have c10 := X1.out.1.1
    have c11 := X1.out.1.2
    have r0 := X1.out.2.1.1
    have r1 := X1.out.2.1.2.1
    have f2 := X1.out.2.1.2.2
    have BW : Hid (∀ x y, Below w.heap.size w ((w1.setCell ⟨w.heap.size + 1, 0, none⟩ x).setCell ⟨w.heap.size + 1, 1, none⟩ y)) := fun x y => (X1.out.2.2.setCell (by simp) _).setCell (by simp) _
    go_wp2_with fail
    refine bodyPost_ret (v := .agg #[.slice a0 sh.length d0, .slice a1 da.length d1]) (by simp [results, Try.results147, go_sem, r0, r1]) rfl ⟨_, _, rfl, ?_, ?_, BW.out _ _⟩
    · exact (H0.out.keep (BW.out _ _)).up (BW.out _ _).size
    · exact (H1.out.keep (BW.out _ _)).up (BW.out _ _).size

set_option maxRecDepth 100000 in
/-- impl.scalar -/
theorem scalar_any (x : Int) (w : World) : Calls Try.prog 146 #[.int .i64 x] w fun e w' => ∃ g, e = .returned (.agg #[.slice none 0 0, .slice (some ⟨g, 0, none⟩) 1 1]) ∧ Own w.heap.size w' (.slice (some ⟨g, 0, none⟩) 1 1) [x] ∧ Below w.heap.size w w' := by
  have B : Hid (∀ o o', Below w.heap.size w ((w.alloc o).alloc o')) := fun o o' => ((Below.refl _ _).alloc (Nat.le_refl _) _).alloc (by simp) _
  have O : Hid (∀ o, Own (w.heap.size + 1) ((w.alloc o).alloc (.cells #[.int .i64 x] 3)) (.slice (some ⟨w.heap.size + 1, 0, none⟩) 1 1) [x]) := fun o => by
    have := own_lit (w.alloc o) ((w.alloc o).alloc (.cells #[.int .i64 x] 3)) x (Below.refl _ _)
    have e : (w.alloc o).heap.size = w.heap.size + 1 := by simp
    rw [e] at this
    exact this
  go_enter Try.func146, Try.ntmps146
  go_wp2_with fail
  refine bodyPost_ret (v := .agg #[.slice none 0 0, .slice (some ⟨w.heap.size + 1, 0, none⟩) 1 1]) (by simp [results, Try.results146, go_sem]) rfl ⟨w.heap.size + 1, rfl, ?_, ?_⟩
  · exact (O.out _).base (by omega)
  · exact B.out _ _

theorem field0 (a0 a1 : Option Addr) (n0 c0 n1 c1 : Nat) (w : World) : (Instr.field 27 (.agg #[.slice a0 n0 c0, .slice a1 n1 c1]) 0).run Try.prog w = .ok (.slice a0 n0 c0) w := by kernel_rfl

set_option maxRecDepth 100000 in
set_option maxHeartbeats 2000000 in
/-- impl.count -/
theorem count_any (v0 v1 : Value) (sh da : List Int) (w : World) (h0 : Rd w.heap.size w v0 sh) (h1 : Rd w.heap.size w v1 da) :
    Calls Try.prog 117 #[.agg #[v0, v1]] w (KPost w 0 [] [(Pl.axesS sh da).getD 0 0]) := by
  have B : Hid (∀ o o', Below w.heap.size w ((w.alloc o).alloc o')) := fun o o' => ((Below.refl _ _).alloc (Nat.le_refl _) _).alloc (by simp) _
  have KW : Hid (∀ o o', Calls Try.prog 147 #[.agg #[v0, v1]] ((w.alloc o).alloc o') fun e w' => ∃ u0 u1, e = .returned (.agg #[u0, u1]) ∧ Rd w'.heap.size w' u0 (Pl.axesS sh da) ∧ Rd w'.heap.size w' u1 da ∧ Below (w.heap.size + 1 + 1) ((w.alloc o).alloc o') w') := fun o o' => by
    refine (withAxes_any v0 v1 sh da ((w.alloc o).alloc o') ((h0.keep (B.out _ _)).up (by simp; omega)) ((h1.keep (B.out _ _)).up (by simp; omega))).mono ?_
    rintro e w' ⟨u0, u1, rfl, r0, r1, hb⟩
    exact ⟨u0, u1, rfl, r0, r1, by simpa using hb⟩
  have hax : 1 ≤ (Pl.axesS sh da).length := by
    unfold Pl.axesS
    split
    · simp
    · omega
  obtain ⟨a0, d0, e0⟩ := h0.form
  obtain ⟨a1, d1, e1⟩ := h1.form
  subst e0
  subst e1
  have PB : Hid (∀ W, Below (w.heap.size + 1 + 1) ((w.alloc (.cells #[.slice a0 sh.length d0, .slice a1 da.length d1] 27)).alloc (.cells #[.slice none 0 0, .slice none 0 0] 27)) W → (W.cell? ⟨w.heap.size, 0, none⟩ = some (.slice a0 sh.length d0) ∧ W.cell? ⟨w.heap.size, 1, none⟩ = some (.slice a1 da.length d1)) ∧ (W.cell? ⟨w.heap.size + 1, 0, none⟩ = some (.slice none 0 0) ∧ W.cell? ⟨w.heap.size + 1, 1, none⟩ = some (.slice none 0 0) ∧ ∀ o, W.frozen? ⟨w.heap.size + 1, o, none⟩ = false) ∧ Below w.heap.size w W) := fun W hb => boxes2 hb
  clear h0 h1
  generalize Pl.axesS sh da = ax at *
  go_enter Try.func117, Try.ntmps117
  go_wp2_with fail
  refine (KW.out _ _).mono ?_
  rintro e w1 ⟨u0, u1, rfl, r0, r1, hb1⟩
  have B1 := hideP hb1
  have hs1 : w.heap.size + 1 + 1 ≤ w1.heap.size := by have := hb1.size; simpa using this
  obtain ⟨x0, y0, gb, go, eu0, hao, hbl, hcl⟩ := r0.parts
  obtain ⟨x1, y1, eu1⟩ := r1.form
  subst eu0
  subst eu1
  have ha := hao (by omega)
  have hce := hcl 0 (by omega)
  rw [Nat.add_zero] at hce
  subst ha
  clear hb1 r0 r1 hao hbl hcl
  generalize ax.getD 0 0 = x at *
  have hfd := field0 (some ⟨gb, go, none⟩) x1 ax.length y0 da.length y1 w1
  go_wp2_with fail
  refine (scalar_any x w1).mono ?_
  rintro e w2 ⟨g, rfl, ho2, hb2⟩
  have X2 := hideP (PB.out _ (B1.out.trans (hb2.mono hs1)))
  have OS := hideP ho2
  have hs2 := hb2.size
  clear ho2 hb2 hce
  have r0 := X2.out.2.1.1
  have r1 := X2.out.2.1.2.1
  have f2 := X2.out.2.1.2.2
  go_wp2_with fail
  refine bodyPost_ret (v := .agg #[.slice none 0 0, .slice (some ⟨g, 0, none⟩) 1 1]) (by simp [results, Try.results117, go_sem, r0, r1]) rfl ⟨(X2.out.2.2.setCell (by simp) _).setCell (by simp) _, .inl ⟨rfl, _, _, rfl, Own.nil _ _, ?_, .inl rfl⟩⟩
  exact Own.base (Own.store (Own.store OS.out (by omega) _) (by omega) _) (by omega)

end Go.Proofs.Ytmobjomebmipdaa
