import Derived.Test.YtmobjomebmipdaaMark
namespace Go.Proofs.Ytmobjomebmipdaa
open Go.RowKit
set_option linter.unusedVariables false

theorem Own.alloc {B : Nat} {w : World} {u : Value} {zs : List Int} (h : Own B w u zs) (o : Obj) : Own B (w.alloc o) u zs := h.keep ((Below.refl _ _).alloc (Nat.le_refl _) _)

theorem apart_len {u0 u1 : Value} {sh da sh' da' : List Int} (h : Apart u0 u1 sh da) (e0 : sh'.length = sh.length) (e1 : da'.length = da.length) : Apart u0 u1 sh' da' := by
  rcases h with h | h | h
  · exact .inl (by omega)
  · exact .inr (.inl (by omega))
  · exact .inr (.inr h)

theorem rowOf_len {u : Value} {zs zs' : List Int} (e : zs'.length = zs.length) : rowOf u zs' = rowOf u zs := by unfold rowOf; rw [e]

set_option maxHeartbeats 1000000 in
/-- laws.markArray -/
theorem markArray_any (B : Nat) (u0 u1 : Value) (m : Int) (sh da : List Int) (w : World) (hl0 : sh.length ≤ 1048576) (hl1 : da.length ≤ 1048576) (h0 : 0 ≤ m) (h1 : m ≤ 2097162) (h : Res B w u0 u1 sh da) :
    Calls Try.prog 18 #[.agg #[u0, u1], .int .i64 m] w fun e w' => e = .returned (.int .i64 (m + sh.length + da.length)) ∧ Kept2 w w' (rowOf u0 sh) (rowOf u1 da) ∧ Res B w' u0 u1 (Pl.marks m sh.length) (Pl.marks (m + sh.length) da.length) := by
  obtain ⟨r0, r1, r2⟩ := h
  have K0 : Hid (∀ o, Calls Try.prog 47 #[u0, .int .i64 m] (w.alloc o) fun e w' => e = .returned (.int .i64 (m + sh.length)) ∧ (w.alloc o).grownBy w' (rowOf u0 sh) ∧ w'.heap.size = (w.alloc o).heap.size ∧ Own B w' u0 (Pl.marks m sh.length)) := fun o =>
    markIntS_any B u0 m sh (w.alloc o) hl0 h0 (by omega) (r0.alloc o)
  have P0 := hideP (rowOf_ge r0)
  have P1 := hideP (rowOf_ge r1)
  have R1 := hideP r1
  have R2 := hideP r2
  obtain ⟨a0, d0, e0⟩ := r0.form
  obtain ⟨a1, d1, e1⟩ := r1.form
  subst e0
  subst e1
  clear r0 r1 r2
  go_enter Try.func18, Try.ntmps18
  go_wp2_with fail
  refine (K0.out _).mono ?_
  rintro e w1 ⟨rfl, hg1, hs1, ho1⟩
  have HG1 := hideP hg1
  have HO1 := hideP ho1
  have hsz : w1.heap.size = w.heap.size + 1 := by rw [hs1]; simp
  have O1 : Hid (Own B w1 (.slice a1 da.length d1) da) := (R1.out.alloc _).grown hg1 (fun k hk e => rows_apart R2.out k hk e)
  have c1 : w1.cell? ⟨w.heap.size, 1, none⟩ = some (.slice a1 da.length d1) := by
    have hb := hg1.block w.heap.size (by simp) (fun e => by have := P0.out _ e.symm; omega)
    rw [World.cell?_of_block (w := w.alloc _) (a := ⟨w.heap.size, 1, none⟩) hb]
    simp [go_sem]
  clear hg1 ho1 hs1
  go_wp2_with fail
  refine (markIntS_any B _ (m + sh.length) da _ hl1 (by omega) (by omega) O1.out).mono ?_
  rintro e w2 ⟨rfl, hg2, hs2, ho2⟩
  have HG2 := hideP hg2
  have HO2 := hideP ho2
  clear hg2 ho2 c1
  go_wp2_with fail
  go_ret
  refine ⟨rfl, ⟨HG2.out.os.trans HG1.out.os, HG2.out.tape.trans HG1.out.tape, HG2.out.output.trans HG1.out.output, by omega, fun k hk n0 n1 => ?_⟩, ?_, HO2.out, ?_⟩
  · rw [HG2.out.block k (by omega) n1, HG1.out.block k (by simp; omega) n0]
    exact Below.heap_alloc w _ k hk
  · refine HO1.out.grown HG2.out (fun k hk e => ?_)
    rw [rowOf_len (Pl.marks_len _ _)] at e
    exact rows_apart R2.out k e hk
  · exact apart_len R2.out (Pl.marks_len _ _) (Pl.marks_len _ _)

set_option maxHeartbeats 1000000 in
/-- laws.heldArray -/
theorem heldArray_any (u0 u1 : Value) (m : Int) (n0 n1 : Nat) (w : World) (hl0 : n0 ≤ 1048576) (hl1 : n1 ≤ 1048576) (h0 : 0 ≤ m) (h1 : m ≤ 10) (r0 : Rd w.heap.size w u0 (Pl.marks m n0)) (r1 : Rd w.heap.size w u1 (Pl.marks (m + n0) n1)) :
    Calls Try.prog 19 #[.agg #[u0, u1], .int .i64 m] w fun e w' => e = .returned (.int .i64 (m + n0 + n1)) ∧ Below w.heap.size w w' := by
  have A : Hid (∀ o, Below w.heap.size w (w.alloc o)) := fun o => (Below.refl _ _).alloc (Nat.le_refl _) _
  have K0 : Hid (∀ o, Calls Try.prog 48 #[u0, .int .i64 m] (w.alloc o) fun e w' => e = .returned (.int .i64 (m + n0)) ∧ w' = w.alloc o) := fun o =>
    heldIntS_any w.heap.size u0 m n0 (w.alloc o) hl0 h0 (by omega) (r0.keep (A.out _))
  have K1 : Hid (∀ o, Calls Try.prog 48 #[u1, .int .i64 (m + n0)] (w.alloc o) fun e w' => e = .returned (.int .i64 (m + n0 + n1)) ∧ w' = w.alloc o) := fun o =>
    heldIntS_any w.heap.size u1 (m + n0) n1 (w.alloc o) hl1 (by omega) (by omega) (r1.keep (A.out _))
  obtain ⟨a0, d0, e0⟩ := r0.form
  obtain ⟨a1, d1, e1⟩ := r1.form
  subst e0
  subst e1
  clear r0 r1
  go_enter Try.func19, Try.ntmps19
  go_wp2_with fail
  refine (K0.out _).mono ?_
  rintro e w' ⟨rfl, rfl⟩
  go_wp2_with fail
  refine (K1.out _).mono ?_
  rintro e w' ⟨rfl, rfl⟩
  go_wp2_with fail
  go_ret
  exact ⟨rfl, A.out _⟩

end Go.Proofs.Ytmobjomebmipdaa
