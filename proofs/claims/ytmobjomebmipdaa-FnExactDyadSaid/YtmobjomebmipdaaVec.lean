import Derived.Test.YtmobjomebmipdaaTwoR
import Derived.Test.YtmobjomebmipdaaFirst2
namespace Go.Proofs.Ytmobjomebmipdaa
open Go.RowKit
set_option linter.unusedVariables false

theorem own_lit (w w' : World) (x : Int) (hb : Below (w.heap.size + 1) (w.alloc (.cells #[.int .i64 x] 3)) w') : Own w.heap.size w' (.slice (some ⟨w.heap.size, 0, none⟩) 1 1) [x] := by
  have o : Own w.heap.size (w.alloc (.cells #[.int .i64 x] 3)) (.slice (some ⟨w.heap.size, 0, none⟩) 1 1) [x] := own_of_any (owns_one w x w.heap.size (Nat.le_refl _))
  exact o.keep (by have e : (w.alloc (.cells #[.int .i64 x] 3)).heap.size = w.heap.size + 1 := by simp
                   rw [e]; exact hb)

set_option maxRecDepth 100000 in
/-- impl.vector -/
theorem vector_any (ao : Option Addr) (cap n : Nat) (w : World) :
    Calls Try.prog 140 #[.slice ao n cap] w fun e w' => ∃ g, e = .returned (.agg #[.slice (some ⟨g, 0, none⟩) 1 1, .slice ao n cap]) ∧ Own w.heap.size w' (.slice (some ⟨g, 0, none⟩) 1 1) [(n : Int)] ∧ Below w.heap.size w w' := by
  have B : Hid (∀ o o', Below w.heap.size w ((w.alloc o).alloc o')) := fun o o' => ((Below.refl _ _).alloc (Nat.le_refl _) _).alloc (by simp) _
  have O : Hid (∀ o, Own (w.heap.size + 1) ((w.alloc o).alloc (.cells #[.int .i64 (n : Int)] 3)) (.slice (some ⟨w.heap.size + 1, 0, none⟩) 1 1) [(n : Int)]) := fun o => by
    have := own_lit (w.alloc o) ((w.alloc o).alloc (.cells #[.int .i64 (n : Int)] 3)) (n : Int) (Below.refl _ _)
    have e : (w.alloc o).heap.size = w.heap.size + 1 := by simp
    rw [e] at this
    exact this
  go_enter Try.func140, Try.ntmps140
  go_wp2_with fail
  refine bodyPost_ret (v := .agg #[.slice (some ⟨w.heap.size + 1, 0, none⟩) 1 1, .slice ao n cap]) (by simp [results, Try.results140, go_sem]) rfl ⟨w.heap.size + 1, rfl, ?_, ?_⟩
  · exact (O.out _).base (by omega)
  · exact B.out _ _

end Go.Proofs.Ytmobjomebmipdaa

namespace Go.Proofs.Ytmobjomebmipdaa
open Go.RowKit
set_option linter.unusedVariables false

namespace Pl
/-- an array with axes: a scalar is a vector of one cell -/
def axesS (sh da : List Int) : List Int := if sh.length = 0 then [(da.length : Int)] else sh
end Pl

set_option maxRecDepth 100000 in
/-- impl.scalar -/
theorem scalar_any (x : Int) (w : World) : Calls Try.prog 146 #[.int .i64 x] w fun e w' => ∃ g, e = .returned (.agg #[.slice none 0 0, .slice (some ⟨g, 0, none⟩) 1 1]) ∧ Own w.heap.size w' (.slice (some ⟨g, 0, none⟩) 1 1) [x] ∧ Below w.heap.size w w' := by
  have B : Hid (∀ o o', Below w.heap.size w ((w.alloc o).alloc o')) := fun o o' => ((Below.refl _ _).alloc (Nat.le_refl _) _).alloc (by simp) _
  have O : Hid (∀ o, Own (w.heap.size + 1) ((w.alloc o).alloc (.cells #[.int .i64 x] 3)) (.slice (some ⟨w.heap.size + 1, 0, none⟩) 1 1) [x]) := fun o => by
    have := own_lit (w.alloc o) ((w.alloc o).alloc (.cells #[.int .i64 x] 3)) x (Below.refl _ _)
    have e : (w.alloc o).heap.size = w.heap.size + 1 := by simp
    rw [e] at this
    exact this
  go_enter Try.func146, Try.ntmps146
  go_wp2_with fail
  refine bodyPost_ret (v := .agg #[.slice none 0 0, .slice (some ⟨w.heap.size + 1, 0, none⟩) 1 1]) (by simp [results, Try.results146, go_sem]) rfl ⟨w.heap.size + 1, rfl, ?_, ?_⟩
  · exact (O.out _).base (by omega)
  · exact B.out _ _

end Go.Proofs.Ytmobjomebmipdaa

namespace Go.Proofs.Ytmobjomebmipdaa
open Go.RowKit
set_option linter.unusedVariables false

set_option maxRecDepth 100000 in
set_option maxHeartbeats 2000000 in
/-- spec.l2Vector -/
theorem l2Vector_any (u : Value) (xs : List Int) (w : World) (hl : xs.length ≤ 1048576) (h0 : Rd w.heap.size w u xs) :
    Calls Try.prog 55 #[u] w fun e w' => ∃ g0 g1 cap, e = .returned (.agg #[.slice (some ⟨g0, 0, none⟩) 1 1, .slice (some ⟨g1, 0, none⟩) xs.length cap]) ∧ xs.length ≤ cap ∧ cap ≤ 9223372036854775807 ∧ Res w.heap.size w' (.slice (some ⟨g0, 0, none⟩) 1 1) (.slice (some ⟨g1, 0, none⟩) xs.length cap) [(xs.length : Int)] xs ∧ Below w.heap.size w w' := by
  have H := hideP h0
  obtain ⟨a0, d0, e0⟩ := h0.form
  subst e0
  clear h0
  have A : Hid (∀ o, Below w.heap.size w ((w.alloc o).alloc (.cells #[.int .i64 (xs.length : Int)] 3))) := fun o => ((Below.refl _ _).alloc (Nat.le_refl _) _).alloc (by simp) _
  have KC : Hid (∀ o, Calls Try.prog 40 #[.slice a0 xs.length d0] ((w.alloc o).alloc (.cells #[.int .i64 (xs.length : Int)] 3)) fun e w' => ∃ g cap, e = .returned (.slice (some ⟨g, 0, none⟩) xs.length cap) ∧ xs.length ≤ cap ∧ cap ≤ 9223372036854775807 ∧ Own (w.heap.size + 1 + 1) w' (.slice (some ⟨g, 0, none⟩) xs.length cap) xs ∧ Below (w.heap.size + 1 + 1) ((w.alloc o).alloc (.cells #[.int .i64 (xs.length : Int)] 3)) w') := fun o => by
    refine (l2Copy_at _ xs _ hl ((H.out.keep (A.out o)).up (by simp; omega))).mono ?_
    rintro e w' ⟨g, cap, rfl, q0, q1, ho, hb⟩
    exact ⟨g, cap, rfl, q0, q1, by simpa using own_of_any ho, by simpa using hb⟩
  have OL : Hid (∀ o, Own (w.heap.size + 1) ((w.alloc o).alloc (.cells #[.int .i64 (xs.length : Int)] 3)) (.slice (some ⟨w.heap.size + 1, 0, none⟩) 1 1) [(xs.length : Int)]) := fun o => by
    have := own_of_any (owns_one (w.alloc o) (xs.length : Int) (w.heap.size + 1) (by simp))
    have e : (w.alloc o).heap.size = w.heap.size + 1 := by simp
    rw [e] at this
    exact this
  go_enter Try.func55, Try.ntmps55
  go_wp2_with fail
  refine (KC.out _).mono ?_
  rintro e w1 ⟨g, cap, rfl, q0, q1, ho1, hb1⟩
  have hs1 : w.heap.size + 1 + 1 ≤ w1.heap.size := by have := hb1.size; simpa using this
  have B1 := hideP hb1
  have O1 := hideP ho1
  have L1 := hideP ((OL.out (.cells #[.slice none 0 0, .slice none 0 0] 27)).keep (by simpa using hb1))
  have BW := hideP ((A.out (.cells #[.slice none 0 0, .slice none 0 0] 27)).trans (hb1.mono (by omega)))
  have c : ∀ o, w1.cell? ⟨w.heap.size, o, none⟩ = ((w.alloc (.cells #[.slice none 0 0, .slice none 0 0] 27)).alloc (.cells #[.int .i64 (xs.length : Int)] 3)).cell? ⟨w.heap.size, o, none⟩ := fun o => hb1.cell (p := ⟨w.heap.size, o, none⟩) (by show w.heap.size < _; omega)
  have r0 : w1.cell? ⟨w.heap.size, 0, none⟩ = some (.slice none 0 0) := by rw [c]; simp [go_sem]
  have r1 : w1.cell? ⟨w.heap.size, 1, none⟩ = some (.slice none 0 0) := by rw [c]; simp [go_sem]
  have f2 : ∀ o, w1.frozen? ⟨w.heap.size, o, none⟩ = false := fun o => (hb1.frozen (p := ⟨w.heap.size, o, none⟩) (by show w.heap.size < _; omega)).trans (by simp [go_sem])
  have AP := hideP (apart_right (B := w.heap.size + 1 + 1) (u0 := .slice (some ⟨w.heap.size + 1, 0, none⟩) 1 1) (sh := [(xs.length : Int)]) ho1 (.inr fun b e => by simp [Value.ownBlock] at e; omega))
  clear hb1 ho1 c
  go_wp2_with fail
  refine bodyPost_ret (v := .agg #[.slice (some ⟨w.heap.size + 1, 0, none⟩) 1 1, .slice (some ⟨g, 0, none⟩) xs.length cap]) (by simp [results, Try.results55, go_sem, r0, r1]) rfl ⟨_, _, _, rfl, q0, q1, ⟨?_, ?_, AP.out⟩, (BW.out.setCell (by simp) _).setCell (by simp) _⟩
  · exact Own.base (Own.store (Own.store L1.out (by omega) _) (by omega) _) (by omega)
  · exact Own.base (Own.store (Own.store O1.out (by omega) _) (by omega) _) (by omega)

end Go.Proofs.Ytmobjomebmipdaa
