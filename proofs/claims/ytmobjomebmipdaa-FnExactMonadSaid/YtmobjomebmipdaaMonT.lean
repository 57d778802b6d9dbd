import Derived.Test.YtmobjomebmipdaaFirst2
import Derived.Test.YtmobjomebmipdaaCopied
import Derived.Test.YtmobjomebmipdaaEach2
import Derived.Deep.RegionHeld3
import Derived.Deep.RegionHeld2
import Derived.Test.YtmobjomebmipdaaLies
import Derived.Deep.DeepCutAuto
import Derived.Test.YtmobjomebmipdaaValid
import Derived.Test.YtmobjomebmipdaaRed
import Derived.Test.YtmobjomebmipdaaMonR
namespace Go.Proofs.Ytmobjomebmipdaa
open Go.RowKit
set_option linter.unusedVariables false

theorem valid1_new (v0 v1 : Value) (sh da : List Int) (w : World) (hl0 : sh.length ≤ 1048576) (hl1 : da.length ≤ 1048576) (h0 : Rd w.heap.size w v0 sh) (h1 : Rd w.heap.size w v1 da) (o : Obj) (t : TypeId) :
    Calls Try.prog 44 #[.slice (some ⟨w.heap.size + 1, 0, none⟩) 1 1] ((w.alloc o).alloc (.cells #[v0, v1] t)) fun e w' => Below (w.heap.size + 1) (w.alloc o) w' ∧ ((Pl.okB sh da = true ∧ e = .returned (.tuple #[])) ∨ (¬ Pl.okB sh da = true ∧ e = .panicked [thrown 9])) := by
  have A : Below (w.heap.size + 1) (w.alloc o) ((w.alloc o).alloc (.cells #[v0, v1] t)) := (Below.refl _ _).alloc (by simp) _
  have A2 : Below w.heap.size w ((w.alloc o).alloc (.cells #[v0, v1] t)) := ((Below.refl _ _).alloc (Nat.le_refl _) _).alloc (by simp) _
  refine (needValid1 (w.heap.size + 1) v0 v1 sh da ((w.alloc o).alloc (.cells #[v0, v1] t)) hl0 hl1 (by simp) (by simp [go_sem]) (by simp [go_sem]) ((h0.keep A2).up (by simp; omega)) ((h1.keep A2).up (by simp; omega))).mono ?_
  rintro e w' ⟨hb, hor⟩
  refine ⟨A.trans (hb.mono (by simp)), ?_⟩
  rcases hor with h | ⟨h, e⟩
  · exact .inl h
  · exact .inr ⟨by rw [h]; decide, e⟩

end Go.Proofs.Ytmobjomebmipdaa

namespace Go.Proofs.Ytmobjomebmipdaa
open Go.RowKit
set_option linter.unusedVariables false

set_option maxRecDepth 100000 in
/-- impl.chosen, over the table of monadOf -/
theorem chosenM_no (n : Int) (b : Nat) (w : World) (h : n < 1 ∨ 8 ≤ n) : Calls Try.prog 110 #[.int .i64 n, .slice (some ⟨b, 0, none⟩) 8 8] w fun e w' => e = .panicked [thrown 9] ∧ w' = w := by
  rcases h with h | h
  · go_enter Try.func110, Try.ntmps110
    go_wp2_with (go_at_call 83; refine (refuse_yes _ _).mono ?_; rintro e w' ⟨rfl, rfl⟩)
    exact ⟨rfl, rfl, rfl⟩
  · have h' : ¬ n < 1 := by omega
    go_enter Try.func110, Try.ntmps110
    go_wp2_with (go_at_call 83; refine (refuse_yes _ _).mono ?_; rintro e w' ⟨rfl, rfl⟩)
    exact ⟨rfl, rfl, rfl⟩

theorem chosenM_yes (k b : Nat) (v : Value) (w : World) (h0 : 1 ≤ k) (h1 : k < 8) (hc : w.cell? ⟨b, k, none⟩ = some v) : Calls Try.prog 110 #[.int .i64 (k : Int), .slice (some ⟨b, 0, none⟩) 8 8] w fun e w' => e = .returned v ∧ w' = w := by
  have e0 : ¬ ((k : Int) < 1) := by omega
  have e1 : ¬ (8 ≤ (k : Int)) := by omega
  go_enter Try.func110, Try.ntmps110
  go_wp2_with (go_at_call 83; refine (refuse_no _ _).mono ?_; rintro e w' ⟨rfl, rfl⟩)
  go_ret
  exact ⟨rfl, rfl⟩

/-- impl.monadOf -/
theorem monadOf_no (n : Int) (w : World) (h : n < 1 ∨ 8 ≤ n) : Calls Try.prog 61 #[.int .i64 n] w fun e w' => e = .panicked [thrown 9] ∧ Below w.heap.size w w' := by
  have K := hideP (fun b w => chosenM_no n b w h)
  clear h
  go_enter Try.func61, Try.ntmps61
  go_wp2_with (go_at_call 110; refine (K.out _ _).mono ?_; rintro e w' ⟨rfl, rfl⟩)
  exact ⟨rfl, rfl, (Below.refl _ _).alloc (Nat.le_refl _) _⟩

theorem monadOf_yes (k : Nat) (w : World) (h0 : 1 ≤ k) (h1 : k < 8) : Calls Try.prog 61 #[.int .i64 (k : Int)] w fun e w' => e = .returned (.func (.func (110 + k)) #[] #[]) ∧ Below w.heap.size w w' := by
  have K := hideP (fun b v w => chosenM_yes k b v w h0 h1)
  have hk : k = 1 ∨ k = 2 ∨ k = 3 ∨ k = 4 ∨ k = 5 ∨ k = 6 ∨ k = 7 := by omega
  clear h0 h1
  rcases hk with rfl | rfl | rfl | rfl | rfl | rfl | rfl
  all_goals
    go_enter Try.func61, Try.ntmps61
    go_wp2_with fail
    refine (K.out _ _ _ (by simp [go_sem]; rfl)).mono ?_
    rintro e w' ⟨rfl, rfl⟩
    go_wp2_with fail
    go_ret
    exact ⟨rfl, (Below.refl _ _).alloc (Nat.le_refl _) _⟩

end Go.Proofs.Ytmobjomebmipdaa
