import Derived.Test.YthhfpcdbgndioaaGreatDoorPlc
namespace Go.Proofs.YthhfpcdbgndioaaGreatDoor
open Go.RowKit
set_option linter.unusedVariables false
set_option maxRecDepth 100000
/-- impl.derived -/
theorem derived_any (k n : Int) (w : World) :
    Calls Tryz.prog 105 #[.int .i64 k, .int .i64 n] w fun e w' => e = .returned (.agg #[.int .i64 (if n = 0 then 0 else k), .int .i64 n, .int .i64 0, .string ⟨#[]⟩]) ∧ Below w.heap.size w w' := by
  have HB : Hid (∀ o, Below w.heap.size w (w.alloc o)) := fun o => (Below.refl _ _).alloc (Nat.le_refl _) _
  by_cases h : n = 0
  · subst h
    rw [if_pos rfl]
    go_enter Tryz.func105, Tryz.ntmps105
    go_wp2
    refine bodyPost_ret (v := .agg #[.int .i64 0, .int .i64 0, .int .i64 0, .string ⟨#[]⟩]) (by simp [results, Tryz.results105, go_sem]) rfl ⟨rfl, HB.out _⟩
  · have h' : (n == 0) = false := by simpa using h
    rw [if_neg h]
    clear h
    go_enter Tryz.func105, Tryz.ntmps105
    go_wp2
    refine bodyPost_ret (v := .agg #[.int .i64 k, .int .i64 n, .int .i64 0, .string ⟨#[]⟩]) (by simp [results, Tryz.results105, go_sem]) rfl ⟨rfl, HB.out _⟩
/-- impl.derivedByTwo -/
theorem derived2_any (a b : Int) (w : World) :
    Calls Tryz.prog 107 #[.int .i64 a, .int .i64 b] w fun e w' => e = .returned (.agg (if a = 0 ∨ b = 0 then #[.int .i64 0, .int .i64 0, .int .i64 0, .string ⟨#[]⟩] else #[.int .i64 8, .int .i64 a, .int .i64 b, .string ⟨#[]⟩])) ∧ Below w.heap.size w w' := by
  have HB : Hid (∀ o, Below w.heap.size w (w.alloc o)) := fun o => (Below.refl _ _).alloc (Nat.le_refl _) _
  by_cases h : a = 0
  · subst h
    rw [if_pos (.inl rfl)]
    go_enter Tryz.func107, Tryz.ntmps107
    go_wp2
    refine bodyPost_ret (v := .agg #[.int .i64 0, .int .i64 0, .int .i64 0, .string ⟨#[]⟩]) (by simp [results, Tryz.results107, go_sem]) rfl ⟨rfl, HB.out _⟩
  · have h' : (a == 0) = false := by simpa using h
    by_cases h2 : b = 0
    · subst h2
      rw [if_pos (.inr rfl)]
      clear h
      go_enter Tryz.func107, Tryz.ntmps107
      go_wp2
      refine bodyPost_ret (v := .agg #[.int .i64 0, .int .i64 0, .int .i64 0, .string ⟨#[]⟩]) (by simp [results, Tryz.results107, go_sem]) rfl ⟨rfl, HB.out _⟩
    · have h2' : (b == 0) = false := by simpa using h2
      rw [if_neg (by simp [h, h2])]
      clear h h2
      go_enter Tryz.func107, Tryz.ntmps107
      go_wp2
      refine bodyPost_ret (v := .agg #[.int .i64 8, .int .i64 a, .int .i64 b, .string ⟨#[]⟩]) (by simp [results, Tryz.results107, go_sem]) rfl ⟨rfl, HB.out _⟩
end Go.Proofs.YthhfpcdbgndioaaGreatDoor
