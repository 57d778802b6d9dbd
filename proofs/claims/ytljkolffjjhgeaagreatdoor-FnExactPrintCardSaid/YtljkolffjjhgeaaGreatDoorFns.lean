import Derived.Test.YtljkolffjjhgeaaGreatDoorDec
import Derived.BigQuiet
import Derived.Deep.QuietTactic
import Derived.Deep.RegionWith
namespace Go.Proofs.YtljkolffjjhgeaaGreatDoor
open Go.RowKit
set_option linter.unusedVariables false
set_option maxRecDepth 100000
theorem ret_str {a b : ByteArray} (h : a = b) : Ending.returned (.string a) = .returned (.string b) := by rw [h]
theorem opk_iff {n : Int} (h : Pl.opk n = true) : n = 1 ∨ n = 2 ∨ n = 3 ∨ n = 4 ∨ n = 5 ∨ n = 6 ∨ n = 7 ∨ n = 8 ∨ n = 9 ∨ n = 10 := by
  simp [Pl.opk] at h
  omega
set_option maxHeartbeats 4000000 in
/-- spec.l3Sign -/
theorem l3Sign_any (n : Int) (h : Pl.opk n = true) (w : World) :
    Calls Tryz.prog 55 #[.int .i64 n] w fun e w' => e = .returned (.string (Pl.ba (Pl.osg n))) ∧ Below w.heap.size w w' := by
  have HB : Hid (∀ o, Below w.heap.size w (w.alloc o)) := fun o => (Below.refl _ _).alloc (Nat.le_refl _) _
  rcases opk_iff h with rfl | rfl | rfl | rfl | rfl | rfl | rfl | rfl | rfl | rfl <;>
  · clear h
    generalize hr : Pl.ba (Pl.osg _) = r
    have HR := hideP hr.symm
    clear hr
    go_enter Tryz.func55, Tryz.ntmps55
    go_wp2
    go_ret
    exact ⟨ret_str (HR.out.trans (by decide)).symm, HB.out _⟩
theorem Pl.fok_cases {k a b : Int} {nm : List UInt8} {two : Bool} (h : Pl.fok ⟨k, a, b, nm⟩ two = true) : k = 10 ∨ (nm = [] ∧ ((k = 9 ∧ a = 0 ∧ b = 0) ∨ (k = 1 ∧ (1 ≤ a ∧ a ≤ 4) ∧ b = 0) ∨ (k = 2 ∧ (1 ≤ a ∧ a ≤ 7) ∧ b = 0) ∨ (k = 6 ∧ (1 ≤ a ∧ a ≤ 7) ∧ b = 0) ∨ (k = 3 ∧ Pl.opk a = true ∧ b = 0) ∨ (k = 4 ∧ Pl.opk a = true ∧ b = 0) ∨ (k = 5 ∧ Pl.opk a = true ∧ b = 0) ∨ (k = 7 ∧ Pl.opk a = true ∧ b = 0) ∨ (k = 8 ∧ Pl.opk a = true ∧ Pl.opk b = true))) := by
  unfold Pl.fok at h
  split at h
  · exact .inl ‹_›
  refine .inr ?_
  split at h
  · cases h
  rename_i h1
  simp only [ne_eq, not_or, Classical.not_not, not_and] at h1
  refine ⟨h1.1, ?_⟩
  split at h
  · rename_i e
    simp only [Bool.and_eq_true, decide_eq_true_eq] at h
    exact .inl ⟨e, h.2, h1.2 (by simp only [] at e; omega)⟩
  refine .inr ?_
  split at h
  · rename_i e
    simp only [Bool.and_eq_true, decide_eq_true_eq] at h
    exact .inl ⟨e, ⟨h.1.2, h.2⟩, h1.2 (by simp only [] at e; omega)⟩
  refine .inr ?_
  split at h
  · rename_i e
    simp only [Bool.and_eq_true, decide_eq_true_eq] at h
    rcases e with e | e
    · exact .inl ⟨e, ⟨h.1.2, h.2⟩, h1.2 (by simp only [] at e; omega)⟩
    · exact .inr (.inl ⟨e, ⟨h.1.2, h.2⟩, h1.2 (by simp only [] at e; omega)⟩)
  refine .inr (.inr ?_)
  split at h
  · rename_i e
    simp only [Bool.and_eq_true] at h
    rcases e with e | e
    · exact .inl ⟨e, h.2, h1.2 (by simp only [] at e; omega)⟩
    · exact .inr (.inl ⟨e, h.2, h1.2 (by simp only [] at e; omega)⟩)
  refine .inr (.inr ?_)
  split at h
  · rename_i e
    simp only [Bool.and_eq_true] at h
    exact .inr (.inr ⟨e, h.1.2, h.2⟩)
  · simp only [Bool.and_eq_true, Bool.or_eq_true, decide_eq_true_eq] at h
    rcases h.1.2 with e | e
    · exact .inl ⟨e, h.2, h1.2 (by omega)⟩
    · exact .inr (.inl ⟨e, h.2, h1.2 (by omega)⟩)
theorem Pl.osg_len (n : Int) : (Pl.ba (Pl.osg n)).size ≤ 5 := Pl.sgn_len _
end Go.Proofs.YtljkolffjjhgeaaGreatDoor
