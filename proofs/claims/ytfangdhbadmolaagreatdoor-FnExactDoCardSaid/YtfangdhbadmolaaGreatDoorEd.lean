import Derived.Test.YtfangdhbadmolaaGreatDoorEc
import Derived.Test.YtfangdhbadmolaaGreatDoorOw
namespace Go.Proofs.YtfangdhbadmolaaGreatDoor
open Go.RowKit
set_option linter.unusedVariables false

set_option maxRecDepth 100000 in
set_option maxHeartbeats 4000000 in
/-- impl.refusalOf at a refusal -/
theorem refusalOf_any (c d : Int) (w : World) (hg : w.cell? ⟨0, 0, none⟩ = some (.iface 113 (.agg #[.pointer (some ⟨1, 46, none⟩)]))) :
    Calls Tryz.prog 21 #[.iface 51 (.agg #[.int .i64 c, .int .i64 d])] w fun e w' => e = .returned (.agg #[.int .i64 c, .int .i64 d]) ∧ Below w.heap.size w w' := by
  have hlt : 0 < w.heap.size := by
    rcases Nat.eq_zero_or_pos w.heap.size with h0 | h
    · simp [World.cell?, h0] at hg
    · exact h
  have B2 : Hid (∀ o1 o2 : Obj, Below w.heap.size w ((w.alloc o1).alloc o2)) := fun o1 o2 => ((Below.refl _ _).alloc (Nat.le_refl _) _).alloc (by simp) _
  have HG := hideP hg
  clear hg
  go_enter Tryz.func21, Tryz.ntmps21
  go_wp2_with fail
  have hgA := ((B2.out (.cells #[.int .i64 0, .int .i64 0] 51) (.cells #[.int .i64 0, .int .i64 0] 51)).cell (p := ⟨0, 0, none⟩) hlt).trans HG.out
  refine (as_hit (w.heap.size + 1) c d (.int .i64 0) (.int .i64 0) _ hgA (by simp) (by simp) (by simp) (by simp) (by simp)).mono ?_
  rintro e w1 ⟨rfl, e1⟩
  have hb1 : Below (w.heap.size + 1) ((w.alloc (.cells #[.int .i64 0, .int .i64 0] 51)).alloc (.cells #[.int .i64 0, .int .i64 0] 51)) w1 := by
    rw [e1]
    refine Below.setCell (Below.setCell ?_ (by simp) _) (by simp) _
    exact ((((Below.refl _ _).alloc (by simp) _).alloc (by simp) _).alloc (by simp) _).alloc (by simp) _
  have c0 : w1.cell? ⟨w.heap.size + 1, 0, none⟩ = some (.int .i64 c) := by
    rw [e1, World.cell?_setCell_other _ _ _ _ (by intro e; injection e with _ e2 _; cases e2)]
    refine World.cell?_setCell_same _ _ _ (show _ = some (Value.int .i64 0) from ?_)
    simp [go_sem]
  have c1 : w1.cell? ⟨w.heap.size + 1, 1, none⟩ = some (.int .i64 d) := by
    rw [e1]
    refine World.cell?_setCell_same _ _ _ (show _ = some (Value.int .i64 0) from ?_)
    simp [go_sem]
  have r0 : w1.cell? ⟨w.heap.size, 0, none⟩ = some (.int .i64 0) := (hb1.cell (p := ⟨w.heap.size, 0, none⟩) (by show w.heap.size < _; omega)).trans (by simp [go_sem])
  have r1 : w1.cell? ⟨w.heap.size, 1, none⟩ = some (.int .i64 0) := (hb1.cell (p := ⟨w.heap.size, 1, none⟩) (by show w.heap.size < _; omega)).trans (by simp [go_sem])
  have g0 : w1.frozen? ⟨w.heap.size, 0, none⟩ = false := (hb1.frozen (p := ⟨w.heap.size, 0, none⟩) (by show w.heap.size < _; omega)).trans (by simp [go_sem])
  have g1 : w1.frozen? ⟨w.heap.size, 1, none⟩ = false := (hb1.frozen (p := ⟨w.heap.size, 1, none⟩) (by show w.heap.size < _; omega)).trans (by simp [go_sem])
  have B3 := hideP ((B2.out _ _).trans (hb1.mono (by omega)))
  clear e1 hb1 hgA
  go_wp2_with fail
  refine bodyPost_ret (v := .agg #[.int .i64 c, .int .i64 d]) (by simp [results, Tryz.results21, go_sem, r0, r1]) rfl ?_
  exact ⟨rfl, (B3.out.setCell (by simp) _).setCell (by simp) _⟩
end Go.Proofs.YtfangdhbadmolaaGreatDoor
