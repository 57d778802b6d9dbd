import Derived.Test.YtbmkbplgncoapaaDoorR7
import Derived.BigQuiet
namespace Go.Proofs.YtbmkbplgncoapaaDoor
open Go.RowKit
set_option linter.unusedVariables false

/-- n bytes that are read from ao on, below B -/
def RdB (B : Nat) (w : World) (ao : Option Addr) (n : Nat) : Prop :=
  n = 0 ∨ ∃ b off, b < B ∧ ao = some ⟨b, off, none⟩ ∧ ∀ i, i < n → ∃ x : Nat, x ≤ 255 ∧ w.cell? ⟨b, off + i, none⟩ = some (.int .u8 (x : Int))
theorem RdB.keep {B n : Nat} {w w' : World} {ao : Option Addr} (h : RdB B w ao n) (hb : Below B w w') : RdB B w' ao n := by
  rcases h with h | ⟨b, off, hB, rfl, hc⟩
  · exact .inl h
  · refine .inr ⟨b, off, hB, rfl, fun i hi => ?_⟩
    obtain ⟨x, h1, h2⟩ := hc i hi
    exact ⟨x, h1, (hb.cell (p := ⟨b, off + i, none⟩) hB).trans h2⟩
theorem RdB.less {B n m : Nat} {w : World} {ao : Option Addr} (h : RdB B w ao n) (hm : m ≤ n) : RdB B w ao m := by
  rcases h with h | ⟨b, off, hB, rfl, hc⟩
  · exact .inl (by omega)
  · exact .inr ⟨b, off, hB, rfl, fun i hi => hc i (by omega)⟩

/-- a reader of bytes, in the block P -/
def Rdr (B P : Nat) (w : World) : Prop :=
  B ≤ P ∧ ∃ (ao : Option Addr) (n cap pos : Nat), n ≤ 1000 ∧ pos ≤ n ∧ w.heap[P]? = some (.cells #[.slice ao n cap, .int .i64 (pos : Int)] 132 (0, 0)) ∧ RdB B w ao n
theorem Rdr.lt {B P : Nat} {w : World} (h : Rdr B P w) : P < w.heap.size := by
  obtain ⟨_, ao, n, cap, pos, _, _, hk, _⟩ := h
  exact (Array.getElem?_eq_some_iff.1 hk).1
theorem Rdr.keep {B P : Nat} {w w' : World} (h : Rdr B P w) (hb : Below w.heap.size w w') : Rdr B P w' := by
  have hlt := h.lt
  obtain ⟨hB, ao, n, cap, pos, h1, h2, hk, hr⟩ := h
  exact ⟨hB, ao, n, cap, pos, h1, h2, (hb.block P hlt).trans hk, hr.keep (hb.mono (by omega))⟩
/-- .. behind a write into a row of another kind -/
theorem Rdr.kept {B P : Nat} {w w' : World} {r : Option Nat} (h : Rdr B P w) (hg : w.grownBy w' r) (hr : ∀ k, r = some k → B ≤ k ∧ ¬ k = P) : Rdr B P w' := by
  have hlt := h.lt
  obtain ⟨hB, ao, n, cap, pos, h1, h2, hk, hrd⟩ := h
  have hne : r ≠ some P := fun e => (hr P e).2 rfl
  refine ⟨hB, ao, n, cap, pos, h1, h2, (hg.block P hlt (by intro e; exact hne e.symm)).trans hk, ?_⟩
  refine hrd.keep ⟨hg.os, hg.tape, hg.output, hg.size, fun k hk' => hg.block k (by omega) (fun e => by have := (hr k e.symm).1; omega)⟩
theorem grown_drewN {w w' : World} {r : Option Nat} (n : Nat) (h : (w.drewN n).grownBy w' r) : w.grownBy w' r := ⟨h.os, h.tape, h.output, h.size, h.block⟩
theorem grown_set (w : World) (P j : Nat) (v : Value) : w.grownBy (w.setCell ⟨P, j, none⟩ v) (some P) :=
  ⟨rfl, rfl, rfl, by simp, fun k _ hk => heap_setCell_other w ⟨P, j, none⟩ k v (fun e => hk (by simp [e]))⟩
theorem grown_same (w : World) (n : Nat) (r : Option Nat) : w.grownBy (w.drewN n) r := ⟨rfl, rfl, rfl, Nat.le_refl _, fun _ _ _ => rfl⟩
theorem grown_below {B P : Nat} {w w' : World} (h : w.grownBy w' (some P)) (hB : B ≤ P) (hw : B ≤ w.heap.size) : Below B w w' :=
  ⟨h.os, h.tape, h.output, h.size, fun k hk => h.block k (by omega) (fun e => by injection e with e; omega)⟩

/-- what next leaves -/
def NxPost (B P : Nat) (w : World) (e : Ending) (w' : World) : Prop := ∃ x : Nat, e = .returned (.int .i64 (x : Int)) ∧ x ≤ 255 ∧ Rdr B P w' ∧ w.grownBy w' (some P)
theorem NxPost.mk {B P : Nat} {w w' : World} {x : Nat} {y : Int} (h0 : y = (x : Int)) (h1 : x ≤ 255) (hr : Rdr B P w') (hg : w.grownBy w' (some P)) : NxPost B P w (.returned (.int .i64 y)) w' := ⟨x, by rw [h0], h1, hr, hg⟩

/-- the reader, one byte on -/
theorem Rdr.step {B P n cap pos : Nat} {w : World} {ao : Option Addr} (hB : B ≤ P) (h1 : n ≤ 1000) (hp : pos < n) (hk : w.heap[P]? = some (.cells #[.slice ao n cap, .int .i64 (pos : Int)] 132 (0, 0))) (hr : RdB B w ao n) : Rdr B P (w.setCell ⟨P, 1, none⟩ (.int .i64 ((pos : Int) + 1))) := by
  refine ⟨hB, ao, n, cap, pos + 1, h1, by omega, ?_, hr.keep ((Below.refl B w).setCell hB _)⟩
  have := Lib.heap_setCell_same (i := 1) hk (.int .i64 ((pos : Int) + 1))
  simpa using this

set_option maxRecDepth 100000 in
set_option maxHeartbeats 2000000 in
/-- (*l1Rd).next -/
theorem next_any (B P : Nat) (w : World) (h : Rdr B P w) : Calls Tryd.prog 82 #[.pointer (some ⟨P, 0, none⟩)] w (NxPost B P w) := by
  have H := hideP h
  have hlt := h.lt
  obtain ⟨hB, ao, n, cap, pos, hn, hp, hk, hr⟩ := h
  have c0 : w.cell? ⟨P, 0, none⟩ = some (.slice ao n cap) := by rw [Lib.cell_of_heap hk]; rfl
  have c1 : w.cell? ⟨P, 1, none⟩ = some (.int .i64 (pos : Int)) := by rw [Lib.cell_of_heap hk]; rfl
  have f1 : w.frozen? ⟨P, 1, none⟩ = false := frozen_of_row w P 1 _ 132 hk
  by_cases hlp : pos < n
  · have hlp' : (pos : Int) < (n : Int) := by omega
    have ST : Hid (∀ m, Rdr B P ((w.drewN m).setCell ⟨P, 1, none⟩ (.int .i64 ((pos : Int) + 1)))) := fun m => Rdr.step (w := w.drewN m) hB hn hlp hk hr
    have GR : Hid (∀ m, w.grownBy ((w.drewN m).setCell ⟨P, 1, none⟩ (.int .i64 ((pos : Int) + 1))) (some P)) := fun m => grown_drewN m (grown_set (w.drewN m) P 1 _)
    rcases hr with h0 | ⟨b, off, hb, rfl, hc⟩
    · omega
    obtain ⟨x, x1, cx⟩ := hc pos hlp
    clear hc hk H
    go_enter Tryd.func82, Tryd.ntmps82
    go_wp2_with fail
    go_quiet (fail)
    go_wp2_with fail
    go_quiet (fail)
    go_wp2_with fail
    go_ret
    exact NxPost.mk (x := x) (by first | rfl | (rw [IntKind.wrap_i64]; omega)) x1 (ST.out _) (GR.out _)
  · have hlp' : ¬ (pos : Int) < (n : Int) := by omega
    clear hr hk
    go_enter Tryd.func82, Tryd.ntmps82
    go_wp2_with fail
    go_quiet (fail)
    go_wp2_with fail
    go_ret
    exact NxPost.mk (x := 0) rfl (by omega) (H.out.keep (below_drewN (Below.refl _ _) _)) (grown_same _ _ _)

set_option maxRecDepth 100000 in
set_option maxHeartbeats 1000000 in
/-- spec.l1Open -/
theorem l1Open_any (ao : Option Addr) (n cap : Nat) (w : World) (hn : n ≤ 1048576) (hcap : n ≤ cap) (hm : cap ≤ 9223372036854775807) (h : RdB w.heap.size w ao n) :
    Calls Tryd.prog 81 #[.slice ao n cap] w fun e w' => e = .returned (.pointer (some ⟨w.heap.size, 0, none⟩)) ∧ Rdr w.heap.size w.heap.size w' ∧ Below w.heap.size w w' := by
  have AL : Hid (∀ o, Below w.heap.size w (w.alloc o)) := fun o => (Below.refl _ _).alloc (Nat.le_refl _) _
  have NEW : Hid (∀ (n cap : Nat) (ao : Option Addr), n ≤ 1000 → RdB w.heap.size w ao n → Rdr w.heap.size w.heap.size (w.alloc (.cells #[.slice ao n cap, .int .i64 0] 132))) := fun n cap ao h1 h2 =>
    ⟨Nat.le_refl _, ao, n, cap, 0, h1, Nat.zero_le _, heap_alloc_new w _, h2.keep (AL.out _)⟩
  by_cases hlong : 1000 < n
  · have hlong' : (1000 : Int) < (n : Int) := by omega
    have HR := hideP (NEW.out 1000 cap ao (by omega) (h.less (by omega)))
    obtain ⟨b, off, rfl⟩ : ∃ b off, ao = some ⟨b, off, none⟩ := by
      rcases h with h | ⟨b, off, _, e, _⟩
      · omega
      · exact ⟨b, off, e⟩
    clear h NEW
    go_enter Tryd.func81, Tryd.ntmps81
    go_wp2_with fail
    go_ret
    exact ⟨rfl, HR.out, AL.out _⟩
  · have hlong' : ¬ (1000 : Int) < (n : Int) := by omega
    have HR := hideP (NEW.out n cap ao (by omega) h)
    clear h NEW
    go_enter Tryd.func81, Tryd.ntmps81
    go_wp2_with fail
    go_ret
    exact ⟨rfl, HR.out, AL.out _⟩

/-- what l6Id leaves -/
def IdPost (B P : Nat) (w : World) (e : Ending) (w' : World) : Prop := ∃ id : ByteArray, e = .returned (.string id) ∧ id.size ≤ 21 ∧ Rdr B P w' ∧ Below B w w'

set_option maxRecDepth 100000 in
set_option maxHeartbeats 4000000 in
/-- spec.l6Id -/
theorem l6Id_any (B P : Nat) (w : World) (hBw : B ≤ w.heap.size) (h : Rdr B P w) : Calls Tryd.prog 83 #[.pointer (some ⟨P, 0, none⟩)] w (IdPost B P w) := by
  have KN := hideP (next_any B P w h)
  have hB := h.1
  clear h
  go_enter Tryd.func83, Tryd.ntmps83
  go_wp2_with fail
  refine KN.out.mono ?_
  rintro e w1 ⟨x, rfl, hx, hr, hg⟩
  have B1 := hideP (grown_below hg hB hBw)
  have R1 := hideP hr
  have HS := hideP (Nat.le_trans hBw hg.size)
  have AL : Hid (∀ o, Rdr B P (w1.alloc o) ∧ Below B w (w1.alloc o)) := fun o => ⟨R1.out.keep ((Below.refl _ _).alloc (Nat.le_refl _) _), B1.out.alloc HS.out _⟩
  clear hr hg KN
  by_cases h1 : 252 ≤ x
  · obtain rfl | rfl | rfl | rfl : x = 252 ∨ x = 253 ∨ x = 254 ∨ x = 255 := by omega
    all_goals
      clear h1 hx
      go_wp2_with fail
      go_ret
      exact ⟨_, rfl, by decide, (AL.out _).1, (AL.out _).2⟩
  · have h1' : ¬ (252 : Int) ≤ (x : Int) := by omega
    by_cases h2 : 248 ≤ x
    · have h2' : (248 : Int) ≤ (x : Int) := by omega
      go_wp2_with fail
      go_ret
      exact ⟨_, rfl, by decide, R1.out, B1.out⟩
    · have h2' : ¬ (248 : Int) ≤ (x : Int) := by omega
      have h6 : x % 6 = 0 ∨ x % 6 = 1 ∨ x % 6 = 2 ∨ x % 6 = 3 ∨ x % 6 = 4 ∨ x % 6 = 5 := by omega
      rcases h6 with h6 | h6 | h6 | h6 | h6 | h6
      all_goals
        go_wp2_with fail
        go_ret
        exact ⟨_, rfl, by decide, (AL.out _).1, (AL.out _).2⟩

end Go.Proofs.YtbmkbplgncoapaaDoor
