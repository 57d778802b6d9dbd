import Derived.Test.YtmobjomebmipdaaSpec1b
namespace Go.Proofs.Ytmobjomebmipdaa
open Go.RowKit
set_option linter.unusedVariables false

namespace Pl
/-- k, k+1, .. -/
def marks (k : Int) : Nat → List Int
  | 0 => []
  | n + 1 => k :: marks (k + 1) n
theorem marks_len (k : Int) (n : Nat) : (marks k n).length = n := by
  induction n generalizing k with
  | zero => rfl
  | succ n ih => simp [marks, ih]
theorem marks_get (k : Int) (n i : Nat) (h : i < n) : (marks k n).getD i 0 = k + i := by
  induction n generalizing k i with
  | zero => omega
  | succ n ih =>
    cases i with
    | zero => simp [marks]
    | succ i =>
      have := ih (k + 1) i (by omega)
      simp only [marks, List.getD_cons_succ]
      rw [this]; omega
/-- the first k marked -/
def partly (m : Int) (zs : List Int) (k : Nat) : Nat → Int := fun i => if i < k then m + i else zs.getD i 0
end Pl

/-- the block that is written where there are elements -/
def rowOf (u : Value) (zs : List Int) : Option Nat := if zs.length = 0 then none else u.ownBlock

theorem rowOf_ge {B : Nat} {w : World} {u : Value} {zs : List Int} (h : Own B w u zs) : ∀ k, rowOf u zs = some k → B ≤ k ∧ k < w.heap.size := by
  intro k hk
  obtain ⟨ao, cap, rfl, h⟩ := h
  unfold rowOf at hk
  rcases h with h | ⟨g, off, h1, h2, rfl, _⟩
  · rw [if_pos h] at hk; cases hk
  · split at hk
    · cases hk
    · simp [Value.ownBlock] at hk
      omega

set_option maxHeartbeats 1000000 in
/-- laws.markIntS -/
theorem markIntS_core (g off cap B : Nat) (m : Int) (zs : List Int) (w : World) (hl : zs.length ≤ 1048576) (h0 : 0 ≤ m) (h1 : m ≤ 4194304) (hB : B ≤ g) (hg : g < w.heap.size)
    (hc : ∀ i, i < zs.length → w.cell? ⟨g, off + i, none⟩ = some (.int .i64 (zs.getD i 0)) ∧ w.frozen? ⟨g, off + i, none⟩ = false) :
    Calls Try.prog 47 #[.slice (some ⟨g, off, none⟩) zs.length cap, .int .i64 m] w fun e w' => e = .returned (.int .i64 (m + zs.length)) ∧ w.grownBy w' (some g) ∧ w'.heap.size = w.heap.size ∧
      ∀ i, i < zs.length → w'.cell? ⟨g, off + i, none⟩ = some (.int .i64 (m + i)) ∧ w'.frozen? ⟨g, off + i, none⟩ = false := by
  have HC := hideP hc
  clear hc
  generalize hn : zs.length = n at *
  clear hn
  go_enter Try.func47, Try.ntmps47
  go_wp2_with fail
  go_loopw [1, 5] (fun k i wr => ∃ j : Nat, j ≤ n ∧ i = .int .i64 j ∧ k = .int .i64 (m + j) ∧ Hid (w.grownBy wr (some g) ∧ wr.heap.size = w.heap.size) ∧ Hid (∀ i, i < n → wr.cell? ⟨g, off + i, none⟩ = some (.int .i64 (Pl.partly m zs j i)) ∧ wr.frozen? ⟨g, off + i, none⟩ = false)) (fun _ i _ => n - (intOf i).toNat)
  case atStart =>
    refine ⟨0, Nat.zero_le _, rfl, by go_num, ⟨World.grownBy.refl _ _, rfl⟩, ?_⟩
    intro i hi
    unfold Pl.partly
    rw [if_neg (by omega)]
    exact HC.out i hi
  case round =>
    obtain ⟨j, hj, rfl, rfl, hgr, hcs⟩ := hrel
    by_cases hlt : j < n
    · obtain ⟨hck, hfk⟩ := hcs.out j hlt
      have R : Hid (∀ i, i < n → (wr.setCell ⟨g, off + j, none⟩ (.int .i64 (m + j))).cell? ⟨g, off + i, none⟩ = some (.int .i64 (Pl.partly m zs (j + 1) i)) ∧ (wr.setCell ⟨g, off + j, none⟩ (.int .i64 (m + j))).frozen? ⟨g, off + i, none⟩ = false) := by
        intro i hi
        obtain ⟨ci, fi⟩ := hcs.out i hi
        refine ⟨?_, by simp [go_sem, fi]⟩
        by_cases hij : i = j
        · subst hij
          rw [World.cell?_setCell_same _ _ _ ci]
          unfold Pl.partly
          rw [if_pos (by omega)]
        · rw [World.cell?_setCell_other _ _ _ _ (by intro e; injection e with _ e2 _; exact hij (by omega))]
          rw [ci]
          unfold Pl.partly
          by_cases h : i < j
          · rw [if_pos h, if_pos (by omega)]
          · rw [if_neg h, if_neg (by omega)]
      have G : Hid (w.grownBy (wr.setCell ⟨g, off + j, none⟩ (.int .i64 (m + j))) (some g) ∧ (wr.setCell ⟨g, off + j, none⟩ (.int .i64 (m + j))).heap.size = w.heap.size) := by
        refine ⟨⟨hgr.out.1.os, hgr.out.1.tape, hgr.out.1.output, by simp [hgr.out.2], fun k hk hne => ?_⟩, by simp [hgr.out.2]⟩
        rw [Below.heap_setCell _ _ _ _ (by intro e; subst e; exact hne rfl)]
        exact hgr.out.1.block k hk hne
      generalize Pl.partly m zs j j = x at *
      clear hcs
      go_wp2_with fail
      go_roundw
      case rel => exact ⟨j + 1, by omega, by go_num, by go_num, G, R⟩
      case measure => simp [intOf]; omega
    · have jn : j = n := by omega
      subst jn
      go_wp2_with fail
      go_ret
      refine ⟨rfl, hgr.out.1, hgr.out.2, fun i hi => ?_⟩
      have := hcs.out i hi
      unfold Pl.partly at this
      rw [if_pos hi] at this
      exact this


theorem markIntS_nil (ao : Option Addr) (cap : Nat) (m : Int) (w : World) (h0 : 0 ≤ m) (h1 : m ≤ 4194304) :
    Calls Try.prog 47 #[.slice ao 0 cap, .int .i64 m] w fun e w' => e = .returned (.int .i64 m) ∧ w' = w := by
  go_enter Try.func47, Try.ntmps47
  go_wp2_with fail
  go_loopw [1, 5] (fun k i wr => i = .int .i64 0 ∧ k = .int .i64 m ∧ wr = w) (fun _ _ _ => 0)
  case atStart => exact ⟨rfl, rfl, rfl⟩
  case round =>
    obtain ⟨rfl, rfl, rfl⟩ := hrel
    go_wp2_with fail
    go_ret
    exact ⟨rfl, rfl⟩

theorem markIntS_any (B : Nat) (u : Value) (m : Int) (zs : List Int) (w : World) (hl : zs.length ≤ 1048576) (h0 : 0 ≤ m) (h1 : m ≤ 4194304) (h : Own B w u zs) :
    Calls Try.prog 47 #[u, .int .i64 m] w fun e w' => e = .returned (.int .i64 (m + zs.length)) ∧ w.grownBy w' (rowOf u zs) ∧ w'.heap.size = w.heap.size ∧ Own B w' u (Pl.marks m zs.length) := by
  obtain ⟨ao, cap, rfl, h⟩ := h
  rcases h with h | ⟨g, off, hB, hg, rfl, hc⟩
  · obtain rfl := List.length_eq_zero_iff.1 h
    refine (markIntS_nil ao cap m w h0 h1).mono ?_
    rintro e w' ⟨rfl, rfl⟩
    exact ⟨by simp, World.grownBy.refl _ _, rfl, ao, cap, rfl, .inl rfl⟩
  · by_cases hz : zs.length = 0
    · obtain rfl := List.length_eq_zero_iff.1 hz
      refine (markIntS_nil _ cap m w h0 h1).mono ?_
      rintro e w' ⟨rfl, rfl⟩
      exact ⟨by simp, World.grownBy.refl _ _, rfl, _, cap, rfl, .inl rfl⟩
    · refine (markIntS_core g off cap B m zs w hl h0 h1 hB hg hc).mono ?_
      rintro e w' ⟨rfl, hgr, hsz, hcs⟩
      refine ⟨rfl, ?_, hsz, _, cap, by rw [Pl.marks_len], .inr ⟨g, off, hB, by omega, rfl, ?_⟩⟩
      · unfold rowOf
        rw [if_neg hz]
        exact hgr
      · intro i hi
        rw [Pl.marks_len] at hi
        rw [Pl.marks_get _ _ _ hi]
        exact hcs i hi

/-- laws.heldIntS -/
theorem heldIntS_core (b off cap n : Nat) (m : Int) (w : World) (hl : n ≤ 1048576) (h0 : 0 ≤ m) (h1 : m ≤ 4194304)
    (hc : ∀ i, i < n → w.cell? ⟨b, off + i, none⟩ = some (.int .i64 (m + i))) :
    Calls Try.prog 48 #[.slice (some ⟨b, off, none⟩) n cap, .int .i64 m] w fun e w' => e = .returned (.int .i64 (m + n)) ∧ w' = w := by
  have HC := hideP hc
  clear hc
  go_enter Try.func48, Try.ntmps48
  go_wp2_with fail
  go_loop [1, 5] (fun k i => ∃ j : Nat, j ≤ n ∧ i = .int .i64 j ∧ k = .int .i64 (m + j)) (fun _ i => n - (intOf i).toNat)
  case atStart => exact ⟨0, Nat.zero_le _, rfl, by go_num⟩
  case round =>
    obtain ⟨j, hj, rfl, rfl⟩ := hrel
    by_cases hlt : j < n
    · have hck := HC.out j hlt
      go_wp2_with fail
      go_round
      case rel => exact ⟨j + 1, by omega, by go_num, by go_num⟩
      case measure => simp [intOf]; omega
    · have jn : j = n := by omega
      subst jn
      go_wp2_with fail
      go_ret
      exact ⟨rfl, rfl⟩

theorem heldIntS_nil (ao : Option Addr) (cap : Nat) (m : Int) (w : World) (h0 : 0 ≤ m) (h1 : m ≤ 4194304) :
    Calls Try.prog 48 #[.slice ao 0 cap, .int .i64 m] w fun e w' => e = .returned (.int .i64 m) ∧ w' = w := by
  go_enter Try.func48, Try.ntmps48
  go_wp2_with fail
  go_loop [1, 5] (fun k i => i = .int .i64 0 ∧ k = .int .i64 m) (fun _ _ => 0)
  case atStart => exact ⟨rfl, rfl⟩
  case round =>
    obtain ⟨rfl, rfl⟩ := hrel
    go_wp2_with fail
    go_ret
    exact ⟨rfl, rfl⟩

theorem heldIntS_any (B : Nat) (u : Value) (m : Int) (n : Nat) (w : World) (hl : n ≤ 1048576) (h0 : 0 ≤ m) (h1 : m ≤ 4194304) (h : Rd B w u (Pl.marks m n)) :
    Calls Try.prog 48 #[u, .int .i64 m] w fun e w' => e = .returned (.int .i64 (m + n)) ∧ w' = w := by
  obtain ⟨ao, cap, rfl, h⟩ := h
  rw [Pl.marks_len] at h ⊢
  rcases h with rfl | ⟨b, off, _, rfl, hc⟩
  · refine (heldIntS_nil ao cap m w h0 h1).mono ?_
    rintro e w' ⟨rfl, rfl⟩
    exact ⟨by simp, rfl⟩
  · exact heldIntS_core b off cap n m w hl h0 h1 (fun i hi => by rw [hc i hi, Pl.marks_get _ _ _ hi])

/-- what two writes leave -/
structure Kept2 (w w' : World) (r0 r1 : Option Nat) : Prop where
  os : w'.os = w.os
  tape : w'.tape = w.tape
  output : w'.output = w.output
  size : w.heap.size ≤ w'.heap.size
  block : ∀ k, k < w.heap.size → some k ≠ r0 → some k ≠ r1 → w'.heap[k]? = w.heap[k]?

theorem Kept2.below {w w' : World} {r0 r1 : Option Nat} {B : Nat} (h : Kept2 w w' r0 r1) (hB : B ≤ w.heap.size) (h0 : ∀ k, r0 = some k → B ≤ k) (h1 : ∀ k, r1 = some k → B ≤ k) : Below B w w' :=
  ⟨h.os, h.tape, h.output, h.size, fun k hk => h.block k (by omega) (fun e => by have := h0 k e.symm; omega) (fun e => by have := h1 k e.symm; omega)⟩

/-- a slice whose block is neither of the two -/
theorem Own.kept2 {B : Nat} {w w' : World} {u : Value} {zs : List Int} {r0 r1 : Option Nat} (h : Own B w u zs) (hk : Kept2 w w' r0 r1) (h0 : ∀ k, r0 = some k → k < B) (h1 : ∀ k, r1 = some k → k < B) : Own B w' u zs := by
  obtain ⟨ao, cap, rfl, h⟩ := h
  refine ⟨ao, cap, rfl, ?_⟩
  rcases h with h | ⟨g, off, hB, hg, rfl, hc⟩
  · exact .inl h
  · have e := hk.block g hg (fun e => by have := h0 g e.symm; omega) (fun e => by have := h1 g e.symm; omega)
    exact .inr ⟨g, off, hB, Nat.lt_of_lt_of_le hg hk.size, rfl, fun i hi => ⟨(World.cell?_of_block (w := w) (a := ⟨g, off + i, none⟩) e).trans (hc i hi).1, (World.frozen?_of_block (w := w) (a := ⟨g, off + i, none⟩) e).trans (hc i hi).2⟩⟩

theorem Own.grown {B : Nat} {w w' : World} {u : Value} {zs : List Int} {r : Option Nat} (h : Own B w u zs) (hg : w.grownBy w' r) (hr : ∀ k, r = some k → rowOf u zs ≠ some k) : Own B w' u zs := by
  obtain ⟨ao, cap, rfl, h⟩ := h
  refine ⟨ao, cap, rfl, ?_⟩
  rcases h with h | ⟨g, off, hB, hlt, rfl, hc⟩
  · exact .inl h
  · by_cases hz : zs.length = 0
    · exact .inl hz
    · have hrow : rowOf (.slice (some ⟨g, off, none⟩) zs.length cap) zs = some g := by unfold rowOf; rw [if_neg hz]; rfl
      have e := hg.block g hlt (fun e => hr g e.symm hrow)
      exact .inr ⟨g, off, hB, Nat.lt_of_lt_of_le hlt hg.size, rfl, fun i hi => ⟨(World.cell?_of_block (w := w) (a := ⟨g, off + i, none⟩) e).trans (hc i hi).1, (World.frozen?_of_block (w := w) (a := ⟨g, off + i, none⟩) e).trans (hc i hi).2⟩⟩

theorem rows_apart {u0 u1 : Value} {sh da : List Int} (h : Apart u0 u1 sh da) : ∀ k, rowOf u0 sh = some k → rowOf u1 da ≠ some k := by
  intro k h0 h1
  unfold rowOf at h0 h1
  split at h0
  · cases h0
  · split at h1
    · cases h1
    · rcases h with h | h | h
      · omega
      · omega
      · exact h k h0 h1

end Go.Proofs.Ytmobjomebmipdaa
