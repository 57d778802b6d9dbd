import Derived.Test.YtfangdhbadmolaaGreatDoorMk
import Derived.Test.YtfangdhbadmolaaGreatDoorEq
import Derived.Test.YtfangdhbadmolaaGreatDoorPlD
namespace Go.Proofs.YtfangdhbadmolaaGreatDoor
open Go.RowKit
set_option linter.unusedVariables false

theorem cell_blk {w : World} {P j : Nat} {c : Array Value} {t : TypeId} (h : w.heap[P]? = some (.cells c t (0, 0))) : w.cell? ⟨P, j, none⟩ = c[j]? := cell_of_row w P j c t (0, 0) h
theorem frozen_blk {w : World} {P j : Nat} {c : Array Value} {t : TypeId} (h : w.heap[P]? = some (.cells c t (0, 0))) : w.frozen? ⟨P, j, none⟩ = false := frozen_of_row w P j c t h
theorem grown_setCell (w : World) (P j : Nat) (v : Value) : w.grownBy (w.setCell ⟨P, j, none⟩ v) (some P) :=
  ⟨rfl, rfl, rfl, by simp, fun k _ hk => heap_setCell_other w ⟨P, j, none⟩ k v (fun e => hk (by simp [e]))⟩
theorem grown_drew {w w' : World} {r : Option Nat} (h : w.drew.grownBy w' r) : w.grownBy w' r := ⟨h.os, h.tape, h.output, h.size, h.block⟩
/-- a row of files is no block of another type -/
theorem own_ne {w : World} {B n sz P : Nat} {v : Value} {e t : TypeId} {xs : List Value} {c : Array Value} (h : w.ownsRow B e sz v n xs) (hP : w.heap[P]? = some (.cells c t (0, 0))) (ht : ¬ t = e) : ¬ v.ownBlock = some P := by
  intro hv
  rcases h.2 with ⟨rfl, _⟩ | ⟨g, cap, cur, rfl, _, hg, _⟩
  · simp [Value.ownBlock] at hv
  · simp [Value.ownBlock] at hv
    subst hv
    rw [hg] at hP
    injection hP with hP
    injection hP with _ h2
    exact ht h2.symm

/-- a disk under way: its variable at P, its files in a row of its own from E on -/
structure Bld (W : World) (E P : Nat) (ls : List Pl.Fl) (nv : Value) (w : World) : Prop where
  lo : Below E W w
  le : E ≤ P
  box : w.heap[P]? = some (.cells #[nv] 31 (0, 0))
  own : OwnF E w nv ls

theorem Bld.start (W : World) (E : Nat) (hE : W.heap.size = E) : Bld W E (E + 1) [] (.slice (some ⟨E, 0, none⟩) 0 0) ((W.alloc (.cells #[] 59)).alloc (.cells #[.slice (some ⟨E, 0, none⟩) 0 0] 31)) := by
  subst hE
  refine ⟨((Below.refl _ _).alloc (Nat.le_refl _) _).alloc (by simp) _, Nat.le_succ _, ?_, ?_⟩
  · have := heap_alloc_new (W.alloc (.cells #[] 59)) (.cells #[.slice (some ⟨W.heap.size, 0, none⟩) 0 0] 31)
    simpa using this
  · exact (owns_empty W W.heap.size (Nat.le_refl _)).alloc _

theorem heap_drewN (w : World) (n : Nat) : (w.drewN n).heap = w.heap := by
  induction n generalizing w with
  | zero => rfl
  | succ n ih => exact ih _

theorem Bld.drewN {W w : World} {E P : Nat} {ls : List Pl.Fl} {nv : Value} (h : Bld W E P ls nv w) (n : Nat) : Bld W E P ls nv (w.drewN n) := by
  refine ⟨below_drewN h.lo n, h.le, ?_, owns_keep h.own (below_drewN (Below.refl _ _) n)⟩
  rw [heap_drewN]
  exact h.box

theorem Bld.lt {W w : World} {E P : Nat} {ls : List Pl.Fl} {nv : Value} (h : Bld W E P ls nv w) : P < w.heap.size := (Array.getElem?_eq_some_iff.1 h.box).1

/-- the disk that is built, out.Files grown -/
theorem Bld.step {W wr w' : World} {E P : Nat} {o : Obj} {nv v' : Value} {ls zs : List Pl.Fl} (h : Bld W E P ls nv wr) (hg : (wr.alloc o).grownBy w' nv.ownBlock) (ho' : OwnF E w' v' zs) :
    w'.heap[P]? = some (.cells #[nv] 31 (0, 0)) ∧ Bld W E P zs v' (w'.setCell ⟨P, 0, none⟩ v') := by
  have hlt := h.lt
  have hE' : E ≤ wr.heap.size := by have := h.le; omega
  have h1 : w'.heap[P]? = some (.cells #[nv] 31 (0, 0)) := by
    rw [hg.block P (by simp; omega) (fun e => own_ne h.own h.box (by decide) e.symm)]
    rw [Below.heap_alloc wr _ P hlt]
    exact h.box
  have h2 := heap_setCell_same w' P 0 #[nv] 31 v' h1
  refine ⟨h1, ?_, h.le, h2, ?_⟩
  · refine Below.setCell ?_ h.le _
    exact (h.lo.alloc hE' _).grown hg (by simp; omega) (fun k hk => (h.own.lt k hk).1)
  · exact ho'.kept (grown_setCell w' P 0 v') (.inr (own_ne ho' h1 (by decide)))

namespace Pl
theorem without_yes (fs : List Fl) (nm : ByteArray) (k : Nat) (h : k < fs.length) (ht : (at' fs k).1 = nm) : withoutF (fs.take (k + 1)) nm = withoutF (fs.take k) nm := by
  rw [take_snoc fs k h]; generalize at' fs k = f at *; simp [withoutF, List.filter_append, ht]
theorem without_no (fs : List Fl) (nm : ByteArray) (k : Nat) (h : k < fs.length) (ht : ¬ (at' fs k).1 = nm) : withoutF (fs.take (k + 1)) nm = withoutF (fs.take k) nm ++ [at' fs k] := by
  rw [take_snoc fs k h]; generalize at' fs k = f at *; simp [withoutF, List.filter_append, ht]
theorem without_len (fs : List Fl) (nm : ByteArray) (k : Nat) : (withoutF (fs.take k) nm).length ≤ k := by
  have h1 := List.length_filter_le (fun f : Fl => !decide (f.1 = nm)) (fs.take k)
  have h2 := List.length_take_le k fs
  unfold withoutF; omega
/-- the files behind a name -/
def behF (fs : List Fl) (nm : ByteArray) : List Fl := fs.filter (fun g => !(lt g.1 nm || decide (g.1 = nm)))
theorem beh_no (fs : List Fl) (nm : ByteArray) (k : Nat) (h : k < fs.length) (ht : (lt (at' fs k).1 nm || decide ((at' fs k).1 = nm)) = true) : behF (fs.take (k + 1)) nm = behF (fs.take k) nm := by
  rw [take_snoc fs k h]; generalize at' fs k = f at *
  unfold behF
  rw [List.filter_append, List.filter_cons, ht]; simp
theorem beh_yes (fs : List Fl) (nm : ByteArray) (k : Nat) (h : k < fs.length) (ht : (lt (at' fs k).1 nm || decide ((at' fs k).1 = nm)) = false) : behF (fs.take (k + 1)) nm = behF (fs.take k) nm ++ [at' fs k] := by
  rw [take_snoc fs k h]; generalize at' fs k = f at *
  unfold behF
  rw [List.filter_append, List.filter_cons, ht]; simp
theorem beh_len (fs : List Fl) (nm : ByteArray) (k : Nat) : (behF (fs.take k) nm).length ≤ k := by
  have h1 := List.length_filter_le (fun g : Fl => !(lt g.1 nm || decide (g.1 = nm))) (fs.take k)
  have h2 := List.length_take_le k fs
  unfold behF; omega
theorem tw_take (fs : List Fl) (p : Fl → Bool) (k : Nat) (hk : k ≤ fs.length) (h : ∀ i, i < k → p (at' fs i) = true) (he : k = fs.length ∨ p (at' fs k) = false) : fs.takeWhile p = fs.take k := by
  induction fs generalizing k with
  | nil => simp
  | cons g r ih =>
    cases k with
    | zero =>
      rcases he with he | he
      · simp at he
      · have : p g = false := by simpa [at'] using he
        simp [this]
    | succ k =>
      have h0 : p g = true := by simpa [at'] using h 0 (by omega)
      rw [List.takeWhile_cons, h0, if_pos rfl, List.take_succ_cons]
      congr 1
      refine ih k (by simpa using hk) (fun i hi => by simpa [at'] using h (i + 1) (by omega)) ?_
      rcases he with he | he
      · exact .inl (by simpa using he)
      · exact .inr (by simpa [at'] using he)
theorem withF_at (fs : List Fl) (f : Fl) (k : Nat) (hk : k ≤ fs.length) (h : ∀ i, i < k → lt (at' fs i).1 f.1 = true) (he : k = fs.length ∨ lt (at' fs k).1 f.1 = false) : withF fs f = fs.take k ++ [f] ++ behF fs f.1 := by
  unfold withF behF
  rw [tw_take fs (fun g => lt g.1 f.1) k hk h he]; simp
end Pl

end Go.Proofs.YtfangdhbadmolaaGreatDoor
