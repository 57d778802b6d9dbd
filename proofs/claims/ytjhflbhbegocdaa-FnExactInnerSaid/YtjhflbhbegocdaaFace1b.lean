import Derived.Test.YtjhflbhbegocdaaEach
import Derived.Deep.RegionHeld3
import Derived.Deep.RegionHeld2
namespace Go.Proofs.Ytjhflbhbegocdaa
open Go.RowKit
set_option linter.unusedVariables false

theorem Rd.parts {B : Nat} {w : World} {v : Value} {zs : List Int} (h : Rd B w v zs) : ∃ (ao : Option Addr) (cap b off : Nat), v = .slice ao zs.length cap ∧ (0 < zs.length → ao = some ⟨b, off, none⟩) ∧ (0 < zs.length → b < B) ∧
    ∀ i, i < zs.length → w.cell? ⟨b, off + i, none⟩ = some (.int .i64 (zs.getD i 0)) := by
  obtain ⟨ao, cap, rfl, h⟩ := h
  rcases h with h | ⟨b, off, hB, rfl, hc⟩
  · exact ⟨ao, cap, 0, 0, rfl, fun h' => absurd h' (by omega), fun h' => absurd h' (by omega), fun i hi => absurd hi (by omega)⟩
  · exact ⟨_, cap, b, off, rfl, fun _ => rfl, fun _ => hB, hc⟩

namespace Pl
def notM (x : Int) : Int × Int := if x = 0 ∨ x = 1 then (1 - x, 0) else (0, 1)
def signM (x : Int) : Int × Int := (if x < 0 then -1 else if 0 < x then 1 else 0, 0)
def oneM (op : Int) (x : Int) : Int × Int := if op = 1 then (-x, 0) else if op = 2 then (max x (-x), 0) else if op = 3 then signM x else notM x
end Pl

end Go.Proofs.Ytjhflbhbegocdaa

namespace Go.Proofs.Ytjhflbhbegocdaa
open Go.RowKit
set_option linter.unusedVariables false

/-- needValid of one array that was just laid -/
theorem valid_new (v0 v1 : Value) (sh da : List Int) (w : World) (hl0 : sh.length ≤ 1048576) (hl1 : da.length ≤ 1048576) (h0 : Rd w.heap.size w v0 sh) (h1 : Rd w.heap.size w v1 da) (t : TypeId) :
    Calls Try.prog 27 #[.slice (some ⟨w.heap.size, 0, none⟩) 1 1] (w.alloc (.cells #[v0, v1] t)) fun e w' => Below w.heap.size w w' ∧ ((Pl.okB sh da = true ∧ e = .returned (.tuple #[])) ∨ (Pl.okB sh da = false ∧ e = .panicked [thrown 9])) := by
  have A : Below w.heap.size w (w.alloc (.cells #[v0, v1] t)) := (Below.refl _ _).alloc (Nat.le_refl _) _
  refine (needValid1 w.heap.size v0 v1 sh da (w.alloc (.cells #[v0, v1] t)) hl0 hl1 (by simp) (by simp [go_sem]) (by simp [go_sem]) ((h0.keep A).up (by simp)) ((h1.keep A).up (by simp))).mono ?_
  rintro e w' ⟨hb, hor⟩
  exact ⟨A.trans (hb.mono (by simp)), hor⟩

/-- the same, behind the variable of the result -/
theorem valid_new' (v0 v1 : Value) (sh da : List Int) (w : World) (hl0 : sh.length ≤ 1048576) (hl1 : da.length ≤ 1048576) (h0 : Rd w.heap.size w v0 sh) (h1 : Rd w.heap.size w v1 da) (o : Obj) (t : TypeId) :
    Calls Try.prog 27 #[.slice (some ⟨w.heap.size + 1, 0, none⟩) 1 1] ((w.alloc o).alloc (.cells #[v0, v1] t)) fun e w' => Below (w.heap.size + 1) (w.alloc o) w' ∧ ((Pl.okB sh da = true ∧ e = .returned (.tuple #[])) ∨ (Pl.okB sh da = false ∧ e = .panicked [thrown 9])) := by
  have A : Below w.heap.size w (w.alloc o) := (Below.refl _ _).alloc (Nat.le_refl _) _
  have := valid_new v0 v1 sh da (w.alloc o) hl0 hl1 ((h0.keep A).up (by simp)) ((h1.keep A).up (by simp)) t
  rw [show (w.alloc o).heap.size = w.heap.size + 1 from by simp] at this
  exact this

end Go.Proofs.Ytjhflbhbegocdaa

namespace Go.Proofs.Ytjhflbhbegocdaa
open Go.RowKit
set_option linter.unusedVariables false

namespace Pl
def each1C (op : Int) (sh da : List Int) : Int := if okB sh da = true ∧ 1 ≤ op ∧ op < 5 then firstC (oneM op) da else 9
def each1S (op : Int) (sh da : List Int) : List Int := if each1C op sh da = 0 then sh else []
def each1D (op : Int) (sh da : List Int) : List Int := if each1C op sh da = 0 then da.map (fun x => (oneM op x).1) else []

theorem ok_cell {sh da : List Int} (h : okB sh da = true) {x : Int} (hx : x ∈ da) : -3000000000 ≤ x ∧ x ≤ 3000000000 := by
  simp only [okB, Bool.and_eq_true, List.all_eq_true] at h
  have := h.2 x hx
  simpa [valB] using this
end Pl

end Go.Proofs.Ytjhflbhbegocdaa

