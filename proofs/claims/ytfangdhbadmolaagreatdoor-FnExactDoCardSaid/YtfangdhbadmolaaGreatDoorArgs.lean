import Derived.Test.YtfangdhbadmolaaGreatDoorFiles
import Derived.ProofKit
import Derived.OpenShut
import Derived.ChangeOld
import Derived.Below
import Derived.Lib.SmallJoins
import Derived.Deep.SlicePairs
namespace Go.Proofs.YtfangdhbadmolaaGreatDoor
open Go.ChangeShapes Go.WideShapes Go.ChangeAt Go.RowKit Go.Joins
set_option linter.unusedVariables false

theorem Tryz.own : ownKnob Tryz.prog.godebug = none := by kernel_rfl
theorem Tryz.laidOut : laidOutB Tryz.prog = true := by kernel_rfl
theorem Tryz.cells24 : Tryz.prog.cellsOf 24 = 1 := by kernel_rfl
theorem Tryz.cells22 : Tryz.prog.cellsOf 22 = 1 := by kernel_rfl
theorem Tryz.cells58 : Tryz.prog.cellsOf 58 = 2 := by kernel_rfl
theorem Tryz.cells9 : Tryz.prog.cellsOf 9 = 1 := by kernel_rfl

/-- a slice of files that came in reads as files -/
theorem rdF_of_trod {H : Type} {enc : TypeId × Value → H} {W : World} {n : Nat} {v : Value} {y : DataW H × List MemPlace} (h : DataW.trod enc Tryz.prog W 0 (fun _ => true) true n 22 [v] = some y) :
    ∃ fs : List Pl.Fl, fs.length ≤ 9223372036854775807 ∧ (∀ f ∈ fs, f.1.size ≤ 9223372036854775807 ∧ f.2.size ≤ 9223372036854775807) ∧ RdF W.heap.size W v fs := by
  rcases Go.Deep.open_slice_pairs Tryz.underlying22 Tryz.underlying58 Tryz.cells58 rfl rfl Tryz.cells9 Tryz.cells9 h with ⟨hcs, _⟩ | ⟨a, len, cap, m, n', V0, V1, D0, D1, P0, P1, hcs, _, hl, hm, hmm, _, hx⟩
  · simp at hcs
    subst hcs
    exact ⟨[], by simp, by simp, none, 0, rfl, .inl rfl⟩
  · simp at hcs
    subst hcs
    simp only [if_true] at hmm
    unfold maxLen at hm
    have each : ∀ i, ∃ f : Pl.Fl, i < len → W.cell? (a.add (i * 2)) = some (.string f.1) ∧ W.cell? (a.add (i * 2 + 1)) = some (.string f.2) ∧ f.1.size ≤ 9223372036854775807 ∧ f.2.size ≤ 9223372036854775807 := by
      intro i
      by_cases hi : i < len
      · obtain ⟨c0, c1, t0, t1⟩ := hx i (by omega)
        obtain ⟨s0, e0, _, z0⟩ := DataW.trod_string Tryz.underlying9 t0
        obtain ⟨s1, e1, _, z1⟩ := DataW.trod_string Tryz.underlying9 t1
        simp at e0 e1
        unfold maxLen at z0 z1
        exact ⟨(s0, s1), fun _ => ⟨by rw [c0, e0], by rw [c1, e1], by omega, by omega⟩⟩
      · exact ⟨Pl.none2, fun h => absurd h hi⟩
    obtain ⟨f, hf⟩ : ∃ f : Nat → Pl.Fl, ∀ i, i < len → W.cell? (a.add (i * 2)) = some (.string (f i).1) ∧ W.cell? (a.add (i * 2 + 1)) = some (.string (f i).2) ∧ (f i).1.size ≤ 9223372036854775807 ∧ (f i).2.size ≤ 9223372036854775807 := ⟨fun i => Classical.choose (each i), fun i => Classical.choose_spec (each i)⟩
    have hlen : ((List.range len).map f).length = len := by simp
    have hat : ∀ i, i < len → Pl.at' ((List.range len).map f) i = f i := by
      intro i hi
      simp [Pl.at', List.getD, hi]
    refine ⟨(List.range len).map f, by rw [hlen]; omega, ?_, some a, cap, by rw [hlen], ?_⟩
    · intro g hg
      obtain ⟨i, hi, rfl⟩ := List.mem_map.1 hg
      have := hf i (List.mem_range.1 hi)
      exact ⟨this.2.2.1, this.2.2.2⟩
    · rw [hlen]
      by_cases h0 : len = 0
      · exact .inl h0
      · obtain ⟨b, off, spot⟩ := a
        have hc := (hf 0 (by omega)).1
        have hspot : spot = none := by simpa [Addr.add] using World.cell?_spot hc
        subst hspot
        refine .inr ⟨b, off, ?_, rfl, fun i hi => ?_⟩
        · have := World.block_lt_of_cell? _ _ hc
          simpa [Addr.add] using this
        · have := hf i hi
          rw [hat i hi]
          have e0 := this.1
          have e1 := this.2.1
          rw [Addr.add_lit] at e0 e1
          exact ⟨e0, e1⟩

set_option maxRecDepth 100000 in
/-- a disk that came in -/
theorem disk_open {H : Type} {enc : TypeId × Value → H} {W : World} {base : Nat} {v : Value} {d : DataW H} {p : List MemPlace} (hv : Value.okWide Tryz.prog W .any base 24 v) (h : DataW.Trod enc Tryz.prog W 0 (fun _ => true) true 24 v d p) :
    ∃ (u : Value) (fs : List Pl.Fl), v = .agg #[u] ∧ fs.length ≤ 9223372036854775807 ∧ (∀ f ∈ fs, f.1.size ≤ 9223372036854775807 ∧ f.2.size ≤ 9223372036854775807) ∧ RdF W.heap.size W u fs := by
  obtain ⟨cs, rfl, hsz⟩ := okWide_struct Tryz.underlying24 hv
  have hs1 : cs.size = 1 := hsz.trans Tryz.cells24
  obtain ⟨c0, rfl⟩ : ∃ c0, cs = #[c0] := by
    obtain ⟨l⟩ := cs
    match l, hs1 with
    | [c0], _ => exact ⟨c0, rfl⟩
  obtain ⟨fuel, hf⟩ := h
  obtain ⟨y0, n, _, _, h0⟩ := trod_struct1 Tryz.underlying24 hf
  have h0' : DataW.trod enc Tryz.prog W 0 (fun _ => true) true n 22 [c0] = some y0 := by
    have e := Tryz.cells22
    simpa [Value.cells, e] using h0
  obtain ⟨fs, l0, z0, r0⟩ := rdF_of_trod h0'
  exact ⟨c0, fs, rfl, l0, z0, r0⟩

end Go.Proofs.YtfangdhbadmolaaGreatDoor
