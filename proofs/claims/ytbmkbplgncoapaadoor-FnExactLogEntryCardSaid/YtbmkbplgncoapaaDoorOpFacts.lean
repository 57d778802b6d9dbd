import Derived.Test.YtbmkbplgncoapaaDoorO1
import Derived.Test.YtbmkbplgncoapaaDoorArgs
import Derived.Test.YtbmkbplgncoapaaDoorNt
import Derived.Test.YtbmkbplgncoapaaDoorRows
import Derived.LaidLaws
import Derived.LaidMore
import Derived.Lib.LaidTab
import Derived.Stop.LaidErr
import Derived.Deep.SlicePairs
namespace Go.Proofs.YtbmkbplgncoapaaDoor
open Go.ChangeShapes Go.WideShapes Go.ChangeAt Go.RowKit Go.Joins
set_option linter.unusedVariables false

theorem Tryd.gPowO : Tryd.prog.globalNamed "internal/strconv.uint64pow10" = some 4 := by kernel_rfl
theorem Tryd.tPowO : (Tryd.prog.globals[4]?).map (·.type) = some 167 := by kernel_rfl
theorem Tryd.uPowO : Tryd.prog.underlying 167 = some (.array 20 151) := by kernel_rfl
theorem Tryd.uU64O : Tryd.prog.underlying 151 = some (.int .u64) := by kernel_rfl
theorem Tryd.c151O : Tryd.prog.cellsOf 151 = 1 := by kernel_rfl
theorem Tryd.c167O : Tryd.prog.cellsOf 167 = 20 := by kernel_rfl
theorem tabO_of {W : World} {r : List (String × DataW Unit)} (h : laidMet Tryd.prog (("internal/strconv.uint64pow10", Rows.laid_internal_strconv_uint64pow10) :: r) W) : Tab W :=
  Lib.tabIs_of_head (zs := Lib.pow10Tab) Tryd.gPowO Tryd.tPowO Tryd.uPowO Tryd.uU64O Tryd.c151O Tryd.c167O h
theorem Tryd.cells96 : Tryd.prog.cellsOf 96 = 6 := by kernel_rfl
theorem Tryd.cells22 : Tryd.prog.cellsOf 22 = 1 := by kernel_rfl

set_option maxRecDepth 100000 in
/-- an array within a struct that came in -/
theorem arrc_of_trod {H : Type} {enc : TypeId × Value → H} {W : World} {n : Nat} {c0 c1 : Value} {y : DataW H × List MemPlace} (h : DataW.trod enc Tryd.prog W 0 (fun _ => true) true n 24 [c0, c1] = some y) :
    ∃ sh da : List Int, (sh.length ≤ 9223372036854775807 ∧ da.length ≤ 9223372036854775807) ∧ Rd W.heap.size W c0 sh ∧ Rd W.heap.size W c1 da := by
  obtain ⟨y0, y1, m, _, _, h0, h1⟩ := trod_struct2 Tryd.underlying24 h
  simp [Tryd.cells22] at h0 h1
  obtain ⟨sh, l0, r0⟩ := rd_of_trod h0
  obtain ⟨da, l1, r1⟩ := rd_of_trod h1
  exact ⟨sh, da, ⟨l0, l1⟩, r0, r1⟩

set_option maxRecDepth 100000 in
/-- one outcome that came in -/
theorem ot_of_trod {H : Type} {enc : TypeId × Value → H} {W : World} {n : Nat} {cs : List Value} {y : DataW H × List MemPlace} (h : DataW.trod enc Tryd.prog W 0 (fun _ => true) true n 96 cs = some y) :
    ∃ (o : Pl.Ot) (v0 v1 : Value), cs = [.int .i64 o.k, .int .i64 o.c, v0, v1, .int .i64 o.fu, .int .i64 o.ce] ∧ (o.sh.length ≤ 9223372036854775807 ∧ o.da.length ≤ 9223372036854775807) ∧ Rd W.heap.size W v0 o.sh ∧ Rd W.heap.size W v1 o.da := by
  obtain ⟨xs, m, _, _, hl, hlen, hf⟩ := DataW.trod_struct Tryd.underlying96 h
  rw [Tryd.cells96] at hl
  match cs, hl with
  | [c0, c1, c2, c3, c4, c5], _ =>
    have h0 := hf 0 _ rfl
    have h1 := hf 1 _ rfl
    have h2 := hf 2 _ rfl
    have h3 := hf 3 _ rfl
    have h4 := hf 4 _ rfl
    simp [Tryd.cells3, Tryd.cells24] at h0 h1 h2 h3 h4
    match xs, hlen with
    | [y0, y1, y2, y3, y4], _ =>
      simp at h0 h1 h2 h3 h4
      obtain ⟨k, e0, _, _⟩ := DataW.trod_int Tryd.underlying3 h0
      obtain ⟨c, e1, _, _⟩ := DataW.trod_int Tryd.underlying3 h1
      obtain ⟨fu, e3, _, _⟩ := DataW.trod_int Tryd.underlying3 h3
      obtain ⟨ce, e4, _, _⟩ := DataW.trod_int Tryd.underlying3 h4
      obtain ⟨sh, da, l, r0, r1⟩ := arrc_of_trod h2
      simp at e0 e1 e3 e4
      exact ⟨⟨k, c, sh, da, fu, ce⟩, c2, c3, by rw [e0, e1, e3, e4], l, r0, r1⟩

/-- the outcomes that came in -/
theorem rdO_of_trod {H : Type} {enc : TypeId × Value → H} {W : World} {n : Nat} {v : Value} {y : DataW H × List MemPlace} (h : DataW.trod enc Tryd.prog W 0 (fun _ => true) true n 46 [v] = some y) :
    ∃ os : List Pl.Ot, os.length ≤ 9223372036854775807 ∧ (∀ o ∈ os, o.sh.length ≤ 9223372036854775807 ∧ o.da.length ≤ 9223372036854775807) ∧ RdO W.heap.size W v os := by
  rcases Go.Deep.open_slice Tryd.underlying46 h with ⟨hcs, _⟩ | ⟨a, len, cap, m, n', D, P, hcs, _, hl, hm, hmm, _, hx⟩
  · simp at hcs
    subst hcs
    exact ⟨[], by simp, by simp, none, 0, rfl, .inl rfl⟩
  · simp at hcs
    subst hcs
    simp only [if_true] at hmm
    unfold maxLen at hm
    have each : ∀ i, ∃ (q : Pl.Ot × Value × Value), i < len → (W.cell? (a.add (i * 6)) = some (.int .i64 q.1.k) ∧ W.cell? (a.add (i * 6 + 1)) = some (.int .i64 q.1.c) ∧ W.cell? (a.add (i * 6 + 2)) = some q.2.1 ∧ W.cell? (a.add (i * 6 + 3)) = some q.2.2 ∧ W.cell? (a.add (i * 6 + 4)) = some (.int .i64 q.1.fu) ∧ W.cell? (a.add (i * 6 + 5)) = some (.int .i64 q.1.ce)) ∧ (q.1.sh.length ≤ 9223372036854775807 ∧ q.1.da.length ≤ 9223372036854775807) ∧ Rd W.heap.size W q.2.1 q.1.sh ∧ Rd W.heap.size W q.2.2 q.1.da := by
      intro i
      by_cases hi : i < len
      · obtain ⟨cs', h1, h2⟩ := hx i (by omega)
        obtain ⟨o, v0, v1, rfl, z⟩ := ot_of_trod h2
        rw [Tryd.cells96] at h1
        obtain ⟨_, hlen, hcell⟩ := World.cells?_some h1
        have e0 := hcell 0 (by omega)
        have e1 := hcell 1 (by omega)
        have e2 := hcell 2 (by omega)
        have e3 := hcell 3 (by omega)
        have e4 := hcell 4 (by omega)
        have e5 := hcell 5 (by omega)
        rw [Go.Deep.add_add] at e0 e1 e2 e3 e4 e5
        exact ⟨(o, v0, v1), fun _ => ⟨⟨by simpa using e0, by simpa using e1, by simpa using e2, by simpa using e3, by simpa using e4, by simpa using e5⟩, z⟩⟩
      · exact ⟨(⟨0, 0, [], [], 0, 0⟩, .int .i64 0, .int .i64 0), fun h => absurd h hi⟩
    obtain ⟨f, hf⟩ : ∃ f : Nat → Pl.Ot × Value × Value, ∀ i, i < len → (W.cell? (a.add (i * 6)) = some (.int .i64 (f i).1.k) ∧ W.cell? (a.add (i * 6 + 1)) = some (.int .i64 (f i).1.c) ∧ W.cell? (a.add (i * 6 + 2)) = some (f i).2.1 ∧ W.cell? (a.add (i * 6 + 3)) = some (f i).2.2 ∧ W.cell? (a.add (i * 6 + 4)) = some (.int .i64 (f i).1.fu) ∧ W.cell? (a.add (i * 6 + 5)) = some (.int .i64 (f i).1.ce)) ∧ ((f i).1.sh.length ≤ 9223372036854775807 ∧ (f i).1.da.length ≤ 9223372036854775807) ∧ Rd W.heap.size W (f i).2.1 (f i).1.sh ∧ Rd W.heap.size W (f i).2.2 (f i).1.da := ⟨fun i => (each i).choose, fun i => (each i).choose_spec⟩
    have hlen : ((List.range len).map fun i => (f i).1).length = len := by simp
    have hat : ∀ (i : Nat) (o : Pl.Ot), ((List.range len).map fun i => (f i).1)[i]? = some o → i < len ∧ o = (f i).1 := by
      intro i o ho
      rw [List.getElem?_map] at ho
      by_cases hi : i < len
      · rw [List.getElem?_range hi] at ho
        simp at ho
        exact ⟨hi, ho.symm⟩
      · rw [List.getElem?_eq_none (by simp; omega)] at ho
        cases ho
    refine ⟨(List.range len).map fun i => (f i).1, by rw [hlen]; omega, ?_, some a, cap, by rw [hlen], ?_⟩
    · intro g hg
      obtain ⟨i, hi, rfl⟩ := List.mem_map.1 hg
      exact (hf i (List.mem_range.1 hi)).2.1
    · rw [hlen]
      by_cases h0 : len = 0
      · exact .inl h0
      · obtain ⟨b, off, spot⟩ := a
        have hc := (hf 0 (by omega)).1.1
        have hspot : spot = none := by simpa [Addr.add] using World.cell?_spot hc
        subst hspot
        refine .inr ⟨b, off, ?_, rfl, fun i o ho => ?_⟩
        · have := World.block_lt_of_cell? _ _ hc
          simpa [Addr.add] using this
        · obtain ⟨hi, rfl⟩ := hat i o ho
          obtain ⟨⟨e0, e1, e2, e3, e4, e5⟩, _, r0, r1⟩ := hf i hi
          rw [Addr.add_lit] at e0 e1 e2 e3 e4 e5
          exact ⟨_, _, e0, e1, e2, e3, e4, e5, r0, r1⟩

end Go.Proofs.YtbmkbplgncoapaaDoor
