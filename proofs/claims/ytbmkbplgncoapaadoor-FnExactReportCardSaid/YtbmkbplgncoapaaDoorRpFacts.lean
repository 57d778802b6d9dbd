import Derived.Test.YtbmkbplgncoapaaDoorLr
import Derived.Test.YtbmkbplgncoapaaDoorArgs
import Derived.Test.YtbmkbplgncoapaaDoorRows
import Derived.LaidLaws
import Derived.LaidMore
import Derived.Lib.LaidTab
import Derived.Stop.LaidErr
import Derived.SliceStrings
import Derived.Deep.SlicePairs
namespace Go.Proofs.YtbmkbplgncoapaaDoor
open Go.ChangeShapes Go.WideShapes Go.ChangeAt Go.RowKit Go.Joins
set_option linter.unusedVariables false

theorem Tryd.gPow : Tryd.prog.globalNamed "internal/strconv.uint64pow10" = some 4 := by kernel_rfl
theorem Tryd.tPow : (Tryd.prog.globals[4]?).map (·.type) = some 167 := by kernel_rfl
theorem Tryd.uPow : Tryd.prog.underlying 167 = some (.array 20 151) := by kernel_rfl
theorem Tryd.uU64 : Tryd.prog.underlying 151 = some (.int .u64) := by kernel_rfl
theorem Tryd.c151 : Tryd.prog.cellsOf 151 = 1 := by kernel_rfl
theorem Tryd.c167 : Tryd.prog.cellsOf 167 = 20 := by kernel_rfl
theorem Tryd.c9 : Tryd.prog.cellsOf 9 = 1 := by kernel_rfl
theorem Tryd.cells81 : Tryd.prog.cellsOf 81 = 2 := by kernel_rfl
theorem Tryd.gKw : Tryd.prog.globalNamed "loop.example/s02135/impl.kindWords" = some 0 := by kernel_rfl
theorem Tryd.tKw : (Tryd.prog.globals[0]?).map (·.type) = some 68 := by kernel_rfl

theorem tabR_of {W : World} {r : List (String × DataW Unit)} (h : laidMet Tryd.prog (("internal/strconv.uint64pow10", Rows.laid_internal_strconv_uint64pow10) :: r) W) : Tab W :=
  Lib.tabIs_of_head (zs := Lib.pow10Tab) Tryd.gPow Tryd.tPow Tryd.uPow Tryd.uU64 Tryd.c151 Tryd.c167 h

/-- the package's words, as they are laid -/
theorem kw_of {W : World} {r : List (String × DataW Unit)} (h : laidMet Tryd.prog (("loop.example/s02135/impl.kindWords", Rows.laid_loop_example_s02135_impl_kindWords) :: r) W) : Kw W := by
  obtain ⟨ps, ⟨g, t, cs, fuel, p, q, hg, ht, hvar, hd, _, _⟩, _⟩ := h
  obtain rfl := Option.some.inj (Tryd.gKw.symm.trans hg)
  obtain rfl := Option.some.inj (Tryd.tKw.symm.trans ht)
  rcases open_strings Tryd.underlying68 Tryd.underlying9 Tryd.c9 hd with ⟨_, hx⟩ | ⟨a, len, cap, ss, hcs, _, hl, hm, hz, hx, hcell, _⟩
  · have := congrArg Prod.fst hx
    simp [Rows.laid_loop_example_s02135_impl_kindWords] at this
  · have e1 := congrArg Prod.fst hx
    simp only [Rows.laid_loop_example_s02135_impl_kindWords, DataW.slice.injEq] at e1
    obtain ⟨e2, e3⟩ := e1
    have hd0 : ss.drop len = [] := by
      have := congrArg List.length e3
      simp [strs] at this
      exact List.drop_eq_nil_of_le (by omega)
    have hlen : (ss.take len).length = 6 := by
      have := congrArg List.length e2
      simp only [strs, List.length_map, List.length_cons, List.length_nil] at this
      omega
    have hsl : ss.length = len := by
      have h1 := congrArg List.length hd0
      simp at h1
      split at hz <;> omega
    have htk : ss.take len = ss := List.take_of_length_le (by omega)
    rw [htk] at e2 hlen
    have hss : ss = kwd := by
      have h6 : ss.map (fun s => s.data.toList) = kwd.map (fun s => s.data.toList) := by
        have h7 : (strs ss : List (DataW Unit)).map (fun d => match d with | .lit (.string l) => l | _ => []) = ss.map (fun s => s.data.toList) := by simp [strs]
        rw [← h7, ← e2]
        rfl
      have inj : ∀ a b : List ByteArray, a.map (fun s => s.data.toList) = b.map (fun s => s.data.toList) → a = b := by
        intro a
        induction a with
        | nil => intro b h; cases b with
          | nil => rfl
          | cons y b => simp at h
        | cons x a ih =>
          intro b h
          cases b with
          | nil => simp at h
          | cons y b =>
            simp only [List.map_cons, List.cons.injEq] at h
            rw [ih b h.2]
            congr 1
            apply ByteArray.ext
            exact Array.toList_inj.1 h.1
      exact inj _ _ h6
    have hcell0 : W.cell? ⟨0, 0, none⟩ = some (.slice (some a) len cap) := by
      have := World.var?_cell hg hvar 0
      rw [Array.eq_one_of_toList hcs] at this
      simpa using this
    obtain ⟨b, off, spot⟩ := a
    have hc0 := hcell 0 (by omega)
    have hspot : spot = none := by simpa [Addr.add] using World.cell?_spot hc0
    subst hspot
    have hlt := World.block_lt_of_cell? _ _ hc0
    have h00 := World.block_lt_of_cell? _ _ hcell0
    rw [← hsl, hlen] at hcell0
    refine ⟨b, off, cap, hcell0, by simpa using h00, by simpa [Addr.add] using hlt, fun j x hx => ?_⟩
    rw [← hss] at hx
    have hj := (List.getElem?_eq_some_iff.1 hx).1
    have := hcell j hj
    rw [Addr.add_lit] at this
    rw [this]
    simp [List.getD, hx]

/-- a slice of verdicts that came in -/
theorem rdV_of_trod {H : Type} {enc : TypeId × Value → H} {W : World} {n : Nat} {v : Value} {y : DataW H × List MemPlace} (h : DataW.trod enc Tryd.prog W 0 (fun _ => true) true n 36 [v] = some y) :
    ∃ fs : List Pl.Vt, fs.length ≤ 9223372036854775807 ∧ RdV W.heap.size W v fs := by
  rcases Go.Deep.open_slice_pairs Tryd.underlying36 Tryd.underlying81 Tryd.cells81 rfl rfl Tryd.cells3 Tryd.cells3 h with ⟨hcs, _⟩ | ⟨a, len, cap, m, n', V0, V1, D0, D1, P0, P1, hcs, _, hl, hm, hmm, _, hx⟩
  · simp at hcs
    subst hcs
    exact ⟨[], by simp, none, 0, rfl, .inl rfl⟩
  · simp at hcs
    subst hcs
    simp only [if_true] at hmm
    unfold maxLen at hm
    have each : ∀ i, ∃ f : Pl.Vt, i < len → W.cell? (a.add (i * 2)) = some (.int .i64 f.1) ∧ W.cell? (a.add (i * 2 + 1)) = some (.int .i64 f.2) := by
      intro i
      by_cases hi : i < len
      · obtain ⟨c0, c1, t0, t1⟩ := hx i (by omega)
        obtain ⟨s0, e0, _, _⟩ := DataW.trod_int Tryd.underlying3 t0
        obtain ⟨s1, e1, _, _⟩ := DataW.trod_int Tryd.underlying3 t1
        simp at e0 e1
        exact ⟨(s0, s1), fun _ => ⟨by rw [c0, e0], by rw [c1, e1]⟩⟩
      · exact ⟨Pl.none2, fun h => absurd h hi⟩
    obtain ⟨f, hf⟩ : ∃ f : Nat → Pl.Vt, ∀ i, i < len → W.cell? (a.add (i * 2)) = some (.int .i64 (f i).1) ∧ W.cell? (a.add (i * 2 + 1)) = some (.int .i64 (f i).2) := ⟨fun i => (each i).choose, fun i => (each i).choose_spec⟩
    have hlen : ((List.range len).map f).length = len := by simp
    have hat : ∀ i, i < len → Pl.at2 ((List.range len).map f) i = f i := by
      intro i hi
      simp [Pl.at2, List.getD, hi]
    refine ⟨(List.range len).map f, by rw [hlen]; omega, some a, cap, by rw [hlen], ?_⟩
    rw [hlen]
    by_cases h0 : len = 0
    · exact .inl h0
    · obtain ⟨b, off, spot⟩ := a
      have hc := (hf 0 (by omega)).1
      have hspot : spot = none := by simpa [Addr.add] using World.cell?_spot hc
      subst hspot
      refine .inr ⟨b, off, ?_, rfl, fun i hi => ?_⟩
      · have := World.block_lt_of_cell? _ _ hc
        simpa [Addr.add] using this
      · have := hf i hi
        rw [hat i hi]
        have e0 := this.1
        have e1 := this.2
        rw [Addr.add_lit] at e0 e1
        exact ⟨e0, e1⟩

end Go.Proofs.YtbmkbplgncoapaaDoor
