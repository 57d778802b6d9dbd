import Derived.Test.YtbmkbplgncoapaaDoorR7
import Derived.Test.YtbmkbplgncoapaaDoorArgs
import Derived.Test.YtbmkbplgncoapaaDoorRows
import Derived.LaidLaws
import Derived.LaidMore
import Derived.Lib.LaidTab
import Derived.Stop.LaidErr
import Derived.HandedShaped
import Derived.Shelf.Vars
import Derived.SliceStrings
import Derived.ChangeVars
namespace Go.Proofs.YtbmkbplgncoapaaDoor
open Go.ChangeShapes Go.WideShapes Go.ChangeAt Go.RowKit Go.Joins
set_option linter.unusedVariables false

theorem Tryd.gKw : Tryd.prog.globalNamed "loop.example/s02135/impl.kindWords" = some 0 := by kernel_rfl
theorem Tryd.tKw : (Tryd.prog.globals[0]?).map (·.type) = some 68 := by kernel_rfl
theorem Tryd.gPow : Tryd.prog.globalNamed "internal/strconv.uint64pow10" = some 4 := by kernel_rfl
theorem Tryd.tPow : (Tryd.prog.globals[4]?).map (·.type) = some 167 := by kernel_rfl
theorem Tryd.uPow : Tryd.prog.underlying 167 = some (.array 20 151) := by kernel_rfl
theorem Tryd.uU64 : Tryd.prog.underlying 151 = some (.int .u64) := by kernel_rfl
theorem Tryd.c151 : Tryd.prog.cellsOf 151 = 1 := by kernel_rfl
theorem Tryd.c167 : Tryd.prog.cellsOf 167 = 20 := by kernel_rfl
theorem Tryd.tSyn : (Tryd.prog.globals[2]?).map (·.type) = some 120 := by kernel_rfl
theorem Tryd.tRan : (Tryd.prog.globals[3]?).map (·.type) = some 120 := by kernel_rfl
theorem Tryd.c173 : Tryd.prog.cellsOf 173 = 1 := by kernel_rfl
theorem Tryd.c9 : Tryd.prog.cellsOf 9 = 1 := by kernel_rfl
theorem Tryd.star : "*" ++ "errors.errorString" = "*errors.errorString" := by decide
theorem Tryd.row171 (u : TypeId) (h : Tryd.prog.typeName? 3 u = some "*errors.errorString") : u = 171 :=
  typeName_ptr_named (nm := "errors.errorString") (by rw [Tryd.star]; kernel_rfl) (by kernel_rfl) (by decide) u (by rw [Tryd.star]; exact h)

/-- the number of the library's that nothing is said of -/
theorem maxlen_of {W : World} (h : W.ShapedOpen Tryd.prog) : ∃ m, W.cell? ⟨1, 0, none⟩ = some (.int .i64 m) :=
  cell_of_shapedOpen_int (g := 1) (t := 3) (zero := #[.int .i64 0]) h (of_decide_eq_true (by kernel_rfl)) (by kernel_rfl) rfl (by kernel_rfl) (by kernel_rfl) Tryd.underlying3

theorem errs_of {W : World} {r : List (String × DataW Unit)} (h : laidMet Tryd.prog (("strconv.ErrRange", Rows.laid_strconv_ErrRange) :: ("strconv.ErrSyntax", Rows.laid_strconv_ErrSyntax) :: r) W) :
    (∃ tp p, W.var? Tryd.prog "strconv.ErrSyntax" = some #[.iface tp p]) ∧ (∃ tp p, W.var? Tryd.prog "strconv.ErrRange" = some #[.iface tp p]) := by
  obtain ⟨a0, s0, hv0, -, -, -⟩ := laid_sentinel h Tryd.gRan Tryd.tRan Tryd.underlying120 Tryd.row171 Tryd.underlying171 Tryd.underlying173 rfl rfl Tryd.underlying9 Tryd.c173 Tryd.c9
  obtain ⟨a1, s1, hv1, -, -, -⟩ := laid_sentinel (laidMet.tail h) Tryd.gSyn Tryd.tSyn Tryd.underlying120 Tryd.row171 Tryd.underlying171 Tryd.underlying173 rfl rfl Tryd.underlying9 Tryd.c173 Tryd.c9
  exact ⟨⟨_, _, hv1⟩, ⟨_, _, hv0⟩⟩

theorem tab_of {W : World} {r : List (String × DataW Unit)} (h : laidMet Tryd.prog (("internal/strconv.uint64pow10", Rows.laid_internal_strconv_uint64pow10) :: r) W) : Tab W :=
  Lib.tabIs_of_head (zs := Lib.pow10Tab) Tryd.gPow Tryd.tPow Tryd.uPow Tryd.uU64 Tryd.c151 Tryd.c167 h

/-- a world in which all is laid: what the door leaves, and Go's own table -/
noncomputable def laidWorld (os : Os) : World :=
  let w0 := World.doorLaid Tryd.prog 77 os
  { w0 with heap := w0.heap.modify 5 fun
      | .cells _ t frozen => .cells (Pinned.utf8FirstZ.map fun z : Nat => Value.int .u8 (z : Int)).toArray t frozen
      | o => o }

/-- the builder, the world's shape and what is laid both kept -/
theorem returns_both {H : Type} {enc : TypeId × Value → H} {a : Assume} {C : Checked} {os : Os} {f : FuncId} {fn : Func} {s : ChangeSpec} {conds : List PathCond} {apart fresh handsOn again : Bool} {X : World → Array Value → Prop}
    (hX : ∀ (w w' : World) (args : Array Value), w.heap = w'.heap → X w args → X w' args)
    (own : ownKnob C.prog.godebug = none) (started : os.Started) (noInit : C.prog.inits.idxOf? f = none) (hfn : C.prog.funcs[f]? = some fn)
    (witness : ∃ (w : World) (tape : Tape) (i : Input), w.os = os ∧ (w.forCall tape i).Shaped C.prog ∧ i.vars = [] ∧ Input.okWide C.prog (w.forCall tape i) .any w.heap.size f i ∧
      ((s.pre enc C.prog fn conds apart (w.forCall tape i).memory i.args ∧ X (w.forCall tape i).memory i.args) ∧ sizedMet enc C.prog fn (OpenSpec.ofChange s) apart (w.forCall tape i).memory i.args) ∧ a.holds C.prog (lone (Frame.enter C.prog f i.args .normal) [] (w.forCall tape i)))
    (contract : ∀ (W : World) (base : Nat) (args : Array Value) (ds gs : List (DataW H)) (before : List MemPlace),
      (∀ (j : Nat) t v, fn.params[j]? = some t → args[j]? = some v → Value.okWide C.prog W .any base t v) →
      DataW.Whole enc C.prog fn.params.toList s.vars apart W args.toList ds gs before → X W args → W.ShapedOpen C.prog →
      Calls C.prog f args W fun e W' => ∃ v, e = .returned v ∧ s.post enc C.prog fn apart fresh handsOn again W args v W') :
    ReturnsInHanded a C os f .any (fun w args => (s.pre enc C.prog fn conds apart w args ∧ X w args) ∧ sizedMet enc C.prog fn (OpenSpec.ofChange s) apart w args) (s.post enc C.prog fn apart fresh handsOn again) := by
  refine returnsInHanded_of_calls own started noInit witness fun w tape i _ hsh _ hok hpre _ => ?_
  obtain ⟨_, _, _, fn', hfn', _, _, _, _, hval⟩ := hok
  obtain rfl : fn' = fn := Option.some.inj (hfn'.symm.trans hfn)
  obtain ⟨⟨⟨ds, gs, before, hw, _⟩, hx⟩, _⟩ := hpre
  refine (contract (w.forCall tape i) w.heap.size i.args ds gs before hval (DataW.Whole.of_heap (w' := w.forCall tape i) (by rfl) hw) (hX _ _ _ (by rfl) hx) hsh).mono fun e W' hp => ?_
  obtain ⟨v, rfl, hp⟩ := hp
  exact ChangeSpec.post_blind hp

/-- the package's words, as they are laid -/
theorem kw_of {W : World} {r : List (String × DataW Unit)} (h : laidMet Tryd.prog (("loop.example/s02135/impl.kindWords", Rows.laid_loop_example_s02135_impl_kindWords) :: r) W) : Kw W := by
  obtain ⟨ps, ⟨g, t, cs, fuel, p, q, hg, ht, hvar, hd, _, _⟩, _⟩ := h
  obtain rfl := Option.some.inj (Tryd.gKw.symm.trans hg)
  obtain rfl := Option.some.inj (Tryd.tKw.symm.trans ht)
  rcases open_strings Tryd.underlying68 Tryd.underlying9 Tryd.c9 hd with ⟨_, hx⟩ | ⟨a, len, cap, ss, hcs, _, hl, hm, hz, hx, hcell, _⟩
  · have := congrArg Prod.fst hx
    simp [Rows.laid_loop_example_s02135_impl_kindWords] at this
  · have e1 := congrArg Prod.fst hx
    simp only [Rows.laid_loop_example_s02135_impl_kindWords, DataW.slice.injEq] at e1
    obtain ⟨e2, e3⟩ := e1
    have hd0 : ss.drop len = [] := by
      have := congrArg List.length e3
      simp [strs] at this
      exact List.drop_eq_nil_of_le (by omega)
    have hlen : (ss.take len).length = 6 := by
      have := congrArg List.length e2
      simp only [strs, List.length_map, List.length_cons, List.length_nil] at this
      omega
    have hsl : ss.length = len := by
      have h1 := congrArg List.length hd0
      simp at h1
      split at hz <;> omega
    have htk : ss.take len = ss := List.take_of_length_le (by omega)
    rw [htk] at e2 hlen
    have hss : ss = kwd := by
      have h6 : ss.map (fun s => s.data.toList) = kwd.map (fun s => s.data.toList) := by
        have h7 : (strs ss : List (DataW Unit)).map (fun d => match d with | .lit (.string l) => l | _ => []) = ss.map (fun s => s.data.toList) := by simp [strs]
        rw [← h7, ← e2]
        rfl
      have inj : ∀ a b : List ByteArray, a.map (fun s => s.data.toList) = b.map (fun s => s.data.toList) → a = b := by
        intro a
        induction a with
        | nil => intro b h; cases b with
          | nil => rfl
          | cons y b => simp at h
        | cons x a ih =>
          intro b h
          cases b with
          | nil => simp at h
          | cons y b =>
            simp only [List.map_cons, List.cons.injEq] at h
            rw [ih b h.2]
            congr 1
            apply ByteArray.ext
            exact Array.toList_inj.1 h.1
      exact inj _ _ h6
    have hcell0 : W.cell? ⟨0, 0, none⟩ = some (.slice (some a) len cap) := by
      have := World.var?_cell hg hvar 0
      rw [Array.eq_one_of_toList hcs] at this
      simpa using this
    obtain ⟨b, off, spot⟩ := a
    have hc0 := hcell 0 (by omega)
    have hspot : spot = none := by simpa [Addr.add] using World.cell?_spot hc0
    subst hspot
    have hlt := World.block_lt_of_cell? _ _ hc0
    have h00 := World.block_lt_of_cell? _ _ hcell0
    rw [← hsl, hlen] at hcell0
    refine ⟨b, off, cap, hcell0, by simpa using h00, by simpa [Addr.add] using hlt, fun j x hx => ?_⟩
    rw [← hss] at hx
    have hj := (List.getElem?_eq_some_iff.1 hx).1
    have := hcell j hj
    rw [Addr.add_lit] at this
    rw [this]
    simp [List.getD, hx]

/-- the package's words read behind the call as they did -/
theorem vars_keep {H : Type} {enc : TypeId × Value → H} {W W' : World} {gs : List (DataW H)} {q : List MemPlace} (h : DataW.TrodVars enc Tryd.prog W (fun _ => true) ["loop.example/s02135/impl.kindWords"] gs q) (hb : Below W.heap.size W W') :
    DataW.TrodVars enc Tryd.prog W' (fun b => decide (b < W.heap.size)) ["loop.example/s02135/impl.kindWords"] gs q := by
  have hlt := DataW.TrodVars.lt h
  obtain ⟨g, t, cs, fuel, d, p, rfl, hg, ht, hvar, hd, rfl⟩ := trodVars_one h
  obtain rfl := Option.some.inj (Tryd.tKw.symm.trans (by rw [← Option.some.inj (Tryd.gKw.symm.trans hg)] at ht; exact ht))
  have hv : ∃ v : Value, cs = #[v] ∧ v.cells = #[v] := by
    rcases open_strings Tryd.underlying68 Tryd.underlying9 Tryd.c9 hd with ⟨e, _⟩ | ⟨a, len, cap, ss, e, _⟩
    · exact ⟨_, Array.eq_one_of_toList e, rfl⟩
    · exact ⟨_, Array.eq_one_of_toList e, rfl⟩
  obtain ⟨v, rfl, hcells⟩ := hv
  have hT : DataW.Trod enc Tryd.prog W 0 (fun _ => true) true 68 v d p := ⟨fuel, by rw [hcells]; exact hd⟩
  obtain ⟨fuel', h'⟩ := Below.trod Tryd.laidOut (by kernel_rfl) (of_decide_eq_true (by kernel_rfl)) hT hb (fun x hx => hlt x (List.mem_append_right _ hx))
  rw [hcells] at h'
  have hg0 : g < W.heap.size := by
    have := World.block_lt_of_cell? _ _ (show W.cell? ⟨g, 0, none⟩ = some v by have := World.var?_cell hg hvar 0; simpa using this)
    simpa using this
  exact trodVars_mk1 hg ht (var?_below hb hg hg0 hvar) h'

end Go.Proofs.YtbmkbplgncoapaaDoor
