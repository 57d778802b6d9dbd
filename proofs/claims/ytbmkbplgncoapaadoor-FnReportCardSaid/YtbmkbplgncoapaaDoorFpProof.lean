import Derived.Test.YtbmkbplgncoapaaDoorF5
import Derived.Test.YtbmkbplgncoapaaDoorRrFacts
import Derived.Test.YtbmkbplgncoapaaDoorCards
import Derived.Test.YtbmkbplgncoapaaDoorTie
import Derived.ChangeSame
import Derived.ChangeVars
import Derived.ChangeMaps5
import Derived.JoinedOf
import Derived.RowKit
import Derived.RowKitTokens
import Derived.Stop.Joined
import Derived.SevenTiedAt
namespace Go.Proofs.YtbmkbplgncoapaaDoor
open Go.ChangeShapes Go.WideShapes Go.ChangeAt Go.RowKit Go.Joins
set_option linter.unusedVariables false

theorem ev_of_laid {W : World} (h : laidMetH Tryd.prog Rows.fnReportRow.laid W) (hs : W.ShapedOpen Tryd.prog) : Ev W ∧ Kw W := by
  rw [MakeChecks.laidMetH_plain _ _ _ (by kernel_rfl)] at h
  have h3 := laidMet.tail (laidMet.tail h)
  obtain ⟨e1, e2⟩ := errs_of (laidMet.tail (laidMet.tail h3))
  refine ⟨⟨tab_of h3, maxlen_of hs, e1, e2, ?_⟩, kw_of (laidMet.tail (laidMet.tail (laidMet.tail (laidMet.tail h3))))⟩
  have := (tab_of h3).cell Tryd.gPow 0 (by decide)
  have := World.block_lt_of_cell? _ _ this
  simp at this
  omega

/-- bytes that came in -/
theorem rdB_of_trod {H : Type} {enc : TypeId × Value → H} {W : World} {n : Nat} {v : Value} {y : DataW H × List MemPlace} (h : DataW.trod enc Tryd.prog W 0 (fun _ => true) true n 58 [v] = some y) :
    ∃ (ao : Option Addr) (n cap : Nat), v = .slice ao n cap ∧ n ≤ cap ∧ cap ≤ 9223372036854775807 ∧ RdB W.heap.size W ao n := by
  rcases open_ints Tryd.underlying58 Tryd.underlying5 Tryd.cells5 h with ⟨hcs, _⟩ | ⟨x, l, c, zs, hcs, _, hl, hm, hz, _, hcell, hwf⟩
  · simp at hcs
    subst hcs
    exact ⟨none, 0, 0, rfl, Nat.le_refl _, by omega, .inl rfl⟩
  · simp at hcs
    subst hcs
    simp at hz
    unfold maxLen at hm
    refine ⟨some x, l, c, rfl, hl, by omega, ?_⟩
    by_cases h0 : l = 0
    · exact .inl h0
    · obtain ⟨b, off, spot⟩ := x
      have hc := hcell 0 (by omega)
      have hspot : spot = none := by simpa [Addr.add] using World.cell?_spot hc
      subst hspot
      refine .inr ⟨b, off, ?_, rfl, fun i hi => ?_⟩
      · have := World.block_lt_of_cell? _ _ hc
        simpa [Addr.add] using this
      · have h1 := hcell i (by omega)
        rw [Addr.add_lit] at h1
        have h2 := hwf (zs.getD i 0) (by
          have hlt : i < zs.length := by omega
          simp [List.getD, List.getElem?_eq_getElem hlt])
        obtain ⟨h3, h4⟩ : 0 ≤ zs.getD i 0 ∧ zs.getD i 0 ≤ 255 := by
          unfold Lit.wf at h2
          rw [Bool.and_eq_true] at h2
          exact ⟨of_decide_eq_true h2.1, of_decide_eq_true h2.2⟩
        refine ⟨(zs.getD i 0).toNat, by omega, ?_⟩
        rw [h1, Int.toNat_of_nonneg h3]

theorem laidWorld_met (os : Os) (args : Array Value) : laidMetH Tryd.prog Rows.fnReportRow.laid ((laidWorld os).forCall (fun _ _ => 0) ⟨#[], args, []⟩).memory :=
  laidMetH_of_parts3 (fuel := 8) (laidMet_of_run' 8 (by kernel_rfl) (by kernel_rfl)) (by kernel_rfl) (by kernel_rfl)

set_option maxRecDepth 100000 in
theorem fn_lifted (os : Os) (started : os.Started) (H : Type) (enc : TypeId × Value → H) :
    ReturnsInHanded {} Tryd.checked os 9 .any (fun w args => (Rows.fnReportSpec.pre enc Tryd.prog Tryd.f9 [] false w args ∧ laidMetH Tryd.prog Rows.fnReportRow.laid w) ∧ sizedMet enc Tryd.prog Tryd.f9 (OpenSpec.ofChange Rows.fnReportSpec) false w args)
      (Rows.fnReportSpec.post enc Tryd.prog Tryd.f9 false true false false) := by
  refine returns_both (C := Tryd.checked) (X := fun w _ => laidMetH Tryd.prog Rows.fnReportRow.laid w) (fun _ _ _ hh h => h.of_heap hh) Tryd.own started (by kernel_rfl) Tryd.func9
    (ChangeSpec.witness_shaped (enc := enc) (C := Tryd.checked) (os := os) (X := fun w _ => laidMetH Tryd.prog Rows.fnReportRow.laid w) false (laidWorld os) #[.slice none 0 0] 8 rfl (World.shaped_of_RefB (by kernel_rfl) (by kernel_rfl)) (by kernel_rfl) (by kernel_rfl) (by kernel_rfl) (laidWorld_met os _)) ?_
  intro W base args ds gs before hval0 hW hL hsh
  have hval : ∀ (j : Nat) t v, Tryd.f9.params[j]? = some t → args[j]? = some v → Value.okWide Tryd.prog W .any base t v := hval0
  have hW' := hW
  obtain ⟨p, q, hA0, hV0, rfl, hfz, hnd⟩ := hW
  have hA : DataW.TrodAll enc Tryd.prog W 0 (fun _ => true) true Tryd.f9.params.toList args.toList ds p := hA0
  have hV : DataW.TrodVars enc Tryd.prog W (fun _ => true) ["loop.example/s02135/impl.kindWords"] gs q := hV0
  rw [Tryd.params9] at hA hval
  obtain ⟨v0, vs0, d0, ds0, p0, q0, hargs, rfl, rfl, h0, r0⟩ := trodAll_cons hA
  obtain ⟨rfl, rfl, rfl⟩ := trodAll_nil r0
  obtain rfl : args = #[v0] := by cases args; simp_all
  obtain ⟨gd, rfl⟩ : ∃ gd, gs = [gd] := by
    obtain ⟨_, _, _, _, d, _, e, _⟩ := trodVars_one hV
    exact ⟨d, e⟩
  have k0 := h0
  have lt0 : ∀ x ∈ p0, x.block < W.heap.size := by obtain ⟨m, hm⟩ := k0; exact DataW.trod_lt m _ _ _ hm
  obtain ⟨ao, n, cap, rfl, hc1, hc2, rd⟩ : ∃ (ao : Option Addr) (n cap : Nat), v0 = .slice ao n cap ∧ n ≤ cap ∧ cap ≤ 9223372036854775807 ∧ RdB W.heap.size W ao n := by
    obtain ⟨a0, len, cap, rfl⟩ := okWide_slice Tryd.underlying58 (hval 0 58 v0 rfl rfl)
    obtain ⟨m, hm⟩ := h0
    obtain ⟨ao, n, cap', e, r⟩ := rdB_of_trod hm
    exact ⟨ao, n, cap', e, r⟩
  obtain ⟨hg, hk⟩ := ev_of_laid hL hsh
  clear hA0 hval0 hV0
  refine (lawFn ao n cap W hc1 hc2 hg.tab hg hk rd).mono fun e W' ⟨he, bel⟩ => ?_
  subst he
  exact ⟨_, rfl, _, _, _, [], _, _, hW', trodAll_mk1 (shut_bool Tryd.underlying4 _),
    (trodAll_cons_mk (Below.trod Tryd.laidOut (by kernel_rfl) (of_decide_eq_true (by kernel_rfl)) k0 bel lt0) trodAll_mk0), vars_keep hV bel, bel.frame _, fun h => by cases h⟩

theorem report_row : Rows.FnReportSaid :=
  OpenClaim.holds_of_wide 9 Tryd.f9 rfl rfl rfl rfl rfl rfl rfl ⟨rfl, rfl, rfl, rfl, rfl⟩ rfl rfl rfl rfl rfl (by kernel_rfl) Tryd.func9 (by kernel_rfl)
    (of_decide_eq_true (by kernel_rfl)) (by unfold Func.isWrapper; first | (rw [if_pos (by decide +kernel)]; kernel_rfl) | (rw [if_neg (of_decide_eq_false (by kernel_rfl))]; exact ⟨rfl, rfl⟩))
    (fun os started H enc _ => fn_lifted os started H enc)

theorem report_card : Rows.FnReportCardSaid :=
  Claim7.holds_tied_plain_at .later [] [.data, .data, .data, .data, .sentinel, .sentinel, .data, .pinned] true (true, "b28f1937a14decdcab0b96b6dbc3bda82d99ede59d44034c723c8039eb4f7b51") true
    report_row (fun _ h => by cases h) (by kernel_rfl) (fun _ h => by cases h) fnReport_row_tie rfl ⟨rfl, rfl⟩ (by kernel_rfl) rfl
    (fun f fn hf hfn => by
      obtain rfl : f = 9 := Option.some.inj ((show Tryd.prog.funcNamed "loop.example/s02135/laws.FnReport" = some 9 by kernel_rfl).symm.trans hf) |>.symm
      obtain rfl : fn = Tryd.f9 := (Option.some.inj (Tryd.func9.symm.trans hfn)).symm
      exact ⟨by kernel_rfl, fun j t ht => by
        rw [Tryd.params9] at ht
        have h3 : t = 58 := by
          rcases j with _ | j
          · simpa using ht.symm
          · simp at ht
        rw [h3]
        exact (show Tryd.prog.wantsStandIn 58 = false by kernel_rfl)⟩)
    (by kernel_rfl)
#print axioms report_card

end Go.Proofs.YtbmkbplgncoapaaDoor
