import Derived.Test.YtbmkbplgncoapaaDoorRpFacts
import Derived.Test.YtbmkbplgncoapaaDoorCards
import Derived.Test.YtbmkbplgncoapaaDoorTie
import Derived.ChangeSame
import Derived.ChangeVars
import Derived.ChangeMaps5
import Derived.JoinedOf
import Derived.RowKit
import Derived.RowKitTokens
import Derived.Stop.Joined
import Derived.SevenTiedAt
namespace Go.Proofs.YtbmkbplgncoapaaDoor
open Go.ChangeShapes Go.WideShapes Go.ChangeAt Go.RowKit Go.Joins
set_option linter.unusedVariables false

theorem rp_of_laid {W : World} (h : laidMetH Tryd.prog Rows.fnExactReportRow.laid W) : Tab W ∧ Kw W := by
  rw [MakeChecks.laidMetH_plain _ _ _ (by kernel_rfl)] at h
  have h3 := laidMet.tail (laidMet.tail h)
  exact ⟨tabR_of h3, kw_of (laidMet.tail h3)⟩

theorem doorR_met (os : Os) (args : Array Value) : laidMetH Tryd.prog Rows.fnExactReportRow.laid ((World.doorLaid Tryd.prog 77 os).forCall (fun _ _ => 0) ⟨#[], args, []⟩).memory :=
  laidMetH_of_parts3 (fuel := 8) (laidMet_of_run' 8 (by kernel_rfl) (by kernel_rfl)) (by kernel_rfl) (by kernel_rfl)

/-- the package's words read behind the call as they did -/
theorem vars_keep {H : Type} {enc : TypeId × Value → H} {W W' : World} {gs : List (DataW H)} {q : List MemPlace} (h : DataW.TrodVars enc Tryd.prog W (fun _ => true) ["loop.example/s02135/impl.kindWords"] gs q) (hb : Below W.heap.size W W') :
    DataW.TrodVars enc Tryd.prog W' (fun b => decide (b < W.heap.size)) ["loop.example/s02135/impl.kindWords"] gs q := by
  have hlt := DataW.TrodVars.lt h
  obtain ⟨g, t, cs, fuel, d, p, rfl, hg, ht, hvar, hd, rfl⟩ := trodVars_one h
  obtain rfl := Option.some.inj (Tryd.tKw.symm.trans (by rw [← Option.some.inj (Tryd.gKw.symm.trans hg)] at ht; exact ht))
  have hv : ∃ v : Value, cs = #[v] ∧ v.cells = #[v] := by
    rcases open_strings Tryd.underlying68 Tryd.underlying9 Tryd.c9 hd with ⟨e, _⟩ | ⟨a, len, cap, ss, e, _⟩
    · exact ⟨_, Array.eq_one_of_toList e, rfl⟩
    · exact ⟨_, Array.eq_one_of_toList e, rfl⟩
  obtain ⟨v, rfl, hcells⟩ := hv
  have hT : DataW.Trod enc Tryd.prog W 0 (fun _ => true) true 68 v d p := ⟨fuel, by rw [hcells]; exact hd⟩
  obtain ⟨fuel', h'⟩ := Below.trod Tryd.laidOut (by kernel_rfl) (of_decide_eq_true (by kernel_rfl)) hT hb (fun x hx => hlt x (List.mem_append_right _ hx))
  rw [hcells] at h'
  have hg0 : g < W.heap.size := by
    have := World.block_lt_of_cell? _ _ (show W.cell? ⟨g, 0, none⟩ = some v by have := World.var?_cell hg hvar 0; simpa using this)
    simpa using this
  exact trodVars_mk1 hg ht (var?_below hb hg hg0 hvar) h'

set_option maxRecDepth 100000 in
theorem report_lifted (os : Os) (started : os.Started) (H : Type) (enc : TypeId × Value → H) :
    ReturnsInHanded {} Tryd.checked os 5 .any (fun w args => (Rows.fnExactReportSpec.pre enc Tryd.prog Tryd.f5 [] false w args ∧ laidMetH Tryd.prog Rows.fnExactReportRow.laid w) ∧ sizedMet enc Tryd.prog Tryd.f5 (OpenSpec.ofChange Rows.fnExactReportSpec) false w args)
      (Rows.fnExactReportSpec.post enc Tryd.prog Tryd.f5 false true false false) := by
  refine returnsInHanded_of_change_and (C := Tryd.checked) (X := fun w _ => laidMetH Tryd.prog Rows.fnExactReportRow.laid w) (fun _ _ _ hh h => h.of_heap hh) Tryd.own started (by kernel_rfl) Tryd.func5
    (ChangeSpec.witness_shaped (enc := enc) (C := Tryd.checked) (os := os) (X := fun w _ => laidMetH Tryd.prog Rows.fnExactReportRow.laid w) false (World.doorLaid Tryd.prog 77 os) #[.string ByteArray.empty, .slice none 0 0] 8 rfl (World.shaped_of_RefB (by kernel_rfl) (by kernel_rfl)) (by kernel_rfl) (by kernel_rfl) (by kernel_rfl) (doorR_met os _)) ?_
  intro W base args ds gs before hval0 hW _ _ hL _
  have hval : ∀ (j : Nat) t v, Tryd.f5.params[j]? = some t → args[j]? = some v → Value.okWide Tryd.prog W .any base t v := hval0
  have hW' := hW
  obtain ⟨p, q, hA0, hV0, rfl, hfz, hnd⟩ := hW
  have hA : DataW.TrodAll enc Tryd.prog W 0 (fun _ => true) true Tryd.f5.params.toList args.toList ds p := hA0
  have hV : DataW.TrodVars enc Tryd.prog W (fun _ => true) ["loop.example/s02135/impl.kindWords"] gs q := hV0
  rw [Tryd.params5] at hA hval
  obtain ⟨v0, vs0, d0, ds0, p0, q0, hargs, rfl, rfl, h0, r0⟩ := trodAll_cons hA
  obtain ⟨v1, vs1, d1, ds1, p1, q1, rfl, rfl, rfl, h1, r1⟩ := trodAll_cons r0
  obtain ⟨rfl, rfl, rfl⟩ := trodAll_nil r1
  obtain rfl : args = #[v0, v1] := by cases args; simp_all
  obtain ⟨gd, rfl⟩ : ∃ gd, gs = [gd] := by
    obtain ⟨_, _, _, _, d, _, e, _⟩ := trodVars_one hV
    exact ⟨d, e⟩
  have k0 := h0
  have k1 := h1
  have lt0 : ∀ x ∈ p0, x.block < W.heap.size := by obtain ⟨m, hm⟩ := k0; exact DataW.trod_lt m _ _ _ hm
  have lt1 : ∀ x ∈ p1, x.block < W.heap.size := by obtain ⟨m, hm⟩ := k1; exact DataW.trod_lt m _ _ _ hm
  obtain ⟨s, rfl, z⟩ : ∃ s : ByteArray, v0 = .string s ∧ s.size ≤ 9223372036854775807 := by
    obtain ⟨s, rfl, _, _, z⟩ := Go.ChangeMaps.open_string Tryd.underlying9 (hval 0 9 v0 rfl rfl) h0
    unfold maxLen at z
    exact ⟨s, rfl, by omega⟩
  obtain ⟨fs, lf, rd⟩ : ∃ fs : List Pl.Vt, fs.length ≤ 9223372036854775807 ∧ RdV W.heap.size W v1 fs := by
    obtain ⟨a0, len, cap, rfl⟩ := okWide_slice Tryd.underlying36 (hval 1 36 v1 rfl rfl)
    obtain ⟨m, hm⟩ := h1
    exact rdV_of_trod hm
  obtain ⟨hg, hk⟩ := rp_of_laid hL
  clear hA0 hval0 hV0
  refine (lawReport s v1 fs W z lf hg hk rd).mono fun e W' ⟨he, bel⟩ => ?_
  subst he
  exact ⟨_, rfl, _, _, _, [], _, _, hW', trodAll_mk1 (shut_bool Tryd.underlying4 _),
    (trodAll_cons_mk (Below.trod Tryd.laidOut (by kernel_rfl) (of_decide_eq_true (by kernel_rfl)) k0 bel lt0)
      (trodAll_cons_mk (Below.trod Tryd.laidOut (by kernel_rfl) (of_decide_eq_true (by kernel_rfl)) k1 bel lt1) trodAll_mk0)), vars_keep hV bel, bel.frame _, fun h => by cases h⟩

theorem exactReport_row : Rows.FnExactReportSaid :=
  OpenClaim.holds_of_wide 5 Tryd.f5 rfl rfl rfl rfl rfl rfl rfl ⟨rfl, rfl, rfl, rfl, rfl⟩ rfl rfl rfl rfl rfl (by kernel_rfl) Tryd.func5 (by kernel_rfl)
    (of_decide_eq_true (by kernel_rfl)) (by unfold Func.isWrapper; first | (rw [if_pos (by decide +kernel)]; kernel_rfl) | (rw [if_neg (of_decide_eq_false (by kernel_rfl))]; exact ⟨rfl, rfl⟩))
    (fun os started H enc _ => report_lifted os started H enc)

theorem exactReport_card : Rows.FnExactReportCardSaid :=
  Claim7.holds_tied_plain_at .later [] [.data, .data, .data, .data] true (true, "b28f1937a14decdcab0b96b6dbc3bda82d99ede59d44034c723c8039eb4f7b51") true
    exactReport_row (fun _ h => by cases h) (by kernel_rfl) (fun _ h => by cases h) fnExactReport_row_tie rfl ⟨rfl, rfl⟩ (by kernel_rfl) rfl
    (fun f fn hf hfn => by
      obtain rfl : f = 5 := Option.some.inj ((show Tryd.prog.funcNamed "loop.example/s02135/laws.FnExactReport" = some 5 by kernel_rfl).symm.trans hf) |>.symm
      obtain rfl : fn = Tryd.f5 := (Option.some.inj (Tryd.func5.symm.trans hfn)).symm
      exact ⟨by kernel_rfl, fun j t ht => by
        rw [Tryd.params5] at ht
        have h3 : t = 9 ∨ t = 36 := by
          rcases j with _ | _ | j
          · left; simpa using ht.symm
          · right; simpa using ht.symm
          · simp at ht
        rcases h3 with rfl | rfl
        · exact (show Tryd.prog.wantsStandIn 9 = false by kernel_rfl)
        · exact (show Tryd.prog.wantsStandIn 36 = false by kernel_rfl)⟩)
    (by kernel_rfl)
#print axioms exactReport_card

end Go.Proofs.YtbmkbplgncoapaaDoor
