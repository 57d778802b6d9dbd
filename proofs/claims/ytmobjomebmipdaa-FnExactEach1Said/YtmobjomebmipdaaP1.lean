import Derived.Test.YtmobjomebmipdaaLaw1
import Derived.Test.YtmobjomebmipdaaArgs
namespace Go.Proofs.Ytmobjomebmipdaa
open Go.ChangeShapes Go.WideShapes Go.ChangeAt Go.RowKit
set_option linter.unusedVariables false

theorem each1S_len (op : Int) (sh da : List Int) (h : sh.length ≤ 1048576) : (Pl.each1S op sh da).length ≤ 1048576 := by
  unfold Pl.each1S
  split
  · exact h
  · simp
theorem each1D_len (op : Int) (sh da : List Int) (h : da.length ≤ 1048576) : (Pl.each1D op sh da).length ≤ 1048576 := by
  unfold Pl.each1D
  split
  · simpa using h
  · simp

theorem each1_law (op : Int) (v0 v1 : Value) (sh da : List Int) (w : World) (m0 : sh.length ≤ 9223372036854775807) (m1 : da.length ≤ 9223372036854775807) (h0 : Rd w.heap.size w v0 sh) (h1 : Rd w.heap.size w v1 da) :
    Calls Try.prog 4 #[.int .i64 op, .agg #[v0, v1]] w fun e w' => e = .returned (.bool true) ∧ Below w.heap.size w w' :=
  law1 op v0 v1 sh da (Pl.each1C op sh da) (Pl.each1S op sh da) (Pl.each1D op sh da) w m0 m1 h0 h1 (each1S_len op sh da) (each1D_len op sh da)
    (fun x0 x1 w' l0 l1 r0 r1 => spec1_face op x0 x1 sh da w' l0 l1 r0 r1) (fun x0 x1 w' l0 l1 r0 r1 => each1_face op x0 x1 sh da w' l0 l1 r0 r1)

set_option maxRecDepth 100000 in
theorem each1_lifted (os : Os) (started : os.Started) (H : Type) (enc : TypeId × Value → H) :
    ReturnsInHanded {} Try.checked os 4 .any (Rows.fnExactEach1Spec.pre6 enc Try.prog Try.f4 Rows.fnExactEach1Row.domain false) (Rows.fnExactEach1Spec.post enc Try.prog Try.f4 false true false false) := by
  refine returnsInHanded_of_change (C := Try.checked) Try.own started (by kernel_rfl) Try.func4
    (ChangeSpec.witness6 (enc := enc) (C := Try.checked) false ⟨#[], #[.int .i64 0, .agg #[.slice none 0 0, .slice none 0 0]], []⟩ 8 (by kernel_rfl) (by kernel_rfl) (by kernel_rfl) (by kernel_rfl)) ?_
  intro W base args ds gs before hval0 hW hcnd _
  have hval : ∀ (j : Nat) t v, Try.f4.params[j]? = some t → args[j]? = some v → Value.okWide Try.prog W .any base t v := hval0
  have hW' := hW
  obtain ⟨p, q, hA0, hV, rfl, hfz, hnd⟩ := hW
  have hA : DataW.TrodAll enc Try.prog W 0 (fun _ => true) true Try.f4.params.toList args.toList ds p := hA0
  rw [Try.params4] at hA hval
  obtain ⟨v0, vs0, d0, ds0, p0, q0, hargs, rfl, rfl, h0, r0⟩ := trodAll_cons hA
  obtain ⟨v1, vs1, d1, ds1, p1, q1, rfl, rfl, rfl, h1, r1⟩ := trodAll_cons r0
  obtain ⟨rfl, rfl, rfl⟩ := trodAll_nil r1
  obtain rfl : args = #[v0, v1] := by cases args; simp_all
  obtain ⟨rfl, rfl⟩ := trodVars_none hV
  obtain ⟨op, rfl, rfl, rfl, w0⟩ := open_int Try.underlying3 (hval 0 3 v0 rfl rfl) h0
  have k1 := h1
  have lt1 : ∀ x ∈ p1, x.block < W.heap.size := by obtain ⟨m, hm⟩ := k1; exact DataW.trod_lt m _ _ _ hm
  obtain ⟨u0, u1, sh, da, rfl, l0, l1, rd0, rd1⟩ := arr_open (hval 1 24 v1 rfl rfl) h1
  clear hA0 hval0
  refine (each1_law op u0 u1 sh da W l0 l1 rd0 rd1).mono fun e W' ⟨he, bel⟩ => ?_
  subst he
  exact ⟨_, rfl, _, _, _, [], _, [], hW', trodAll_mk1 (shut_bool Try.underlying4 _), (trodAll_cons_mk (shut_int Try.underlying3 w0) (trodAll_cons_mk (Below.trod Try.laidOut (by kernel_rfl) (of_decide_eq_true (by kernel_rfl)) k1 bel lt1) trodAll_mk0)), rfl, bel.frame _, fun h => by cases h⟩

theorem exactEach1_holds : Rows.FnExactEach1Said :=
  OpenClaim.holds_of_wide 4 Try.f4 rfl rfl rfl rfl rfl rfl rfl ⟨rfl, rfl, rfl, rfl, rfl⟩ rfl rfl rfl rfl rfl (by kernel_rfl) Try.func4 (by kernel_rfl)
    (of_decide_eq_true (by kernel_rfl)) (by unfold Func.isWrapper; first | (rw [if_pos (by decide +kernel)]; kernel_rfl) | (rw [if_neg (by decide +kernel)]; exact ⟨rfl, rfl⟩))
    (fun os started H enc _ => each1_lifted os started H enc)
#print axioms exactEach1_holds

end Go.Proofs.Ytmobjomebmipdaa
