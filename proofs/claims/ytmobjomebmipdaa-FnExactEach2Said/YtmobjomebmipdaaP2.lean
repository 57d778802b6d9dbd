import Derived.Test.YtmobjomebmipdaaLaw2
import Derived.Test.YtmobjomebmipdaaFace2
import Derived.Test.YtmobjomebmipdaaArgs
namespace Go.Proofs.Ytmobjomebmipdaa
open Go.ChangeShapes Go.WideShapes Go.ChangeAt Go.RowKit
set_option linter.unusedVariables false

theorem eachM_len (F : Int → Int → Int × Int) (sa xs sb ys : List Int) (h0 : sa.length ≤ 1048576) (h1 : xs.length ≤ 1048576) : (Pl.eachM F sa xs sb ys).2.1.length ≤ 1048576 ∧ (Pl.eachM F sa xs sb ys).2.2.length ≤ 1048576 := by
  unfold Pl.eachM
  split
  · simp
  · split
    · simp
    · split
      · refine ⟨h0, ?_⟩
        simp
        omega
      · simp
theorem each2_len (F : Int → Int → Int × Int) (op : Int) (sa da sb db : List Int) (h : sa.length ≤ 1048576 ∧ da.length ≤ 1048576 ∧ sb.length ≤ 1048576 ∧ db.length ≤ 1048576) :
    (Pl.dyM (Pl.each2M F) op sa da sb db).2.1.length ≤ 1048576 ∧ (Pl.dyM (Pl.each2M F) op sa da sb db).2.2.length ≤ 1048576 := by
  unfold Pl.dyM
  split
  · rename_i hok
    unfold Pl.each2M
    split
    · exact eachM_len F sb _ sb db h.2.2.1 (by rw [Pl.rep_len hok.2.2.2]; exact h.2.2.2)
    · split
      · exact eachM_len F sa da sa _ h.1 h.2.1
      · exact eachM_len F sa da sb db h.1 h.2.1
  · simp

theorem each2_law (op : Int) (v0 v1 v2 v3 : Value) (sa da sb db : List Int) (w : World) (m0 : sa.length ≤ 9223372036854775807) (m1 : da.length ≤ 9223372036854775807) (m2 : sb.length ≤ 9223372036854775807) (m3 : db.length ≤ 9223372036854775807) (h0 : Rd w.heap.size w v0 sa) (h1 : Rd w.heap.size w v1 da) (h2 : Rd w.heap.size w v2 sb) (h3 : Rd w.heap.size w v3 db) :
    Calls Try.prog 5 #[.int .i64 op, .agg #[v0, v1], .agg #[v2, v3]] w fun e w' => e = .returned (.bool true) ∧ Below w.heap.size w w' :=
  law2 op v0 v1 v2 v3 sa da sb db (Pl.dyM (Pl.each2M (Pl.twoM op)) op sa da sb db).1 (Pl.dyM (Pl.each2M (Pl.twoM op)) op sa da sb db).2.1 (Pl.dyM (Pl.each2M (Pl.twoM op)) op sa da sb db).2.2 w m0 m1 m2 m3 h0 h1 h2 h3 (each2_len _ op sa da sb db)
    (fun x0 x1 x2 x3 w' l r0 r1 r2 r3 => spec2_face op x0 x1 x2 x3 sa da sb db w' l.1 l.2.1 l.2.2.1 l.2.2.2 r0 r1 r2 r3 _ _ _ rfl)
    (fun x0 x1 x2 x3 w' l r0 r1 r2 r3 => each2_face op x0 x1 x2 x3 sa da sb db w' l.1 l.2.1 l.2.2.1 l.2.2.2 r0 r1 r2 r3 _ _ _ rfl)

set_option maxRecDepth 100000 in
theorem each2_lifted (os : Os) (started : os.Started) (H : Type) (enc : TypeId × Value → H) :
    ReturnsInHanded {} Try.checked os 5 .any (Rows.fnExactEach2Spec.pre6 enc Try.prog Try.f5 Rows.fnExactEach2Row.domain false) (Rows.fnExactEach2Spec.post enc Try.prog Try.f5 false true false false) := by
  refine returnsInHanded_of_change (C := Try.checked) Try.own started (by kernel_rfl) Try.func5
    (ChangeSpec.witness6 (enc := enc) (C := Try.checked) false ⟨#[], #[.int .i64 0, .agg #[.slice none 0 0, .slice none 0 0], .agg #[.slice none 0 0, .slice none 0 0]], []⟩ 8 (by kernel_rfl) (by kernel_rfl) (by kernel_rfl) (by kernel_rfl)) ?_
  intro W base args ds gs before hval0 hW hcnd _
  have hval : ∀ (j : Nat) t v, Try.f5.params[j]? = some t → args[j]? = some v → Value.okWide Try.prog W .any base t v := hval0
  have hW' := hW
  obtain ⟨p, q, hA0, hV, rfl, hfz, hnd⟩ := hW
  have hA : DataW.TrodAll enc Try.prog W 0 (fun _ => true) true Try.f5.params.toList args.toList ds p := hA0
  rw [Try.params5] at hA hval
  obtain ⟨v0, vs0, d0, ds0, p0, q0, hargs, rfl, rfl, h0, r0⟩ := trodAll_cons hA
  obtain ⟨v1, vs1, d1, ds1, p1, q1, rfl, rfl, rfl, h1, r1⟩ := trodAll_cons r0
  obtain ⟨v2, vs2, d2, ds2, p2, q2, rfl, rfl, rfl, h2, r2⟩ := trodAll_cons r1
  obtain ⟨rfl, rfl, rfl⟩ := trodAll_nil r2
  obtain rfl : args = #[v0, v1, v2] := by cases args; simp_all
  obtain ⟨rfl, rfl⟩ := trodVars_none hV
  obtain ⟨op, rfl, rfl, rfl, w0⟩ := open_int Try.underlying3 (hval 0 3 v0 rfl rfl) h0
  have k1 := h1
  have k2 := h2
  have lt1 : ∀ x ∈ p1, x.block < W.heap.size := by obtain ⟨m, hm⟩ := k1; exact DataW.trod_lt m _ _ _ hm
  have lt2 : ∀ x ∈ p2, x.block < W.heap.size := by obtain ⟨m, hm⟩ := k2; exact DataW.trod_lt m _ _ _ hm
  obtain ⟨u0, u1, sh, da, rfl, l0, l1, rd0, rd1⟩ := arr_open (hval 1 24 v1 rfl rfl) h1
  obtain ⟨u2, u3, sh2, da2, rfl, l2, l3, rd2, rd3⟩ := arr_open (hval 2 24 v2 rfl rfl) h2
  clear hA0 hval0
  refine (each2_law op u0 u1 u2 u3 sh da sh2 da2 W l0 l1 l2 l3 rd0 rd1 rd2 rd3).mono fun e W' ⟨he, bel⟩ => ?_
  subst he
  exact ⟨_, rfl, _, _, _, [], _, [], hW', trodAll_mk1 (shut_bool Try.underlying4 _), (trodAll_cons_mk (shut_int Try.underlying3 w0) (trodAll_cons_mk (Below.trod Try.laidOut (by kernel_rfl) (of_decide_eq_true (by kernel_rfl)) k1 bel lt1) (trodAll_cons_mk (Below.trod Try.laidOut (by kernel_rfl) (of_decide_eq_true (by kernel_rfl)) k2 bel lt2) trodAll_mk0))), rfl, bel.frame _, fun h => by cases h⟩

theorem exactEach2_holds : Rows.FnExactEach2Said :=
  OpenClaim.holds_of_wide 5 Try.f5 rfl rfl rfl rfl rfl rfl rfl ⟨rfl, rfl, rfl, rfl, rfl⟩ rfl rfl rfl rfl rfl (by kernel_rfl) Try.func5 (by kernel_rfl)
    (of_decide_eq_true (by kernel_rfl)) (by unfold Func.isWrapper; first | (rw [if_pos (by decide +kernel)]; kernel_rfl) | (rw [if_neg (by decide +kernel)]; exact ⟨rfl, rfl⟩))
    (fun os started H enc _ => each2_lifted os started H enc)
#print axioms exactEach2_holds

end Go.Proofs.Ytmobjomebmipdaa
