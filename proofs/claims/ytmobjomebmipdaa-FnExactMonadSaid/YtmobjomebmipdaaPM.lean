import Derived.Test.YtmobjomebmipdaaLawM
import Derived.Test.YtmobjomebmipdaaMo2
import Derived.Test.YtmobjomebmipdaaArgs
namespace Go.Proofs.Ytmobjomebmipdaa
open Go.ChangeShapes Go.WideShapes Go.ChangeAt Go.RowKit
set_option linter.unusedVariables false

theorem down_len (da : List Int) (s : Nat) : ∀ q, (Pl.rowsDown da s q).flatten.length ≤ q * s := by
  intro q
  induction q with
  | zero => simp [Pl.rowsDown]
  | succ q ih =>
    rw [Pl.rowsDown_succ, List.flatten_cons, List.length_append, Nat.succ_mul]
    have : (Pl.rowAt da s q).length ≤ s := by unfold Pl.rowAt; rw [List.length_take]; omega
    omega
theorem mon_len (op : Int) (sh da : List Int) : (sh.length ≤ 1048576 → (Pl.mo8 (Pl.monM op) op sh da).2.1.length ≤ 1048576) ∧ (da.length ≤ 1048576 → (Pl.mo8 (Pl.monM op) op sh da).2.2.length ≤ 1048576) := by
  by_cases h : 1 ≤ op ∧ op < 8 ∧ Pl.okB sh da = true
  · rw [Pl.mo8_yes h]
    obtain ⟨k0, k1, hok⟩ := h
    obtain ⟨h0, h1⟩ := Pl.ok_max hok
    have hk : op = 1 ∨ op = 2 ∨ op = 3 ∨ op = 4 ∨ op = 5 ∨ op = 6 ∨ op = 7 := by omega
    rcases hk with rfl | rfl | rfl | rfl | rfl | rfl | rfl
    · show (_ → (Pl.iotaM sh da).2.1.length ≤ _) ∧ (_ → (Pl.iotaM sh da).2.2.length ≤ _)
      unfold Pl.iotaM
      split
      · simp
      · split
        · simp
        · split
          · simp
          · refine ⟨fun _ => by simp, fun _ => ?_⟩
            show (Pl.iotaL _).length ≤ _
            rw [Pl.iotaL_len]
            omega
    · show (_ → [(sh.length : Int)].length ≤ _) ∧ (_ → sh.length ≤ _)
      refine ⟨fun _ => by simp, fun _ => by omega⟩
    · show (_ → [(da.length : Int)].length ≤ _) ∧ (_ → da.length ≤ _)
      refine ⟨fun _ => by simp, fun _ => by omega⟩
    · show (_ → (Pl.revM sh da).2.1.length ≤ _) ∧ (_ → (Pl.revM sh da).2.2.length ≤ _)
      by_cases hz : sh.length = 0
      · unfold Pl.revM
        rw [if_pos hz]
        exact ⟨fun _ => by simp, fun h => h⟩
      · obtain ⟨n, s, en, es, _, _, hl, _⟩ := Pl.rows_size hok hz
        unfold Pl.revM
        rw [if_neg hz, en, es]
        refine ⟨fun h => h, fun _ => ?_⟩
        have := down_len da s n
        show (Pl.rowsDown da (s : Int).toNat (n : Int).toNat).flatten.length ≤ _
        rw [Int.toNat_natCast, Int.toNat_natCast]
        omega
    · show (_ → sh.reverse.length ≤ _) ∧ (_ → ((List.range da.length).map _).length ≤ _)
      refine ⟨fun h => by rw [List.length_reverse]; exact h, fun h => by rw [List.length_map, List.length_range]; exact h⟩
    · show (_ → (Pl.gradeM sh da).2.1.length ≤ _) ∧ (_ → (Pl.gradeM sh da).2.2.length ≤ _)
      unfold Pl.gradeM
      split
      · refine ⟨fun _ => by simp, fun h => ?_⟩
        show (Pl.grd _ _ _).length ≤ _
        rw [Pl.len_grd]
        exact h
      · simp
    · show (_ → ([] : List Int).length ≤ _) ∧ (_ → [(Pl.axesS sh da).getD 0 0].length ≤ _)
      exact ⟨fun _ => by simp, fun _ => by simp⟩
  · rw [Pl.mo8_no h]
    exact ⟨fun _ => by simp, fun _ => by simp⟩

theorem monad_law (op : Int) (v0 v1 : Value) (sh da : List Int) (w : World) (m0 : sh.length ≤ 9223372036854775807) (m1 : da.length ≤ 9223372036854775807) (h0 : Rd w.heap.size w v0 sh) (h1 : Rd w.heap.size w v1 da) :
    Calls Try.prog 6 #[.int .i64 op, .agg #[v0, v1]] w fun e w' => e = .returned (.bool true) ∧ Below w.heap.size w w' :=
  lawM op v0 v1 sh da (Pl.mo8 (Pl.monM op) op sh da).1 (Pl.mo8 (Pl.monM op) op sh da).2.1 (Pl.mo8 (Pl.monM op) op sh da).2.2 w m0 m1 h0 h1 (mon_len op sh da).1 (mon_len op sh da).2
    (fun x0 x1 w' l0 l1 r0 r1 => specM_face op x0 x1 sh da w' l0 l1 r0 r1 _ _ _ rfl) (fun x0 x1 w' l0 l1 r0 r1 => monad_face op x0 x1 sh da w' l0 l1 r0 r1 _ _ _ rfl)

set_option maxRecDepth 100000 in
theorem monad_lifted (os : Os) (started : os.Started) (H : Type) (enc : TypeId × Value → H) :
    ReturnsInHanded {} Try.checked os 6 .any (Rows.fnExactMonadSpec.pre6 enc Try.prog Try.f6 Rows.fnExactMonadRow.domain false) (Rows.fnExactMonadSpec.post enc Try.prog Try.f6 false true false false) := by
  refine returnsInHanded_of_change (C := Try.checked) Try.own started (by kernel_rfl) Try.func6
    (ChangeSpec.witness6 (enc := enc) (C := Try.checked) false ⟨#[], #[.int .i64 0, .agg #[.slice none 0 0, .slice none 0 0]], []⟩ 8 (by kernel_rfl) (by kernel_rfl) (by kernel_rfl) (by kernel_rfl)) ?_
  intro W base args ds gs before hval0 hW hcnd _
  have hval : ∀ (j : Nat) t v, Try.f6.params[j]? = some t → args[j]? = some v → Value.okWide Try.prog W .any base t v := hval0
  have hW' := hW
  obtain ⟨p, q, hA0, hV, rfl, hfz, hnd⟩ := hW
  have hA : DataW.TrodAll enc Try.prog W 0 (fun _ => true) true Try.f6.params.toList args.toList ds p := hA0
  rw [Try.params6] at hA hval
  obtain ⟨v0, vs0, d0, ds0, p0, q0, hargs, rfl, rfl, h0, r0⟩ := trodAll_cons hA
  obtain ⟨v1, vs1, d1, ds1, p1, q1, rfl, rfl, rfl, h1, r1⟩ := trodAll_cons r0
  obtain ⟨rfl, rfl, rfl⟩ := trodAll_nil r1
  obtain rfl : args = #[v0, v1] := by cases args; simp_all
  obtain ⟨rfl, rfl⟩ := trodVars_none hV
  obtain ⟨op, rfl, rfl, rfl, w0⟩ := open_int Try.underlying3 (hval 0 3 v0 rfl rfl) h0
  have k1 := h1
  have lt1 : ∀ x ∈ p1, x.block < W.heap.size := by obtain ⟨m, hm⟩ := k1; exact DataW.trod_lt m _ _ _ hm
  obtain ⟨u0, u1, sh, da, rfl, l0, l1, rd0, rd1⟩ := arr_open (hval 1 24 v1 rfl rfl) h1
  clear hA0 hval0
  refine (monad_law op u0 u1 sh da W l0 l1 rd0 rd1).mono fun e W' ⟨he, bel⟩ => ?_
  subst he
  exact ⟨_, rfl, _, _, _, [], _, [], hW', trodAll_mk1 (shut_bool Try.underlying4 _), (trodAll_cons_mk (shut_int Try.underlying3 w0) (trodAll_cons_mk (Below.trod Try.laidOut (by kernel_rfl) (of_decide_eq_true (by kernel_rfl)) k1 bel lt1) trodAll_mk0)), rfl, bel.frame _, fun h => by cases h⟩

theorem exactMonad_holds : Rows.FnExactMonadSaid :=
  OpenClaim.holds_of_wide 6 Try.f6 rfl rfl rfl rfl rfl rfl rfl ⟨rfl, rfl, rfl, rfl, rfl⟩ rfl rfl rfl rfl rfl (by kernel_rfl) Try.func6 (by kernel_rfl)
    (of_decide_eq_true (by kernel_rfl)) (by unfold Func.isWrapper; first | (rw [if_pos (by decide +kernel)]; kernel_rfl) | (rw [if_neg (by decide +kernel)]; exact ⟨rfl, rfl⟩))
    (fun os started H enc _ => monad_lifted os started H enc)
#print axioms exactMonad_holds

end Go.Proofs.Ytmobjomebmipdaa
