import Derived.Test.YtjhflbhbegocdaaRows
import Derived.WalkKit
import Derived.WalkSpells
import Derived.WalkLawsBesides
import Derived.ProofKit
import Derived.OpenShut
import Derived.ChangeOld
import Derived.Below
import Derived.Lib.SmallJoins
import Derived.Deep.RegionWith
namespace Go.Proofs.Ytjhflbhbegocdaa
open Go.ChangeShapes Go.WideShapes Go.ChangeAt Go.RowKit Go.Joins
set_option linter.unusedVariables false

theorem Try.limOwn : ownKnob Try.prog.godebug = none := by kernel_rfl
theorem Try.limLaid : laidOutB Try.prog = true := by kernel_rfl

/-- what valid limits are -/
def Pl.limB (f c s : Int) : Bool := decide (0 ≤ f ∧ f ≤ 100000 ∧ 0 ≤ c ∧ c ≤ 100000 ∧ 1 ≤ s ∧ s ≤ 2147483646)

theorem Pl.limB_no {f c s : Int} (h : f < 0 ∨ 100000 < f ∨ c < 0 ∨ 100000 < c ∨ s < 1 ∨ 2147483646 < s) : Pl.limB f c s = false := by
  unfold Pl.limB
  rw [decide_eq_false_iff_not]
  omega

theorem Pl.limB_yes {f c s : Int} (h0 : 0 ≤ f) (h1 : f ≤ 100000) (h2 : 0 ≤ c) (h3 : c ≤ 100000) (h4 : 1 ≤ s) (h5 : s ≤ 2147483646) : Pl.limB f c s = true := by
  unfold Pl.limB
  rw [decide_eq_true_eq]
  omega

/-- laws.toLimits -/
theorem toLimits_any (f c s : Int) (b : Bool) (w : World) :
    Calls Try.prog 13 #[.agg #[.int .i64 f, .int .i64 c, .bool b, .int .i64 s]] w fun e w' => e = .returned (.agg #[.int .i64 f, .int .i64 c, .bool b, .int .i64 s]) ∧ Below w.heap.size w w' := by
  have B : Hid (∀ o o' o'', Below w.heap.size w (((w.alloc o).alloc o').alloc o'')) := fun o o' o'' => (((Below.refl _ _).alloc (Nat.le_refl _) _).alloc (by simp) _).alloc (by simp; omega) _
  go_enter Try.func13, Try.ntmps13
  go_wp2_with fail
  refine bodyPost_ret (v := .agg #[.int .i64 f, .int .i64 c, .bool b, .int .i64 s]) (by simp [results, Try.results13, go_sem]) rfl ⟨rfl, B.out _ _ _⟩

/-- impl.budgetFits -/
theorem budgetFits_any (x : Int) (q : Bool) (hq : decide (0 ≤ x ∧ x ≤ 100000) = q) (w : World) :
    Calls Try.prog 33 #[.int .i64 x] w fun e w' => e = .returned (.bool q) ∧ w' = w := by
  have Q := hq
  clear hq
  by_cases h : 0 ≤ x
  · have e : decide (x ≤ 100000) = q := by rw [← Q]; simp [h]
    clear Q
    go_enter Try.func33, Try.ntmps33
    go_wp2_with fail
    go_ret
    exact ⟨rfl, rfl⟩
  · have e : q = false := by rw [← Q]; simp [h]
    clear Q
    subst e
    go_enter Try.func33, Try.ntmps33
    go_wp2_with fail
    go_ret
    exact ⟨rfl, rfl⟩

/-- spec.LimitsOk -/
theorem specLim_any (f c s : Int) (b q : Bool) (hq : Pl.limB f c s = q) (w : World) :
    Calls Try.prog 12 #[.agg #[.int .i64 f, .int .i64 c, .bool b, .int .i64 s]] w fun e w' => e = .returned (.bool q) ∧ Below w.heap.size w w' := by
  have B : Hid (∀ o, Below w.heap.size w (w.alloc o)) := fun o => (Below.refl _ _).alloc (Nat.le_refl _) _
  by_cases h0 : f < 0
  · obtain rfl : q = false := hq.symm.trans (Pl.limB_no (.inl h0))
    clear hq
    go_enter Try.func12, Try.ntmps12
    go_wp2_with fail
    go_ret
    exact ⟨rfl, B.out _⟩
  · have g0 := Int.not_lt.1 h0
    clear h0
    by_cases h1 : 100000 < f
    · obtain rfl : q = false := hq.symm.trans (Pl.limB_no (.inr (.inl h1)))
      clear hq
      go_enter Try.func12, Try.ntmps12
      go_wp2_with fail
      go_ret
      exact ⟨rfl, B.out _⟩
    · have g1 := Int.not_lt.1 h1
      clear h1
      by_cases h2 : c < 0
      · obtain rfl : q = false := hq.symm.trans (Pl.limB_no (.inr (.inr (.inl h2))))
        clear hq
        go_enter Try.func12, Try.ntmps12
        go_wp2_with fail
        go_ret
        exact ⟨rfl, B.out _⟩
      · have g2 := Int.not_lt.1 h2
        clear h2
        by_cases h3 : 100000 < c
        · obtain rfl : q = false := hq.symm.trans (Pl.limB_no (.inr (.inr (.inr (.inl h3)))))
          clear hq
          go_enter Try.func12, Try.ntmps12
          go_wp2_with fail
          go_ret
          exact ⟨rfl, B.out _⟩
        · have g3 := Int.not_lt.1 h3
          clear h3
          by_cases h4 : s < 1
          · obtain rfl : q = false := hq.symm.trans (Pl.limB_no (.inr (.inr (.inr (.inr (.inl h4))))))
            clear hq
            go_enter Try.func12, Try.ntmps12
            go_wp2_with fail
            go_ret
            exact ⟨rfl, B.out _⟩
          · have g4 := Int.not_lt.1 h4
            clear h4
            by_cases h5 : 2147483646 < s
            · obtain rfl : q = false := hq.symm.trans (Pl.limB_no (.inr (.inr (.inr (.inr (.inr (h5)))))))
              clear hq
              have tt : decide (s ≤ 2147483646) = false := by rw [decide_eq_false_iff_not]; omega
              go_enter Try.func12, Try.ntmps12
              go_wp2_with fail
              go_ret
              exact ⟨rfl, B.out _⟩
            · have g5 := Int.not_lt.1 h5
              clear h5
              obtain rfl : q = true := hq.symm.trans (Pl.limB_yes g0 g1 g2 g3 g4 g5)
              clear hq
              have tt : decide (s ≤ 2147483646) = true := by rw [decide_eq_true_eq]; omega
              go_enter Try.func12, Try.ntmps12
              go_wp2_with fail
              go_ret
              exact ⟨rfl, B.out _⟩

set_option maxRecDepth 100000 in
set_option maxHeartbeats 4000000 in
/-- impl.LimitsOk -/
theorem implLim_any (f c s : Int) (b q : Bool) (hq : Pl.limB f c s = q) (w : World) :
    Calls Try.prog 14 #[.agg #[.int .i64 f, .int .i64 c, .bool b, .int .i64 s]] w fun e w' => e = .returned (.bool q) ∧ Below w.heap.size w w' := by
  have B : Hid (∀ o, Below w.heap.size w (w.alloc o)) := fun o => (Below.refl _ _).alloc (Nat.le_refl _) _
  obtain ⟨x, hx⟩ : ∃ x, decide (0 ≤ f ∧ f ≤ 100000) = x := ⟨_, rfl⟩
  obtain ⟨y, hy⟩ : ∃ y, decide (0 ≤ c ∧ c ≤ 100000) = y := ⟨_, rfl⟩
  have HX : Hid (decide (0 ≤ f ∧ f ≤ 100000) = x) := hx
  have HY : Hid (decide (0 ≤ c ∧ c ≤ 100000) = y) := hy
  have E : Hid ((x && (y && (decide (1 ≤ s) && decide (s < 2147483647)))) = q) := by
    show _ = _
    rw [← hq, ← hx, ← hy]
    unfold Pl.limB
    rw [← Bool.decide_and, ← Bool.decide_and, ← Bool.decide_and]
    congr 1
    exact propext (by constructor <;> (intro h; omega))
  clear hq hx hy
  cases x with
  | false =>
    obtain rfl : q = false := E.out.symm.trans rfl
    clear E
    go_enter Try.func14, Try.ntmps14
    go_wp2_with (go_at_call 33; refine (budgetFits_any _ _ (by first | exact HX.out | exact HY.out) _).mono ?_; rintro e w1 ⟨rfl, rfl⟩)
    go_ret
    exact ⟨rfl, B.out _⟩
  | true =>
    cases y with
    | false =>
      obtain rfl : q = false := E.out.symm.trans rfl
      clear E
      go_enter Try.func14, Try.ntmps14
      go_wp2_with (go_at_call 33; refine (budgetFits_any _ _ (by first | exact HX.out | exact HY.out) _).mono ?_; rintro e w1 ⟨rfl, rfl⟩)
      go_ret
      exact ⟨rfl, B.out _⟩
    | true =>
      by_cases h1 : 1 ≤ s
      · by_cases h2 : s < 2147483647
        · obtain rfl : q = true := by rw [← E.out]; simp [h1, h2]
          clear E
          go_enter Try.func14, Try.ntmps14
          go_wp2_with (go_at_call 33; refine (budgetFits_any _ _ (by first | exact HX.out | exact HY.out) _).mono ?_; rintro e w1 ⟨rfl, rfl⟩)
          go_ret
          exact ⟨rfl, B.out _⟩
        · obtain rfl : q = false := by rw [← E.out]; simp [h2]
          have tt : decide (s < 2147483647) = false := by simp [h2]
          clear E h2
          go_enter Try.func14, Try.ntmps14
          go_wp2_with (go_at_call 33; refine (budgetFits_any _ _ (by first | exact HX.out | exact HY.out) _).mono ?_; rintro e w1 ⟨rfl, rfl⟩)
          go_ret
          exact ⟨rfl, B.out _⟩
      · obtain rfl : q = false := by rw [← E.out]; simp [h1]
        clear E
        go_enter Try.func14, Try.ntmps14
        go_wp2_with (go_at_call 33; refine (budgetFits_any _ _ (by first | exact HX.out | exact HY.out) _).mono ?_; rintro e w1 ⟨rfl, rfl⟩)
        go_ret
        exact ⟨rfl, B.out _⟩

/-- laws.FnExactLimitsOk -/
theorem lawLim (f c s : Int) (b : Bool) (w : World) :
    Calls Try.prog 4 #[.agg #[.int .i64 f, .int .i64 c, .bool b, .int .i64 s]] w fun e w' => e = .returned (.bool true) ∧ Below w.heap.size w w' := by
  obtain ⟨q, hq⟩ : ∃ q, Pl.limB f c s = q := ⟨_, rfl⟩
  have S : Hid (∀ w', Calls Try.prog 12 #[.agg #[.int .i64 f, .int .i64 c, .bool b, .int .i64 s]] w' fun e w'' => e = .returned (.bool q) ∧ Below w'.heap.size w' w'') := fun w' => specLim_any f c s b q hq w'
  have I : Hid (∀ w', Calls Try.prog 14 #[.agg #[.int .i64 f, .int .i64 c, .bool b, .int .i64 s]] w' fun e w'' => e = .returned (.bool q) ∧ Below w'.heap.size w' w'') := fun w' => implLim_any f c s b q hq w'
  have hbox : ∀ {W w1 : World} {N : Nat} {x0 x1 x2 x3 : Value}, Below W.heap.size W w1 → N < W.heap.size → (W.cell? ⟨N, 0, none⟩ = some x0 ∧ W.cell? ⟨N, 1, none⟩ = some x1 ∧ W.cell? ⟨N, 2, none⟩ = some x2 ∧ W.cell? ⟨N, 3, none⟩ = some x3) →
      (w1.cell? ⟨N, 0, none⟩ = some x0 ∧ w1.cell? ⟨N, 1, none⟩ = some x1 ∧ w1.cell? ⟨N, 2, none⟩ = some x2 ∧ w1.cell? ⟨N, 3, none⟩ = some x3) := fun hb hN h =>
    ⟨(hb.cell (p := ⟨_, 0, none⟩) hN).trans h.1, (hb.cell (p := ⟨_, 1, none⟩) hN).trans h.2.1, (hb.cell (p := ⟨_, 2, none⟩) hN).trans h.2.2.1, (hb.cell (p := ⟨_, 3, none⟩) hN).trans h.2.2.2⟩
  have B0 : Hid (∀ o, Below w.heap.size w (w.alloc o)) := fun o => (Below.refl _ _).alloc (Nat.le_refl _) _
  clear hq
  go_enter Try.func4, Try.ntmps4
  go_wp2_with fail
  refine (toLimits_any f c s b _).mono ?_
  rintro e w1 ⟨rfl, hb1⟩
  have B1 : Hid (Below w.heap.size w w1) := (B0.out _).trans (hb1.mono (by simp))
  have C1 := hbox (N := w.heap.size) (x0 := .int .i64 f) (x1 := .int .i64 c) (x2 := .bool b) (x3 := .int .i64 s) hb1 (by simp) (by simp [go_sem])
  have s1 : w.heap.size < w1.heap.size := by have := hb1.size; simp at this; omega
  clear hb1
  go_wp2_with fail
  refine (S.out _).mono ?_
  rintro e w2 ⟨rfl, hb2⟩
  have B2 : Hid (Below w.heap.size w w2) := B1.out.trans (hb2.mono (by omega))
  have C2 := hbox (N := w.heap.size) hb2 s1 C1
  have s2 : w.heap.size < w2.heap.size := by have := hb2.size; omega
  clear hb2 C1 B1 s1
  obtain ⟨c0, c1, c2, c3⟩ := C2
  go_wp2_with fail
  refine (toLimits_any f c s b _).mono ?_
  rintro e w3 ⟨rfl, hb3⟩
  have B3 : Hid (Below w.heap.size w w3) := B2.out.trans (hb3.mono (by omega))
  clear hb3 c0 c1 c2 c3 B2
  go_wp2_with fail
  refine (I.out _).mono ?_
  rintro e w4 ⟨rfl, hb4⟩
  have s3 := B3.out.size
  have B4 : Hid (Below w.heap.size w w4) := B3.out.trans (hb4.mono (by omega))
  clear hb4 B3
  have hne : (q != q) = false := by simp
  go_wp2_with fail
  go_ret
  exact ⟨rfl, B4.out⟩

set_option maxRecDepth 100000 in
theorem lim_lifted (os : Os) (started : os.Started) (H : Type) (enc : TypeId × Value → H) :
    ReturnsInHanded {} Try.checked os 4 .any (Rows.fnExactLimitsOkSpec.pre6 enc Try.prog Try.f4 Rows.fnExactLimitsOkRow.domain false) (Rows.fnExactLimitsOkSpec.post enc Try.prog Try.f4 false true false false) := by
  refine returnsInHanded_of_change (C := Try.checked) Try.limOwn started (by kernel_rfl) Try.func4
    (ChangeSpec.witness6 (enc := enc) (C := Try.checked) false ⟨#[], #[.agg #[.int .i64 0, .int .i64 0, .bool false, .int .i64 0]], []⟩ 8 (by kernel_rfl) (by kernel_rfl) (by kernel_rfl) (by kernel_rfl)) ?_
  intro W base args ds gs before hval0 hW hcnd _
  have hval : ∀ (j : Nat) t v, Try.f4.params[j]? = some t → args[j]? = some v → Value.okWide Try.prog W .any base t v := hval0
  have hW' := hW
  obtain ⟨p, q, hA0, hV, rfl, hfz, hnd⟩ := hW
  have hA : DataW.TrodAll enc Try.prog W 0 (fun _ => true) true Try.f4.params.toList args.toList ds p := hA0
  rw [Try.params4] at hA hval
  obtain ⟨v0, vs0, d0, ds0, p0, q0, hargs, rfl, rfl, h0, r0⟩ := trodAll_cons hA
  obtain ⟨rfl, rfl, rfl⟩ := trodAll_nil r0
  obtain rfl : args = #[v0] := by cases args; simp_all
  obtain ⟨rfl, rfl⟩ := trodVars_none hV
  have k0 := h0
  have lt0 : ∀ x ∈ p0, x.block < W.heap.size := by obtain ⟨m, hm⟩ := k0; exact DataW.trod_lt m _ _ _ hm
  obtain ⟨u0, u1, u2, u3, y0, y1, y2, y3, m, rfl, _, _, t0, t1, t2, t3⟩ := open_agg4 Try.underlying34 (by kernel_rfl) (by kernel_rfl) (hval 0 34 v0 rfl rfl) h0
  obtain ⟨f, e0, _, _⟩ := DataW.trod_int Try.underlying3 t0
  obtain ⟨c, e1, _, _⟩ := DataW.trod_int Try.underlying3 t1
  obtain ⟨b, e2, _⟩ := DataW.trod_bool Try.underlying4 t2
  obtain ⟨s, e3, _, _⟩ := DataW.trod_int Try.underlying3 t3
  simp only [List.cons.injEq, and_true] at e0 e1 e2 e3
  subst e0
  subst e1
  subst e2
  subst e3
  clear hA0 hval0 t0 t1 t2 t3
  refine (lawLim f c s b W).mono fun e W' ⟨he, bel⟩ => ?_
  subst he
  exact ⟨_, rfl, _, _, _, [], _, [], hW', trodAll_mk1 (shut_bool Try.underlying4 _), (trodAll_cons_mk (Below.trod Try.limLaid (by kernel_rfl) (of_decide_eq_true (by kernel_rfl)) k0 bel lt0) trodAll_mk0), rfl, bel.frame _, fun h => by cases h⟩

theorem exactLimitsOk_holds : Rows.FnExactLimitsOkSaid :=
  OpenClaim.holds_of_wide 4 Try.f4 rfl rfl rfl rfl rfl rfl rfl ⟨rfl, rfl, rfl, rfl, rfl⟩ rfl rfl rfl rfl rfl (by kernel_rfl) Try.func4 (by kernel_rfl)
    (of_decide_eq_true (by kernel_rfl)) (by unfold Func.isWrapper; first | (rw [if_pos (by decide +kernel)]; kernel_rfl) | (rw [if_neg (by decide +kernel)]; exact ⟨rfl, rfl⟩))
    (fun os started H enc _ => lim_lifted os started H enc)
#print axioms exactLimitsOk_holds

end Go.Proofs.Ytjhflbhbegocdaa
