import Derived.Test.YtmobjomebmipdaaEnv
namespace Go.Proofs.Ytmobjomebmipdaa
open Go.RowKit
set_option linter.unusedVariables false

set_option maxRecDepth 100000 in
set_option maxHeartbeats 8000000 in
/-- laws.FnExactMonad -/
theorem lawM (op : Int) (v0 v1 : Value) (sh da : List Int) (c : Int) (S D : List Int) (w : World) (m0 : sh.length ≤ 9223372036854775807) (m1 : da.length ≤ 9223372036854775807)
    (h0 : Rd w.heap.size w v0 sh) (h1 : Rd w.heap.size w v1 da) (lS : sh.length ≤ 1048576 → S.length ≤ 1048576) (lD : da.length ≤ 1048576 → D.length ≤ 1048576)
    (hspec : ∀ (x0 x1 : Nat) w', sh.length ≤ 1048576 → da.length ≤ 1048576 → Rd w'.heap.size w' (sl x0 sh.length) sh → Rd w'.heap.size w' (sl x1 da.length) da → Calls Try.prog 22 #[.int .i64 op, .agg #[sl x0 sh.length, sl x1 da.length]] w' (FPost w' c S D))
    (himpl : ∀ (x0 x1 : Nat) w', sh.length ≤ 1048576 → da.length ≤ 1048576 → Rd w'.heap.size w' (sl x0 sh.length) sh → Rd w'.heap.size w' (sl x1 da.length) da → Calls Try.prog 23 #[.int .i64 op, .agg #[sl x0 sh.length, sl x1 da.length]] w' (FPost w' c S D)) :
    Calls Try.prog 6 #[.int .i64 op, .agg #[v0, v1]] w fun e w' => e = .returned (.bool true) ∧ Below w.heap.size w w' := by
  have H0 := hideP h0
  have H1 := hideP h1
  have HS := hideP hspec
  have HI := hideP himpl
  have LS := hideP lS
  have LD := hideP lD
  clear h0 h1 hspec himpl lS lD
  have B0 : Hid (∀ o, Below w.heap.size w (w.alloc o)) := fun o => (Below.refl _ _).alloc (Nat.le_refl _) _
  go_enter Try.func6, Try.ntmps6
  go_wp2_with fail
  refine (szArray_rd v0 v1 sh da _ w w.heap.size m0 m1 H0.out H1.out 1048576 (by omega) (by omega)).mono ?_
  rintro e w1 ⟨r, rfl, hr1, hr, hb1⟩
  have B1 := hideP ((B0.out _).trans (hb1.mono (by simp)))
  have X1 := hideP ((Box.new w v0 v1 24).keep hb1)
  have sz1 : w.heap.size + 1 ≤ w1.heap.size := by have := hb1.size; simpa using this
  clear hb1
  by_cases hneg : r < 0
  · go_wp2_with fail
    go_ret
    exact ⟨rfl, B1.out⟩
  · have L0 : sh.length ≤ 1048576 := by omega
    have L1 : da.length ≤ 1048576 := by omega
    have lS := LS.out L0
    have lD := LD.out L1
    clear hr hr1 m0 m1 LS LD
    obtain ⟨_, c10, c11⟩ := X1.out
    -- the specification's answer
    go_wp2_with fail
    refine (toArray_res v0 v1 sh da _ L0 L1 ((H0.out.keep B1.out).up (by omega)) ((H1.out.keep B1.out).up (by omega))).mono ?_
    rintro e w2 ⟨g0, g1, rfl, res2, hb2⟩
    have B2 := hideP (B1.out.trans (hb2.mono (by omega)))
    have X2 := hideP (X1.out.keep hb2)
    have R2 := hideP res2.rds
    have sz2 := hb2.size
    clear hb2 res2 c10 c11 X1 B1
    go_wp2_with fail
    refine (HS.out _ _ _ L0 L1 R2.out.1 R2.out.2).mono ?_
    rintro e w3 ⟨hb3, u0, u1, rfl, res3⟩
    have B3 := hideP (B2.out.trans (hb3.mono (by omega)))
    have X3 := hideP (X2.out.keep hb3)
    have sz3 := hb3.size
    have E3 : Hid (Env w w3.heap.size v0 v1 u0 u1 S D (w3.alloc (.cells #[u0, u1] 27))) :=
      ⟨B3.out.alloc (by omega) _, by omega, X3.out.keep ((Below.refl _ _).alloc (Nat.le_refl _) _), Box.new w3 u0 u1 27, (res3.1.rd).keep ((Below.refl _ _).alloc (Nat.le_refl _) _), (res3.2.1.rd).keep ((Below.refl _ _).alloc (Nat.le_refl _) _)⟩
    obtain ⟨a0, d0, a1, d1, e0, e1⟩ := res3.forms
    subst e0
    subst e1
    have sz3' : w.heap.size + 1 ≤ w3.heap.size := by omega
    clear hb3 res3 R2 X2 B2 HS sz2 sz3
    obtain ⟨_, c30, c31⟩ := X3.out
    go_wp2_with fail
    -- the copy that the program gets
    have Q3 := hideP (And.intro ((H0.out.keep E3.out.bel).up E3.out.bel.size) ((H1.out.keep E3.out.bel).up E3.out.bel.size))
    refine (toArray_res v0 v1 sh da _ L0 L1 Q3.out.1 Q3.out.2).mono ?_
    rintro e w4 ⟨x0, x1, rfl, res4, hb4⟩
    have E4 := hideP (E3.out.keep hb4)
    have sz4 : w3.heap.size + 1 ≤ w4.heap.size := by have := hb4.size; simpa using this
    have res4' : Res (w3.heap.size + 1) w4 (sl x0 sh.length) (sl x1 da.length) sh da := by simpa using res4
    have A4 := hideP (Arr.new res4' 27)
    have E4' := hideP (E4.out.keep ((Below.refl _ _).alloc (Nat.le_refl _) (.cells #[sl x0 sh.length, sl x1 da.length] 27)))
    clear hb4 res4 res4' c30 c31 X3 B3 E3 Q3 E4
    go_wp2_with fail
    refine (HI.out _ _ _ L0 L1 A4.out.res.rds.1 A4.out.res.rds.2).mono ?_
    rintro e w5 ⟨hb5, p0, p1, rfl, res5⟩
    have E5 := hideP (E4'.out.keep hb5)
    have A5 := hideP (A4.out.keep hb5)
    have sz5 : w4.heap.size + 1 ≤ w5.heap.size := by have := hb5.size; simpa using this
    have res5' : Res (w4.heap.size + 1) w5 p0 p1 S D := by simpa using res5
    have G5 := hideP (Arr.new res5' 27)
    have K5 : Hid (Below w5.heap.size w5 (w5.alloc (.cells #[p0, p1] 27))) := (Below.refl _ _).alloc (Nat.le_refl _) _
    have E6 := hideP (E5.out.keep K5.out)
    have A6 := hideP (A5.out.keep K5.out)
    obtain ⟨q0, f0, q1, f1, e0, e1⟩ := res5.forms
    subst e0
    subst e1
    clear hb5 res5 res5' E5 A5 A4 E4' K5
    obtain ⟨_, cw0, cw1⟩ := E6.out.boxW
    go_wp2_with fail
    refine (eqArray_same _ _ _ _ S D _ lS lD G5.out.res.rds.1 G5.out.res.rds.2 (E6.out.rd0.up (Nat.le_of_lt E6.out.boxW.1)) (E6.out.rd1.up (Nat.le_of_lt E6.out.boxW.1))).mono ?_
    rintro e w6 ⟨rfl, hb6⟩
    have E7 := hideP (E6.out.keep hb6)
    have A7 := hideP (A6.out.keep hb6)
    have G7 := hideP (G5.out.keep hb6)
    clear hb6 E6 A6 G5 cw0 cw1
    go_wp2_with fail
    -- the argument is as it was
    have D7 : Hid (Below w6.heap.size w6 w6.drew) := (Below.refl _ _).drew
    have L8 : ∀ w', Below w6.heap.size w6 w' → w'.cell? ⟨w4.heap.size, 0, none⟩ = some (sl x0 sh.length) ∧ w'.cell? ⟨w4.heap.size, 1, none⟩ = some (sl x1 da.length) := fun w' h => (A7.out.box.keep h).2
    have L3 : ∀ w', Below w6.heap.size w6 w' → w'.cell? ⟨w.heap.size, 0, none⟩ = some v0 ∧ w'.cell? ⟨w.heap.size, 1, none⟩ = some v1 := fun w' h => (E7.out.box.keep h).2
    have PL8 := hideP L8
    have PL3 := hideP L3
    clear L8 L3
    refine wp_region_held (S := fun w' => Below w6.heap.size w6 w') (by kernel_rfl) ?_
    change wpAnyH _ _ _ _ _ _ _ _ (World.drew _)
    refine wpAnyH_take (i := 0) (v := .agg #[sl x0 sh.length, sl x1 da.length]) rfl (by kernel_rfl) (by kernel_rfl) (by kernel_rfl) (fun _ _ _ h => h) (Or.inl ⟨by rfl, ?_⟩) D7.out ?_
    · intro w' hS
      obtain ⟨y0, y1⟩ := PL8.out w' hS
      clear hS
      go_simp
    refine wpAnyH_take (i := 1) (v := .agg #[v0, v1]) rfl (by kernel_rfl) (by kernel_rfl) (by kernel_rfl) (fun _ _ _ h => h) (Or.inl ⟨by rfl, ?_⟩) D7.out ?_
    · intro w' hS
      obtain ⟨y0, y1⟩ := PL3.out w' hS
      clear hS
      go_simp
    refine wpAnyH_ready (rs := [2]) (by kernel_rfl) (by simp) ?_
    refine AllReadyH.cons rfl (fun K hK => ?_) AllReadyH.nil
    go_simp
    have Q7 : Hid (Rd w6.drew.heap.size w6.drew v0 sh ∧ Rd w6.drew.heap.size w6.drew v1 da) := And.intro ((H0.out.keep E7.out.bel.drew).up E7.out.bel.size) ((H1.out.keep E7.out.bel.drew).up E7.out.bel.size)
    refine (toArray_res v0 v1 sh da w6.drew L0 L1 Q7.out.1 Q7.out.2).mono ?_
    rintro e w7 ⟨y0, y1, rfl, res7, hb7⟩
    have B7 := hideP (D7.out.trans hb7)
    have E8 := hideP (E7.out.keep B7.out)
    have A8 := hideP (A7.out.keep B7.out)
    have G8 := hideP (G7.out.keep B7.out)
    have R7 := hideP res7.rds
    clear res7 hb7 Q7 PL8 PL3 D7
    refine hK.out _ _ B7.out (fun _ => ?_)
    clear hK
    refine wpAnyH_ready (rs := [3]) (by kernel_rfl) (by simp) ?_
    refine AllReadyH.cons rfl (fun K hK => ?_) AllReadyH.nil
    go_simp
    refine (eqArray_same _ _ _ _ sh da _ L0 L1 A8.out.res.rds.1 A8.out.res.rds.2 R7.out.1 R7.out.2).mono ?_
    rintro e w8 ⟨rfl, hb8⟩
    have E9 := hideP (E8.out.keep hb8)
    have A9 := hideP (A8.out.keep hb8)
    have G9 := hideP (G8.out.keep hb8)
    have B8 := hideP (B7.out.trans (hb8.mono B7.out.size))
    clear hb8 E8 A8 G8 R7 E7 A7 G7 B7
    refine hK.out _ _ B8.out (fun _ => ?_)
    clear hK
    refine wpAnyH_ready (rs := [4]) (by kernel_rfl) (by simp) ?_
    refine AllReadyH.cons rfl (fun K hK => ?_) AllReadyH.nil
    go_simp
    refine hK.out _ _ B8.out (fun _ => ?_)
    clear hK B8
    refine wpAnyH_done (by kernel_rfl) ?_ _
    obtain ⟨_, cx0, cx1⟩ := A9.out.box
    go_wp2_with fail
    -- the argument is marked
    refine (markArray_any _ _ _ 1 sh da _ L0 L1 (by omega) (by omega) A9.out.res).mono ?_
    rintro e w9 ⟨rfl, hk9, _⟩
    have E10 : Hid (Env w w3.heap.size v0 v1 (.slice a0 S.length d0) (.slice a1 D.length d1) S D w9) :=
      E9.out.below (hk9.below (B := w3.heap.size + 1) E9.out.boxW.1 (fun k e => (rowOf_ge A9.out.res.1 k e).1) (fun k e => (rowOf_ge A9.out.res.2.1 k e).1)) (by omega)
    have G10 : Hid (Arr (w4.heap.size + 1) w5.heap.size (.slice q0 S.length f0) (.slice q1 D.length f1) S D w9) :=
      G9.out.kept2 hk9 sz5 (fun k e => Nat.lt_succ_of_lt (A9.out.r0 k e)) (fun k e => Nat.lt_succ_of_lt (A9.out.r1 k e))
    clear hk9 cx0 cx1 A9 E9 G9
    obtain ⟨_, cw0, cw1⟩ := E10.out.boxW
    obtain ⟨_, cg0, cg1⟩ := G10.out.box
    have kn : ¬ ((1 : Int) + sh.length + da.length < 0) := by omega
    go_wp2_with fail
    refine (eqArray_same _ _ _ _ S D _ lS lD G10.out.res.rds.1 G10.out.res.rds.2 (E10.out.rd0.up (Nat.le_of_lt E10.out.boxW.1)) (E10.out.rd1.up (Nat.le_of_lt E10.out.boxW.1))).mono ?_
    rintro e w10 ⟨rfl, hb10⟩
    have E11 := hideP (E10.out.keep hb10)
    have G11 := hideP (G10.out.keep hb10)
    clear hb10 E10 G10 cw0 cw1 cg0 cg1
    obtain ⟨_, cg0, cg1⟩ := G11.out.box
    go_wp2_with fail
    -- the answer is marked
    refine (markArray_any _ _ _ 1 S D _ lS lD (by omega) (by omega) G11.out.res).mono ?_
    rintro e w11 ⟨rfl, hk11, res11⟩
    have hb11 := hk11.below (B := w4.heap.size + 1) (Nat.le_trans sz5 (Nat.le_of_lt G11.out.box.1)) (fun k e => (rowOf_ge G11.out.res.1 k e).1) (fun k e => (rowOf_ge G11.out.res.2.1 k e).1)
    have E12 : Hid (Env w w3.heap.size v0 v1 (.slice a0 S.length d0) (.slice a1 D.length d1) S D w11) := E11.out.below hb11 (by omega)
    have X12 := hideP (G11.out.box.kept2 hk11 G11.out.r0 G11.out.r1)
    have R12 := hideP res11.rds
    clear hk11 res11 hb11 E11 G11 cg0 cg1
    obtain ⟨_, cg0, cg1⟩ := X12.out
    go_wp2_with fail
    refine (heldArray_any _ _ 1 S.length D.length _ lS lD (by omega) (by omega) R12.out.1 R12.out.2).mono ?_
    rintro e w12 ⟨rfl, hb12⟩
    have E13 := hideP (E12.out.keep hb12)
    clear hb12 E12 X12 R12 cg0 cg1
    obtain ⟨_, c30, c31⟩ := E13.out.box
    have qn : ¬ ((1 : Int) + S.length + D.length < 0) := by omega
    go_wp2_with fail
    -- once more
    have Q13 := hideP (And.intro ((H0.out.keep E13.out.bel).up E13.out.bel.size) ((H1.out.keep E13.out.bel).up E13.out.bel.size))
    refine (toArray_res v0 v1 sh da _ L0 L1 Q13.out.1 Q13.out.2).mono ?_
    rintro e w13 ⟨z0, z1, rfl, res13, hb13⟩
    have E14 := hideP (E13.out.keep hb13)
    have R13 := hideP res13.rds
    clear hb13 res13 E13 Q13 c30 c31
    go_wp2_with fail
    refine (HI.out _ _ _ L0 L1 R13.out.1 R13.out.2).mono ?_
    rintro e w14 ⟨hb14, t0, t1, rfl, res14⟩
    have K14 : Hid (Below w14.heap.size w14 (w14.alloc (.cells #[t0, t1] 27))) := (Below.refl _ _).alloc (Nat.le_refl _) _
    have E15 := hideP ((E14.out.keep hb14).keep K14.out)
    have R14 := hideP (res14.keep K14.out).rds
    obtain ⟨s0, i0, s1, i1, e0, e1⟩ := res14.forms
    subst e0
    subst e1
    clear hb14 res14 E14 R13 K14 HI
    obtain ⟨_, cw0, cw1⟩ := E15.out.boxW
    go_wp2_with fail
    refine (eqArray_same _ _ _ _ S D _ lS lD R14.out.1 R14.out.2 (E15.out.rd0.up (Nat.le_of_lt E15.out.boxW.1)) (E15.out.rd1.up (Nat.le_of_lt E15.out.boxW.1))).mono ?_
    rintro e w15 ⟨rfl, hb15⟩
    have E16 := hideP (E15.out.keep hb15)
    clear hb15 E15 R14 cw0 cw1
    go_wp2_with fail
    go_ret
    exact ⟨rfl, E16.out.bel⟩

end Go.Proofs.Ytmobjomebmipdaa
