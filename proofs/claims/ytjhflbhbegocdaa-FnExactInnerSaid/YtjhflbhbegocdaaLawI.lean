import Derived.Test.YtjhflbhbegocdaaEnv2
import Derived.Deep.DeepCutAuto
namespace Go.Proofs.Ytjhflbhbegocdaa
open Go.RowKit
set_option linter.unusedVariables false

set_option maxRecDepth 100000 in
set_option maxHeartbeats 16000000 in
/-- laws.FnExactInner -/
theorem lawI (f g : Int) (v0 v1 v2 v3 : Value) (sa da sb db : List Int) (c : Int) (S D : List Int) (w : World) (m0 : sa.length ≤ 9223372036854775807) (m1 : da.length ≤ 9223372036854775807) (m2 : sb.length ≤ 9223372036854775807) (m3 : db.length ≤ 9223372036854775807)
    (h0 : Rd w.heap.size w v0 sa) (h1 : Rd w.heap.size w v1 da) (h2 : Rd w.heap.size w v2 sb) (h3 : Rd w.heap.size w v3 db)
    (lSD : sa.length ≤ 1048576 ∧ da.length ≤ 1048576 ∧ sb.length ≤ 1048576 ∧ db.length ≤ 1048576 → S.length ≤ 1048576 ∧ D.length ≤ 1048576)
    (hspec : ∀ (x0 x1 x2 x3 : Nat) w', sa.length ≤ 1048576 ∧ da.length ≤ 1048576 ∧ sb.length ≤ 1048576 ∧ db.length ≤ 1048576 → Rd w'.heap.size w' (sl x0 sa.length) sa → Rd w'.heap.size w' (sl x1 da.length) da → Rd w'.heap.size w' (sl x2 sb.length) sb → Rd w'.heap.size w' (sl x3 db.length) db → Calls Try.prog 6 #[.int .i64 f, .int .i64 g, .agg #[sl x0 sa.length, sl x1 da.length], .agg #[sl x2 sb.length, sl x3 db.length]] w' (FPost w' c S D))
    (himpl : ∀ (x0 x1 x2 x3 : Nat) w', sa.length ≤ 1048576 ∧ da.length ≤ 1048576 ∧ sb.length ≤ 1048576 ∧ db.length ≤ 1048576 → Rd w'.heap.size w' (sl x0 sa.length) sa → Rd w'.heap.size w' (sl x1 da.length) da → Rd w'.heap.size w' (sl x2 sb.length) sb → Rd w'.heap.size w' (sl x3 db.length) db → Calls Try.prog 8 #[.int .i64 f, .int .i64 g, .agg #[sl x0 sa.length, sl x1 da.length], .agg #[sl x2 sb.length, sl x3 db.length]] w' (FPost w' c S D)) :
    Calls Try.prog 3 #[.int .i64 f, .int .i64 g, .agg #[v0, v1], .agg #[v2, v3]] w fun e w' => e = .returned (.bool true) ∧ Below w.heap.size w w' := by
  have H0 := hideP h0
  have H1 := hideP h1
  have H2 := hideP h2
  have H3 := hideP h3
  have HS := hideP hspec
  have HI := hideP himpl
  have LSD := hideP lSD
  clear h0 h1 h2 h3 hspec himpl lSD
  have B0 : Hid (∀ o o', Below w.heap.size w ((w.alloc o).alloc o')) := fun o o' => ((Below.refl _ _).alloc (Nat.le_refl _) _).alloc (by simp) _
  have X00 : Hid (∀ o, Box ((w.alloc (.cells #[v0, v1] 24)).alloc o) w.heap.size v0 v1) := fun o => (Box.new w v0 v1 24).keep ((Below.refl _ _).alloc (Nat.le_refl _) _)
  have X01 : Hid (∀ o, Box ((w.alloc o).alloc (.cells #[v2, v3] 24)) (w.heap.size + 1) v2 v3) := fun o => by
    have := Box.new (w.alloc o) v2 v3 24
    have e : (w.alloc o).heap.size = w.heap.size + 1 := by simp
    rw [e] at this
    exact this
  go_enter Try.func3, Try.ntmps3
  go_wp2_with fail
  refine (szArray_rd v0 v1 sa da _ w w.heap.size m0 m1 H0.out H1.out 1048576 (by omega) (by omega)).mono ?_
  rintro e w1 ⟨r, rfl, hr1, hr, hb1⟩
  have B1 := hideP ((B0.out _ _).trans (hb1.mono (by simp; omega)))
  have X10 := hideP ((X00.out _).keep hb1)
  have X11 := hideP ((X01.out _).keep hb1)
  have sz1 : w.heap.size + 1 + 1 ≤ w1.heap.size := by have := hb1.size; simpa using this
  clear hb1 X00 X01
  by_cases hneg : r < 0
  · go_wp2_with fail
    go_ret
    exact ⟨rfl, B1.out⟩
  · obtain ⟨_, c10, c11⟩ := X11.out
    go_wp2_with fail
    refine (szArray_rd v2 v3 sb db _ w w.heap.size m2 m3 H2.out H3.out r (by omega) (by omega)).mono ?_
    rintro e wv ⟨r2, rfl, hr3, hr4, hb2⟩
    have B2 := hideP (B1.out.trans (hb2.mono (by omega)))
    have X20 := hideP (X10.out.keep hb2)
    have X21 := hideP (X11.out.keep hb2)
    have sz2 : w.heap.size + 1 + 1 ≤ wv.heap.size := by have := hb2.size; omega
    clear hb2 X10 X11 c10 c11
    by_cases hneg2 : r2 < 0
    · go_wp2_with fail
      go_ret
      exact ⟨rfl, B2.out⟩
    · have L0 : sa.length ≤ 1048576 := by omega
      have L1 : da.length ≤ 1048576 := by omega
      have L2 : sb.length ≤ 1048576 := by omega
      have L3 : db.length ≤ 1048576 := by omega
      have LL := And.intro L0 (And.intro L1 (And.intro L2 L3))
      have lS := (LSD.out LL).1
      have lD := (LSD.out LL).2
      clear hr hr1 hr3 hr4 m0 m1 m2 m3 LSD
      have RV : Hid (∀ W, Below wv.heap.size wv W → Rd W.heap.size W v0 sa ∧ Rd W.heap.size W v1 da ∧ Rd W.heap.size W v2 sb ∧ Rd W.heap.size W v3 db) := fun W hb => by
        have k := B2.out.trans (hb.mono (by omega))
        exact ⟨(H0.out.keep k).up k.size, (H1.out.keep k).up k.size, (H2.out.keep k).up k.size, (H3.out.keep k).up k.size⟩
      have PL : Hid (∀ W, Below wv.heap.size wv W → (W.cell? ⟨w.heap.size, 0, none⟩ = some v0 ∧ W.cell? ⟨w.heap.size, 1, none⟩ = some v1) ∧ (W.cell? ⟨w.heap.size + 1, 0, none⟩ = some v2 ∧ W.cell? ⟨w.heap.size + 1, 1, none⟩ = some v3)) := fun W hb => ⟨(X20.out.keep hb).2, (X21.out.keep hb).2⟩
      have T0 : Hid (Below wv.heap.size wv wv.drew) := (Below.refl _ _).drew
      have TA : Hid (∀ o, Below wv.heap.size wv (wv.alloc o).drew) := fun o => ((Below.refl _ _).alloc (Nat.le_refl _) _).drew
      go_upto_region 8 with fail
      go_cut [10, 11] (fun s8 s9 wx => ∃ A u0 u1, s8 = .pointer (some ⟨A, 0, none⟩) ∧ s9 = .int .i64 c ∧ Hid (Got wv A u0 u1 S D wx))
      case first =>
        refine wp_region_held (S := fun w' => Below wv.heap.size wv w') (by kernel_rfl) ?_
        change wpAnyH _ _ _ _ _ _ _ _ (World.drew _)
        refine wpAnyH_take (i := 0) (v := .int .i64 f) rfl (by kernel_rfl) (by kernel_rfl) (by kernel_rfl) (fun _ _ _ h => h) (Or.inl ⟨by rfl, ?_⟩) T0.out ?_
        · intro w' hS
          clear hS
          go_simp
        refine wpAnyH_take (i := 1) (v := .int .i64 g) rfl (by kernel_rfl) (by kernel_rfl) (by kernel_rfl) (fun _ _ _ h => h) (Or.inl ⟨by rfl, ?_⟩) T0.out ?_
        · intro w' hS
          clear hS
          go_simp
        refine wpAnyH_take (i := 2) (v := .agg #[v0, v1]) rfl (by kernel_rfl) (by kernel_rfl) (by kernel_rfl) (fun _ _ _ h => h) (Or.inl ⟨by rfl, ?_⟩) T0.out ?_
        · intro w' hS
          obtain ⟨y0, y1⟩ := (PL.out w' hS).1
          clear hS
          go_simp
        refine wpAnyH_take (i := 4) (v := .agg #[v2, v3]) rfl (by kernel_rfl) (by kernel_rfl) (by kernel_rfl) (fun _ _ _ h => h) (Or.inl ⟨by rfl, ?_⟩) T0.out ?_
        · intro w' hS
          obtain ⟨y0, y1⟩ := (PL.out w' hS).2
          clear hS
          go_simp
        refine wpAnyH_ready (rs := [3, 10]) (by kernel_rfl) (by simp) ?_
        refine AllReadyH.cons rfl (fun K hK => ?_) (AllReadyH.cons rfl (fun K hK => ?_) AllReadyH.nil)
        · go_simp
          refine (toArray_res v0 v1 sa da _ L0 L1 (RV.out _ T0.out).1 (RV.out _ T0.out).2.1).mono ?_
          rintro e wa ⟨x0, x1, rfl, resa, hba⟩
          have T1 := hideP ((T0.out).trans (hba.mono (T0.out).size))
          have RA := hideP resa.rds
          clear hba resa
          refine hK.out _ _ T1.out (fun _ => ?_)
          clear hK
          refine wpAnyH_ready (rs := [5, 10]) (by kernel_rfl) (by simp) ?_
          refine AllReadyH.cons rfl (fun K hK => ?_) (AllReadyH.cons rfl (fun K hK => ?_) AllReadyH.nil)
          · go_simp
            refine (toArray_res v2 v3 sb db _ L2 L3 (RV.out _ T1.out).2.2.1 (RV.out _ T1.out).2.2.2).mono ?_
            rintro e wb ⟨x2, x3, rfl, resb, hbb⟩
            have T2 := hideP ((T1.out).trans (hbb.mono (T1.out).size))
            have RB := hideP resb.rds
            have RA2 := hideP (And.intro ((RA.out.1.keep hbb).up hbb.size) ((RA.out.2.keep hbb).up hbb.size))
            clear hbb resb
            refine hK.out _ _ T2.out (fun _ => ?_)
            clear hK
            refine wpAnyH_ready (rs := [6, 10]) (by kernel_rfl) (by simp) ?_
            refine AllReadyH.cons rfl (fun K hK => ?_) (AllReadyH.cons rfl (fun K hK => ?_) AllReadyH.nil)
            · go_simp
              refine (HS.out _ _ _ _ _ LL RA2.out.1 RA2.out.2 RB.out.1 RB.out.2).mono ?_
              rintro e wc5 ⟨hbc, u0, u1, rfl, resc⟩
              have T3 := hideP ((T2.out).trans (hbc.mono (T2.out).size))
              have RC := hideP resc
              obtain ⟨z0, y0, z1, y1, ez0, ez1⟩ := resc.forms
              subst ez0
              subst ez1
              clear hbc resc
              refine hK.out _ _ T3.out (fun _ => ?_)
              clear hK
              refine wpAnyH_take (i := 7) (v := .tuple #[.agg #[.slice z0 S.length y0, .slice z1 D.length y1], .int .i64 c]) rfl (by kernel_rfl) (by kernel_rfl) (by kernel_rfl) (fun _ _ _ h => h) (Or.inl ⟨by rfl, ?_⟩) T3.out ?_
              · intro w' hS
                clear hS
                go_simp
              refine wpAnyH_take (i := 8) (v := .agg #[.slice z0 S.length y0, .slice z1 D.length y1]) rfl (by kernel_rfl) (by kernel_rfl) (by kernel_rfl) (fun _ _ _ h => h) (Or.inl ⟨by rfl, ?_⟩) T3.out ?_
              · intro w' hS
                clear hS
                go_simp
              refine wpAnyH_take (i := 9) (v := .int .i64 c) rfl (by kernel_rfl) (by kernel_rfl) (by kernel_rfl) (fun _ _ _ h => h) (Or.inl ⟨by rfl, ?_⟩) T3.out ?_
              · intro w' hS
                clear hS
                go_simp
              refine wpAnyH_ready (rs := [10]) (by kernel_rfl) (by simp) ?_
              refine AllReadyH.cons rfl (fun K hK => ?_) AllReadyH.nil
              go_simp
              have T4 : Hid (Below wv.heap.size wv (wc5.alloc (.cells #[.slice none 0 0, .slice none 0 0] 26))) := (T3.out).alloc (T3.out).size _
              have SL4 : Hid (Slot wv wc5.heap.size (wc5.alloc (.cells #[.slice none 0 0, .slice none 0 0] 26))) := Slot.new (T3.out).size 26
              refine hK.out _ _ T4.out (fun _ => ?_)
              clear hK
              have KL : Hid (Below wc5.heap.size wc5 (wc5.alloc (.cells #[.slice none 0 0, .slice none 0 0] 26))) := (Below.refl _ _).alloc (Nat.le_refl _) _
              refine wpAnyH_ready (rs := [11]) (by kernel_rfl) (by simp) ?_
              refine AllReadyH.cons rfl (fun K hK => ?_) AllReadyH.nil
              have GT := hideP (got_of T4.out SL4.out ((RC.out.1.rd).keep KL.out |>.up KL.out.size) ((RC.out.2.1.rd).keep KL.out |>.up KL.out.size) (own_ne_hi RC.out.1 (Nat.le_refl _)) (own_ne_hi RC.out.2.1 (Nat.le_refl _)))
              have hA1 := (SL4.out).2.1
              have cA0 := (SL4.out).2.2.1
              have cA1 := (SL4.out).2.2.2.1
              have fA := (SL4.out).2.2.2.2
              generalize wc5.alloc (.cells #[.slice none 0 0, .slice none 0 0] 26) = wz at *
              go_simp
              refine hK.out _ _ GT.out.bel (fun _ => ?_)
              clear hK
              refine wpAnyH_ready (rs := [12]) (by kernel_rfl) (by simp) ?_
              refine AllReadyH.cons rfl (fun K hK => ?_) AllReadyH.nil
              go_simp
              refine hK.out _ _ GT.out.bel (fun _ => ?_)
              clear hK
              refine wpAnyH_done (by kernel_rfl) ?_ _
              clear cA0 cA1 fA
              go_wp2_with fail
              go_meet
              case rel => exact ⟨_, _, _, rfl, rfl, GT⟩
            · go_simp
              have T3a : Hid (Below wv.heap.size wv (wb.alloc (.cells #[.slice none 0 0, .slice none 0 0] 26))) := (T2.out).alloc (T2.out).size _
              have SL3a : Hid (Slot wv wb.heap.size (wb.alloc (.cells #[.slice none 0 0, .slice none 0 0] 26))) := Slot.new (T2.out).size 26
              refine hK.out _ _ T3a.out (fun _ => ?_)
              clear hK
              have KA3 : Hid (Below wb.heap.size wb (wb.alloc (.cells #[.slice none 0 0, .slice none 0 0] 26))) := (Below.refl _ _).alloc (Nat.le_refl _) _
              have RA3 := hideP (And.intro ((RA2.out.1.keep KA3.out).up KA3.out.size) ((RA2.out.2.keep KA3.out).up KA3.out.size))
              have RB3 := hideP (And.intro ((RB.out.1.keep KA3.out).up KA3.out.size) ((RB.out.2.keep KA3.out).up KA3.out.size))
              refine wpAnyH_ready (rs := [6]) (by kernel_rfl) (by simp) ?_
              refine AllReadyH.cons rfl (fun K hK => ?_) AllReadyH.nil
              go_simp
              refine (HS.out _ _ _ _ _ LL RA3.out.1 RA3.out.2 RB3.out.1 RB3.out.2).mono ?_
              rintro e wc5 ⟨hbc, u0, u1, rfl, resc⟩
              have T4 := hideP ((T3a.out).trans (hbc.mono (T3a.out).size))
              have RC := hideP resc
              obtain ⟨z0, y0, z1, y1, ez0, ez1⟩ := resc.forms
              subst ez0
              subst ez1
              have SL3 := hideP (SL3a.out.keep hbc)
              have SA := hideP (SL3a.out.2.1)
              clear hbc resc
              refine hK.out _ _ T4.out (fun _ => ?_)
              clear hK
              refine wpAnyH_take (i := 7) (v := .tuple #[.agg #[.slice z0 S.length y0, .slice z1 D.length y1], .int .i64 c]) rfl (by kernel_rfl) (by kernel_rfl) (by kernel_rfl) (fun _ _ _ h => h) (Or.inl ⟨by rfl, ?_⟩) T4.out ?_
              · intro w' hS
                clear hS
                go_simp
              refine wpAnyH_take (i := 8) (v := .agg #[.slice z0 S.length y0, .slice z1 D.length y1]) rfl (by kernel_rfl) (by kernel_rfl) (by kernel_rfl) (fun _ _ _ h => h) (Or.inl ⟨by rfl, ?_⟩) T4.out ?_
              · intro w' hS
                clear hS
                go_simp
              refine wpAnyH_take (i := 9) (v := .int .i64 c) rfl (by kernel_rfl) (by kernel_rfl) (by kernel_rfl) (fun _ _ _ h => h) (Or.inl ⟨by rfl, ?_⟩) T4.out ?_
              · intro w' hS
                clear hS
                go_simp
              refine wpAnyH_ready (rs := [11]) (by kernel_rfl) (by simp) ?_
              refine AllReadyH.cons rfl (fun K hK => ?_) AllReadyH.nil
              have GT := hideP (got_of T4.out SL3.out RC.out.1.rd RC.out.2.1.rd (own_ne_lo RC.out.1 SA.out) (own_ne_lo RC.out.2.1 SA.out))
              have hA1 := (SL3.out).2.1
              have cA0 := (SL3.out).2.2.1
              have cA1 := (SL3.out).2.2.2.1
              have fA := (SL3.out).2.2.2.2
              go_simp
              refine hK.out _ _ GT.out.bel (fun _ => ?_)
              clear hK
              refine wpAnyH_ready (rs := [12]) (by kernel_rfl) (by simp) ?_
              refine AllReadyH.cons rfl (fun K hK => ?_) AllReadyH.nil
              go_simp
              refine hK.out _ _ GT.out.bel (fun _ => ?_)
              clear hK
              refine wpAnyH_done (by kernel_rfl) ?_ _
              clear cA0 cA1 fA
              go_wp2_with fail
              go_meet
              case rel => exact ⟨_, _, _, rfl, rfl, GT⟩
          · go_simp
            have T1a : Hid (Below wv.heap.size wv (wa.alloc (.cells #[.slice none 0 0, .slice none 0 0] 26))) := (T1.out).alloc (T1.out).size _
            have SL1a : Hid (Slot wv wa.heap.size (wa.alloc (.cells #[.slice none 0 0, .slice none 0 0] 26))) := Slot.new (T1.out).size 26
            refine hK.out _ _ T1a.out (fun _ => ?_)
            clear hK
            have KA1 : Hid (Below wa.heap.size wa (wa.alloc (.cells #[.slice none 0 0, .slice none 0 0] 26))) := (Below.refl _ _).alloc (Nat.le_refl _) _
            have RA1 := And.intro ((RA.out.1.keep KA1.out).up KA1.out.size) ((RA.out.2.keep KA1.out).up KA1.out.size)
            have HRA1 := hideP RA1
            clear RA1
            refine wpAnyH_ready (rs := [5]) (by kernel_rfl) (by simp) ?_
            refine AllReadyH.cons rfl (fun K hK => ?_) AllReadyH.nil
            go_simp
            refine (toArray_res v2 v3 sb db _ L2 L3 (RV.out _ T1a.out).2.2.1 (RV.out _ T1a.out).2.2.2).mono ?_
            rintro e wb ⟨x2, x3, rfl, resb, hbb⟩
            have T2 := hideP ((T1a.out).trans (hbb.mono (T1a.out).size))
            have RB := hideP resb.rds
            have RA2 := hideP (And.intro ((HRA1.out.1.keep hbb).up hbb.size) ((HRA1.out.2.keep hbb).up hbb.size))
            have SL2 := hideP (SL1a.out.keep hbb)
            clear hbb resb
            refine hK.out _ _ T2.out (fun _ => ?_)
            clear hK
            refine wpAnyH_ready (rs := [6]) (by kernel_rfl) (by simp) ?_
            refine AllReadyH.cons rfl (fun K hK => ?_) AllReadyH.nil
            go_simp
            refine (HS.out _ _ _ _ _ LL RA2.out.1 RA2.out.2 RB.out.1 RB.out.2).mono ?_
            rintro e wc5 ⟨hbc, u0, u1, rfl, resc⟩
            have T4 := hideP ((T2.out).trans (hbc.mono (T2.out).size))
            have RC := hideP resc
            obtain ⟨z0, y0, z1, y1, ez0, ez1⟩ := resc.forms
            subst ez0
            subst ez1
            have SL3 := hideP (SL2.out.keep hbc)
            have SA := hideP (SL2.out.2.1)
            clear hbc resc
            refine hK.out _ _ T4.out (fun _ => ?_)
            clear hK
            refine wpAnyH_take (i := 7) (v := .tuple #[.agg #[.slice z0 S.length y0, .slice z1 D.length y1], .int .i64 c]) rfl (by kernel_rfl) (by kernel_rfl) (by kernel_rfl) (fun _ _ _ h => h) (Or.inl ⟨by rfl, ?_⟩) T4.out ?_
            · intro w' hS
              clear hS
              go_simp
            refine wpAnyH_take (i := 8) (v := .agg #[.slice z0 S.length y0, .slice z1 D.length y1]) rfl (by kernel_rfl) (by kernel_rfl) (by kernel_rfl) (fun _ _ _ h => h) (Or.inl ⟨by rfl, ?_⟩) T4.out ?_
            · intro w' hS
              clear hS
              go_simp
            refine wpAnyH_take (i := 9) (v := .int .i64 c) rfl (by kernel_rfl) (by kernel_rfl) (by kernel_rfl) (fun _ _ _ h => h) (Or.inl ⟨by rfl, ?_⟩) T4.out ?_
            · intro w' hS
              clear hS
              go_simp
            refine wpAnyH_ready (rs := [11]) (by kernel_rfl) (by simp) ?_
            refine AllReadyH.cons rfl (fun K hK => ?_) AllReadyH.nil
            have GT := hideP (got_of T4.out SL3.out RC.out.1.rd RC.out.2.1.rd (own_ne_lo RC.out.1 SA.out) (own_ne_lo RC.out.2.1 SA.out))
            have hA1 := (SL3.out).2.1
            have cA0 := (SL3.out).2.2.1
            have cA1 := (SL3.out).2.2.2.1
            have fA := (SL3.out).2.2.2.2
            go_simp
            refine hK.out _ _ GT.out.bel (fun _ => ?_)
            clear hK
            refine wpAnyH_ready (rs := [12]) (by kernel_rfl) (by simp) ?_
            refine AllReadyH.cons rfl (fun K hK => ?_) AllReadyH.nil
            go_simp
            refine hK.out _ _ GT.out.bel (fun _ => ?_)
            clear hK
            refine wpAnyH_done (by kernel_rfl) ?_ _
            clear cA0 cA1 fA
            go_wp2_with fail
            go_meet
            case rel => exact ⟨_, _, _, rfl, rfl, GT⟩
        · go_simp
          refine hK.out _ _ (TA.out _) (fun _ => ?_)
          clear hK
          have SL0 : Hid (Slot wv wv.heap.size (wv.alloc (.cells #[.slice none 0 0, .slice none 0 0] 26)).drew) := Slot.new (Nat.le_refl _) 26
          refine wpAnyH_ready (rs := [3]) (by kernel_rfl) (by simp) ?_
          refine AllReadyH.cons rfl (fun K hK => ?_) AllReadyH.nil
          go_simp
          refine (toArray_res v0 v1 sa da _ L0 L1 (RV.out _ (TA.out _)).1 (RV.out _ (TA.out _)).2.1).mono ?_
          rintro e wa ⟨x0, x1, rfl, resa, hba⟩
          have T1 := hideP (((TA.out _)).trans (hba.mono ((TA.out _)).size))
          have RA := hideP resa.rds
          have SL1 := hideP (SL0.out.keep hba)
          clear hba resa
          refine hK.out _ _ T1.out (fun _ => ?_)
          clear hK
          refine wpAnyH_ready (rs := [5]) (by kernel_rfl) (by simp) ?_
          refine AllReadyH.cons rfl (fun K hK => ?_) AllReadyH.nil
          go_simp
          refine (toArray_res v2 v3 sb db _ L2 L3 (RV.out _ T1.out).2.2.1 (RV.out _ T1.out).2.2.2).mono ?_
          rintro e wb ⟨x2, x3, rfl, resb, hbb⟩
          have T2 := hideP ((T1.out).trans (hbb.mono (T1.out).size))
          have RB := hideP resb.rds
          have RA2 := hideP (And.intro ((RA.out.1.keep hbb).up hbb.size) ((RA.out.2.keep hbb).up hbb.size))
          have SL2 := hideP (SL1.out.keep hbb)
          clear hbb resb
          refine hK.out _ _ T2.out (fun _ => ?_)
          clear hK
          refine wpAnyH_ready (rs := [6]) (by kernel_rfl) (by simp) ?_
          refine AllReadyH.cons rfl (fun K hK => ?_) AllReadyH.nil
          go_simp
          refine (HS.out _ _ _ _ _ LL RA2.out.1 RA2.out.2 RB.out.1 RB.out.2).mono ?_
          rintro e wc5 ⟨hbc, u0, u1, rfl, resc⟩
          have T4 := hideP ((T2.out).trans (hbc.mono (T2.out).size))
          have RC := hideP resc
          obtain ⟨z0, y0, z1, y1, ez0, ez1⟩ := resc.forms
          subst ez0
          subst ez1
          have SL3 := hideP (SL2.out.keep hbc)
          have SA := hideP (SL2.out.2.1)
          clear hbc resc
          refine hK.out _ _ T4.out (fun _ => ?_)
          clear hK
          refine wpAnyH_take (i := 7) (v := .tuple #[.agg #[.slice z0 S.length y0, .slice z1 D.length y1], .int .i64 c]) rfl (by kernel_rfl) (by kernel_rfl) (by kernel_rfl) (fun _ _ _ h => h) (Or.inl ⟨by rfl, ?_⟩) T4.out ?_
          · intro w' hS
            clear hS
            go_simp
          refine wpAnyH_take (i := 8) (v := .agg #[.slice z0 S.length y0, .slice z1 D.length y1]) rfl (by kernel_rfl) (by kernel_rfl) (by kernel_rfl) (fun _ _ _ h => h) (Or.inl ⟨by rfl, ?_⟩) T4.out ?_
          · intro w' hS
            clear hS
            go_simp
          refine wpAnyH_take (i := 9) (v := .int .i64 c) rfl (by kernel_rfl) (by kernel_rfl) (by kernel_rfl) (fun _ _ _ h => h) (Or.inl ⟨by rfl, ?_⟩) T4.out ?_
          · intro w' hS
            clear hS
            go_simp
          refine wpAnyH_ready (rs := [11]) (by kernel_rfl) (by simp) ?_
          refine AllReadyH.cons rfl (fun K hK => ?_) AllReadyH.nil
          have GT := hideP (got_of T4.out SL3.out RC.out.1.rd RC.out.2.1.rd (own_ne_lo RC.out.1 SA.out) (own_ne_lo RC.out.2.1 SA.out))
          have hA1 := (SL3.out).2.1
          have cA0 := (SL3.out).2.2.1
          have cA1 := (SL3.out).2.2.2.1
          have fA := (SL3.out).2.2.2.2
          go_simp
          refine hK.out _ _ GT.out.bel (fun _ => ?_)
          clear hK
          refine wpAnyH_ready (rs := [12]) (by kernel_rfl) (by simp) ?_
          refine AllReadyH.cons rfl (fun K hK => ?_) AllReadyH.nil
          go_simp
          refine hK.out _ _ GT.out.bel (fun _ => ?_)
          clear hK
          refine wpAnyH_done (by kernel_rfl) ?_ _
          clear cA0 cA1 fA
          go_wp2_with fail
          go_meet
          case rel => exact ⟨_, _, _, rfl, rfl, GT⟩
      case rest =>
        rename World => wo
        obtain ⟨A, u0, u1, rfl, rfl, G⟩ := hcut
        have E0 : Hid (Env2 w A wo.heap.size v0 v1 v2 v3 u0 u1 S D wo) :=
          ⟨B2.out.trans (G.out.bel.mono (by omega)), by have := G.out.lo; omega, G.out.box.1, Nat.le_refl _, X20.out.keep G.out.bel, X21.out.keep G.out.bel, G.out.box, G.out.rd0, G.out.rd1⟩
        have szo : w.heap.size + 1 + 1 ≤ wo.heap.size := by have := G.out.bel.size; omega
        obtain ⟨a0, d0, e0⟩ := G.out.rd0.form
        obtain ⟨a1, d1, e1⟩ := G.out.rd1.form
        subst e0
        subst e1
        clear G RV PL T0 TA B2 X20 X21 HS sz2 hneg hneg2 sz1 B1 B0
        have RW : Hid (∀ W, Below w.heap.size w W → Rd W.heap.size W v0 sa ∧ Rd W.heap.size W v1 da ∧ Rd W.heap.size W v2 sb ∧ Rd W.heap.size W v3 db) := fun W k =>
          ⟨(H0.out.keep k).up k.size, (H1.out.keep k).up k.size, (H2.out.keep k).up k.size, (H3.out.keep k).up k.size⟩
        clear H0 H1 H2 H3
        obtain ⟨_, c00, c01⟩ := E0.out.box0
        -- the copies that the program gets
        go_wp2_with fail
        refine (toArray_res v0 v1 sa da _ L0 L1 (RW.out _ E0.out.bel).1 (RW.out _ E0.out.bel).2.1).mono ?_
        rintro e w4 ⟨x0, x1, rfl, res4, hb4⟩
        have E4 := hideP (E0.out.keep hb4)
        have sz4 : wo.heap.size ≤ w4.heap.size := hb4.size
        have A4 := hideP (Arr.new res4 26)
        have E4' := hideP (E4.out.keep ((Below.refl _ _).alloc (Nat.le_refl _) (.cells #[sl x0 sa.length, sl x1 da.length] 26)))
        clear hb4 res4 c00 c01 E0 E4
        obtain ⟨_, c10, c11⟩ := E4'.out.box1
        go_wp2_with fail
        refine (toArray_res v2 v3 sb db _ L2 L3 (RW.out _ E4'.out.bel).2.2.1 (RW.out _ E4'.out.bel).2.2.2).mono ?_
        rintro e w5 ⟨x2, x3, rfl, res5, hb5⟩
        have E5 := hideP (E4'.out.keep hb5)
        have A5 := hideP (A4.out.keep hb5)
        have sz5 : w4.heap.size + 1 ≤ w5.heap.size := by have := hb5.size; simpa using this
        have res5' : Res (w4.heap.size + 1) w5 (sl x2 sb.length) (sl x3 db.length) sb db := by simpa using res5
        have C5 := hideP (Arr.new res5' 26)
        have K5 : Hid (Below w5.heap.size w5 (w5.alloc (.cells #[sl x2 sb.length, sl x3 db.length] 26))) := (Below.refl _ _).alloc (Nat.le_refl _) _
        have E5' := hideP (E5.out.keep K5.out)
        have A5' := hideP (A5.out.keep K5.out)
        clear hb5 res5 res5' c10 c11 E4' A4 E5 A5 K5
        obtain ⟨_, cx0, cx1⟩ := A5'.out.box
        go_wp2_with fail
        refine (HI.out _ _ _ _ _ LL A5'.out.res.rds.1 A5'.out.res.rds.2 C5.out.res.rds.1 C5.out.res.rds.2).mono ?_
        rintro e w6 ⟨hb6, p0, p1, rfl, res6⟩
        have E6 := hideP (E5'.out.keep hb6)
        have A6 := hideP (A5'.out.keep hb6)
        have C6 := hideP (C5.out.keep hb6)
        have sz6 : w5.heap.size + 1 ≤ w6.heap.size := by have := hb6.size; simpa using this
        have res6' : Res (w5.heap.size + 1) w6 p0 p1 S D := by simpa using res6
        have G6 := hideP (Arr.new res6' 26)
        have K6 : Hid (Below w6.heap.size w6 (w6.alloc (.cells #[p0, p1] 26))) := (Below.refl _ _).alloc (Nat.le_refl _) _
        have E6' := hideP (E6.out.keep K6.out)
        have A6' := hideP (A6.out.keep K6.out)
        have C6' := hideP (C6.out.keep K6.out)
        obtain ⟨q0, f0, q1, f1, e0, e1⟩ := res6.forms
        subst e0
        subst e1
        clear hb6 res6 res6' cx0 cx1 E5' A5' C5 E6 A6 C6 K6
        obtain ⟨_, cw0, cw1⟩ := E6'.out.boxW
        go_wp2_with fail
        refine (eqArray_same _ _ _ _ S D _ lS lD G6.out.res.rds.1 G6.out.res.rds.2 (E6'.out.rd0.up E6'.out.le) (E6'.out.rd1.up E6'.out.le)).mono ?_
        rintro e w7 ⟨rfl, hb7⟩
        have E7 := hideP (E6'.out.keep hb7)
        have A7 := hideP (A6'.out.keep hb7)
        have C7 := hideP (C6'.out.keep hb7)
        have G7 := hideP (G6.out.keep hb7)
        clear hb7 E6' A6' C6' G6 cw0 cw1
        go_wp2_with fail
        -- the first argument is as it was
        have D7 : Hid (Below w7.heap.size w7 w7.drew) := (Below.refl _ _).drew
        have P8 : Hid (∀ w', Below w7.heap.size w7 w' → w'.cell? ⟨w4.heap.size, 0, none⟩ = some (sl x0 sa.length) ∧ w'.cell? ⟨w4.heap.size, 1, none⟩ = some (sl x1 da.length)) := fun w' h => (A7.out.box.keep h).2
        have P3 : Hid (∀ w', Below w7.heap.size w7 w' → w'.cell? ⟨w.heap.size, 0, none⟩ = some v0 ∧ w'.cell? ⟨w.heap.size, 1, none⟩ = some v1) := fun w' h => (E7.out.box0.keep h).2
        refine wp_region_held (S := fun w' => Below w7.heap.size w7 w') (by kernel_rfl) ?_
        change wpAnyH _ _ _ _ _ _ _ _ (World.drew _)
        refine wpAnyH_take (i := 0) (v := .agg #[sl x0 sa.length, sl x1 da.length]) rfl (by kernel_rfl) (by kernel_rfl) (by kernel_rfl) (fun _ _ _ h => h) (Or.inl ⟨by rfl, ?_⟩) D7.out ?_
        · intro w' hS
          obtain ⟨y0, y1⟩ := P8.out w' hS
          clear hS
          go_simp
        refine wpAnyH_take (i := 1) (v := .agg #[v0, v1]) rfl (by kernel_rfl) (by kernel_rfl) (by kernel_rfl) (fun _ _ _ h => h) (Or.inl ⟨by rfl, ?_⟩) D7.out ?_
        · intro w' hS
          obtain ⟨y0, y1⟩ := P3.out w' hS
          clear hS
          go_simp
        refine wpAnyH_ready (rs := [2]) (by kernel_rfl) (by simp) ?_
        refine AllReadyH.cons rfl (fun K hK => ?_) AllReadyH.nil
        go_simp
        have Q7 := hideP (RW.out w7.drew E7.out.bel.drew)
        refine (toArray_res v0 v1 sa da w7.drew L0 L1 Q7.out.1 Q7.out.2.1).mono ?_
        rintro e w8 ⟨y0, y1, rfl, res8, hb8⟩
        have B8 := hideP (D7.out.trans hb8)
        have E8 := hideP (E7.out.keep B8.out)
        have A8 := hideP (A7.out.keep B8.out)
        have C8 := hideP (C7.out.keep B8.out)
        have G8 := hideP (G7.out.keep B8.out)
        have R8 := hideP res8.rds
        clear res8 hb8 Q7 P8 P3 D7
        refine hK.out _ _ B8.out (fun _ => ?_)
        clear hK
        refine wpAnyH_ready (rs := [3]) (by kernel_rfl) (by simp) ?_
        refine AllReadyH.cons rfl (fun K hK => ?_) AllReadyH.nil
        go_simp
        refine (eqArray_same _ _ _ _ sa da _ L0 L1 A8.out.res.rds.1 A8.out.res.rds.2 R8.out.1 R8.out.2).mono ?_
        rintro e w9 ⟨rfl, hb9⟩
        have E9 := hideP (E8.out.keep hb9)
        have A9 := hideP (A8.out.keep hb9)
        have C9 := hideP (C8.out.keep hb9)
        have G9 := hideP (G8.out.keep hb9)
        have B9 := hideP (B8.out.trans (hb9.mono B8.out.size))
        clear hb9 E8 A8 C8 G8 R8 E7 A7 C7 G7 B8
        refine hK.out _ _ B9.out (fun _ => ?_)
        clear hK
        refine wpAnyH_ready (rs := [4]) (by kernel_rfl) (by simp) ?_
        refine AllReadyH.cons rfl (fun K hK => ?_) AllReadyH.nil
        go_simp
        refine hK.out _ _ B9.out (fun _ => ?_)
        clear hK B9
        refine wpAnyH_done (by kernel_rfl) ?_ _
        go_wp2_with fail
        -- the second argument is as it was
        have D9 : Hid (Below w9.heap.size w9 w9.drew) := (Below.refl _ _).drew
        have P8 : Hid (∀ w', Below w9.heap.size w9 w' → w'.cell? ⟨w5.heap.size, 0, none⟩ = some (sl x2 sb.length) ∧ w'.cell? ⟨w5.heap.size, 1, none⟩ = some (sl x3 db.length)) := fun w' h => (C9.out.box.keep h).2
        have P3 : Hid (∀ w', Below w9.heap.size w9 w' → w'.cell? ⟨w.heap.size + 1, 0, none⟩ = some v2 ∧ w'.cell? ⟨w.heap.size + 1, 1, none⟩ = some v3) := fun w' h => (E9.out.box1.keep h).2
        refine wp_region_held (S := fun w' => Below w9.heap.size w9 w') (by kernel_rfl) ?_
        change wpAnyH _ _ _ _ _ _ _ _ (World.drew _)
        refine wpAnyH_take (i := 0) (v := .agg #[sl x2 sb.length, sl x3 db.length]) rfl (by kernel_rfl) (by kernel_rfl) (by kernel_rfl) (fun _ _ _ h => h) (Or.inl ⟨by rfl, ?_⟩) D9.out ?_
        · intro w' hS
          obtain ⟨y0, y1⟩ := P8.out w' hS
          clear hS
          go_simp
        refine wpAnyH_take (i := 1) (v := .agg #[v2, v3]) rfl (by kernel_rfl) (by kernel_rfl) (by kernel_rfl) (fun _ _ _ h => h) (Or.inl ⟨by rfl, ?_⟩) D9.out ?_
        · intro w' hS
          obtain ⟨y0, y1⟩ := P3.out w' hS
          clear hS
          go_simp
        refine wpAnyH_ready (rs := [2]) (by kernel_rfl) (by simp) ?_
        refine AllReadyH.cons rfl (fun K hK => ?_) AllReadyH.nil
        go_simp
        have Q7 := hideP (RW.out w9.drew E9.out.bel.drew)
        refine (toArray_res v2 v3 sb db w9.drew L2 L3 Q7.out.2.2.1 Q7.out.2.2.2).mono ?_
        rintro e wa ⟨y2, y3, rfl, resa, hba⟩
        have Ba := hideP (D9.out.trans hba)
        have Ea := hideP (E9.out.keep Ba.out)
        have Aa := hideP (A9.out.keep Ba.out)
        have Ca := hideP (C9.out.keep Ba.out)
        have Ga := hideP (G9.out.keep Ba.out)
        have Ra := hideP resa.rds
        clear resa hba Q7 P8 P3 D9
        refine hK.out _ _ Ba.out (fun _ => ?_)
        clear hK
        refine wpAnyH_ready (rs := [3]) (by kernel_rfl) (by simp) ?_
        refine AllReadyH.cons rfl (fun K hK => ?_) AllReadyH.nil
        go_simp
        refine (eqArray_same _ _ _ _ sb db _ L2 L3 Ca.out.res.rds.1 Ca.out.res.rds.2 Ra.out.1 Ra.out.2).mono ?_
        rintro e wb ⟨rfl, hbb⟩
        have Eb := hideP (Ea.out.keep hbb)
        have Ab := hideP (Aa.out.keep hbb)
        have Cb := hideP (Ca.out.keep hbb)
        have Gb := hideP (Ga.out.keep hbb)
        have Bb := hideP (Ba.out.trans (hbb.mono Ba.out.size))
        clear hbb Ea Aa Ca Ga Ra E9 A9 C9 G9 Ba
        refine hK.out _ _ Bb.out (fun _ => ?_)
        clear hK
        refine wpAnyH_ready (rs := [4]) (by kernel_rfl) (by simp) ?_
        refine AllReadyH.cons rfl (fun K hK => ?_) AllReadyH.nil
        go_simp
        refine hK.out _ _ Bb.out (fun _ => ?_)
        clear hK Bb
        refine wpAnyH_done (by kernel_rfl) ?_ _
        obtain ⟨_, cx0, cx1⟩ := Ab.out.box
        go_wp2_with fail
        -- the arguments are marked
        refine (markArray_any _ _ _ 1 sa da _ L0 L1 (by omega) (by omega) Ab.out.res).mono ?_
        rintro e wd ⟨rfl, hkd, _⟩
        have Ed : Hid (Env2 w A wo.heap.size v0 v1 v2 v3 (.slice a0 S.length d0) (.slice a1 D.length d1) S D wd) :=
          Eb.out.below (hkd.below (B := wo.heap.size) Eb.out.le (fun k e => (rowOf_ge Ab.out.res.1 k e).1) (fun k e => (rowOf_ge Ab.out.res.2.1 k e).1)) (Nat.le_refl _)
        have Cd : Hid (Arr (w4.heap.size + 1) w5.heap.size (sl x2 sb.length) (sl x3 db.length) sb db wd) :=
          Cb.out.kept2 hkd sz5 (fun k e => Nat.lt_succ_of_lt (Ab.out.r0 k e)) (fun k e => Nat.lt_succ_of_lt (Ab.out.r1 k e))
        have Gd : Hid (Arr (w5.heap.size + 1) w6.heap.size (.slice q0 S.length f0) (.slice q1 D.length f1) S D wd) :=
          Gb.out.kept2 hkd sz6 (fun k e => by have := Ab.out.r0 k e; omega) (fun k e => by have := Ab.out.r1 k e; omega)
        clear hkd cx0 cx1 Ab Eb Gb Cb
        obtain ⟨_, cx0, cx1⟩ := Cd.out.box
        go_wp2_with fail
        refine (markArray_any _ _ _ (1 + sa.length + da.length) sb db _ L2 L3 (by omega) (by omega) Cd.out.res).mono ?_
        rintro e we ⟨rfl, hke, _⟩
        have Ee : Hid (Env2 w A wo.heap.size v0 v1 v2 v3 (.slice a0 S.length d0) (.slice a1 D.length d1) S D we) :=
          Ed.out.below (hke.below (B := w4.heap.size + 1) (by have := Cd.out.box.1; omega) (fun k e => (rowOf_ge Cd.out.res.1 k e).1) (fun k e => (rowOf_ge Cd.out.res.2.1 k e).1)) (by omega)
        have Ge : Hid (Arr (w5.heap.size + 1) w6.heap.size (.slice q0 S.length f0) (.slice q1 D.length f1) S D we) :=
          Gd.out.kept2 hke sz6 (fun k e => Nat.lt_succ_of_lt (Cd.out.r0 k e)) (fun k e => Nat.lt_succ_of_lt (Cd.out.r1 k e))
        clear hke cx0 cx1 Cd Ed Gd
        obtain ⟨_, cw0, cw1⟩ := Ee.out.boxW
        obtain ⟨_, cg0, cg1⟩ := Ge.out.box
        have kn : ¬ ((1 : Int) + sa.length + da.length + sb.length + db.length < 0) := by omega
        go_wp2_with fail
        refine (eqArray_same _ _ _ _ S D _ lS lD Ge.out.res.rds.1 Ge.out.res.rds.2 (Ee.out.rd0.up Ee.out.le) (Ee.out.rd1.up Ee.out.le)).mono ?_
        rintro e wf ⟨rfl, hbf⟩
        have Ef := hideP (Ee.out.keep hbf)
        have Gf := hideP (Ge.out.keep hbf)
        clear hbf Ee Ge cw0 cw1 cg0 cg1 kn
        obtain ⟨_, cg0, cg1⟩ := Gf.out.box
        go_wp2_with fail
        -- the answer is marked
        refine (markArray_any _ _ _ 1 S D _ lS lD (by omega) (by omega) Gf.out.res).mono ?_
        rintro e wg ⟨rfl, hkg, resg⟩
        have hbg := hkg.below (B := w5.heap.size + 1) (Nat.le_trans sz6 (Nat.le_of_lt Gf.out.box.1)) (fun k e => (rowOf_ge Gf.out.res.1 k e).1) (fun k e => (rowOf_ge Gf.out.res.2.1 k e).1)
        have Eg : Hid (Env2 w A wo.heap.size v0 v1 v2 v3 (.slice a0 S.length d0) (.slice a1 D.length d1) S D wg) := Ef.out.below hbg (by omega)
        have Xg := hideP (Gf.out.box.kept2 hkg Gf.out.r0 Gf.out.r1)
        have Rg := hideP resg.rds
        clear hkg resg hbg Ef Gf cg0 cg1
        obtain ⟨_, cg0, cg1⟩ := Xg.out
        go_wp2_with fail
        refine (heldArray_any _ _ 1 S.length D.length _ lS lD (by omega) (by omega) Rg.out.1 Rg.out.2).mono ?_
        rintro e wu ⟨rfl, hbu⟩
        have Eu := hideP (Eg.out.keep hbu)
        clear hbu Eg Xg Rg cg0 cg1
        have qn : ¬ ((1 : Int) + S.length + D.length < 0) := by omega
        have RU : Hid (∀ W, Below wu.heap.size wu W → Rd W.heap.size W v0 sa ∧ Rd W.heap.size W v1 da ∧ Rd W.heap.size W v2 sb ∧ Rd W.heap.size W v3 db) := fun W hb => RW.out W (Eu.out.bel.trans (hb.mono Eu.out.bel.size))
        have PU : Hid (∀ W, Below wu.heap.size wu W → (W.cell? ⟨w.heap.size, 0, none⟩ = some v0 ∧ W.cell? ⟨w.heap.size, 1, none⟩ = some v1) ∧ (W.cell? ⟨w.heap.size + 1, 0, none⟩ = some v2 ∧ W.cell? ⟨w.heap.size + 1, 1, none⟩ = some v3)) := fun W hb => ⟨(Eu.out.box0.keep hb).2, (Eu.out.box1.keep hb).2⟩
        have U0 : Hid (Below wu.heap.size wu wu.drew) := (Below.refl _ _).drew
        have UA : Hid (∀ o, Below wu.heap.size wu (wu.alloc o).drew) := fun o => ((Below.refl _ _).alloc (Nat.le_refl _) _).drew
        -- once more
        go_upto_region 31 with fail
        go_cut [19, 20] (fun s8 s9 wx => ∃ A u0 u1, s8 = .pointer (some ⟨A, 0, none⟩) ∧ s9 = .int .i64 c ∧ Hid (Got wu A u0 u1 S D wx))
        case first =>
            refine wp_region_held (S := fun w' => Below wu.heap.size wu w') (by kernel_rfl) ?_
            change wpAnyH _ _ _ _ _ _ _ _ (World.drew _)
            refine wpAnyH_take (i := 0) (v := .int .i64 f) rfl (by kernel_rfl) (by kernel_rfl) (by kernel_rfl) (fun _ _ _ h => h) (Or.inl ⟨by rfl, ?_⟩) U0.out ?_
            · intro w' hS
              clear hS
              go_simp
            refine wpAnyH_take (i := 1) (v := .int .i64 g) rfl (by kernel_rfl) (by kernel_rfl) (by kernel_rfl) (fun _ _ _ h => h) (Or.inl ⟨by rfl, ?_⟩) U0.out ?_
            · intro w' hS
              clear hS
              go_simp
            refine wpAnyH_take (i := 2) (v := .agg #[v0, v1]) rfl (by kernel_rfl) (by kernel_rfl) (by kernel_rfl) (fun _ _ _ h => h) (Or.inl ⟨by rfl, ?_⟩) U0.out ?_
            · intro w' hS
              obtain ⟨y0, y1⟩ := (PU.out w' hS).1
              clear hS
              go_simp
            refine wpAnyH_take (i := 4) (v := .agg #[v2, v3]) rfl (by kernel_rfl) (by kernel_rfl) (by kernel_rfl) (fun _ _ _ h => h) (Or.inl ⟨by rfl, ?_⟩) U0.out ?_
            · intro w' hS
              obtain ⟨y0, y1⟩ := (PU.out w' hS).2
              clear hS
              go_simp
            refine wpAnyH_ready (rs := [3, 10]) (by kernel_rfl) (by simp) ?_
            refine AllReadyH.cons rfl (fun K hK => ?_) (AllReadyH.cons rfl (fun K hK => ?_) AllReadyH.nil)
            · go_simp
              refine (toArray_res v0 v1 sa da _ L0 L1 (RU.out _ U0.out).1 (RU.out _ U0.out).2.1).mono ?_
              rintro e wa ⟨x0, x1, rfl, resa, hba⟩
              have T1 := hideP ((U0.out).trans (hba.mono (U0.out).size))
              have RA := hideP resa.rds
              clear hba resa
              refine hK.out _ _ T1.out (fun _ => ?_)
              clear hK
              refine wpAnyH_ready (rs := [5, 10]) (by kernel_rfl) (by simp) ?_
              refine AllReadyH.cons rfl (fun K hK => ?_) (AllReadyH.cons rfl (fun K hK => ?_) AllReadyH.nil)
              · go_simp
                refine (toArray_res v2 v3 sb db _ L2 L3 (RU.out _ T1.out).2.2.1 (RU.out _ T1.out).2.2.2).mono ?_
                rintro e wb ⟨x2, x3, rfl, resb, hbb⟩
                have T2 := hideP ((T1.out).trans (hbb.mono (T1.out).size))
                have RB := hideP resb.rds
                have RA2 := hideP (And.intro ((RA.out.1.keep hbb).up hbb.size) ((RA.out.2.keep hbb).up hbb.size))
                clear hbb resb
                refine hK.out _ _ T2.out (fun _ => ?_)
                clear hK
                refine wpAnyH_ready (rs := [6, 10]) (by kernel_rfl) (by simp) ?_
                refine AllReadyH.cons rfl (fun K hK => ?_) (AllReadyH.cons rfl (fun K hK => ?_) AllReadyH.nil)
                · go_simp
                  refine (HI.out _ _ _ _ _ LL RA2.out.1 RA2.out.2 RB.out.1 RB.out.2).mono ?_
                  rintro e wc5 ⟨hbc, u0, u1, rfl, resc⟩
                  have T3 := hideP ((T2.out).trans (hbc.mono (T2.out).size))
                  have RC := hideP resc
                  obtain ⟨z0, y0, z1, y1, ez0, ez1⟩ := resc.forms
                  subst ez0
                  subst ez1
                  clear hbc resc
                  refine hK.out _ _ T3.out (fun _ => ?_)
                  clear hK
                  refine wpAnyH_take (i := 7) (v := .tuple #[.agg #[.slice z0 S.length y0, .slice z1 D.length y1], .int .i64 c]) rfl (by kernel_rfl) (by kernel_rfl) (by kernel_rfl) (fun _ _ _ h => h) (Or.inl ⟨by rfl, ?_⟩) T3.out ?_
                  · intro w' hS
                    clear hS
                    go_simp
                  refine wpAnyH_take (i := 8) (v := .agg #[.slice z0 S.length y0, .slice z1 D.length y1]) rfl (by kernel_rfl) (by kernel_rfl) (by kernel_rfl) (fun _ _ _ h => h) (Or.inl ⟨by rfl, ?_⟩) T3.out ?_
                  · intro w' hS
                    clear hS
                    go_simp
                  refine wpAnyH_take (i := 9) (v := .int .i64 c) rfl (by kernel_rfl) (by kernel_rfl) (by kernel_rfl) (fun _ _ _ h => h) (Or.inl ⟨by rfl, ?_⟩) T3.out ?_
                  · intro w' hS
                    clear hS
                    go_simp
                  refine wpAnyH_ready (rs := [10]) (by kernel_rfl) (by simp) ?_
                  refine AllReadyH.cons rfl (fun K hK => ?_) AllReadyH.nil
                  go_simp
                  have T4 : Hid (Below wu.heap.size wu (wc5.alloc (.cells #[.slice none 0 0, .slice none 0 0] 26))) := (T3.out).alloc (T3.out).size _
                  have SL4 : Hid (Slot wu wc5.heap.size (wc5.alloc (.cells #[.slice none 0 0, .slice none 0 0] 26))) := Slot.new (T3.out).size 26
                  refine hK.out _ _ T4.out (fun _ => ?_)
                  clear hK
                  have KL : Hid (Below wc5.heap.size wc5 (wc5.alloc (.cells #[.slice none 0 0, .slice none 0 0] 26))) := (Below.refl _ _).alloc (Nat.le_refl _) _
                  refine wpAnyH_ready (rs := [11]) (by kernel_rfl) (by simp) ?_
                  refine AllReadyH.cons rfl (fun K hK => ?_) AllReadyH.nil
                  have GT := hideP (got_of T4.out SL4.out ((RC.out.1.rd).keep KL.out |>.up KL.out.size) ((RC.out.2.1.rd).keep KL.out |>.up KL.out.size) (own_ne_hi RC.out.1 (Nat.le_refl _)) (own_ne_hi RC.out.2.1 (Nat.le_refl _)))
                  have hA1 := (SL4.out).2.1
                  have cA0 := (SL4.out).2.2.1
                  have cA1 := (SL4.out).2.2.2.1
                  have fA := (SL4.out).2.2.2.2
                  generalize wc5.alloc (.cells #[.slice none 0 0, .slice none 0 0] 26) = wz at *
                  go_simp
                  refine hK.out _ _ GT.out.bel (fun _ => ?_)
                  clear hK
                  refine wpAnyH_ready (rs := [12]) (by kernel_rfl) (by simp) ?_
                  refine AllReadyH.cons rfl (fun K hK => ?_) AllReadyH.nil
                  go_simp
                  refine hK.out _ _ GT.out.bel (fun _ => ?_)
                  clear hK
                  refine wpAnyH_done (by kernel_rfl) ?_ _
                  clear cA0 cA1 fA
                  go_wp2_with fail
                  go_meet
                  case rel => exact ⟨_, _, _, rfl, rfl, GT⟩
                · go_simp
                  have T3a : Hid (Below wu.heap.size wu (wb.alloc (.cells #[.slice none 0 0, .slice none 0 0] 26))) := (T2.out).alloc (T2.out).size _
                  have SL3a : Hid (Slot wu wb.heap.size (wb.alloc (.cells #[.slice none 0 0, .slice none 0 0] 26))) := Slot.new (T2.out).size 26
                  refine hK.out _ _ T3a.out (fun _ => ?_)
                  clear hK
                  have KA3 : Hid (Below wb.heap.size wb (wb.alloc (.cells #[.slice none 0 0, .slice none 0 0] 26))) := (Below.refl _ _).alloc (Nat.le_refl _) _
                  have RA3 := hideP (And.intro ((RA2.out.1.keep KA3.out).up KA3.out.size) ((RA2.out.2.keep KA3.out).up KA3.out.size))
                  have RB3 := hideP (And.intro ((RB.out.1.keep KA3.out).up KA3.out.size) ((RB.out.2.keep KA3.out).up KA3.out.size))
                  refine wpAnyH_ready (rs := [6]) (by kernel_rfl) (by simp) ?_
                  refine AllReadyH.cons rfl (fun K hK => ?_) AllReadyH.nil
                  go_simp
                  refine (HI.out _ _ _ _ _ LL RA3.out.1 RA3.out.2 RB3.out.1 RB3.out.2).mono ?_
                  rintro e wc5 ⟨hbc, u0, u1, rfl, resc⟩
                  have T4 := hideP ((T3a.out).trans (hbc.mono (T3a.out).size))
                  have RC := hideP resc
                  obtain ⟨z0, y0, z1, y1, ez0, ez1⟩ := resc.forms
                  subst ez0
                  subst ez1
                  have SL3 := hideP (SL3a.out.keep hbc)
                  have SA := hideP (SL3a.out.2.1)
                  clear hbc resc
                  refine hK.out _ _ T4.out (fun _ => ?_)
                  clear hK
                  refine wpAnyH_take (i := 7) (v := .tuple #[.agg #[.slice z0 S.length y0, .slice z1 D.length y1], .int .i64 c]) rfl (by kernel_rfl) (by kernel_rfl) (by kernel_rfl) (fun _ _ _ h => h) (Or.inl ⟨by rfl, ?_⟩) T4.out ?_
                  · intro w' hS
                    clear hS
                    go_simp
                  refine wpAnyH_take (i := 8) (v := .agg #[.slice z0 S.length y0, .slice z1 D.length y1]) rfl (by kernel_rfl) (by kernel_rfl) (by kernel_rfl) (fun _ _ _ h => h) (Or.inl ⟨by rfl, ?_⟩) T4.out ?_
                  · intro w' hS
                    clear hS
                    go_simp
                  refine wpAnyH_take (i := 9) (v := .int .i64 c) rfl (by kernel_rfl) (by kernel_rfl) (by kernel_rfl) (fun _ _ _ h => h) (Or.inl ⟨by rfl, ?_⟩) T4.out ?_
                  · intro w' hS
                    clear hS
                    go_simp
                  refine wpAnyH_ready (rs := [11]) (by kernel_rfl) (by simp) ?_
                  refine AllReadyH.cons rfl (fun K hK => ?_) AllReadyH.nil
                  have GT := hideP (got_of T4.out SL3.out RC.out.1.rd RC.out.2.1.rd (own_ne_lo RC.out.1 SA.out) (own_ne_lo RC.out.2.1 SA.out))
                  have hA1 := (SL3.out).2.1
                  have cA0 := (SL3.out).2.2.1
                  have cA1 := (SL3.out).2.2.2.1
                  have fA := (SL3.out).2.2.2.2
                  go_simp
                  refine hK.out _ _ GT.out.bel (fun _ => ?_)
                  clear hK
                  refine wpAnyH_ready (rs := [12]) (by kernel_rfl) (by simp) ?_
                  refine AllReadyH.cons rfl (fun K hK => ?_) AllReadyH.nil
                  go_simp
                  refine hK.out _ _ GT.out.bel (fun _ => ?_)
                  clear hK
                  refine wpAnyH_done (by kernel_rfl) ?_ _
                  clear cA0 cA1 fA
                  go_wp2_with fail
                  go_meet
                  case rel => exact ⟨_, _, _, rfl, rfl, GT⟩
              · go_simp
                have T1a : Hid (Below wu.heap.size wu (wa.alloc (.cells #[.slice none 0 0, .slice none 0 0] 26))) := (T1.out).alloc (T1.out).size _
                have SL1a : Hid (Slot wu wa.heap.size (wa.alloc (.cells #[.slice none 0 0, .slice none 0 0] 26))) := Slot.new (T1.out).size 26
                refine hK.out _ _ T1a.out (fun _ => ?_)
                clear hK
                have KA1 : Hid (Below wa.heap.size wa (wa.alloc (.cells #[.slice none 0 0, .slice none 0 0] 26))) := (Below.refl _ _).alloc (Nat.le_refl _) _
                have RA1 := And.intro ((RA.out.1.keep KA1.out).up KA1.out.size) ((RA.out.2.keep KA1.out).up KA1.out.size)
                have HRA1 := hideP RA1
                clear RA1
                refine wpAnyH_ready (rs := [5]) (by kernel_rfl) (by simp) ?_
                refine AllReadyH.cons rfl (fun K hK => ?_) AllReadyH.nil
                go_simp
                refine (toArray_res v2 v3 sb db _ L2 L3 (RU.out _ T1a.out).2.2.1 (RU.out _ T1a.out).2.2.2).mono ?_
                rintro e wb ⟨x2, x3, rfl, resb, hbb⟩
                have T2 := hideP ((T1a.out).trans (hbb.mono (T1a.out).size))
                have RB := hideP resb.rds
                have RA2 := hideP (And.intro ((HRA1.out.1.keep hbb).up hbb.size) ((HRA1.out.2.keep hbb).up hbb.size))
                have SL2 := hideP (SL1a.out.keep hbb)
                clear hbb resb
                refine hK.out _ _ T2.out (fun _ => ?_)
                clear hK
                refine wpAnyH_ready (rs := [6]) (by kernel_rfl) (by simp) ?_
                refine AllReadyH.cons rfl (fun K hK => ?_) AllReadyH.nil
                go_simp
                refine (HI.out _ _ _ _ _ LL RA2.out.1 RA2.out.2 RB.out.1 RB.out.2).mono ?_
                rintro e wc5 ⟨hbc, u0, u1, rfl, resc⟩
                have T4 := hideP ((T2.out).trans (hbc.mono (T2.out).size))
                have RC := hideP resc
                obtain ⟨z0, y0, z1, y1, ez0, ez1⟩ := resc.forms
                subst ez0
                subst ez1
                have SL3 := hideP (SL2.out.keep hbc)
                have SA := hideP (SL2.out.2.1)
                clear hbc resc
                refine hK.out _ _ T4.out (fun _ => ?_)
                clear hK
                refine wpAnyH_take (i := 7) (v := .tuple #[.agg #[.slice z0 S.length y0, .slice z1 D.length y1], .int .i64 c]) rfl (by kernel_rfl) (by kernel_rfl) (by kernel_rfl) (fun _ _ _ h => h) (Or.inl ⟨by rfl, ?_⟩) T4.out ?_
                · intro w' hS
                  clear hS
                  go_simp
                refine wpAnyH_take (i := 8) (v := .agg #[.slice z0 S.length y0, .slice z1 D.length y1]) rfl (by kernel_rfl) (by kernel_rfl) (by kernel_rfl) (fun _ _ _ h => h) (Or.inl ⟨by rfl, ?_⟩) T4.out ?_
                · intro w' hS
                  clear hS
                  go_simp
                refine wpAnyH_take (i := 9) (v := .int .i64 c) rfl (by kernel_rfl) (by kernel_rfl) (by kernel_rfl) (fun _ _ _ h => h) (Or.inl ⟨by rfl, ?_⟩) T4.out ?_
                · intro w' hS
                  clear hS
                  go_simp
                refine wpAnyH_ready (rs := [11]) (by kernel_rfl) (by simp) ?_
                refine AllReadyH.cons rfl (fun K hK => ?_) AllReadyH.nil
                have GT := hideP (got_of T4.out SL3.out RC.out.1.rd RC.out.2.1.rd (own_ne_lo RC.out.1 SA.out) (own_ne_lo RC.out.2.1 SA.out))
                have hA1 := (SL3.out).2.1
                have cA0 := (SL3.out).2.2.1
                have cA1 := (SL3.out).2.2.2.1
                have fA := (SL3.out).2.2.2.2
                go_simp
                refine hK.out _ _ GT.out.bel (fun _ => ?_)
                clear hK
                refine wpAnyH_ready (rs := [12]) (by kernel_rfl) (by simp) ?_
                refine AllReadyH.cons rfl (fun K hK => ?_) AllReadyH.nil
                go_simp
                refine hK.out _ _ GT.out.bel (fun _ => ?_)
                clear hK
                refine wpAnyH_done (by kernel_rfl) ?_ _
                clear cA0 cA1 fA
                go_wp2_with fail
                go_meet
                case rel => exact ⟨_, _, _, rfl, rfl, GT⟩
            · go_simp
              refine hK.out _ _ (UA.out _) (fun _ => ?_)
              clear hK
              have SL0 : Hid (Slot wu wu.heap.size (wu.alloc (.cells #[.slice none 0 0, .slice none 0 0] 26)).drew) := Slot.new (Nat.le_refl _) 26
              refine wpAnyH_ready (rs := [3]) (by kernel_rfl) (by simp) ?_
              refine AllReadyH.cons rfl (fun K hK => ?_) AllReadyH.nil
              go_simp
              refine (toArray_res v0 v1 sa da _ L0 L1 (RU.out _ (UA.out _)).1 (RU.out _ (UA.out _)).2.1).mono ?_
              rintro e wa ⟨x0, x1, rfl, resa, hba⟩
              have T1 := hideP (((UA.out _)).trans (hba.mono ((UA.out _)).size))
              have RA := hideP resa.rds
              have SL1 := hideP (SL0.out.keep hba)
              clear hba resa
              refine hK.out _ _ T1.out (fun _ => ?_)
              clear hK
              refine wpAnyH_ready (rs := [5]) (by kernel_rfl) (by simp) ?_
              refine AllReadyH.cons rfl (fun K hK => ?_) AllReadyH.nil
              go_simp
              refine (toArray_res v2 v3 sb db _ L2 L3 (RU.out _ T1.out).2.2.1 (RU.out _ T1.out).2.2.2).mono ?_
              rintro e wb ⟨x2, x3, rfl, resb, hbb⟩
              have T2 := hideP ((T1.out).trans (hbb.mono (T1.out).size))
              have RB := hideP resb.rds
              have RA2 := hideP (And.intro ((RA.out.1.keep hbb).up hbb.size) ((RA.out.2.keep hbb).up hbb.size))
              have SL2 := hideP (SL1.out.keep hbb)
              clear hbb resb
              refine hK.out _ _ T2.out (fun _ => ?_)
              clear hK
              refine wpAnyH_ready (rs := [6]) (by kernel_rfl) (by simp) ?_
              refine AllReadyH.cons rfl (fun K hK => ?_) AllReadyH.nil
              go_simp
              refine (HI.out _ _ _ _ _ LL RA2.out.1 RA2.out.2 RB.out.1 RB.out.2).mono ?_
              rintro e wc5 ⟨hbc, u0, u1, rfl, resc⟩
              have T4 := hideP ((T2.out).trans (hbc.mono (T2.out).size))
              have RC := hideP resc
              obtain ⟨z0, y0, z1, y1, ez0, ez1⟩ := resc.forms
              subst ez0
              subst ez1
              have SL3 := hideP (SL2.out.keep hbc)
              have SA := hideP (SL2.out.2.1)
              clear hbc resc
              refine hK.out _ _ T4.out (fun _ => ?_)
              clear hK
              refine wpAnyH_take (i := 7) (v := .tuple #[.agg #[.slice z0 S.length y0, .slice z1 D.length y1], .int .i64 c]) rfl (by kernel_rfl) (by kernel_rfl) (by kernel_rfl) (fun _ _ _ h => h) (Or.inl ⟨by rfl, ?_⟩) T4.out ?_
              · intro w' hS
                clear hS
                go_simp
              refine wpAnyH_take (i := 8) (v := .agg #[.slice z0 S.length y0, .slice z1 D.length y1]) rfl (by kernel_rfl) (by kernel_rfl) (by kernel_rfl) (fun _ _ _ h => h) (Or.inl ⟨by rfl, ?_⟩) T4.out ?_
              · intro w' hS
                clear hS
                go_simp
              refine wpAnyH_take (i := 9) (v := .int .i64 c) rfl (by kernel_rfl) (by kernel_rfl) (by kernel_rfl) (fun _ _ _ h => h) (Or.inl ⟨by rfl, ?_⟩) T4.out ?_
              · intro w' hS
                clear hS
                go_simp
              refine wpAnyH_ready (rs := [11]) (by kernel_rfl) (by simp) ?_
              refine AllReadyH.cons rfl (fun K hK => ?_) AllReadyH.nil
              have GT := hideP (got_of T4.out SL3.out RC.out.1.rd RC.out.2.1.rd (own_ne_lo RC.out.1 SA.out) (own_ne_lo RC.out.2.1 SA.out))
              have hA1 := (SL3.out).2.1
              have cA0 := (SL3.out).2.2.1
              have cA1 := (SL3.out).2.2.2.1
              have fA := (SL3.out).2.2.2.2
              go_simp
              refine hK.out _ _ GT.out.bel (fun _ => ?_)
              clear hK
              refine wpAnyH_ready (rs := [12]) (by kernel_rfl) (by simp) ?_
              refine AllReadyH.cons rfl (fun K hK => ?_) AllReadyH.nil
              go_simp
              refine hK.out _ _ GT.out.bel (fun _ => ?_)
              clear hK
              refine wpAnyH_done (by kernel_rfl) ?_ _
              clear cA0 cA1 fA
              go_wp2_with fail
              go_meet
              case rel => exact ⟨_, _, _, rfl, rfl, GT⟩
        case rest =>
          rename World => wy
          obtain ⟨A', t0, t1, rfl, rfl, GY⟩ := hcut
          have Ey := hideP (Eu.out.keep GY.out.bel)
          obtain ⟨s0, i0, e0⟩ := GY.out.rd0.form
          obtain ⟨s1, i1, e1⟩ := GY.out.rd1.form
          subst e0
          subst e1
          clear RU PU U0 UA Eu HI RW
          obtain ⟨_, cw0, cw1⟩ := Ey.out.boxW
          obtain ⟨_, cg0, cg1⟩ := GY.out.box
          go_wp2_with fail
          refine (eqArray_same _ _ _ _ S D _ lS lD GY.out.rd0 GY.out.rd1 (Ey.out.rd0.up Ey.out.le) (Ey.out.rd1.up Ey.out.le)).mono ?_
          rintro e wz ⟨rfl, hbz⟩
          have Ez := hideP (Ey.out.keep hbz)
          clear hbz Ey GY cw0 cw1 cg0 cg1
          go_wp2_with fail
          go_ret
          exact ⟨rfl, Ez.out.bel⟩

end Go.Proofs.Ytjhflbhbegocdaa
