import Derived.Test.YtmobjomebmipdaaTwoR
namespace Go.Proofs.Ytmobjomebmipdaa
open Go.RowKit
set_option linter.unusedVariables false

set_option maxRecDepth 100000 in
set_option maxHeartbeats 4000000 in
/-- impl.copied -/
theorem copied_any (v0 v1 : Value) (sh da : List Int) (w : World) (hl0 : sh.length ≤ 1048576) (hl1 : da.length ≤ 1048576) (h0 : Rd w.heap.size w v0 sh) (h1 : Rd w.heap.size w v1 da) :
    Calls Try.prog 129 #[.agg #[v0, v1]] w (KPost w 0 sh da) := by
  have H0 := hideP h0
  have H1 := hideP h1
  obtain ⟨a0, d0, e0⟩ := h0.form
  obtain ⟨a1, d1, e1⟩ := h1.form
  subst e0
  subst e1
  clear h0 h1
  go_enter Try.func129, Try.ntmps129
  go_wp2_with fail
  have W : ∃ wb, wb = (w.alloc (.cells #[.slice a0 sh.length d0, .slice a1 da.length d1] 27)).alloc (.cells #[.slice none 0 0, .slice none 0 0] 27) := ⟨_, rfl⟩
  obtain ⟨wb, hwb⟩ := W
  have WS : Hid (wb.heap.size = w.heap.size + 1 + 1) := by show _ = _; rw [hwb]; simp
  have PB : Hid (∀ W, Below wb.heap.size wb W → (W.cell? ⟨w.heap.size + 1, 0, none⟩ = some (.slice none 0 0) ∧ W.cell? ⟨w.heap.size + 1, 1, none⟩ = some (.slice none 0 0) ∧ ∀ o, W.frozen? ⟨w.heap.size + 1, o, none⟩ = false) ∧ Below w.heap.size w W) := fun W hb => by
    subst hwb
    exact (boxes2 (hb.mono (by simp))).2
  have PA : Hid (∀ W, Below (w.heap.size + 1) wb W → W.cell? ⟨w.heap.size, 0, none⟩ = some (.slice a0 sh.length d0) ∧ W.cell? ⟨w.heap.size, 1, none⟩ = some (.slice a1 da.length d1)) := fun W hb => by
    have c := fun o => hb.cell (p := ⟨w.heap.size, o, none⟩) (by show w.heap.size < _; omega)
    rw [c, c, hwb]
    simp [go_sem]
  have RV : Hid (∀ W, Below wb.heap.size wb W → Rd W.heap.size W (.slice a0 sh.length d0) sh ∧ Rd W.heap.size W (.slice a1 da.length d1) da) := fun W hb => by
    have k := (PB.out W hb).2
    exact ⟨(H0.out.keep k).up k.size, (H1.out.keep k).up k.size⟩
  have SB : Hid (∀ W, Below wb.heap.size wb W → Below (w.heap.size + 1) wb W) := fun W hb => hb.mono (by rw [WS.out]; omega)
  rw [← hwb]
  clear hwb H0 H1
  refine wp_region_held (S := fun w' => Below (w.heap.size + 1) wb w') (by kernel_rfl) ?_
  change wpAnyH _ _ _ _ _ _ _ _ (World.drew _)
  have R0 := hideP (Rc.start wb)
  generalize World.drew wb = wn0 at R0 ⊢
  refine wpAnyH_take (i := 0) (v := .pointer (some ⟨w.heap.size, 0, none⟩)) rfl (by kernel_rfl) (by kernel_rfl) (by kernel_rfl) (fun _ _ _ h => h) (Or.inl ⟨by rfl, ?_⟩) (SB.out _ R0.out.bel) ?_
  · intro w' hS
    clear hS
    go_simp
  refine wpAnyH_take (i := 1) (v := .slice a0 sh.length d0) rfl (by kernel_rfl) (by kernel_rfl) (by kernel_rfl) (fun _ _ _ h => h) (Or.inl ⟨by rfl, ?_⟩) (SB.out _ R0.out.bel) ?_
  · intro w' hS
    have g0 := (PA.out w' hS).1
    clear hS
    go_simp
  refine wpAnyH_take (i := 4) (v := .pointer (some ⟨w.heap.size, 1, none⟩)) rfl (by kernel_rfl) (by kernel_rfl) (by kernel_rfl) (fun _ _ _ h => h) (Or.inl ⟨by rfl, ?_⟩) (SB.out _ R0.out.bel) ?_
  · intro w' hS
    clear hS
    go_simp
  refine wpAnyH_take (i := 5) (v := .slice a1 da.length d1) rfl (by kernel_rfl) (by kernel_rfl) (by kernel_rfl) (fun _ _ _ h => h) (Or.inl ⟨by rfl, ?_⟩) (SB.out _ R0.out.bel) ?_
  · intro w' hS
    have g0 := (PA.out w' hS).2
    clear hS
    go_simp
  refine wpAnyH_ready (rs := [2, 6]) (by kernel_rfl) (by simp) ?_
  refine AllReadyH.cons rfl (fun K hK => ?_) (AllReadyH.cons rfl (fun K hK => ?_) AllReadyH.nil)
  · go_simp
    have R1 := hideP (R0.out.lit0 (.slice a0 sh.length d0) 22)
    refine hK.out _ _ (SB.out _ R1.out.bel) (fun _ => ?_)
    clear hK R0
    generalize wn0.alloc (.cells #[.slice a0 sh.length d0] 22) = wn1 at *
    generalize wn0.heap.size = k0 at *
    refine wpAnyH_ready (rs := [3, 6]) (by kernel_rfl) (by simp) ?_
    refine AllReadyH.cons rfl (fun K hK => ?_) (AllReadyH.cons rfl (fun K hK => ?_) AllReadyH.nil)
    · go_simp
      refine (joined1_own _ _ sh _ (by omega) (R1.out.l0 _ _ rfl).1 (R1.out.l0 _ _ rfl).2 (RV.out _ R1.out.bel).1).mono ?_
      rintro e wn2 ⟨x0, y0, rfl, ho, hb⟩
      have R2 := hideP (R1.out.row0 ho hb)
      clear ho hb
      refine hK.out _ _ (SB.out _ R2.out.bel) (fun _ => ?_)
      clear hK R1
      refine wpAnyH_ready (rs := [6]) (by kernel_rfl) (by simp) ?_
      refine AllReadyH.cons rfl (fun K hK => ?_) AllReadyH.nil
      go_simp
      have R3 := hideP (R2.out.lit1 (.slice a1 da.length d1) 22)
      refine hK.out _ _ (SB.out _ R3.out.bel) (fun _ => ?_)
      clear hK R2
      generalize wn2.alloc (.cells #[.slice a1 da.length d1] 22) = wn3 at *
      generalize wn2.heap.size = k1 at *
      refine wpAnyH_ready (rs := [7]) (by kernel_rfl) (by simp) ?_
      refine AllReadyH.cons rfl (fun K hK => ?_) AllReadyH.nil
      go_simp
      refine (joined1_own _ _ da _ (by omega) (R3.out.l1 _ _ rfl).1 (R3.out.l1 _ _ rfl).2 (RV.out _ R3.out.bel).2).mono ?_
      rintro e wn4 ⟨x1, y1, rfl, ho, hb⟩
      have R4 := hideP (R3.out.row1 ho hb)
      clear ho hb
      refine hK.out _ _ (SB.out _ R4.out.bel) (fun _ => ?_)
      clear hK R3
      refine wpAnyH_take (i := 8) (v := .agg #[.slice x0 sh.length y0, .slice x1 da.length y1]) rfl (by kernel_rfl) (by kernel_rfl) (by kernel_rfl) (fun _ _ _ h => h) (Or.inl ⟨by rfl, ?_⟩) (SB.out _ R4.out.bel) ?_
      · intro w' hS
        clear hS
        go_simp
      refine wpAnyH_ready (rs := [9]) (by kernel_rfl) (by simp) ?_
      refine AllReadyH.cons rfl (fun K hK => ?_) AllReadyH.nil
      have RR := hideP R4.out.res
      have BB := hideP (PB.out _ R4.out.bel)
      have SS := hideP (SB.out _ R4.out.bel)
      have r0 := BB.out.1.1
      have r1 := BB.out.1.2.1
      have f2 := BB.out.1.2.2
      have hsz := R4.out.bel.size
      rw [WS.out] at hsz
      go_simp
      refine hK.out _ _ ((SS.out.setCell (by simp) _).setCell (by simp) _) (fun _ => ?_)
      clear hK
      refine wpAnyH_done (by kernel_rfl) ?_ _
      go_wp2_with fail
      refine bodyPost_ret (v := .agg #[.slice x0 sh.length y0, .slice x1 da.length y1]) (by simp [results, Try.results129, go_sem, r0, r1]) rfl ⟨(BB.out.2.setCell (by simp) _).setCell (by simp) _, .inl ⟨rfl, _, _, rfl, ?_, ?_, RR.out.2.2⟩⟩
      · exact Own.base (Own.store (Own.store RR.out.1 (by rw [WS.out]; omega) _) (by rw [WS.out]; omega) _) (by rw [WS.out]; omega)
      · exact Own.base (Own.store (Own.store RR.out.2.1 (by rw [WS.out]; omega) _) (by rw [WS.out]; omega) _) (by rw [WS.out]; omega)
    · go_simp
      have R2 := hideP (R1.out.lit1 (.slice a1 da.length d1) 22)
      refine hK.out _ _ (SB.out _ R2.out.bel) (fun _ => ?_)
      clear hK R1
      generalize wn1.alloc (.cells #[.slice a1 da.length d1] 22) = wn2 at *
      generalize wn1.heap.size = k1 at *
      refine wpAnyH_ready (rs := [3]) (by kernel_rfl) (by simp) ?_
      refine AllReadyH.cons rfl (fun K hK => ?_) AllReadyH.nil
      go_simp
      refine (joined1_own _ _ sh _ (by omega) (R2.out.l0 _ _ rfl).1 (R2.out.l0 _ _ rfl).2 (RV.out _ R2.out.bel).1).mono ?_
      rintro e wn3 ⟨x0, y0, rfl, ho, hb⟩
      have R3 := hideP (R2.out.row0 ho hb)
      clear ho hb
      refine hK.out _ _ (SB.out _ R3.out.bel) (fun _ => ?_)
      clear hK R2
      refine wpAnyH_ready (rs := [7]) (by kernel_rfl) (by simp) ?_
      refine AllReadyH.cons rfl (fun K hK => ?_) AllReadyH.nil
      go_simp
      refine (joined1_own _ _ da _ (by omega) (R3.out.l1 _ _ rfl).1 (R3.out.l1 _ _ rfl).2 (RV.out _ R3.out.bel).2).mono ?_
      rintro e wn4 ⟨x1, y1, rfl, ho, hb⟩
      have R4 := hideP (R3.out.row1 ho hb)
      clear ho hb
      refine hK.out _ _ (SB.out _ R4.out.bel) (fun _ => ?_)
      clear hK R3
      refine wpAnyH_take (i := 8) (v := .agg #[.slice x0 sh.length y0, .slice x1 da.length y1]) rfl (by kernel_rfl) (by kernel_rfl) (by kernel_rfl) (fun _ _ _ h => h) (Or.inl ⟨by rfl, ?_⟩) (SB.out _ R4.out.bel) ?_
      · intro w' hS
        clear hS
        go_simp
      refine wpAnyH_ready (rs := [9]) (by kernel_rfl) (by simp) ?_
      refine AllReadyH.cons rfl (fun K hK => ?_) AllReadyH.nil
      have RR := hideP R4.out.res
      have BB := hideP (PB.out _ R4.out.bel)
      have SS := hideP (SB.out _ R4.out.bel)
      have r0 := BB.out.1.1
      have r1 := BB.out.1.2.1
      have f2 := BB.out.1.2.2
      have hsz := R4.out.bel.size
      rw [WS.out] at hsz
      go_simp
      refine hK.out _ _ ((SS.out.setCell (by simp) _).setCell (by simp) _) (fun _ => ?_)
      clear hK
      refine wpAnyH_done (by kernel_rfl) ?_ _
      go_wp2_with fail
      refine bodyPost_ret (v := .agg #[.slice x0 sh.length y0, .slice x1 da.length y1]) (by simp [results, Try.results129, go_sem, r0, r1]) rfl ⟨(BB.out.2.setCell (by simp) _).setCell (by simp) _, .inl ⟨rfl, _, _, rfl, ?_, ?_, RR.out.2.2⟩⟩
      · exact Own.base (Own.store (Own.store RR.out.1 (by rw [WS.out]; omega) _) (by rw [WS.out]; omega) _) (by rw [WS.out]; omega)
      · exact Own.base (Own.store (Own.store RR.out.2.1 (by rw [WS.out]; omega) _) (by rw [WS.out]; omega) _) (by rw [WS.out]; omega)
  · go_simp
    have R1 := hideP (R0.out.lit1 (.slice a1 da.length d1) 22)
    refine hK.out _ _ (SB.out _ R1.out.bel) (fun _ => ?_)
    clear hK R0
    generalize wn0.alloc (.cells #[.slice a1 da.length d1] 22) = wn1 at *
    generalize wn0.heap.size = k1 at *
    refine wpAnyH_ready (rs := [2]) (by kernel_rfl) (by simp) ?_
    refine AllReadyH.cons rfl (fun K hK => ?_) AllReadyH.nil
    go_simp
    have R2 := hideP (R1.out.lit0 (.slice a0 sh.length d0) 22)
    refine hK.out _ _ (SB.out _ R2.out.bel) (fun _ => ?_)
    clear hK R1
    generalize wn1.alloc (.cells #[.slice a0 sh.length d0] 22) = wn2 at *
    generalize wn1.heap.size = k0 at *
    refine wpAnyH_ready (rs := [3]) (by kernel_rfl) (by simp) ?_
    refine AllReadyH.cons rfl (fun K hK => ?_) AllReadyH.nil
    go_simp
    refine (joined1_own _ _ sh _ (by omega) (R2.out.l0 _ _ rfl).1 (R2.out.l0 _ _ rfl).2 (RV.out _ R2.out.bel).1).mono ?_
    rintro e wn3 ⟨x0, y0, rfl, ho, hb⟩
    have R3 := hideP (R2.out.row0 ho hb)
    clear ho hb
    refine hK.out _ _ (SB.out _ R3.out.bel) (fun _ => ?_)
    clear hK R2
    refine wpAnyH_ready (rs := [7]) (by kernel_rfl) (by simp) ?_
    refine AllReadyH.cons rfl (fun K hK => ?_) AllReadyH.nil
    go_simp
    refine (joined1_own _ _ da _ (by omega) (R3.out.l1 _ _ rfl).1 (R3.out.l1 _ _ rfl).2 (RV.out _ R3.out.bel).2).mono ?_
    rintro e wn4 ⟨x1, y1, rfl, ho, hb⟩
    have R4 := hideP (R3.out.row1 ho hb)
    clear ho hb
    refine hK.out _ _ (SB.out _ R4.out.bel) (fun _ => ?_)
    clear hK R3
    refine wpAnyH_take (i := 8) (v := .agg #[.slice x0 sh.length y0, .slice x1 da.length y1]) rfl (by kernel_rfl) (by kernel_rfl) (by kernel_rfl) (fun _ _ _ h => h) (Or.inl ⟨by rfl, ?_⟩) (SB.out _ R4.out.bel) ?_
    · intro w' hS
      clear hS
      go_simp
    refine wpAnyH_ready (rs := [9]) (by kernel_rfl) (by simp) ?_
    refine AllReadyH.cons rfl (fun K hK => ?_) AllReadyH.nil
    have RR := hideP R4.out.res
    have BB := hideP (PB.out _ R4.out.bel)
    have SS := hideP (SB.out _ R4.out.bel)
    have r0 := BB.out.1.1
    have r1 := BB.out.1.2.1
    have f2 := BB.out.1.2.2
    have hsz := R4.out.bel.size
    rw [WS.out] at hsz
    go_simp
    refine hK.out _ _ ((SS.out.setCell (by simp) _).setCell (by simp) _) (fun _ => ?_)
    clear hK
    refine wpAnyH_done (by kernel_rfl) ?_ _
    go_wp2_with fail
    refine bodyPost_ret (v := .agg #[.slice x0 sh.length y0, .slice x1 da.length y1]) (by simp [results, Try.results129, go_sem, r0, r1]) rfl ⟨(BB.out.2.setCell (by simp) _).setCell (by simp) _, .inl ⟨rfl, _, _, rfl, ?_, ?_, RR.out.2.2⟩⟩
    · exact Own.base (Own.store (Own.store RR.out.1 (by rw [WS.out]; omega) _) (by rw [WS.out]; omega) _) (by rw [WS.out]; omega)
    · exact Own.base (Own.store (Own.store RR.out.2.1 (by rw [WS.out]; omega) _) (by rw [WS.out]; omega) _) (by rw [WS.out]; omega)

end Go.Proofs.Ytmobjomebmipdaa
