import Derived.Test.YtfangdhbadmolaaGreatDoorWo
namespace Go.Proofs.YtfangdhbadmolaaGreatDoor
open Go.RowKit
set_option linter.unusedVariables false

set_option maxRecDepth 100000 in
set_option maxHeartbeats 8000000 in
/-- spec.l7With -/
theorem l7With_any (u : Value) (fs : List Pl.Fl) (fa fb : ByteArray) (w : World) (hl : fs.length ≤ 1048576) (h : RdF w.heap.size w u fs) :
    Calls Tryz.prog 30 #[.agg #[u], .agg #[.string fa, .string fb]] w fun e w' => ∃ v, e = .returned (.agg #[v]) ∧ OwF w.heap.size w' v (Pl.withF fs (fa, fb)) ∧ Below w.heap.size w w' := by
  obtain ⟨ao, cap, e0⟩ := h.form
  subst e0
  generalize hn : fs.length = n at *
  have Hn : Hid (fs.length = n) := hn
  have HR := hideP (rd_at hn h)
  clear hn h
  have C1 : Hid ((((w.alloc (.cells #[.slice ao n cap] 31)).alloc (.cells #[.string fa, .string fb] 59)).alloc (.cells #[.slice none 0 0] 31)).cell? ⟨w.heap.size, 0, none⟩ = some (.slice ao n cap) ∧ (((w.alloc (.cells #[.slice ao n cap] 31)).alloc (.cells #[.string fa, .string fb] 59)).alloc (.cells #[.slice none 0 0] 31)).cell? ⟨w.heap.size + 1, 0, none⟩ = some (.string fa) ∧ (((w.alloc (.cells #[.slice ao n cap] 31)).alloc (.cells #[.string fa, .string fb] 59)).alloc (.cells #[.slice none 0 0] 31)).cell? ⟨w.heap.size + 1, 1, none⟩ = some (.string fb) ∧ (((w.alloc (.cells #[.slice ao n cap] 31)).alloc (.cells #[.string fa, .string fb] 59)).alloc (.cells #[.slice none 0 0] 31)).cell? ⟨w.heap.size + 1 + 1, 0, none⟩ = some (.slice none 0 0) ∧ (((w.alloc (.cells #[.slice ao n cap] 31)).alloc (.cells #[.string fa, .string fb] 59)).alloc (.cells #[.slice none 0 0] 31)).frozen? ⟨w.heap.size + 1 + 1, 0, none⟩ = false) := ⟨by simp [go_sem], by simp [go_sem], by simp [go_sem], by simp [go_sem], by simp [go_sem]⟩
  have ST := hideP (Bld.start (((w.alloc (.cells #[.slice ao n cap] 31)).alloc (.cells #[.string fa, .string fb] 59)).alloc (.cells #[.slice none 0 0] 31)) (w.heap.size + 1 + 1 + 1) (by simp))
  have BW := hideP (below3 w (.cells #[.slice ao n cap] 31) (.cells #[.string fa, .string fb] 59) (.cells #[.slice none 0 0] 31))
  go_enter Tryz.func30, Tryz.ntmps30
  go_wp2_with fail
  generalize hW1 : (((w.alloc (.cells #[.slice ao n cap] 31)).alloc (.cells #[.string fa, .string fb] 59)).alloc (.cells #[.slice none 0 0] 31)) = W1 at *
  clear hW1
  go_loopw [6] (fun i wr => ∃ k : Nat, k ≤ n ∧ i = .int .i64 k ∧ Hid (∀ i, i < k → Pl.lt (Pl.at' fs i).1 fa = true) ∧ ∃ nv, Hid (Bld W1 (w.heap.size + 1 + 1 + 1) (w.heap.size + 1 + 1 + 1 + 1) (fs.take k) nv wr)) (fun i _ => n - (intOf i).toNat)
  case atStart => exact ⟨0, Nat.zero_le _, rfl, (by intro i hi; omega), _, ST⟩
  case round =>
    clear ST
    obtain ⟨k, hk, rfl, hall, nv, SB⟩ := hrel
    have q1 : wr.cell? ⟨w.heap.size, 0, none⟩ = some (.slice ao n cap) := (SB.out.lo.cell (p := ⟨w.heap.size, 0, none⟩) (by show w.heap.size < _; omega)).trans C1.out.1
    have q2 : wr.cell? ⟨w.heap.size + 1, 0, none⟩ = some (.string fa) := (SB.out.lo.cell (p := ⟨w.heap.size + 1, 0, none⟩) (by show w.heap.size + 1 < _; omega)).trans C1.out.2.1
    have HBW := hideP (BW.out.trans (SB.out.lo.mono (by omega)))
    obtain ⟨xo, yo, eo⟩ := own_form SB.out.own
    subst eo
    by_cases hlt : k < n
    · have hlt' : (k : Int) < (n : Int) := by omega
      cases hls : Pl.lt (Pl.at' fs k).1 fa
      · have HW := hideP (Pl.withF_at fs (fa, fb) k (by rw [Hn.out]; omega) hall.out (.inr hls))
        obtain ⟨b, off, e0, hb, hx0, hx1⟩ := HR.out k hlt
        rw [e0] at q1
        have hx0 : wr.cell? ⟨b, off + k * 2, none⟩ = some (.string (Pl.at' fs k).1) := (HBW.out.cell (p := ⟨b, off + k * 2, none⟩) hb).trans hx0
        have hx1 : wr.cell? ⟨b, off + k * 2 + 1, none⟩ = some (.string (Pl.at' fs k).2) := (HBW.out.cell (p := ⟨b, off + k * 2 + 1, none⟩) hb).trans hx1
        clear e0
        have e1 : Op.bytesLess (Pl.at' fs k).1.toList fa.toList = false := hls
        generalize (Pl.at' fs k).1 = ga at *
        clear hls hx1
        go_wp2
        go_quiet (fail)
        clear e1 hx0
        have SZ := hideP (SB.out.drewN nq)
        have q3 : (wr.drewN nq).cell? ⟨w.heap.size + 1, 0, none⟩ = some (.string fa) := (SZ.out.lo.cell (p := ⟨w.heap.size + 1, 0, none⟩) (by show w.heap.size + 1 < _; omega)).trans C1.out.2.1
        have q4 : (wr.drewN nq).cell? ⟨w.heap.size + 1, 1, none⟩ = some (.string fb) := (SZ.out.lo.cell (p := ⟨w.heap.size + 1, 1, none⟩) (by show w.heap.size + 1 < _; omega)).trans C1.out.2.2.1
        generalize wr.drewN nq = wz at SZ q3 q4 ⊢
        have hPz : w.heap.size + 1 + 1 + 1 + 1 < wz.heap.size := SZ.out.lt
        have p1 : wz.cell? ⟨w.heap.size + 1 + 1 + 1 + 1, 0, none⟩ = some (.slice xo (fs.take k).length yo) := cell_blk SZ.out.box
        have OA : Hid (∀ o, OwnF (w.heap.size + 1 + 1 + 1) (wz.alloc o) (.slice xo (fs.take k).length yo) (fs.take k)) := fun o => SZ.out.own.alloc o
        have RN := hideP (rdF_new wz (fa, fb) 59)
        have hln : (fs.take k).length ≤ n := by have := List.length_take_le' k fs; rw [Hn.out] at this; exact this
        generalize fs.take k = pre at *
        go_wp2_with (at_builtin; refine wpList_append_F (base := w.heap.size + 1 + 1 + 1) _ rfl _ _ rfl _ _ rfl rfl pre [(fa, fb)] (OA.out _) RN.out (by simp; omega) (by simp; omega) ?_)
        intro v' w9 ho9 hg9 _
        have OS := hideP (SZ.out.step hg9 ho9)
        obtain ⟨x9, y9, e9⟩ := own_form ho9
        rw [show (pre ++ [(fa, fb)]).length = pre.length + 1 by simp] at e9
        subst e9
        have p9 : w9.cell? ⟨w.heap.size + 1 + 1 + 1 + 1, 0, none⟩ = some (.slice xo pre.length yo) := cell_blk OS.out.1
        have f9 : w9.frozen? ⟨w.heap.size + 1 + 1 + 1 + 1, 0, none⟩ = false := frozen_blk OS.out.1
        clear ho9 hg9 p1 q3 q4 OA RN
        go_wp2_with fail
        clear p9 f9
        have S2 := hideP OS.out.2
        clear OS
        generalize w9.setCell ⟨w.heap.size + 1 + 1 + 1 + 1, 0, none⟩ (.slice x9 (pre.length + 1) y9) = wq at S2 ⊢
        clear SZ
        clear hPz
        go_loopw [7] (fun i wr => ∃ k : Nat, k ≤ n ∧ i = .int .i64 k ∧ ∃ nv, Hid (Bld W1 (w.heap.size + 1 + 1 + 1) (w.heap.size + 1 + 1 + 1 + 1) (pre ++ [(fa, fb)] ++ Pl.behF (fs.take k) fa) nv wr)) (fun i _ => n - (intOf i).toNat)
        case atStart => exact ⟨0, Nat.zero_le _, rfl, _, by simpa [Pl.behF] using S2⟩
        case round =>
          clear SB S2 q1 q2 HBW
          obtain ⟨j, hj, rfl, nv, SB⟩ := hrel
          have q1 : wr.cell? ⟨w.heap.size, 0, none⟩ = some (.slice ao n cap) := (SB.out.lo.cell (p := ⟨w.heap.size, 0, none⟩) (by show w.heap.size < _; omega)).trans C1.out.1
          have q2 : wr.cell? ⟨w.heap.size + 1, 0, none⟩ = some (.string fa) := (SB.out.lo.cell (p := ⟨w.heap.size + 1, 0, none⟩) (by show w.heap.size + 1 < _; omega)).trans C1.out.2.1
          have HBW := hideP (BW.out.trans (SB.out.lo.mono (by omega)))
          by_cases hlt : j < n
          · have hlt' : (j : Int) < (n : Int) := by omega
            obtain ⟨b, off, e0, hb, hx0, hx1⟩ := HR.out j hlt
            subst e0
            have hx0 : wr.cell? ⟨b, off + j * 2, none⟩ = some (.string (Pl.at' fs j).1) := (HBW.out.cell (p := ⟨b, off + j * 2, none⟩) hb).trans hx0
            have hx1 : wr.cell? ⟨b, off + j * 2 + 1, none⟩ = some (.string (Pl.at' fs j).2) := (HBW.out.cell (p := ⟨b, off + j * 2 + 1, none⟩) hb).trans hx1
            have LY := hideP (Pl.beh_yes fs fa j (by rw [Hn.out]; exact hlt))
            have LN := hideP (Pl.beh_no fs fa j (by rw [Hn.out]; exact hlt))
            have LL := hideP (Pl.beh_len fs fa j)
            generalize Pl.at' fs j = g at *
            obtain ⟨ga, gb⟩ := g
            simp only at hx0 hx1 LY LN
            obtain ⟨xo, yo, eo⟩ := own_form SB.out.own
            subst eo
            cases hbe : (Pl.lt ga fa || decide (ga = fa))
            · have LE := hideP (LY.out hbe)
              have e1 : (Op.bytesLess ga.toList fa.toList || ga.toList == fa.toList) = false := by rw [ba_eq]; exact hbe
              have A1 := hideP (show pre ++ [(fa, fb)] ++ Pl.behF (fs.take (j + 1)) fa = (pre ++ [(fa, fb)] ++ Pl.behF (fs.take j) fa) ++ [(ga, gb)] by rw [LE.out]; simp)
              have hls : (pre ++ [(fa, fb)] ++ Pl.behF (fs.take j) fa).length ≤ 3000000 := by have := LL.out; simp; omega
              clear hbe LY LN LE LL
              generalize pre ++ [(fa, fb)] ++ Pl.behF (fs.take j) fa = ls at *
              have X0 := hideP hx0
              have X1 := hideP hx1
              have Q1 := hideP q1
              go_wp2
              go_quiet (fail)
              go_wp2_with fail
              have SB := hideP (SB.out.drewN nq)
              have X0 : Hid ((wr.drewN nq).cell? ⟨b, off + j * 2, none⟩ = some (.string ga)) := ((below_drewN (Below.refl (b + 1) wr) nq).cell (p := ⟨b, off + j * 2, none⟩) (Nat.lt_succ_self b)).trans X0.out
              have X1 : Hid ((wr.drewN nq).cell? ⟨b, off + j * 2 + 1, none⟩ = some (.string gb)) := ((below_drewN (Below.refl (b + 1) wr) nq).cell (p := ⟨b, off + j * 2 + 1, none⟩) (Nat.lt_succ_self b)).trans X1.out
              have Q1 : Hid ((wr.drewN nq).cell? ⟨w.heap.size, 0, none⟩ = some (.slice (some ⟨b, off, none⟩) n cap)) := ((below_drewN (Below.refl (w.heap.size + 1) wr) nq).cell (p := ⟨w.heap.size, 0, none⟩) (Nat.lt_succ_self _)).trans Q1.out
              clear q1 q2 hx0 hx1 e1
              generalize wr.drewN nq = wz at SB X0 X1 Q1 ⊢
              have hPz : w.heap.size + 1 + 1 + 1 + 1 < wz.heap.size := SB.out.lt
              have hEz : w.heap.size + 1 + 1 + 1 ≤ wz.heap.size := by omega
              have L0 : Hid (∀ w', Below (w.heap.size + 1 + 1 + 1) wz w' → w'.cell? ⟨w.heap.size, 0, none⟩ = some (.slice (some ⟨b, off, none⟩) n cap)) := fun w' h => (h.cell (p := ⟨w.heap.size, 0, none⟩) (by show w.heap.size < _; omega)).trans Q1.out
              have L1 : Hid (∀ w', Below (w.heap.size + 1 + 1 + 1) wz w' → w'.cell? ⟨b, off + j * 2, none⟩ = some (.string ga) ∧ w'.cell? ⟨b, off + j * 2 + 1, none⟩ = some (.string gb)) := fun w' h => ⟨(h.cell (p := ⟨b, off + j * 2, none⟩) (by show b < _; omega)).trans X0.out, (h.cell (p := ⟨b, off + j * 2 + 1, none⟩) (by show b < _; omega)).trans X1.out⟩
              have p1 : wz.cell? ⟨w.heap.size + 1 + 1 + 1 + 1, 0, none⟩ = some (.slice xo ls.length yo) := cell_blk SB.out.box
              have D := hideP (show Below (w.heap.size + 1 + 1 + 1) wz wz.drew from (Below.refl _ _).drew)
              have DA : Hid (∀ o, Below (w.heap.size + 1 + 1 + 1) wz (wz.alloc o).drew) := fun o => ((Below.refl _ _).alloc hEz _).drew
              have OA : Hid (∀ o, OwnF (w.heap.size + 1 + 1 + 1) (wz.alloc o).drew (.slice xo ls.length yo) ls) := fun o => SB.out.own.alloc o
              have RN := hideP (show RdF (wz.heap.size + 1) (wz.alloc (.cells #[.string ga, .string gb] 59)).drew (.slice (some ⟨wz.heap.size, 0, none⟩) 1 1) [(ga, gb)] from (rdF_new wz (ga, gb) 59).keep (Below.refl _ _).drew)
              refine wp_region_held (S := fun w' => Below (w.heap.size + 1 + 1 + 1) wz w') (by kernel_rfl) ?_
              change wpAnyH _ _ _ _ _ _ _ _ (World.drew _)
              refine wpAnyH_take (i := 0) (v := .pointer (some ⟨w.heap.size + 1 + 1 + 1 + 1, 0, none⟩)) rfl (by kernel_rfl) (by kernel_rfl) (by kernel_rfl) (fun _ _ _ h => h) (Or.inl ⟨by rfl, ?_⟩) D.out ?_
              · intro w' hS
                clear hS
                go_simp
              refine wpAnyH_take (i := 2) (v := .pointer (some ⟨w.heap.size, 0, none⟩)) rfl (by kernel_rfl) (by kernel_rfl) (by kernel_rfl) (fun _ _ _ h => h) (Or.inl ⟨by rfl, ?_⟩) D.out ?_
              · intro w' hS
                clear hS
                go_simp
              refine wpAnyH_take (i := 3) (v := .slice (some ⟨b, off, none⟩) n cap) rfl (by kernel_rfl) (by kernel_rfl) (by kernel_rfl) (fun _ _ _ h => h) (Or.inl ⟨by rfl, ?_⟩) D.out ?_
              · intro w' hS
                have := L0.out w' hS
                clear hS
                go_simp
              refine wpAnyH_take (i := 4) (v := .int .i64 j) rfl (by kernel_rfl) (by kernel_rfl) (by kernel_rfl) (fun _ _ _ h => h) (Or.inl ⟨by rfl, ?_⟩) D.out ?_
              · intro w' hS
                clear hS
                go_simp
              refine wpAnyH_take (i := 5) (v := .pointer (some ⟨b, off + j * 2, none⟩)) rfl (by kernel_rfl) (by kernel_rfl) (by kernel_rfl) (fun _ _ _ h => h) (Or.inl ⟨by rfl, ?_⟩) D.out ?_
              · intro w' hS
                clear hS
                go_simp
              refine wpAnyH_take (i := 6) (v := .agg #[.string ga, .string gb]) rfl (by kernel_rfl) (by kernel_rfl) (by kernel_rfl) (fun _ _ _ h => h) (Or.inl ⟨by rfl, ?_⟩) D.out ?_
              · intro w' hS
                have h0 := (L1.out w' hS).1; have h1 := (L1.out w' hS).2
                clear hS
                go_simp
              refine wpAnyH_ready (rs := [1, 7]) (by kernel_rfl) (by simp) ?_
              refine AllReadyH.cons rfl (fun K hK => ?_) (AllReadyH.cons rfl (fun K hK => ?_) AllReadyH.nil)
              · go_simp
                refine hK.out _ _ D.out (fun _ => ?_)
                clear hK
                refine wpAnyH_ready (rs := [7]) (by kernel_rfl) (by simp) ?_
                refine AllReadyH.cons rfl (fun K hK => ?_) AllReadyH.nil
                go_simp
                refine hK.out _ _ (DA.out _) (fun _ => ?_)
                clear hK
                refine wpAnyH_ready (rs := [8]) (by kernel_rfl) (by simp) ?_
                refine AllReadyH.cons rfl (fun K hK => ?_) AllReadyH.nil
                refine step_append_F (base := w.heap.size + 1 + 1 + 1) _ rfl _ _ rfl _ _ rfl rfl ls [(ga, gb)] (OA.out _) RN.out (by simp; omega) (by simp [World.drew]; omega) ?_
                intro v' w9 ho9 hg _
                have OS := hideP (SB.out.step (grown_drew hg) ho9)
                have D9 : Hid (Below (w.heap.size + 1 + 1 + 1) wz w9) := (DA.out _).grown hg (by simp [World.drew]; omega) (fun k hk => (SB.out.own.lt k hk).1)
                obtain ⟨x9, y9, e9⟩ := own_form ho9
                rw [show (ls ++ [(ga, gb)]).length = ls.length + 1 by simp] at e9
                subst e9
                have p9 : w9.cell? ⟨w.heap.size + 1 + 1 + 1 + 1, 0, none⟩ = some (.slice xo ls.length yo) := cell_blk OS.out.1
                have f9 : w9.frozen? ⟨w.heap.size + 1 + 1 + 1 + 1, 0, none⟩ = false := frozen_blk OS.out.1
                clear ho9 hg p1
                refine hK.out _ _ D9.out (fun _ => ?_)
                clear hK
                refine wpAnyH_ready (rs := [9]) (by kernel_rfl) (by simp) ?_
                refine AllReadyH.cons rfl (fun K hK => ?_) AllReadyH.nil
                go_simp
                refine hK.out _ _ D9.out (fun _ => ?_)
                clear hK
                refine wpAnyH_ready (rs := [10]) (by kernel_rfl) (by simp) ?_
                refine AllReadyH.cons rfl (fun K hK => ?_) AllReadyH.nil
                go_simp
                refine hK.out _ _ (D9.out.setCell (by simp) _) (fun _ => ?_)
                clear hK
                refine wpAnyH_done (by kernel_rfl) ?_ _
                clear p9 f9
                go_wp2_with fail
                go_roundw
                case rel => exact ⟨j + 1, by omega, by go_num, _, by rw [A1.out]; exact OS.out.2⟩
                case measure => simp [intOf]; omega
              · go_simp
                refine hK.out _ _ (DA.out _) (fun _ => ?_)
                clear hK
                refine wpAnyH_ready (rs := [1]) (by kernel_rfl) (by simp) ?_
                refine AllReadyH.cons rfl (fun K hK => ?_) AllReadyH.nil
                go_simp
                refine hK.out _ _ (DA.out _) (fun _ => ?_)
                clear hK
                refine wpAnyH_ready (rs := [8]) (by kernel_rfl) (by simp) ?_
                refine AllReadyH.cons rfl (fun K hK => ?_) AllReadyH.nil
                refine step_append_F (base := w.heap.size + 1 + 1 + 1) _ rfl _ _ rfl _ _ rfl rfl ls [(ga, gb)] (OA.out _) RN.out (by simp; omega) (by simp [World.drew]; omega) ?_
                intro v' w9 ho9 hg _
                have OS := hideP (SB.out.step (grown_drew hg) ho9)
                have D9 : Hid (Below (w.heap.size + 1 + 1 + 1) wz w9) := (DA.out _).grown hg (by simp [World.drew]; omega) (fun k hk => (SB.out.own.lt k hk).1)
                obtain ⟨x9, y9, e9⟩ := own_form ho9
                rw [show (ls ++ [(ga, gb)]).length = ls.length + 1 by simp] at e9
                subst e9
                have p9 : w9.cell? ⟨w.heap.size + 1 + 1 + 1 + 1, 0, none⟩ = some (.slice xo ls.length yo) := cell_blk OS.out.1
                have f9 : w9.frozen? ⟨w.heap.size + 1 + 1 + 1 + 1, 0, none⟩ = false := frozen_blk OS.out.1
                clear ho9 hg p1
                refine hK.out _ _ D9.out (fun _ => ?_)
                clear hK
                refine wpAnyH_ready (rs := [9]) (by kernel_rfl) (by simp) ?_
                refine AllReadyH.cons rfl (fun K hK => ?_) AllReadyH.nil
                go_simp
                refine hK.out _ _ D9.out (fun _ => ?_)
                clear hK
                refine wpAnyH_ready (rs := [10]) (by kernel_rfl) (by simp) ?_
                refine AllReadyH.cons rfl (fun K hK => ?_) AllReadyH.nil
                go_simp
                refine hK.out _ _ (D9.out.setCell (by simp) _) (fun _ => ?_)
                clear hK
                refine wpAnyH_done (by kernel_rfl) ?_ _
                clear p9 f9
                go_wp2_with fail
                go_roundw
                case rel => exact ⟨j + 1, by omega, by go_num, _, by rw [A1.out]; exact OS.out.2⟩
                case measure => simp [intOf]; omega
            · have LE := hideP (LN.out hbe)
              have e1 : (Op.bytesLess ga.toList fa.toList || ga.toList == fa.toList) = true := by rw [ba_eq]; exact hbe
              clear hbe LY LN
              go_wp2
              go_quiet (fail)
              go_wp2
              go_roundw
              case rel => exact ⟨j + 1, by omega, by go_num, _, by rw [LE.out]; exact SB.out.drewN nq⟩
              case measure => simp [intOf]; omega
          · have r1 := (SB.out.lo.cell (p := ⟨w.heap.size + 1 + 1, 0, none⟩) (by show w.heap.size + 1 + 1 < _; omega)).trans C1.out.2.2.2.1
            have f1 := (SB.out.lo.frozen (p := ⟨w.heap.size + 1 + 1, 0, none⟩) (by show w.heap.size + 1 + 1 < _; omega)).trans C1.out.2.2.2.2
            have OE : Hid (OwnF (w.heap.size + 1 + 1 + 1) wr nv (Pl.withF fs (fa, fb))) := by
              have := SB.out.own
              rw [List.take_of_length_le (by rw [Hn.out]; omega)] at this
              show OwnF _ _ _ _
              rw [HW.out]
              exact this
            obtain ⟨x2, y2, e2⟩ := own_form OE.out
            subst e2
            have p1 : wr.cell? ⟨w.heap.size + 1 + 1 + 1 + 1, 0, none⟩ = some (.slice x2 (Pl.withF fs (fa, fb)).length y2) := cell_blk SB.out.box
            have OF := hideP (owF_of_own OE.out)
            clear OE
            have hlt' : ¬ (j : Int) < (n : Int) := by omega
            go_wp2_with fail
            refine bodyPost_ret (v := .agg #[.slice x2 (Pl.withF fs (fa, fb)).length y2]) (by simp [results, Tryz.results30, go_sem, r1]) rfl ?_
            refine ⟨_, rfl, ?_, ?_⟩
            · exact (OwF.store (b := w.heap.size + 1 + 1) OF.out (by omega) _).base (by omega)
            · exact HBW.out.setCell (by simp; omega) _
      · have hall2 : Hid (∀ i, i < k + 1 → Pl.lt (Pl.at' fs i).1 fa = true) := by
          intro i hi
          by_cases h : i = k
          · subst h; exact hls
          · exact hall.out i (by omega)
        obtain ⟨b, off, e0, hb, hx0, hx1⟩ := HR.out k hlt
        subst e0
        have hx0 : wr.cell? ⟨b, off + k * 2, none⟩ = some (.string (Pl.at' fs k).1) := (HBW.out.cell (p := ⟨b, off + k * 2, none⟩) hb).trans hx0
        have hx1 : wr.cell? ⟨b, off + k * 2 + 1, none⟩ = some (.string (Pl.at' fs k).2) := (HBW.out.cell (p := ⟨b, off + k * 2 + 1, none⟩) hb).trans hx1
        have e1 : Op.bytesLess (Pl.at' fs k).1.toList fa.toList = true := hls
        have LE := hideP (Pl.take_snoc fs k (by rw [Hn.out]; exact hlt))
        have hll : (fs.take k).length ≤ n := by have := List.length_take_le' k fs; rw [Hn.out] at this; exact this
        clear hls
        generalize Pl.at' fs k = g at *
        obtain ⟨ga, gb⟩ := g
        simp only at hx0 hx1 e1
        generalize fs.take k = ls at *
        have X0 := hideP hx0
        have X1 := hideP hx1
        have Q1 := hideP q1
        go_wp2
        go_quiet (fail)
        go_wp2_with fail
        have SB := hideP (SB.out.drewN nq)
        have X0 : Hid ((wr.drewN nq).cell? ⟨b, off + k * 2, none⟩ = some (.string ga)) := ((below_drewN (Below.refl (b + 1) wr) nq).cell (p := ⟨b, off + k * 2, none⟩) (Nat.lt_succ_self b)).trans X0.out
        have X1 : Hid ((wr.drewN nq).cell? ⟨b, off + k * 2 + 1, none⟩ = some (.string gb)) := ((below_drewN (Below.refl (b + 1) wr) nq).cell (p := ⟨b, off + k * 2 + 1, none⟩) (Nat.lt_succ_self b)).trans X1.out
        have Q1 : Hid ((wr.drewN nq).cell? ⟨w.heap.size, 0, none⟩ = some (.slice (some ⟨b, off, none⟩) n cap)) := ((below_drewN (Below.refl (w.heap.size + 1) wr) nq).cell (p := ⟨w.heap.size, 0, none⟩) (Nat.lt_succ_self _)).trans Q1.out
        clear q1 q2 hx0 hx1 e1
        generalize wr.drewN nq = wz at SB X0 X1 Q1 ⊢
        have hPz : w.heap.size + 1 + 1 + 1 + 1 < wz.heap.size := SB.out.lt
        have hEz : w.heap.size + 1 + 1 + 1 ≤ wz.heap.size := by omega
        have L0 : Hid (∀ w', Below (w.heap.size + 1 + 1 + 1) wz w' → w'.cell? ⟨w.heap.size, 0, none⟩ = some (.slice (some ⟨b, off, none⟩) n cap)) := fun w' h => (h.cell (p := ⟨w.heap.size, 0, none⟩) (by show w.heap.size < _; omega)).trans Q1.out
        have L1 : Hid (∀ w', Below (w.heap.size + 1 + 1 + 1) wz w' → w'.cell? ⟨b, off + k * 2, none⟩ = some (.string ga) ∧ w'.cell? ⟨b, off + k * 2 + 1, none⟩ = some (.string gb)) := fun w' h => ⟨(h.cell (p := ⟨b, off + k * 2, none⟩) (by show b < _; omega)).trans X0.out, (h.cell (p := ⟨b, off + k * 2 + 1, none⟩) (by show b < _; omega)).trans X1.out⟩
        have p1 : wz.cell? ⟨w.heap.size + 1 + 1 + 1 + 1, 0, none⟩ = some (.slice xo ls.length yo) := cell_blk SB.out.box
        have D := hideP (show Below (w.heap.size + 1 + 1 + 1) wz wz.drew from (Below.refl _ _).drew)
        have DA : Hid (∀ o, Below (w.heap.size + 1 + 1 + 1) wz (wz.alloc o).drew) := fun o => ((Below.refl _ _).alloc hEz _).drew
        have OA : Hid (∀ o, OwnF (w.heap.size + 1 + 1 + 1) (wz.alloc o).drew (.slice xo ls.length yo) ls) := fun o => SB.out.own.alloc o
        have RN := hideP (show RdF (wz.heap.size + 1) (wz.alloc (.cells #[.string ga, .string gb] 59)).drew (.slice (some ⟨wz.heap.size, 0, none⟩) 1 1) [(ga, gb)] from (rdF_new wz (ga, gb) 59).keep (Below.refl _ _).drew)
        refine wp_region_held (S := fun w' => Below (w.heap.size + 1 + 1 + 1) wz w') (by kernel_rfl) ?_
        change wpAnyH _ _ _ _ _ _ _ _ (World.drew _)
        refine wpAnyH_take (i := 0) (v := .pointer (some ⟨w.heap.size + 1 + 1 + 1 + 1, 0, none⟩)) rfl (by kernel_rfl) (by kernel_rfl) (by kernel_rfl) (fun _ _ _ h => h) (Or.inl ⟨by rfl, ?_⟩) D.out ?_
        · intro w' hS
          clear hS
          go_simp
        refine wpAnyH_take (i := 2) (v := .pointer (some ⟨w.heap.size, 0, none⟩)) rfl (by kernel_rfl) (by kernel_rfl) (by kernel_rfl) (fun _ _ _ h => h) (Or.inl ⟨by rfl, ?_⟩) D.out ?_
        · intro w' hS
          clear hS
          go_simp
        refine wpAnyH_take (i := 3) (v := .slice (some ⟨b, off, none⟩) n cap) rfl (by kernel_rfl) (by kernel_rfl) (by kernel_rfl) (fun _ _ _ h => h) (Or.inl ⟨by rfl, ?_⟩) D.out ?_
        · intro w' hS
          have := L0.out w' hS
          clear hS
          go_simp
        refine wpAnyH_take (i := 4) (v := .int .i64 k) rfl (by kernel_rfl) (by kernel_rfl) (by kernel_rfl) (fun _ _ _ h => h) (Or.inl ⟨by rfl, ?_⟩) D.out ?_
        · intro w' hS
          clear hS
          go_simp
        refine wpAnyH_take (i := 5) (v := .pointer (some ⟨b, off + k * 2, none⟩)) rfl (by kernel_rfl) (by kernel_rfl) (by kernel_rfl) (fun _ _ _ h => h) (Or.inl ⟨by rfl, ?_⟩) D.out ?_
        · intro w' hS
          clear hS
          go_simp
        refine wpAnyH_take (i := 6) (v := .agg #[.string ga, .string gb]) rfl (by kernel_rfl) (by kernel_rfl) (by kernel_rfl) (fun _ _ _ h => h) (Or.inl ⟨by rfl, ?_⟩) D.out ?_
        · intro w' hS
          have h0 := (L1.out w' hS).1; have h1 := (L1.out w' hS).2
          clear hS
          go_simp
        refine wpAnyH_ready (rs := [1, 7]) (by kernel_rfl) (by simp) ?_
        refine AllReadyH.cons rfl (fun K hK => ?_) (AllReadyH.cons rfl (fun K hK => ?_) AllReadyH.nil)
        · go_simp
          refine hK.out _ _ D.out (fun _ => ?_)
          clear hK
          refine wpAnyH_ready (rs := [7]) (by kernel_rfl) (by simp) ?_
          refine AllReadyH.cons rfl (fun K hK => ?_) AllReadyH.nil
          go_simp
          refine hK.out _ _ (DA.out _) (fun _ => ?_)
          clear hK
          refine wpAnyH_ready (rs := [8]) (by kernel_rfl) (by simp) ?_
          refine AllReadyH.cons rfl (fun K hK => ?_) AllReadyH.nil
          refine step_append_F (base := w.heap.size + 1 + 1 + 1) _ rfl _ _ rfl _ _ rfl rfl ls [(ga, gb)] (OA.out _) RN.out (by simp; omega) (by simp [World.drew]; omega) ?_
          intro v' w9 ho9 hg _
          have OS := hideP (SB.out.step (grown_drew hg) ho9)
          have D9 : Hid (Below (w.heap.size + 1 + 1 + 1) wz w9) := (DA.out _).grown hg (by simp [World.drew]; omega) (fun k hk => (SB.out.own.lt k hk).1)
          obtain ⟨x9, y9, e9⟩ := own_form ho9
          rw [show (ls ++ [(ga, gb)]).length = ls.length + 1 by simp] at e9
          subst e9
          have p9 : w9.cell? ⟨w.heap.size + 1 + 1 + 1 + 1, 0, none⟩ = some (.slice xo ls.length yo) := cell_blk OS.out.1
          have f9 : w9.frozen? ⟨w.heap.size + 1 + 1 + 1 + 1, 0, none⟩ = false := frozen_blk OS.out.1
          clear ho9 hg p1
          refine hK.out _ _ D9.out (fun _ => ?_)
          clear hK
          refine wpAnyH_ready (rs := [9]) (by kernel_rfl) (by simp) ?_
          refine AllReadyH.cons rfl (fun K hK => ?_) AllReadyH.nil
          go_simp
          refine hK.out _ _ D9.out (fun _ => ?_)
          clear hK
          refine wpAnyH_ready (rs := [10]) (by kernel_rfl) (by simp) ?_
          refine AllReadyH.cons rfl (fun K hK => ?_) AllReadyH.nil
          go_simp
          refine hK.out _ _ (D9.out.setCell (by simp) _) (fun _ => ?_)
          clear hK
          refine wpAnyH_done (by kernel_rfl) ?_ _
          clear p9 f9
          go_wp2_with fail
          go_roundw
          case rel => exact ⟨k + 1, by omega, by go_num, hall2, _, by rw [LE.out]; exact OS.out.2⟩
          case measure => simp [intOf]; omega
        · go_simp
          refine hK.out _ _ (DA.out _) (fun _ => ?_)
          clear hK
          refine wpAnyH_ready (rs := [1]) (by kernel_rfl) (by simp) ?_
          refine AllReadyH.cons rfl (fun K hK => ?_) AllReadyH.nil
          go_simp
          refine hK.out _ _ (DA.out _) (fun _ => ?_)
          clear hK
          refine wpAnyH_ready (rs := [8]) (by kernel_rfl) (by simp) ?_
          refine AllReadyH.cons rfl (fun K hK => ?_) AllReadyH.nil
          refine step_append_F (base := w.heap.size + 1 + 1 + 1) _ rfl _ _ rfl _ _ rfl rfl ls [(ga, gb)] (OA.out _) RN.out (by simp; omega) (by simp [World.drew]; omega) ?_
          intro v' w9 ho9 hg _
          have OS := hideP (SB.out.step (grown_drew hg) ho9)
          have D9 : Hid (Below (w.heap.size + 1 + 1 + 1) wz w9) := (DA.out _).grown hg (by simp [World.drew]; omega) (fun k hk => (SB.out.own.lt k hk).1)
          obtain ⟨x9, y9, e9⟩ := own_form ho9
          rw [show (ls ++ [(ga, gb)]).length = ls.length + 1 by simp] at e9
          subst e9
          have p9 : w9.cell? ⟨w.heap.size + 1 + 1 + 1 + 1, 0, none⟩ = some (.slice xo ls.length yo) := cell_blk OS.out.1
          have f9 : w9.frozen? ⟨w.heap.size + 1 + 1 + 1 + 1, 0, none⟩ = false := frozen_blk OS.out.1
          clear ho9 hg p1
          refine hK.out _ _ D9.out (fun _ => ?_)
          clear hK
          refine wpAnyH_ready (rs := [9]) (by kernel_rfl) (by simp) ?_
          refine AllReadyH.cons rfl (fun K hK => ?_) AllReadyH.nil
          go_simp
          refine hK.out _ _ D9.out (fun _ => ?_)
          clear hK
          refine wpAnyH_ready (rs := [10]) (by kernel_rfl) (by simp) ?_
          refine AllReadyH.cons rfl (fun K hK => ?_) AllReadyH.nil
          go_simp
          refine hK.out _ _ (D9.out.setCell (by simp) _) (fun _ => ?_)
          clear hK
          refine wpAnyH_done (by kernel_rfl) ?_ _
          clear p9 f9
          go_wp2_with fail
          go_roundw
          case rel => exact ⟨k + 1, by omega, by go_num, hall2, _, by rw [LE.out]; exact OS.out.2⟩
          case measure => simp [intOf]; omega
    · have hlt' : ¬ (k : Int) < (n : Int) := by omega
      have HW := hideP (Pl.withF_at fs (fa, fb) k (by rw [Hn.out]; omega) hall.out (.inl (by rw [Hn.out]; omega)))
      go_wp2
      go_quiet (fail)
      have SZ := hideP (SB.out.drewN nq)
      have q3 : (wr.drewN nq).cell? ⟨w.heap.size + 1, 0, none⟩ = some (.string fa) := (SZ.out.lo.cell (p := ⟨w.heap.size + 1, 0, none⟩) (by show w.heap.size + 1 < _; omega)).trans C1.out.2.1
      have q4 : (wr.drewN nq).cell? ⟨w.heap.size + 1, 1, none⟩ = some (.string fb) := (SZ.out.lo.cell (p := ⟨w.heap.size + 1, 1, none⟩) (by show w.heap.size + 1 < _; omega)).trans C1.out.2.2.1
      generalize wr.drewN nq = wz at SZ q3 q4 ⊢
      have hPz : w.heap.size + 1 + 1 + 1 + 1 < wz.heap.size := SZ.out.lt
      have p1 : wz.cell? ⟨w.heap.size + 1 + 1 + 1 + 1, 0, none⟩ = some (.slice xo (fs.take k).length yo) := cell_blk SZ.out.box
      have OA : Hid (∀ o, OwnF (w.heap.size + 1 + 1 + 1) (wz.alloc o) (.slice xo (fs.take k).length yo) (fs.take k)) := fun o => SZ.out.own.alloc o
      have RN := hideP (rdF_new wz (fa, fb) 59)
      have hln : (fs.take k).length ≤ n := by have := List.length_take_le' k fs; rw [Hn.out] at this; exact this
      generalize fs.take k = pre at *
      go_wp2_with (at_builtin; refine wpList_append_F (base := w.heap.size + 1 + 1 + 1) _ rfl _ _ rfl _ _ rfl rfl pre [(fa, fb)] (OA.out _) RN.out (by simp; omega) (by simp; omega) ?_)
      intro v' w9 ho9 hg9 _
      have OS := hideP (SZ.out.step hg9 ho9)
      obtain ⟨x9, y9, e9⟩ := own_form ho9
      rw [show (pre ++ [(fa, fb)]).length = pre.length + 1 by simp] at e9
      subst e9
      have p9 : w9.cell? ⟨w.heap.size + 1 + 1 + 1 + 1, 0, none⟩ = some (.slice xo pre.length yo) := cell_blk OS.out.1
      have f9 : w9.frozen? ⟨w.heap.size + 1 + 1 + 1 + 1, 0, none⟩ = false := frozen_blk OS.out.1
      clear ho9 hg9 p1 q3 q4 OA RN
      go_wp2_with fail
      clear p9 f9
      have S2 := hideP OS.out.2
      clear OS
      generalize w9.setCell ⟨w.heap.size + 1 + 1 + 1 + 1, 0, none⟩ (.slice x9 (pre.length + 1) y9) = wq at S2 ⊢
      clear SZ
      clear hPz
      go_loopw [7] (fun i wr => ∃ k : Nat, k ≤ n ∧ i = .int .i64 k ∧ ∃ nv, Hid (Bld W1 (w.heap.size + 1 + 1 + 1) (w.heap.size + 1 + 1 + 1 + 1) (pre ++ [(fa, fb)] ++ Pl.behF (fs.take k) fa) nv wr)) (fun i _ => n - (intOf i).toNat)
      case atStart => exact ⟨0, Nat.zero_le _, rfl, _, by simpa [Pl.behF] using S2⟩
      case round =>
        clear SB S2 q1 q2 HBW
        obtain ⟨j, hj, rfl, nv, SB⟩ := hrel
        have q1 : wr.cell? ⟨w.heap.size, 0, none⟩ = some (.slice ao n cap) := (SB.out.lo.cell (p := ⟨w.heap.size, 0, none⟩) (by show w.heap.size < _; omega)).trans C1.out.1
        have q2 : wr.cell? ⟨w.heap.size + 1, 0, none⟩ = some (.string fa) := (SB.out.lo.cell (p := ⟨w.heap.size + 1, 0, none⟩) (by show w.heap.size + 1 < _; omega)).trans C1.out.2.1
        have HBW := hideP (BW.out.trans (SB.out.lo.mono (by omega)))
        by_cases hlt : j < n
        · have hlt' : (j : Int) < (n : Int) := by omega
          obtain ⟨b, off, e0, hb, hx0, hx1⟩ := HR.out j hlt
          subst e0
          have hx0 : wr.cell? ⟨b, off + j * 2, none⟩ = some (.string (Pl.at' fs j).1) := (HBW.out.cell (p := ⟨b, off + j * 2, none⟩) hb).trans hx0
          have hx1 : wr.cell? ⟨b, off + j * 2 + 1, none⟩ = some (.string (Pl.at' fs j).2) := (HBW.out.cell (p := ⟨b, off + j * 2 + 1, none⟩) hb).trans hx1
          have LY := hideP (Pl.beh_yes fs fa j (by rw [Hn.out]; exact hlt))
          have LN := hideP (Pl.beh_no fs fa j (by rw [Hn.out]; exact hlt))
          have LL := hideP (Pl.beh_len fs fa j)
          generalize Pl.at' fs j = g at *
          obtain ⟨ga, gb⟩ := g
          simp only at hx0 hx1 LY LN
          obtain ⟨xo, yo, eo⟩ := own_form SB.out.own
          subst eo
          cases hbe : (Pl.lt ga fa || decide (ga = fa))
          · have LE := hideP (LY.out hbe)
            have e1 : (Op.bytesLess ga.toList fa.toList || ga.toList == fa.toList) = false := by rw [ba_eq]; exact hbe
            have A1 := hideP (show pre ++ [(fa, fb)] ++ Pl.behF (fs.take (j + 1)) fa = (pre ++ [(fa, fb)] ++ Pl.behF (fs.take j) fa) ++ [(ga, gb)] by rw [LE.out]; simp)
            have hls : (pre ++ [(fa, fb)] ++ Pl.behF (fs.take j) fa).length ≤ 3000000 := by have := LL.out; simp; omega
            clear hbe LY LN LE LL
            generalize pre ++ [(fa, fb)] ++ Pl.behF (fs.take j) fa = ls at *
            have X0 := hideP hx0
            have X1 := hideP hx1
            have Q1 := hideP q1
            go_wp2
            go_quiet (fail)
            go_wp2_with fail
            have SB := hideP (SB.out.drewN nq)
            have X0 : Hid ((wr.drewN nq).cell? ⟨b, off + j * 2, none⟩ = some (.string ga)) := ((below_drewN (Below.refl (b + 1) wr) nq).cell (p := ⟨b, off + j * 2, none⟩) (Nat.lt_succ_self b)).trans X0.out
            have X1 : Hid ((wr.drewN nq).cell? ⟨b, off + j * 2 + 1, none⟩ = some (.string gb)) := ((below_drewN (Below.refl (b + 1) wr) nq).cell (p := ⟨b, off + j * 2 + 1, none⟩) (Nat.lt_succ_self b)).trans X1.out
            have Q1 : Hid ((wr.drewN nq).cell? ⟨w.heap.size, 0, none⟩ = some (.slice (some ⟨b, off, none⟩) n cap)) := ((below_drewN (Below.refl (w.heap.size + 1) wr) nq).cell (p := ⟨w.heap.size, 0, none⟩) (Nat.lt_succ_self _)).trans Q1.out
            clear q1 q2 hx0 hx1 e1
            generalize wr.drewN nq = wz at SB X0 X1 Q1 ⊢
            have hPz : w.heap.size + 1 + 1 + 1 + 1 < wz.heap.size := SB.out.lt
            have hEz : w.heap.size + 1 + 1 + 1 ≤ wz.heap.size := by omega
            have L0 : Hid (∀ w', Below (w.heap.size + 1 + 1 + 1) wz w' → w'.cell? ⟨w.heap.size, 0, none⟩ = some (.slice (some ⟨b, off, none⟩) n cap)) := fun w' h => (h.cell (p := ⟨w.heap.size, 0, none⟩) (by show w.heap.size < _; omega)).trans Q1.out
            have L1 : Hid (∀ w', Below (w.heap.size + 1 + 1 + 1) wz w' → w'.cell? ⟨b, off + j * 2, none⟩ = some (.string ga) ∧ w'.cell? ⟨b, off + j * 2 + 1, none⟩ = some (.string gb)) := fun w' h => ⟨(h.cell (p := ⟨b, off + j * 2, none⟩) (by show b < _; omega)).trans X0.out, (h.cell (p := ⟨b, off + j * 2 + 1, none⟩) (by show b < _; omega)).trans X1.out⟩
            have p1 : wz.cell? ⟨w.heap.size + 1 + 1 + 1 + 1, 0, none⟩ = some (.slice xo ls.length yo) := cell_blk SB.out.box
            have D := hideP (show Below (w.heap.size + 1 + 1 + 1) wz wz.drew from (Below.refl _ _).drew)
            have DA : Hid (∀ o, Below (w.heap.size + 1 + 1 + 1) wz (wz.alloc o).drew) := fun o => ((Below.refl _ _).alloc hEz _).drew
            have OA : Hid (∀ o, OwnF (w.heap.size + 1 + 1 + 1) (wz.alloc o).drew (.slice xo ls.length yo) ls) := fun o => SB.out.own.alloc o
            have RN := hideP (show RdF (wz.heap.size + 1) (wz.alloc (.cells #[.string ga, .string gb] 59)).drew (.slice (some ⟨wz.heap.size, 0, none⟩) 1 1) [(ga, gb)] from (rdF_new wz (ga, gb) 59).keep (Below.refl _ _).drew)
            refine wp_region_held (S := fun w' => Below (w.heap.size + 1 + 1 + 1) wz w') (by kernel_rfl) ?_
            change wpAnyH _ _ _ _ _ _ _ _ (World.drew _)
            refine wpAnyH_take (i := 0) (v := .pointer (some ⟨w.heap.size + 1 + 1 + 1 + 1, 0, none⟩)) rfl (by kernel_rfl) (by kernel_rfl) (by kernel_rfl) (fun _ _ _ h => h) (Or.inl ⟨by rfl, ?_⟩) D.out ?_
            · intro w' hS
              clear hS
              go_simp
            refine wpAnyH_take (i := 2) (v := .pointer (some ⟨w.heap.size, 0, none⟩)) rfl (by kernel_rfl) (by kernel_rfl) (by kernel_rfl) (fun _ _ _ h => h) (Or.inl ⟨by rfl, ?_⟩) D.out ?_
            · intro w' hS
              clear hS
              go_simp
            refine wpAnyH_take (i := 3) (v := .slice (some ⟨b, off, none⟩) n cap) rfl (by kernel_rfl) (by kernel_rfl) (by kernel_rfl) (fun _ _ _ h => h) (Or.inl ⟨by rfl, ?_⟩) D.out ?_
            · intro w' hS
              have := L0.out w' hS
              clear hS
              go_simp
            refine wpAnyH_take (i := 4) (v := .int .i64 j) rfl (by kernel_rfl) (by kernel_rfl) (by kernel_rfl) (fun _ _ _ h => h) (Or.inl ⟨by rfl, ?_⟩) D.out ?_
            · intro w' hS
              clear hS
              go_simp
            refine wpAnyH_take (i := 5) (v := .pointer (some ⟨b, off + j * 2, none⟩)) rfl (by kernel_rfl) (by kernel_rfl) (by kernel_rfl) (fun _ _ _ h => h) (Or.inl ⟨by rfl, ?_⟩) D.out ?_
            · intro w' hS
              clear hS
              go_simp
            refine wpAnyH_take (i := 6) (v := .agg #[.string ga, .string gb]) rfl (by kernel_rfl) (by kernel_rfl) (by kernel_rfl) (fun _ _ _ h => h) (Or.inl ⟨by rfl, ?_⟩) D.out ?_
            · intro w' hS
              have h0 := (L1.out w' hS).1; have h1 := (L1.out w' hS).2
              clear hS
              go_simp
            refine wpAnyH_ready (rs := [1, 7]) (by kernel_rfl) (by simp) ?_
            refine AllReadyH.cons rfl (fun K hK => ?_) (AllReadyH.cons rfl (fun K hK => ?_) AllReadyH.nil)
            · go_simp
              refine hK.out _ _ D.out (fun _ => ?_)
              clear hK
              refine wpAnyH_ready (rs := [7]) (by kernel_rfl) (by simp) ?_
              refine AllReadyH.cons rfl (fun K hK => ?_) AllReadyH.nil
              go_simp
              refine hK.out _ _ (DA.out _) (fun _ => ?_)
              clear hK
              refine wpAnyH_ready (rs := [8]) (by kernel_rfl) (by simp) ?_
              refine AllReadyH.cons rfl (fun K hK => ?_) AllReadyH.nil
              refine step_append_F (base := w.heap.size + 1 + 1 + 1) _ rfl _ _ rfl _ _ rfl rfl ls [(ga, gb)] (OA.out _) RN.out (by simp; omega) (by simp [World.drew]; omega) ?_
              intro v' w9 ho9 hg _
              have OS := hideP (SB.out.step (grown_drew hg) ho9)
              have D9 : Hid (Below (w.heap.size + 1 + 1 + 1) wz w9) := (DA.out _).grown hg (by simp [World.drew]; omega) (fun k hk => (SB.out.own.lt k hk).1)
              obtain ⟨x9, y9, e9⟩ := own_form ho9
              rw [show (ls ++ [(ga, gb)]).length = ls.length + 1 by simp] at e9
              subst e9
              have p9 : w9.cell? ⟨w.heap.size + 1 + 1 + 1 + 1, 0, none⟩ = some (.slice xo ls.length yo) := cell_blk OS.out.1
              have f9 : w9.frozen? ⟨w.heap.size + 1 + 1 + 1 + 1, 0, none⟩ = false := frozen_blk OS.out.1
              clear ho9 hg p1
              refine hK.out _ _ D9.out (fun _ => ?_)
              clear hK
              refine wpAnyH_ready (rs := [9]) (by kernel_rfl) (by simp) ?_
              refine AllReadyH.cons rfl (fun K hK => ?_) AllReadyH.nil
              go_simp
              refine hK.out _ _ D9.out (fun _ => ?_)
              clear hK
              refine wpAnyH_ready (rs := [10]) (by kernel_rfl) (by simp) ?_
              refine AllReadyH.cons rfl (fun K hK => ?_) AllReadyH.nil
              go_simp
              refine hK.out _ _ (D9.out.setCell (by simp) _) (fun _ => ?_)
              clear hK
              refine wpAnyH_done (by kernel_rfl) ?_ _
              clear p9 f9
              go_wp2_with fail
              go_roundw
              case rel => exact ⟨j + 1, by omega, by go_num, _, by rw [A1.out]; exact OS.out.2⟩
              case measure => simp [intOf]; omega
            · go_simp
              refine hK.out _ _ (DA.out _) (fun _ => ?_)
              clear hK
              refine wpAnyH_ready (rs := [1]) (by kernel_rfl) (by simp) ?_
              refine AllReadyH.cons rfl (fun K hK => ?_) AllReadyH.nil
              go_simp
              refine hK.out _ _ (DA.out _) (fun _ => ?_)
              clear hK
              refine wpAnyH_ready (rs := [8]) (by kernel_rfl) (by simp) ?_
              refine AllReadyH.cons rfl (fun K hK => ?_) AllReadyH.nil
              refine step_append_F (base := w.heap.size + 1 + 1 + 1) _ rfl _ _ rfl _ _ rfl rfl ls [(ga, gb)] (OA.out _) RN.out (by simp; omega) (by simp [World.drew]; omega) ?_
              intro v' w9 ho9 hg _
              have OS := hideP (SB.out.step (grown_drew hg) ho9)
              have D9 : Hid (Below (w.heap.size + 1 + 1 + 1) wz w9) := (DA.out _).grown hg (by simp [World.drew]; omega) (fun k hk => (SB.out.own.lt k hk).1)
              obtain ⟨x9, y9, e9⟩ := own_form ho9
              rw [show (ls ++ [(ga, gb)]).length = ls.length + 1 by simp] at e9
              subst e9
              have p9 : w9.cell? ⟨w.heap.size + 1 + 1 + 1 + 1, 0, none⟩ = some (.slice xo ls.length yo) := cell_blk OS.out.1
              have f9 : w9.frozen? ⟨w.heap.size + 1 + 1 + 1 + 1, 0, none⟩ = false := frozen_blk OS.out.1
              clear ho9 hg p1
              refine hK.out _ _ D9.out (fun _ => ?_)
              clear hK
              refine wpAnyH_ready (rs := [9]) (by kernel_rfl) (by simp) ?_
              refine AllReadyH.cons rfl (fun K hK => ?_) AllReadyH.nil
              go_simp
              refine hK.out _ _ D9.out (fun _ => ?_)
              clear hK
              refine wpAnyH_ready (rs := [10]) (by kernel_rfl) (by simp) ?_
              refine AllReadyH.cons rfl (fun K hK => ?_) AllReadyH.nil
              go_simp
              refine hK.out _ _ (D9.out.setCell (by simp) _) (fun _ => ?_)
              clear hK
              refine wpAnyH_done (by kernel_rfl) ?_ _
              clear p9 f9
              go_wp2_with fail
              go_roundw
              case rel => exact ⟨j + 1, by omega, by go_num, _, by rw [A1.out]; exact OS.out.2⟩
              case measure => simp [intOf]; omega
          · have LE := hideP (LN.out hbe)
            have e1 : (Op.bytesLess ga.toList fa.toList || ga.toList == fa.toList) = true := by rw [ba_eq]; exact hbe
            clear hbe LY LN
            go_wp2
            go_quiet (fail)
            go_wp2
            go_roundw
            case rel => exact ⟨j + 1, by omega, by go_num, _, by rw [LE.out]; exact SB.out.drewN nq⟩
            case measure => simp [intOf]; omega
        · have r1 := (SB.out.lo.cell (p := ⟨w.heap.size + 1 + 1, 0, none⟩) (by show w.heap.size + 1 + 1 < _; omega)).trans C1.out.2.2.2.1
          have f1 := (SB.out.lo.frozen (p := ⟨w.heap.size + 1 + 1, 0, none⟩) (by show w.heap.size + 1 + 1 < _; omega)).trans C1.out.2.2.2.2
          have OE : Hid (OwnF (w.heap.size + 1 + 1 + 1) wr nv (Pl.withF fs (fa, fb))) := by
            have := SB.out.own
            rw [List.take_of_length_le (by rw [Hn.out]; omega)] at this
            show OwnF _ _ _ _
            rw [HW.out]
            exact this
          obtain ⟨x2, y2, e2⟩ := own_form OE.out
          subst e2
          have p1 : wr.cell? ⟨w.heap.size + 1 + 1 + 1 + 1, 0, none⟩ = some (.slice x2 (Pl.withF fs (fa, fb)).length y2) := cell_blk SB.out.box
          have OF := hideP (owF_of_own OE.out)
          clear OE
          have hlt' : ¬ (j : Int) < (n : Int) := by omega
          go_wp2_with fail
          refine bodyPost_ret (v := .agg #[.slice x2 (Pl.withF fs (fa, fb)).length y2]) (by simp [results, Tryz.results30, go_sem, r1]) rfl ?_
          refine ⟨_, rfl, ?_, ?_⟩
          · exact (OwF.store (b := w.heap.size + 1 + 1) OF.out (by omega) _).base (by omega)
          · exact HBW.out.setCell (by simp; omega) _

end Go.Proofs.YtfangdhbadmolaaGreatDoor
