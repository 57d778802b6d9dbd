import Derived.Test.YtfangdhbadmolaaGreatDoorBld
namespace Go.Proofs.YtfangdhbadmolaaGreatDoor
open Go.RowKit
set_option linter.unusedVariables false

/-- where the files of a slice lie -/
theorem rd_at {B : Nat} {w : World} {ao : Option Addr} {cap n : Nat} {fs : List Pl.Fl} (hn : fs.length = n) (h : RdF B w (.slice ao n cap) fs) :
    ∀ k, k < n → ∃ b off, ao = some ⟨b, off, none⟩ ∧ b < B ∧ (w.cell? ⟨b, off + k * 2, none⟩ = some (.string (Pl.at' fs k).1) ∧ w.cell? ⟨b, off + k * 2 + 1, none⟩ = some (.string (Pl.at' fs k).2)) := by
  intro k hk
  obtain ⟨ao', cap', e, h⟩ := h
  simp only [Value.slice.injEq] at e
  obtain ⟨rfl, _, rfl⟩ := e
  rcases h with h0 | ⟨b, off, hb, e, hc⟩
  · omega
  · exact ⟨b, off, e, hb, hc k (by omega)⟩

set_option maxRecDepth 100000 in
set_option maxHeartbeats 4000000 in
/-- spec.l7Without -/
theorem l7Without_any (u : Value) (fs : List Pl.Fl) (nm : ByteArray) (w : World) (hl : fs.length ≤ 1048576) (h : RdF w.heap.size w u fs) :
    Calls Tryz.prog 31 #[.agg #[u], .string nm] w fun e w' => ∃ v, e = .returned (.agg #[v]) ∧ OwF w.heap.size w' v (Pl.withoutF fs nm) ∧ Below w.heap.size w w' := by
  obtain ⟨ao, cap, e0⟩ := h.form
  subst e0
  generalize hn : fs.length = n at *
  have Hn : Hid (fs.length = n) := hn
  have HR := hideP (rd_at hn h)
  clear hn h
  have B2 : Hid (∀ o1 o2 : Obj, Below w.heap.size w ((w.alloc o1).alloc o2)) := fun o1 o2 => ((Below.refl _ _).alloc (Nat.le_refl _) _).alloc (by simp) _
  have C1 : Hid (((w.alloc (.cells #[.slice ao n cap] 31)).alloc (.cells #[.slice none 0 0] 31)).cell? ⟨w.heap.size, 0, none⟩ = some (.slice ao n cap) ∧ ((w.alloc (.cells #[.slice ao n cap] 31)).alloc (.cells #[.slice none 0 0] 31)).cell? ⟨w.heap.size + 1, 0, none⟩ = some (.slice none 0 0) ∧ ((w.alloc (.cells #[.slice ao n cap] 31)).alloc (.cells #[.slice none 0 0] 31)).frozen? ⟨w.heap.size + 1, 0, none⟩ = false) := ⟨by simp [go_sem], by simp [go_sem], by simp [go_sem]⟩
  have ST := hideP (Bld.start ((w.alloc (.cells #[.slice ao n cap] 31)).alloc (.cells #[.slice none 0 0] 31)) (w.heap.size + 1 + 1) (by simp))
  have BW := hideP (B2.out (.cells #[.slice ao n cap] 31) (.cells #[.slice none 0 0] 31))
  go_enter Tryz.func31, Tryz.ntmps31
  go_wp2_with fail
  generalize hW1 : ((w.alloc (.cells #[.slice ao n cap] 31)).alloc (.cells #[.slice none 0 0] 31)) = W1 at ST C1 BW
  go_loopw [6] (fun i wr => ∃ k : Nat, k ≤ n ∧ i = .int .i64 k ∧ ∃ nv, Hid (Bld W1 (w.heap.size + 1 + 1) (w.heap.size + 1 + 1 + 1) (Pl.withoutF (fs.take k) nm) nv wr)) (fun i _ => n - (intOf i).toNat)
  case atStart => exact ⟨0, Nat.zero_le _, rfl, _, ST⟩
  case round =>
    clear hW1 ST
    obtain ⟨k, hk, rfl, nv, SB⟩ := hrel
    have q1 : wr.cell? ⟨w.heap.size, 0, none⟩ = some (.slice ao n cap) := (SB.out.lo.cell (p := ⟨w.heap.size, 0, none⟩) (by show w.heap.size < _; omega)).trans C1.out.1
    have Q1 := hideP q1
    have HBW := hideP (BW.out.trans (SB.out.lo.mono (by omega)))
    by_cases hlt : k < n
    · obtain ⟨b, off, e0, hb, hx0, hx1⟩ := HR.out k hlt
      subst e0
      have hx0 : wr.cell? ⟨b, off + k * 2, none⟩ = some (.string (Pl.at' fs k).1) := (HBW.out.cell (p := ⟨b, off + k * 2, none⟩) hb).trans hx0
      have hx1 : wr.cell? ⟨b, off + k * 2 + 1, none⟩ = some (.string (Pl.at' fs k).2) := (HBW.out.cell (p := ⟨b, off + k * 2 + 1, none⟩) hb).trans hx1
      have LY := hideP (Pl.without_yes fs nm k (by rw [Hn.out]; exact hlt))
      have LN := hideP (Pl.without_no fs nm k (by rw [Hn.out]; exact hlt))
      have LL := hideP (Pl.without_len fs nm k)
      generalize Pl.at' fs k = g at *
      obtain ⟨ga, gb⟩ := g
      simp only at hx0 hx1 LY LN
      obtain ⟨xo, yo, eo⟩ := own_form SB.out.own
      subst eo
      by_cases hnm : ga = nm
      · have LE := hideP (LY.out hnm)
        have e1 : (ga.toList == nm.toList) = true := by rw [ba_eq]; simp [hnm]
        clear hnm LN LY
        go_wp2_with fail
        go_roundw
        case rel => exact ⟨k + 1, by omega, by go_num, _, by rw [LE.out]; exact SB⟩
        case measure => simp [intOf]; omega
      · have LE := hideP (LN.out hnm)
        have e1 : (ga.toList == nm.toList) = false := by rw [ba_eq]; simp [hnm]
        clear hnm LN LY
        generalize Pl.withoutF (fs.take k) nm = ls at *
        have hll := LL.out
        have X0 := hideP hx0
        have X1 := hideP hx1
        go_wp2_with fail
        clear q1 hx0 hx1 e1
        generalize hwz : wr = wz at *
        clear hwz
        have hPz : w.heap.size + 1 + 1 + 1 < wz.heap.size := SB.out.lt
        have hEz : w.heap.size + 1 + 1 ≤ wz.heap.size := by omega
        have L0 : Hid (∀ w', Below (w.heap.size + 1 + 1) wz w' → w'.cell? ⟨w.heap.size, 0, none⟩ = some (.slice (some ⟨b, off, none⟩) n cap)) := fun w' h => (h.cell (p := ⟨w.heap.size, 0, none⟩) (by show w.heap.size < _; omega)).trans Q1.out
        have L1 : Hid (∀ w', Below (w.heap.size + 1 + 1) wz w' → w'.cell? ⟨b, off + k * 2, none⟩ = some (.string ga) ∧ w'.cell? ⟨b, off + k * 2 + 1, none⟩ = some (.string gb)) := fun w' h => ⟨(h.cell (p := ⟨b, off + k * 2, none⟩) (by show b < _; omega)).trans X0.out, (h.cell (p := ⟨b, off + k * 2 + 1, none⟩) (by show b < _; omega)).trans X1.out⟩
        have p1 : wz.cell? ⟨w.heap.size + 1 + 1 + 1, 0, none⟩ = some (.slice xo ls.length yo) := cell_blk SB.out.box
        have D := hideP (show Below (w.heap.size + 1 + 1) wz wz.drew from (Below.refl _ _).drew)
        have DA : Hid (∀ o, Below (w.heap.size + 1 + 1) wz (wz.alloc o).drew) := fun o => ((Below.refl _ _).alloc hEz _).drew
        have OA : Hid (∀ o, OwnF (w.heap.size + 1 + 1) (wz.alloc o).drew (.slice xo ls.length yo) ls) := fun o => SB.out.own.alloc o
        have RN := hideP (show RdF (wz.heap.size + 1) (wz.alloc (.cells #[.string ga, .string gb] 59)).drew (.slice (some ⟨wz.heap.size, 0, none⟩) 1 1) [(ga, gb)] from (rdF_new wz (ga, gb) 59).keep (Below.refl _ _).drew)
        refine wp_region_held (S := fun w' => Below (w.heap.size + 1 + 1) wz w') (by kernel_rfl) ?_
        change wpAnyH _ _ _ _ _ _ _ _ (World.drew _)
        refine wpAnyH_take (i := 0) (v := .pointer (some ⟨w.heap.size + 1 + 1 + 1, 0, none⟩)) rfl (by kernel_rfl) (by kernel_rfl) (by kernel_rfl) (fun _ _ _ h => h) (Or.inl ⟨by rfl, ?_⟩) D.out ?_
        · intro w' hS
          clear hS
          go_simp
        refine wpAnyH_take (i := 2) (v := .pointer (some ⟨w.heap.size, 0, none⟩)) rfl (by kernel_rfl) (by kernel_rfl) (by kernel_rfl) (fun _ _ _ h => h) (Or.inl ⟨by rfl, ?_⟩) D.out ?_
        · intro w' hS
          clear hS
          go_simp
        refine wpAnyH_take (i := 3) (v := .slice (some ⟨b, off, none⟩) n cap) rfl (by kernel_rfl) (by kernel_rfl) (by kernel_rfl) (fun _ _ _ h => h) (Or.inl ⟨by rfl, ?_⟩) D.out ?_
        · intro w' hS
          have := L0.out w' hS
          clear hS
          go_simp
        refine wpAnyH_take (i := 4) (v := .int .i64 k) rfl (by kernel_rfl) (by kernel_rfl) (by kernel_rfl) (fun _ _ _ h => h) (Or.inl ⟨by rfl, ?_⟩) D.out ?_
        · intro w' hS
          clear hS
          go_simp
        refine wpAnyH_take (i := 5) (v := .pointer (some ⟨b, off + k * 2, none⟩)) rfl (by kernel_rfl) (by kernel_rfl) (by kernel_rfl) (fun _ _ _ h => h) (Or.inl ⟨by rfl, ?_⟩) D.out ?_
        · intro w' hS
          clear hS
          go_simp
        refine wpAnyH_take (i := 6) (v := .agg #[.string ga, .string gb]) rfl (by kernel_rfl) (by kernel_rfl) (by kernel_rfl) (fun _ _ _ h => h) (Or.inl ⟨by rfl, ?_⟩) D.out ?_
        · intro w' hS
          have h0 := (L1.out w' hS).1; have h1 := (L1.out w' hS).2
          clear hS
          go_simp
        refine wpAnyH_ready (rs := [1, 7]) (by kernel_rfl) (by simp) ?_
        refine AllReadyH.cons rfl (fun K hK => ?_) (AllReadyH.cons rfl (fun K hK => ?_) AllReadyH.nil)
        · go_simp
          refine hK.out _ _ D.out (fun _ => ?_)
          clear hK
          refine wpAnyH_ready (rs := [7]) (by kernel_rfl) (by simp) ?_
          refine AllReadyH.cons rfl (fun K hK => ?_) AllReadyH.nil
          go_simp
          refine hK.out _ _ (DA.out _) (fun _ => ?_)
          clear hK
          refine wpAnyH_ready (rs := [8]) (by kernel_rfl) (by simp) ?_
          refine AllReadyH.cons rfl (fun K hK => ?_) AllReadyH.nil
          refine step_append_F (base := w.heap.size + 1 + 1) _ rfl _ _ rfl _ _ rfl rfl ls [(ga, gb)] (OA.out _) RN.out (by simp; omega) (by simp [World.drew]; omega) ?_
          intro v' w9 ho9 hg _
          have OS := hideP (SB.out.step (grown_drew hg) ho9)
          have D9 : Hid (Below (w.heap.size + 1 + 1) wz w9) := (DA.out _).grown hg (by simp [World.drew]; omega) (fun k hk => (SB.out.own.lt k hk).1)
          obtain ⟨x9, y9, e9⟩ := own_form ho9
          rw [show (ls ++ [(ga, gb)]).length = ls.length + 1 by simp] at e9
          subst e9
          have p9 : w9.cell? ⟨w.heap.size + 1 + 1 + 1, 0, none⟩ = some (.slice xo ls.length yo) := cell_blk OS.out.1
          have f9 : w9.frozen? ⟨w.heap.size + 1 + 1 + 1, 0, none⟩ = false := frozen_blk OS.out.1
          clear ho9 hg p1
          refine hK.out _ _ D9.out (fun _ => ?_)
          clear hK
          refine wpAnyH_ready (rs := [9]) (by kernel_rfl) (by simp) ?_
          refine AllReadyH.cons rfl (fun K hK => ?_) AllReadyH.nil
          go_simp
          refine hK.out _ _ D9.out (fun _ => ?_)
          clear hK
          refine wpAnyH_ready (rs := [10]) (by kernel_rfl) (by simp) ?_
          refine AllReadyH.cons rfl (fun K hK => ?_) AllReadyH.nil
          go_simp
          refine hK.out _ _ (D9.out.setCell (by simp) _) (fun _ => ?_)
          clear hK
          refine wpAnyH_done (by kernel_rfl) ?_ _
          clear p9 f9
          go_wp2_with fail
          go_roundw
          case rel => exact ⟨k + 1, by omega, by go_num, _, by rw [LE.out]; exact OS.out.2⟩
          case measure => simp [intOf]; omega
        · go_simp
          refine hK.out _ _ (DA.out _) (fun _ => ?_)
          clear hK
          refine wpAnyH_ready (rs := [1]) (by kernel_rfl) (by simp) ?_
          refine AllReadyH.cons rfl (fun K hK => ?_) AllReadyH.nil
          go_simp
          refine hK.out _ _ (DA.out _) (fun _ => ?_)
          clear hK
          refine wpAnyH_ready (rs := [8]) (by kernel_rfl) (by simp) ?_
          refine AllReadyH.cons rfl (fun K hK => ?_) AllReadyH.nil
          refine step_append_F (base := w.heap.size + 1 + 1) _ rfl _ _ rfl _ _ rfl rfl ls [(ga, gb)] (OA.out _) RN.out (by simp; omega) (by simp [World.drew]; omega) ?_
          intro v' w9 ho9 hg _
          have OS := hideP (SB.out.step (grown_drew hg) ho9)
          have D9 : Hid (Below (w.heap.size + 1 + 1) wz w9) := (DA.out _).grown hg (by simp [World.drew]; omega) (fun k hk => (SB.out.own.lt k hk).1)
          obtain ⟨x9, y9, e9⟩ := own_form ho9
          rw [show (ls ++ [(ga, gb)]).length = ls.length + 1 by simp] at e9
          subst e9
          have p9 : w9.cell? ⟨w.heap.size + 1 + 1 + 1, 0, none⟩ = some (.slice xo ls.length yo) := cell_blk OS.out.1
          have f9 : w9.frozen? ⟨w.heap.size + 1 + 1 + 1, 0, none⟩ = false := frozen_blk OS.out.1
          clear ho9 hg p1
          refine hK.out _ _ D9.out (fun _ => ?_)
          clear hK
          refine wpAnyH_ready (rs := [9]) (by kernel_rfl) (by simp) ?_
          refine AllReadyH.cons rfl (fun K hK => ?_) AllReadyH.nil
          go_simp
          refine hK.out _ _ D9.out (fun _ => ?_)
          clear hK
          refine wpAnyH_ready (rs := [10]) (by kernel_rfl) (by simp) ?_
          refine AllReadyH.cons rfl (fun K hK => ?_) AllReadyH.nil
          go_simp
          refine hK.out _ _ (D9.out.setCell (by simp) _) (fun _ => ?_)
          clear hK
          refine wpAnyH_done (by kernel_rfl) ?_ _
          clear p9 f9
          go_wp2_with fail
          go_roundw
          case rel => exact ⟨k + 1, by omega, by go_num, _, by rw [LE.out]; exact OS.out.2⟩
          case measure => simp [intOf]; omega
    · have r1 := (SB.out.lo.cell (p := ⟨w.heap.size + 1, 0, none⟩) (by show w.heap.size + 1 < _; omega)).trans C1.out.2.1
      have f1 := (SB.out.lo.frozen (p := ⟨w.heap.size + 1, 0, none⟩) (by show w.heap.size + 1 < _; omega)).trans C1.out.2.2
      have OE : Hid (OwnF (w.heap.size + 1 + 1) wr nv (Pl.withoutF fs nm)) := by
        have := SB.out.own
        rw [List.take_of_length_le (by rw [Hn.out]; omega)] at this
        exact this
      obtain ⟨x2, y2, e2⟩ := own_form OE.out
      subst e2
      have p1 : wr.cell? ⟨w.heap.size + 1 + 1 + 1, 0, none⟩ = some (.slice x2 (Pl.withoutF fs nm).length y2) := cell_blk SB.out.box
      have OF := hideP (owF_of_own OE.out)
      clear OE
      go_wp2_with fail
      refine bodyPost_ret (v := .agg #[.slice x2 (Pl.withoutF fs nm).length y2]) (by simp [results, Tryz.results31, go_sem, r1]) rfl ?_
      exact ⟨_, rfl, (OF.out.store (by omega) _).base (by omega), HBW.out.setCell (by simp) _⟩

end Go.Proofs.YtfangdhbadmolaaGreatDoor
