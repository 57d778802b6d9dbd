import Derived.Test.YtfangdhbadmolaaGreatDoorLv
import Derived.Test.YtfangdhbadmolaaGreatDoorDo
namespace Go.Proofs.YtfangdhbadmolaaGreatDoor
open Go.RowKit Go.Maps Go.MuLone
set_option linter.unusedVariables false

/-- what is refused, as an error -/
def errV (c : Int) : Value := if c = 0 then .nilIface else .iface 51 (.agg #[.int .i64 c, .int .i64 0])

theorem Lm.below {w w' : World} {b B : Nat} {fs : List Pl.Fl} (h : Lm w b fs) (hb : Below B w w') (hB : b < B) : Lm w' b fs := by
  obtain ⟨es, clock, e, F, hs, hD⟩ := h
  exact ⟨es, clock, (hb.block b hB).trans e, F, hs, hD⟩
theorem Lv.below {L b B : Nat} {q : Int} {fs : List Pl.Fl} {W W' : World} (h : Lv L b q fs W) (hb : Below B W W') (hL : L < B) (hB : b < B) : Lv L b q fs W' :=
  ⟨Nat.lt_of_lt_of_le h.lt hb.size, (hb.cell (p := ⟨L, 0, none⟩) hL).trans h.m, (hb.frozen (p := ⟨L, 0, none⟩) hL).trans h.mf, (hb.cell (p := ⟨L, 2, none⟩) hL).trans h.p, h.own.below hb hB, h.ne⟩

set_option maxRecDepth 100000 in
set_option maxHeartbeats 4000000 in
/-- (*liveDisk).refused -/
theorem refused_any (L b : Nat) (q : Int) (fs : List Pl.Fl) (kd : Int) (nm to da : ByteArray) (w : World) (hv : Pl.Vd fs) (hn : nm.size ≤ 1048576) (ht : to.size ≤ 1048576) (hd : da.size ≤ 1048576) (h : Lv L b q fs w) :
    Calls Tryz.prog 36 #[.pointer (some ⟨L, 0, none⟩), .agg #[.int .i64 kd, .string nm, .string to, .string da]] w fun e w' => e = .returned (errV (Pl.refB fs ⟨kd, nm, to, da⟩)) ∧ Below w.heap.size w w' := by
  have hl := hv.len
  have hds := Pl.data_le hv nm
  have hL := h.lt
  have hb := h.own.lt
  have BA : Hid (Below w.heap.size w (w.alloc (.cells #[.int .i64 kd, .string nm, .string to, .string da] 35))) := (Below.refl _ _).alloc (Nat.le_refl _) _
  have LV := hideP (h.keep BA.out)
  have SZ : Hid ((w.alloc (.cells #[.int .i64 kd, .string nm, .string to, .string da] 35)).heap.size = w.heap.size + 1) := by show _ = _; simp
  have C : Hid ((w.alloc (.cells #[.int .i64 kd, .string nm, .string to, .string da] 35)).cell? ⟨w.heap.size, 0, none⟩ = some (.int .i64 kd) ∧ (w.alloc (.cells #[.int .i64 kd, .string nm, .string to, .string da] 35)).cell? ⟨w.heap.size, 1, none⟩ = some (.string nm) ∧ (w.alloc (.cells #[.int .i64 kd, .string nm, .string to, .string da] 35)).cell? ⟨w.heap.size, 2, none⟩ = some (.string to) ∧ (w.alloc (.cells #[.int .i64 kd, .string nm, .string to, .string da] 35)).cell? ⟨w.heap.size, 3, none⟩ = some (.string da)) := ⟨by simp [go_sem], by simp [go_sem], by simp [go_sem], by simp [go_sem]⟩
  have HRF := hideP (show Pl.refB fs ⟨kd, nm, to, da⟩ = _ from rfl)
  unfold Pl.refB at HRF
  simp only at HRF
  clear hv h
  go_enter Tryz.func36, Tryz.ntmps36
  go_wp2_with fail
  generalize w.alloc (.cells #[.int .i64 kd, .string nm, .string to, .string da] 35) = W at *
  have hW : w.heap.size + 1 = W.heap.size := SZ.out.symm
  have CS : Hid (∀ w', Below W.heap.size W w' → (w'.cell? ⟨w.heap.size, 0, none⟩ = some (.int .i64 kd) ∧ w'.cell? ⟨w.heap.size, 1, none⟩ = some (.string nm) ∧ w'.cell? ⟨w.heap.size, 2, none⟩ = some (.string to) ∧ w'.cell? ⟨w.heap.size, 3, none⟩ = some (.string da))) := fun w' hb => ⟨(hb.cell (p := ⟨w.heap.size, 0, none⟩) (by show w.heap.size < _; omega)).trans C.out.1, (hb.cell (p := ⟨w.heap.size, 1, none⟩) (by show w.heap.size < _; omega)).trans C.out.2.1, (hb.cell (p := ⟨w.heap.size, 2, none⟩) (by show w.heap.size < _; omega)).trans C.out.2.2.1, (hb.cell (p := ⟨w.heap.size, 3, none⟩) (by show w.heap.size < _; omega)).trans C.out.2.2.2⟩
  have LS : Hid (∀ w', Below W.heap.size W w' → Lv L b q fs w') := fun w' hb => LV.out.keep hb
  have D := hideP (show Below W.heap.size W W.drew from (Below.refl _ _).drew)
  clear C LV SZ
  have hnm : nm.size ≤ maxLen := by unfold maxLen; omega
  generalize hdt : Pl.dataF fs nm = dt at *
  generalize hhf : Pl.hasF fs nm = hf at *
  have HDT := hideP hdt
  have HHF := hideP hhf
  clear hdt hhf
  have LK : Hid (∀ w', Below W.heap.size W w' → (Instr.lookup 66 (.map (some b)) (.string nm) true).run Tryz.prog w' = .ok (.tuple #[.agg #[.string dt], .bool hf]) w') := fun w' hb => by
    have := (LS.out w' hb).own.look_ok hnm
    rw [HDT.out, HHF.out] at this; exact this
  refine wp_region_held (S := fun w' => Below W.heap.size W w') (by kernel_rfl) ?_
  change wpAnyH _ _ _ _ _ _ _ _ (World.drew _)
  refine wpAnyH_take (i := 0) (v := .pointer (some ⟨L, 0, none⟩)) rfl (by kernel_rfl) (by kernel_rfl) (by kernel_rfl) (fun _ _ _ h => h) (Or.inl ⟨by rfl, ?_⟩) D.out ?_
  · intro w' hS
    clear hS
    go_simp
  refine wpAnyH_take (i := 1) (v := .pointer (some ⟨L, 0, none⟩)) rfl (by kernel_rfl) (by kernel_rfl) (by kernel_rfl) (fun _ _ _ h => h) (Or.inl ⟨by rfl, ?_⟩) D.out ?_
  · intro w' hS
    clear hS
    go_simp
  refine wpAnyH_take (i := 2) (v := .pointer (some ⟨L, 2, none⟩)) rfl (by kernel_rfl) (by kernel_rfl) (by kernel_rfl) (fun _ _ _ h => h) (Or.inl ⟨by rfl, ?_⟩) D.out ?_
  · intro w' hS
    clear hS
    go_simp
  refine wpAnyH_take (i := 3) (v := .map (some b)) rfl (by kernel_rfl) (by kernel_rfl) (by kernel_rfl) (fun _ _ _ h => h) (Or.inl ⟨by rfl, ?_⟩) D.out ?_
  · intro w' hS
    have := (LS.out w' hS).p
    clear hS
    go_simp
  refine wpAnyH_take (i := 4) (v := .pointer (some ⟨w.heap.size, 1, none⟩)) rfl (by kernel_rfl) (by kernel_rfl) (by kernel_rfl) (fun _ _ _ h => h) (Or.inl ⟨by rfl, ?_⟩) D.out ?_
  · intro w' hS
    clear hS
    go_simp
  refine wpAnyH_take (i := 5) (v := .string nm) rfl (by kernel_rfl) (by kernel_rfl) (by kernel_rfl) (fun _ _ _ h => h) (Or.inl ⟨by rfl, ?_⟩) D.out ?_
  · intro w' hS
    have := (CS.out w' hS).2.1
    clear hS
    go_simp
  refine wpAnyH_take (i := 6) (v := .tuple #[.agg #[.string dt], .bool hf]) rfl (by kernel_rfl) (by kernel_rfl) (by kernel_rfl) (fun _ _ _ h => h) (Or.inl ⟨by rfl, ?_⟩) D.out ?_
  · intro w' hS
    have := LK.out w' hS
    clear hS
    go_simp
  refine wpAnyH_take (i := 7) (v := .tuple #[.agg #[.string dt], .bool hf]) rfl (by kernel_rfl) (by kernel_rfl) (by kernel_rfl) (fun _ _ _ h => h) (Or.inl ⟨by rfl, ?_⟩) D.out ?_
  · intro w' hS
    clear hS
    go_simp
  refine wpAnyH_take (i := 8) (v := .agg #[.string dt]) rfl (by kernel_rfl) (by kernel_rfl) (by kernel_rfl) (fun _ _ _ h => h) (Or.inl ⟨by rfl, ?_⟩) D.out ?_
  · intro w' hS
    clear hS
    go_simp
  refine wpAnyH_take (i := 9) (v := .bool hf) rfl (by kernel_rfl) (by kernel_rfl) (by kernel_rfl) (fun _ _ _ h => h) (Or.inl ⟨by rfl, ?_⟩) D.out ?_
  · intro w' hS
    clear hS
    go_simp
  refine wpAnyH_ready (rs := [10]) (by kernel_rfl) (by simp) ?_
  refine AllReadyH.cons rfl (fun K hK => ?_) AllReadyH.nil
  have DA : Hid (∀ o, Below W.heap.size W (W.alloc o).drew) := fun o => ((Below.refl _ _).alloc (Nat.le_refl _) _).drew
  go_simp
  refine hK.out _ _ (DA.out _) (fun _ => ?_)
  clear hK
  refine wpAnyH_ready (rs := [11]) (by kernel_rfl) (by simp) ?_
  refine AllReadyH.cons rfl (fun K hK => ?_) AllReadyH.nil
  go_simp
  refine hK.out _ _ (DA.out _) (fun _ => ?_)
  clear hK
  refine wpAnyH_ready (rs := [12]) (by kernel_rfl) (by simp) ?_
  refine AllReadyH.cons rfl (fun K hK => ?_) AllReadyH.nil
  go_simp
  refine hK.out _ _ (DA.out _) (fun _ => ?_)
  clear hK
  refine wpAnyH_done (by kernel_rfl) ?_ _
  clear LK D DA
  have FX : Hid (Below W.heap.size W (W.alloc (.cells #[.string dt] 68)).drew ∧ (W.alloc (.cells #[.string dt] 68)).drew.cell? ⟨W.heap.size, 0, none⟩ = some (.string dt) ∧ W.heap.size < (W.alloc (.cells #[.string dt] 68)).drew.heap.size) := ⟨((Below.refl _ _).alloc (Nat.le_refl _) _).drew, by simp [go_sem], by simp [World.drew]⟩
  generalize (W.alloc (.cells #[.string dt] 68)).drew = W2 at FX ⊢
  obtain ⟨k0, k1, k2, k3⟩ := CS.out W2 FX.out.1
  go_wp2_with fail
  refine (actOk_any kd nm to da _ (by omega) (by omega)).mono ?_
  rintro e w3 ⟨rfl, hb3⟩
  clear k0 k1 k2 k3
  have hB3 := FX.out.1.trans (hb3.mono FX.out.1.size)
  have LV := hideP (LS.out w3 hB3)
  have k5 : w3.cell? ⟨W.heap.size, 0, none⟩ = some (.string dt) := (hb3.cell (p := ⟨W.heap.size, 0, none⟩) FX.out.2.2).trans FX.out.2.1
  have B3 := hideP (BA.out.trans (hB3.mono (by omega)))
  obtain ⟨k0, k1, k2, k3⟩ := CS.out w3 hB3
  have hp := LV.out.p
  have hlen := LV.out.own.len
  clear hb3 hB3 FX CS LS HRF
  generalize hln : fs.length = n at *
  have Hn := hideP hln
  clear hln
  cases hA : Pl.actB ⟨kd, nm, to, da⟩
  · have RF := hideP (Pl.ref_act (fs := fs) hA)
    clear hA
    go_wp2_with fail
    go_ret
    exact ⟨by rw [RF.out]; rfl, B3.out⟩
  cases hf
  · by_cases hk1 : kd = 1
    · subst hk1
      have hda := Pl.act_nodata hA (by show ¬ (1 : Int) = 2; omega)
      have hdt : dt.size = 0 := by have := Pl.data_none HHF.out; rw [HDT.out] at this; rw [this]; rfl
      by_cases h4 : n = 400
      · have RF := hideP (Pl.ref_full (a := ⟨1, nm, to, da⟩) hA HHF.out rfl (by rw [Hn.out]; exact h4))
        have h4' : ((n : Int) == 400) = true := by simp; omega
        clear hA h4 hda hdt
        go_wp2_with fail
        go_ret
        exact ⟨by rw [RF.out]; rfl, B3.out⟩
      · have RF := hideP (Pl.ref_ok (a := ⟨1, nm, to, da⟩) hA (.inr ⟨rfl, by rw [Hn.out]; exact h4⟩) (by simp only; rw [HDT.out]; simp only at hda; omega))
        have h4' : ((n : Int) == 400) = false := by simp; omega
        have hbig : ¬ (100000 : Int) < (dt.size : Int) + da.size := by simp only at hda; omega
        clear hA h4 hda hdt
        go_wp2_with fail
        go_ret
        exact ⟨by rw [RF.out]; rfl, B3.out⟩
    · have RF := hideP (Pl.ref_no (a := ⟨kd, nm, to, da⟩) hA HHF.out hk1)
      have hk1' : (kd != 1) = true := by rw [bne_iff_ne]; exact hk1
      clear hA hk1
      go_wp2_with fail
      go_ret
      exact ⟨by rw [RF.out]; rfl, B3.out⟩
  · by_cases hbig : 100000 < dt.size + da.size
    · have RF := hideP (Pl.ref_big (a := ⟨kd, nm, to, da⟩) hA HHF.out (by simp only; rw [HDT.out]; exact hbig))
      have hbig' : (100000 : Int) < (dt.size : Int) + da.size := by omega
      clear hA hbig
      go_wp2_with fail
      go_ret
      exact ⟨by rw [RF.out]; rfl, B3.out⟩
    · have RF := hideP (Pl.ref_ok (a := ⟨kd, nm, to, da⟩) hA (.inl HHF.out) (by simp only; rw [HDT.out]; exact hbig))
      have hbig' : ¬ (100000 : Int) < (dt.size : Int) + da.size := by omega
      clear hA hbig
      go_wp2_with fail
      go_ret
      exact ⟨by rw [RF.out]; rfl, B3.out⟩

end Go.Proofs.YtfangdhbadmolaaGreatDoor
