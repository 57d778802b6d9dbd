import Derived.Test.YtaopohihipihdaaGreatDoorDyX
namespace Go.Proofs.YtaopohihipihdaaGreatDoor
open Go.RowKit
set_option linter.unusedVariables false

set_option maxRecDepth 100000 in
set_option maxHeartbeats 16000000 in
/-- impl.cat: the arrays have axes -/
theorem cat_vec (b0 k0 : Nat) (a1 : Option Addr) (k1 b2 k2 : Nat) (a3 : Option Addr) (k3 : Nat) (sa da sb db : List Int) (w : World)
    (h0 : Rd w.heap.size w (.slice (some ⟨b0, 0, none⟩) sa.length k0) sa) (h1 : Rd w.heap.size w (.slice a1 da.length k1) da) (h2 : Rd w.heap.size w (.slice (some ⟨b2, 0, none⟩) sb.length k2) sb) (h3 : Rd w.heap.size w (.slice a3 db.length k3) db)
    (hk0 : sa.length ≤ k0 ∧ k0 ≤ 9223372036854775807) (hk2 : sb.length ≤ k2 ∧ k2 ≤ 9223372036854775807) (z1 : 0 < da.length → ∃ g, a1 = some ⟨g, 0, none⟩) (z3 : 0 < db.length → ∃ g, a3 = some ⟨g, 0, none⟩) (heq : sa.length = sb.length) (hlx : 1 ≤ sa.length) (hlx3 : sa.length ≤ 3) (hly : 1 ≤ sb.length) (hly3 : sb.length ≤ 3) (hla : sa.length ≤ 3) (hlb : sb.length ≤ 3) (hda : da.length ≤ 1000) (hdb : db.length ≤ 1000)
    (hx0 : 0 ≤ sa.getD 0 0 ∧ sa.getD 0 0 ≤ 1000) (hy0 : 0 ≤ sb.getD 0 0 ∧ sb.getD 0 0 ≤ 1000) (c : Int) (SS DD : List Int) (hres : Pl.catM sa da sb db = (c, SS, DD)) :
    Calls Tryz.prog 53 #[.agg #[.slice (some ⟨b0, 0, none⟩) sa.length k0, .slice a1 da.length k1], .agg #[.slice (some ⟨b2, 0, none⟩) sb.length k2, .slice a3 db.length k3]] w (KPost w c SS DD) := by
  have hxs : Pl.axesS sa da = sa := by unfold Pl.axesS; rw [if_neg (by omega)]
  have hys : Pl.axesS sb db = sb := by unfold Pl.axesS; rw [if_neg (by omega)]
  have HEQ := hideP heq
  clear heq
  have e := hres
  unfold Pl.catM at e
  rw [hxs, hys] at e
  have HE := hideP e
  clear e hres
  have C0 := hideP (Cs.new w sa da sb db b0 k0 a1 k1 b2 k2 a3 k3 h0 h1 h2 h3 hk0 hk2 z1 z3)
  have KWA : Hid (∀ w', Cs w sa da sb db b0 k0 a1 k1 b2 k2 a3 k3 w' → Calls Tryz.prog 75 #[.agg #[.slice (some ⟨b0, 0, none⟩) sa.length k0, .slice a1 da.length k1]] w' fun e w'' => ∃ gA, e = .returned (.agg #[.slice (some ⟨gA, 0, none⟩) sa.length k0, .slice a1 da.length k1]) ∧ Rd w''.heap.size w'' (.slice (some ⟨gA, 0, none⟩) sa.length k0) sa ∧ Below w'.heap.size w' w'') := fun w' h => by
    exact (withAxes_id (some ⟨b0, 0, none⟩) k0 a1 k1 sa da w' h.xa (by omega)).mono (by rintro e w'' ⟨rfl, q2⟩; exact ⟨b0, rfl, (h.xa.keep q2).up q2.size, q2⟩)
  have KWB : Hid (∀ w', Cs w sa da sb db b0 k0 a1 k1 b2 k2 a3 k3 w' → Calls Tryz.prog 75 #[.agg #[.slice (some ⟨b2, 0, none⟩) sb.length k2, .slice a3 db.length k3]] w' fun e w'' => ∃ gB, e = .returned (.agg #[.slice (some ⟨gB, 0, none⟩) sb.length k2, .slice a3 db.length k3]) ∧ Rd w''.heap.size w'' (.slice (some ⟨gB, 0, none⟩) sb.length k2) sb ∧ Below w'.heap.size w' w'') := fun w' h => by
    exact (withAxes_id (some ⟨b2, 0, none⟩) k2 a3 k3 sb db w' h.xb (by omega)).mono (by rintro e w'' ⟨rfl, q2⟩; exact ⟨b2, rfl, (h.xb.keep q2).up q2.size, q2⟩)
  have CCA := hideP hk0
  have CCB := hideP hk2
  clear h0 h1 h2 h3 hxs hys
  go_enter Tryz.func53, Tryz.ntmps53
  go_upto_region 1 with fail
  have DW : Hid (Cs w sa da sb db b0 k0 a1 k1 b2 k2 a3 k3 (((w.alloc (.cells #[.slice (some ⟨b0, 0, none⟩) sa.length k0, .slice a1 da.length k1] 25)).alloc (.cells #[.slice (some ⟨b2, 0, none⟩) sb.length k2, .slice a3 db.length k3] 25)).alloc (.cells #[.slice none 0 0, .slice none 0 0] 25)).drew) := C0.out.keep (Below.refl _ _).drew
  go_cut [6] (fun _ wy => ∃ gA gB, Cs w sa da sb db gA k0 a1 k1 gB k2 a3 k3 wy)
  case first =>
    refine wp_region_held (S := fun w' => True) (by kernel_rfl) ?_
    change wpAnyH _ _ _ _ _ _ _ _ (World.drew _)
    generalize World.drew (((w.alloc (.cells #[.slice (some ⟨b0, 0, none⟩) sa.length k0, .slice a1 da.length k1] 25)).alloc (.cells #[.slice (some ⟨b2, 0, none⟩) sb.length k2, .slice a3 db.length k3] 25)).alloc (.cells #[.slice none 0 0, .slice none 0 0] 25)) = wd at DW ⊢
    refine wpAnyH_ready (rs := [0, 2]) (by kernel_rfl) (by simp) ?_
    refine AllReadyH.cons rfl (fun K hK => ?_) (AllReadyH.cons rfl (fun K hK => ?_) AllReadyH.nil)
    · have q0 := DW.out.a0
      have q1 := DW.out.a1
      go_simp
      refine hK.out _ _ trivial (fun _ => ?_)
      clear hK q0 q1
      refine wpAnyH_ready (rs := [1, 2]) (by kernel_rfl) (by simp) ?_
      refine AllReadyH.cons rfl (fun K hK => ?_) (AllReadyH.cons rfl (fun K hK => ?_) AllReadyH.nil)
      · go_simp
        refine (KWA.out wd DW.out).mono ?_
        rintro e w2 ⟨gA, rfl, hr, hb⟩
        have C2 := hideP (DW.out.keep hb)
        have RA2 := hideP hr
        clear hr hb
        refine hK.out _ _ trivial (fun _ => ?_)
        clear hK
        refine wpAnyH_ready (rs := [2]) (by kernel_rfl) (by simp) ?_
        refine AllReadyH.cons rfl (fun K hK => ?_) AllReadyH.nil
        have q0 := C2.out.b0
        have q1 := C2.out.b1
        go_simp
        refine hK.out _ _ trivial (fun _ => ?_)
        clear hK q0 q1
        refine wpAnyH_ready (rs := [3]) (by kernel_rfl) (by simp) ?_
        refine AllReadyH.cons rfl (fun K hK => ?_) AllReadyH.nil
        go_simp
        refine (KWB.out w2 C2.out).mono ?_
        rintro e w4 ⟨gB, rfl, hr, hb⟩
        have C4 := hideP (C2.out.keep hb)
        have RA4 := hideP ((RA2.out.keep hb).up hb.size)
        have RB4 := hideP hr
        clear hr hb
        refine hK.out _ _ trivial (fun _ => ?_)
        clear hK
        refine wpAnyH_ready (rs := [4]) (by kernel_rfl) (by simp) ?_
        refine AllReadyH.cons rfl (fun K hK => ?_) AllReadyH.nil
        have q0 := C4.out.a0
        have q1 := C4.out.a1
        have q2 := C4.out.fa
        have C5 := hideP (C4.out.putA RA4.out C4.out.xd CCA.out C4.out.z1)
        have RO5 : Hid (Rd ((w4.setCell ⟨w.heap.size, 0, none⟩ (.slice (some ⟨gA, 0, none⟩) sa.length k0)).setCell ⟨w.heap.size, 1, none⟩ (.slice a1 da.length k1)).heap.size ((w4.setCell ⟨w.heap.size, 0, none⟩ (.slice (some ⟨gA, 0, none⟩) sa.length k0)).setCell ⟨w.heap.size, 1, none⟩ (.slice a1 da.length k1)) (.slice (some ⟨gB, 0, none⟩) sb.length k2) sb) := by
          have := RB4.out.aside2 q0 (.slice (some ⟨gA, 0, none⟩) sa.length k0) (.slice a1 da.length k1)
          show Rd _ _ _ _
          simpa using this
        go_simp
        refine hK.out _ _ trivial (fun _ => ?_)
        clear hK q0 q1 q2
        generalize ((w4.setCell ⟨w.heap.size, 0, none⟩ (.slice (some ⟨gA, 0, none⟩) sa.length k0)).setCell ⟨w.heap.size, 1, none⟩ (.slice a1 da.length k1)) = w5 at C5 RO5 ⊢
        refine wpAnyH_ready (rs := [5]) (by kernel_rfl) (by simp) ?_
        refine AllReadyH.cons rfl (fun K hK => ?_) AllReadyH.nil
        have q0 := C5.out.b0
        have q1 := C5.out.b1
        have q2 := C5.out.fb
        have C6 := hideP (C5.out.putB RO5.out C5.out.xe CCB.out C5.out.z3)
        go_simp
        refine hK.out _ _ trivial (fun _ => ?_)
        clear hK q0 q1 q2
        generalize ((w5.setCell ⟨w.heap.size + 1, 0, none⟩ (.slice (some ⟨gB, 0, none⟩) sb.length k2)).setCell ⟨w.heap.size + 1, 1, none⟩ (.slice a3 db.length k3)) = w6 at C6 ⊢
        refine wpAnyH_done (by kernel_rfl) ?_ _
        go_wp2_with fail
        go_meet
        case rel => exact ⟨_, _, C6.out⟩
      · have q0 := DW.out.b0
        have q1 := DW.out.b1
        go_simp
        refine hK.out _ _ trivial (fun _ => ?_)
        clear hK q0 q1
        refine wpAnyH_ready (rs := [1]) (by kernel_rfl) (by simp) ?_
        refine AllReadyH.cons rfl (fun K hK => ?_) AllReadyH.nil
        go_simp
        refine (KWA.out wd DW.out).mono ?_
        rintro e w8 ⟨gA, rfl, hr, hb⟩
        have C8 := hideP (DW.out.keep hb)
        have RA8 := hideP hr
        clear hr hb
        refine hK.out _ _ trivial (fun _ => ?_)
        clear hK
        refine wpAnyH_ready (rs := [3]) (by kernel_rfl) (by simp) ?_
        refine AllReadyH.cons rfl (fun K hK => ?_) AllReadyH.nil
        go_simp
        refine (KWB.out w8 C8.out).mono ?_
        rintro e w9 ⟨gB, rfl, hr, hb⟩
        have C9 := hideP (C8.out.keep hb)
        have RA9 := hideP ((RA8.out.keep hb).up hb.size)
        have RB9 := hideP hr
        clear hr hb
        refine hK.out _ _ trivial (fun _ => ?_)
        clear hK
        refine wpAnyH_ready (rs := [4]) (by kernel_rfl) (by simp) ?_
        refine AllReadyH.cons rfl (fun K hK => ?_) AllReadyH.nil
        have q0 := C9.out.a0
        have q1 := C9.out.a1
        have q2 := C9.out.fa
        have C10 := hideP (C9.out.putA RA9.out C9.out.xd CCA.out C9.out.z1)
        have RO10 : Hid (Rd ((w9.setCell ⟨w.heap.size, 0, none⟩ (.slice (some ⟨gA, 0, none⟩) sa.length k0)).setCell ⟨w.heap.size, 1, none⟩ (.slice a1 da.length k1)).heap.size ((w9.setCell ⟨w.heap.size, 0, none⟩ (.slice (some ⟨gA, 0, none⟩) sa.length k0)).setCell ⟨w.heap.size, 1, none⟩ (.slice a1 da.length k1)) (.slice (some ⟨gB, 0, none⟩) sb.length k2) sb) := by
          have := RB9.out.aside2 q0 (.slice (some ⟨gA, 0, none⟩) sa.length k0) (.slice a1 da.length k1)
          show Rd _ _ _ _
          simpa using this
        go_simp
        refine hK.out _ _ trivial (fun _ => ?_)
        clear hK q0 q1 q2
        generalize ((w9.setCell ⟨w.heap.size, 0, none⟩ (.slice (some ⟨gA, 0, none⟩) sa.length k0)).setCell ⟨w.heap.size, 1, none⟩ (.slice a1 da.length k1)) = w10 at C10 RO10 ⊢
        refine wpAnyH_ready (rs := [5]) (by kernel_rfl) (by simp) ?_
        refine AllReadyH.cons rfl (fun K hK => ?_) AllReadyH.nil
        have q0 := C10.out.b0
        have q1 := C10.out.b1
        have q2 := C10.out.fb
        have C11 := hideP (C10.out.putB RO10.out C10.out.xe CCB.out C10.out.z3)
        go_simp
        refine hK.out _ _ trivial (fun _ => ?_)
        clear hK q0 q1 q2
        generalize ((w10.setCell ⟨w.heap.size + 1, 0, none⟩ (.slice (some ⟨gB, 0, none⟩) sb.length k2)).setCell ⟨w.heap.size + 1, 1, none⟩ (.slice a3 db.length k3)) = w11 at C11 ⊢
        refine wpAnyH_done (by kernel_rfl) ?_ _
        go_wp2_with fail
        go_meet
        case rel => exact ⟨_, _, C11.out⟩
    · have q0 := DW.out.b0
      have q1 := DW.out.b1
      go_simp
      refine hK.out _ _ trivial (fun _ => ?_)
      clear hK q0 q1
      refine wpAnyH_ready (rs := [0]) (by kernel_rfl) (by simp) ?_
      refine AllReadyH.cons rfl (fun K hK => ?_) AllReadyH.nil
      have q0 := DW.out.a0
      have q1 := DW.out.a1
      go_simp
      refine hK.out _ _ trivial (fun _ => ?_)
      clear hK q0 q1
      refine wpAnyH_ready (rs := [1]) (by kernel_rfl) (by simp) ?_
      refine AllReadyH.cons rfl (fun K hK => ?_) AllReadyH.nil
      go_simp
      refine (KWA.out wd DW.out).mono ?_
      rintro e w14 ⟨gA, rfl, hr, hb⟩
      have C14 := hideP (DW.out.keep hb)
      have RA14 := hideP hr
      clear hr hb
      refine hK.out _ _ trivial (fun _ => ?_)
      clear hK
      refine wpAnyH_ready (rs := [3]) (by kernel_rfl) (by simp) ?_
      refine AllReadyH.cons rfl (fun K hK => ?_) AllReadyH.nil
      go_simp
      refine (KWB.out w14 C14.out).mono ?_
      rintro e w15 ⟨gB, rfl, hr, hb⟩
      have C15 := hideP (C14.out.keep hb)
      have RA15 := hideP ((RA14.out.keep hb).up hb.size)
      have RB15 := hideP hr
      clear hr hb
      refine hK.out _ _ trivial (fun _ => ?_)
      clear hK
      refine wpAnyH_ready (rs := [4]) (by kernel_rfl) (by simp) ?_
      refine AllReadyH.cons rfl (fun K hK => ?_) AllReadyH.nil
      have q0 := C15.out.a0
      have q1 := C15.out.a1
      have q2 := C15.out.fa
      have C16 := hideP (C15.out.putA RA15.out C15.out.xd CCA.out C15.out.z1)
      have RO16 : Hid (Rd ((w15.setCell ⟨w.heap.size, 0, none⟩ (.slice (some ⟨gA, 0, none⟩) sa.length k0)).setCell ⟨w.heap.size, 1, none⟩ (.slice a1 da.length k1)).heap.size ((w15.setCell ⟨w.heap.size, 0, none⟩ (.slice (some ⟨gA, 0, none⟩) sa.length k0)).setCell ⟨w.heap.size, 1, none⟩ (.slice a1 da.length k1)) (.slice (some ⟨gB, 0, none⟩) sb.length k2) sb) := by
        have := RB15.out.aside2 q0 (.slice (some ⟨gA, 0, none⟩) sa.length k0) (.slice a1 da.length k1)
        show Rd _ _ _ _
        simpa using this
      go_simp
      refine hK.out _ _ trivial (fun _ => ?_)
      clear hK q0 q1 q2
      generalize ((w15.setCell ⟨w.heap.size, 0, none⟩ (.slice (some ⟨gA, 0, none⟩) sa.length k0)).setCell ⟨w.heap.size, 1, none⟩ (.slice a1 da.length k1)) = w16 at C16 RO16 ⊢
      refine wpAnyH_ready (rs := [5]) (by kernel_rfl) (by simp) ?_
      refine AllReadyH.cons rfl (fun K hK => ?_) AllReadyH.nil
      have q0 := C16.out.b0
      have q1 := C16.out.b1
      have q2 := C16.out.fb
      have C17 := hideP (C16.out.putB RO16.out C16.out.xe CCB.out C16.out.z3)
      go_simp
      refine hK.out _ _ trivial (fun _ => ?_)
      clear hK q0 q1 q2
      generalize ((w16.setCell ⟨w.heap.size + 1, 0, none⟩ (.slice (some ⟨gB, 0, none⟩) sb.length k2)).setCell ⟨w.heap.size + 1, 1, none⟩ (.slice a3 db.length k3)) = w17 at C17 ⊢
      refine wpAnyH_done (by kernel_rfl) ?_ _
      go_wp2_with fail
      go_meet
      case rel => exact ⟨_, _, C17.out⟩
  case rest =>
    obtain ⟨gA, gB, hC⟩ := hcut
    rename World => wx
    have C1 := hideP hC
    clear hC DW C0 KWA KWB
    have z0 := C1.out.a0
    have z1 := C1.out.a1
    have z2 := C1.out.b0
    have z3 := C1.out.b1
    by_cases hc1 : sb.length = sa.length + 1
    · exact absurd hc1 (by have := HEQ.out; omega)
    · have t1 : ((sa.length : Int) - (sb.length : Int) == -1) = false := by rw [beq_eq_false_iff_ne]; omega
      by_cases hc2 : sa.length = sb.length + 1
      · exact absurd hc2 (by have := HEQ.out; omega)
      · have t2 : ((sa.length : Int) - (sb.length : Int) == 1) = false := by rw [beq_eq_false_iff_ne]; omega
        have eA : Pl.asR sa sb.length = sa := by unfold Pl.asR; rw [if_neg (by omega)]
        have eB : Pl.asR sb sa.length = sb := by unfold Pl.asR; rw [if_neg (by omega)]
        have e := HE.out
        rw [eA, eB] at e
        by_cases hc3 : sa.length = sb.length
        · rw [if_pos hc3] at e
          obtain ⟨m, hm⟩ : ∃ m, sa.length = m + 1 := ⟨sa.length - 1, by omega⟩
          obtain ⟨n1, hn1⟩ : ∃ n1, sa.getD 0 0 = n1 := ⟨_, rfl⟩
          obtain ⟨n2, hn2⟩ : ∃ n2, sb.getD 0 0 = n2 := ⟨_, rfl⟩
          rw [hn1, hn2] at e
          rw [hn1] at hx0
          rw [hn2] at hy0
          obtain ⟨hx1, hx2⟩ := hx0
          obtain ⟨hy1, hy2⟩ := hy0
          have PE := hideP e
          have hXl : sa.length = m + 1 := hm
          have hYl : sb.length = m + 1 := by omega
          have hm2 : m ≤ 2 := by omega
          obtain ⟨kA, hkA⟩ : ∃ kA, kA = k0 := ⟨_, rfl⟩
          obtain ⟨kB, hkB⟩ : ∃ kB, kB = k2 := ⟨_, rfl⟩
          have CX : Hid (Cs w sa da sb db gA kA a1 k1 gB kB a3 k3 wx) := by rw [hkA, hkB]; exact C1
          clear HE e C1 eA eB
          rw [hXl] at z0 t1 t2
          rw [hYl] at z2 t1 t2
          clear hkA hkB hm hc1 hc2 hc3
          obtain ⟨X, hX⟩ : ∃ X, X = sa := ⟨_, rfl⟩
          obtain ⟨Y, hY⟩ : ∃ Y, Y = sb := ⟨_, rfl⟩
          rw [← hX, ← hY] at CX PE
          rw [← hX] at hXl hn1
          rw [← hY] at hYl hn2
          go_upto_region 7 with fail
          clear z0 z1 z2 z3 t1 t2 hX hY
          obtain ⟨oA, hoA⟩ : ∃ oA : Nat, oA = if kA = 1 then 0 else 1 := ⟨_, rfl⟩
          obtain ⟨oB, hoB⟩ : ∃ oB : Nat, oB = if kB = 1 then 0 else 1 := ⟨_, rfl⟩
          have HOA := hideP hoA
          have HOB := hideP hoB
          have PX : Hid (∀ w', Below wx.heap.size wx w' → (w'.cell? ⟨w.heap.size, 0, none⟩ = some (.slice (some ⟨gA, 0, none⟩) (m + 1) kA) ∧ w'.cell? ⟨w.heap.size, 1, none⟩ = some (.slice a1 da.length k1)) ∧ (w'.cell? ⟨w.heap.size + 1, 0, none⟩ = some (.slice (some ⟨gB, 0, none⟩) (m + 1) kB) ∧ w'.cell? ⟨w.heap.size + 1, 1, none⟩ = some (.slice a3 db.length k3)) ∧ (w'.cell? ⟨gA, 0, none⟩ = some (.int .i64 n1) ∧ w'.cell? ⟨gB, 0, none⟩ = some (.int .i64 n2)) ∧ (Rd w'.heap.size w' (.slice (some ⟨gA, oA, none⟩) m (kA - 1)) X.tail ∧ Rd w'.heap.size w' (.slice (some ⟨gB, oB, none⟩) m (kB - 1)) Y.tail) ∧ Cs w X da Y db gA kA a1 k1 gB kB a3 k3 w') := fun w' hb => by
            have k := CX.out.keep hb
            have z0 := k.a0
            have z1 := k.b0
            rw [hXl] at z0
            rw [hYl] at z1
            have zc := k.ca.1
            have zd := k.cb.1
            have x0 := (rd_cell k.xa (i := 0) (by omega)).2
            have y0 := (rd_cell k.xb (i := 0) (by omega)).2
            rw [Nat.add_zero, hn1] at x0
            rw [Nat.add_zero, hn2] at y0
            exact ⟨⟨z0, k.a1⟩, ⟨z1, k.b1⟩, ⟨x0, y0⟩, ⟨rd_onek hXl (by omega) hoA k.xa, rd_onek hYl (by omega) hoB k.xb⟩, k⟩
          have KEQ : Hid (∀ w', Below wx.heap.size wx w' → Calls Tryz.prog 83 #[.slice (some ⟨gA, oA, none⟩) m (kA - 1), .slice (some ⟨gB, oB, none⟩) m (kB - 1)] w' fun e w'' => e = .returned (.bool (decide (X.tail = Y.tail))) ∧ Below w'.heap.size w' w'') := fun w' hb => slEq_any _ _ X.tail Y.tail w' (by rw [List.length_tail]; omega) (by rw [List.length_tail]; omega) (PX.out w' hb).2.2.2.1.1 (PX.out w' hb).2.2.2.1.2
          have htlX : X.tail.length = m := by rw [List.length_tail]; omega
          have A3 : Hid (∀ (W : World) o, Below W.heap.size W (W.alloc o)) := fun W o => (Below.refl _ _).alloc (Nat.le_refl _) _
          have hszx := CX.out.size
          have c0 := (PX.out wx (Below.refl _ _)).1.1
          have c1 := (PX.out wx (Below.refl _ _)).2.1.1
          clear hoA hoB hXl hYl hn1 hn2 CX
          go_wp2_with (go_at_call 36; refine (refuse_no _ _).mono ?_; rintro e wx ⟨rfl, rfl⟩)
          clear c0 c1
          have DR := hideP (show Below wx.heap.size wx wx.drew from (Below.refl _ _).drew)
          refine wp_region_held (S := fun w' => Below wx.heap.size wx w') (by kernel_rfl) ?_
          change wpAnyH _ _ _ _ _ _ _ _ (World.drew _)
          generalize World.drew wx = wd at DR ⊢
          refine wpAnyH_take (i := 0) (v := .pointer (some ⟨w.heap.size, 0, none⟩)) rfl (by kernel_rfl) (by kernel_rfl) (by kernel_rfl) (fun _ _ _ h => h) (Or.inl ⟨by rfl, ?_⟩) DR.out ?_
          · intro w' hS
            clear hS
            go_simp
          refine wpAnyH_take (i := 1) (v := .slice (some ⟨gA, 0, none⟩) (m + 1) kA) rfl (by kernel_rfl) (by kernel_rfl) (by kernel_rfl) (fun _ _ _ h => h) (Or.inl ⟨by rfl, ?_⟩) DR.out ?_
          · intro w' hS
            have := (PX.out w' hS).1.1
            clear hS
            go_simp
          refine wpAnyH_take (i := 2) (v := .slice (some ⟨gA, oA, none⟩) m (kA - 1)) rfl (by kernel_rfl) (by kernel_rfl) (by kernel_rfl) (fun _ _ _ h => h) (Or.inl ⟨by rfl, fun w' _ => exec_lok (.tmp 34) (.const (.int .i64 1)) gA m kA oA HOA.out (by kernel_rfl) (by kernel_rfl) (by kernel_rfl) w'⟩) DR.out ?_
          refine wpAnyH_take (i := 3) (v := .pointer (some ⟨w.heap.size + 1, 0, none⟩)) rfl (by kernel_rfl) (by kernel_rfl) (by kernel_rfl) (fun _ _ _ h => h) (Or.inl ⟨by rfl, ?_⟩) DR.out ?_
          · intro w' hS
            clear hS
            go_simp
          refine wpAnyH_take (i := 4) (v := .slice (some ⟨gB, 0, none⟩) (m + 1) kB) rfl (by kernel_rfl) (by kernel_rfl) (by kernel_rfl) (fun _ _ _ h => h) (Or.inl ⟨by rfl, ?_⟩) DR.out ?_
          · intro w' hS
            have := (PX.out w' hS).2.1.1
            clear hS
            go_simp
          refine wpAnyH_take (i := 5) (v := .slice (some ⟨gB, oB, none⟩) m (kB - 1)) rfl (by kernel_rfl) (by kernel_rfl) (by kernel_rfl) (fun _ _ _ h => h) (Or.inl ⟨by rfl, fun w' _ => exec_lok (.tmp 37) (.const (.int .i64 1)) gB m kB oB HOB.out (by kernel_rfl) (by kernel_rfl) (by kernel_rfl) w'⟩) DR.out ?_
          by_cases htl : X.tail = Y.tail
          · have htd : decide (X.tail = Y.tail) = true := decide_eq_true htl
            rw [htd] at KEQ
            have e := PE.out
            rw [if_pos htl] at e
            have PE2 := hideP e
            clear e htd htl PE
            refine wpAnyH_ready (rs := [6]) (by kernel_rfl) (by simp) ?_
            refine AllReadyH.cons rfl (fun K hK => ?_) AllReadyH.nil
            go_simp
            refine (KEQ.out wd DR.out).mono ?_
            rintro e w6 ⟨rfl, hb6⟩
            have D6 := hideP (DR.out.trans (hb6.mono DR.out.size))
            clear hb6 DR
            refine hK.out _ _ D6.out (fun _ => ?_)
            clear hK
            refine wpAnyH_ready (rs := [7]) (by kernel_rfl) (by simp) ?_
            refine AllReadyH.cons rfl (fun K hK => ?_) AllReadyH.nil
            go_simp
            refine hK.out _ _ D6.out (fun _ => ?_)
            clear hK
            refine wpAnyH_ready (rs := [8]) (by kernel_rfl) (by simp) ?_
            refine AllReadyH.cons rfl (fun K hK => ?_) AllReadyH.nil
            go_simp
            refine (refuse_no _ _).mono ?_
            rintro e w6 ⟨rfl, rfl⟩
            refine hK.out _ _ D6.out (fun _ => ?_)
            clear hK
            refine wpAnyH_done (by kernel_rfl) ?_ _
            have PX6 : Hid (∀ w', Below w6.heap.size w6 w' → Below wx.heap.size wx w') := fun w' hb => D6.out.trans (hb.mono D6.out.size)
            have hs6 := D6.out.size
            clear KEQ
            go_upto_region 9 with fail
            have DR := hideP (show Below w6.heap.size w6 w6.drew from (Below.refl _ _).drew)
            refine wp_region_held (S := fun w' => Below w6.heap.size w6 w') (by kernel_rfl) ?_
            change wpAnyH _ _ _ _ _ _ _ _ (World.drew _)
            generalize World.drew w6 = wd at DR ⊢
            refine wpAnyH_take (i := 0) (v := .pointer (some ⟨w.heap.size, 0, none⟩)) rfl (by kernel_rfl) (by kernel_rfl) (by kernel_rfl) (fun _ _ _ h => h) (Or.inl ⟨by rfl, ?_⟩) DR.out ?_
            · intro w' hS
              clear hS
              go_simp
            refine wpAnyH_take (i := 1) (v := .slice (some ⟨gA, 0, none⟩) (m + 1) kA) rfl (by kernel_rfl) (by kernel_rfl) (by kernel_rfl) (fun _ _ _ h => h) (Or.inl ⟨by rfl, ?_⟩) DR.out ?_
            · intro w' hS
              have := (PX.out w' (PX6.out w' hS)).1.1
              clear hS
              go_simp
            refine wpAnyH_take (i := 2) (v := .pointer (some ⟨gA, 0, none⟩)) rfl (by kernel_rfl) (by kernel_rfl) (by kernel_rfl) (fun _ _ _ h => h) (Or.inl ⟨by rfl, ?_⟩) DR.out ?_
            · intro w' hS
              clear hS
              go_simp
            refine wpAnyH_take (i := 3) (v := .int .i64 n1) rfl (by kernel_rfl) (by kernel_rfl) (by kernel_rfl) (fun _ _ _ h => h) (Or.inl ⟨by rfl, ?_⟩) DR.out ?_
            · intro w' hS
              have := (PX.out w' (PX6.out w' hS)).2.2.1.1
              clear hS
              go_simp
            refine wpAnyH_take (i := 4) (v := .pointer (some ⟨w.heap.size + 1, 0, none⟩)) rfl (by kernel_rfl) (by kernel_rfl) (by kernel_rfl) (fun _ _ _ h => h) (Or.inl ⟨by rfl, ?_⟩) DR.out ?_
            · intro w' hS
              clear hS
              go_simp
            refine wpAnyH_take (i := 5) (v := .slice (some ⟨gB, 0, none⟩) (m + 1) kB) rfl (by kernel_rfl) (by kernel_rfl) (by kernel_rfl) (fun _ _ _ h => h) (Or.inl ⟨by rfl, ?_⟩) DR.out ?_
            · intro w' hS
              have := (PX.out w' (PX6.out w' hS)).2.1.1
              clear hS
              go_simp
            refine wpAnyH_take (i := 6) (v := .pointer (some ⟨gB, 0, none⟩)) rfl (by kernel_rfl) (by kernel_rfl) (by kernel_rfl) (fun _ _ _ h => h) (Or.inl ⟨by rfl, ?_⟩) DR.out ?_
            · intro w' hS
              clear hS
              go_simp
            refine wpAnyH_take (i := 7) (v := .int .i64 n2) rfl (by kernel_rfl) (by kernel_rfl) (by kernel_rfl) (fun _ _ _ h => h) (Or.inl ⟨by rfl, ?_⟩) DR.out ?_
            · intro w' hS
              have := (PX.out w' (PX6.out w' hS)).2.2.1.2
              clear hS
              go_simp
            refine wpAnyH_take (i := 8) (v := .int .i64 (n1 + n2)) rfl (by kernel_rfl) (by kernel_rfl) (by kernel_rfl) (fun _ _ _ h => h) (Or.inl ⟨by rfl, ?_⟩) DR.out ?_
            · intro w' hS
              clear hS
              go_simp
              rw [IntKind.wrap_i64]
              omega
            refine wpAnyH_take (i := 10) (v := .pointer (some ⟨w.heap.size, 0, none⟩)) rfl (by kernel_rfl) (by kernel_rfl) (by kernel_rfl) (fun _ _ _ h => h) (Or.inl ⟨by rfl, ?_⟩) DR.out ?_
            · intro w' hS
              clear hS
              go_simp
            refine wpAnyH_take (i := 11) (v := .slice (some ⟨gA, 0, none⟩) (m + 1) kA) rfl (by kernel_rfl) (by kernel_rfl) (by kernel_rfl) (fun _ _ _ h => h) (Or.inl ⟨by rfl, ?_⟩) DR.out ?_
            · intro w' hS
              have := (PX.out w' (PX6.out w' hS)).1.1
              clear hS
              go_simp
            refine wpAnyH_take (i := 12) (v := .slice (some ⟨gA, oA, none⟩) m (kA - 1)) rfl (by kernel_rfl) (by kernel_rfl) (by kernel_rfl) (fun _ _ _ h => h) (Or.inl ⟨by rfl, fun w' _ => exec_lok (.tmp 53) (.const (.int .i64 1)) gA m kA oA HOA.out (by kernel_rfl) (by kernel_rfl) (by kernel_rfl) w'⟩) DR.out ?_
            refine wpAnyH_ready (rs := [9]) (by kernel_rfl) (by simp) ?_
            refine AllReadyH.cons rfl (fun K hK => ?_) AllReadyH.nil
            go_simp
            have D1 := hideP (DR.out.trans ((A3.out wd (.cells #[.int .i64 (n1 + n2)] 3)).mono DR.out.size))
            refine hK.out _ _ D1.out (fun _ => ?_)
            clear hK
            refine wpAnyH_ready (rs := [13]) (by kernel_rfl) (by simp) ?_
            refine AllReadyH.cons rfl (fun K hK => ?_) AllReadyH.nil
            go_simp
            have D2 := hideP (D1.out.trans ((A3.out (wd.alloc (.cells #[.int .i64 (n1 + n2)] 3)) (.cells #[.slice (some ⟨wd.heap.size, 0, none⟩) 1 1, .slice (some ⟨gA, oA, none⟩) m (kA - 1)] 23)).mono D1.out.size))
            refine hK.out _ _ D2.out (fun _ => ?_)
            clear hK
            refine wpAnyH_ready (rs := [14]) (by kernel_rfl) (by simp) ?_
            refine AllReadyH.cons rfl (fun K hK => ?_) AllReadyH.nil
            go_simp
            have J := joined_lit (n1 + n2) (.slice (some ⟨gA, oA, none⟩) m (kA - 1)) X.tail wd (by omega) (PX.out wd (PX6.out wd DR.out)).2.2.2.1.1
            rw [htlX] at J
            refine J.mono ?_
            clear J
            rintro e w7 ⟨zs, yy, rfl, ho7, hb7⟩
            have B7 := hideP (DR.out.trans (hb7.mono DR.out.size))
            have O7 := hideP (ho7.base DR.out.size)
            clear ho7 hb7 D1 D2
            refine hK.out _ _ B7.out (fun _ => ?_)
            clear hK
            refine wpAnyH_ready (rs := [15]) (by kernel_rfl) (by simp) ?_
            refine AllReadyH.cons rfl (fun K hK => ?_) AllReadyH.nil
            go_simp
            refine hK.out _ _ B7.out (fun _ => ?_)
            clear hK
            refine wpAnyH_done (by kernel_rfl) ?_ _
            have RD7 := hideP O7.out.rd
            have hs7 := B7.out.size
            clear DR
            by_cases hf : Pl.fitsB ((n1 + n2) :: X.tail) = true
            · have KF : Hid (∀ w' v, Rd w'.heap.size w' v ((n1 + n2) :: X.tail) → Calls Tryz.prog 80 #[v] w' fun e w'' => e = .returned (.tuple #[]) ∧ w'' = w') := fun w' v h => (needFit_any _ _ _ w' (by rw [List.length_cons, htlX]; omega) h).mono (by
                rintro e w'' ⟨rfl, ⟨_, rfl⟩ | ⟨g, _⟩⟩
                · exact ⟨rfl, rfl⟩
                · rw [hf] at g; cases g)
              have e := PE2.out
              rw [if_pos hf] at e
              simp only [Prod.mk.injEq] at e
              obtain ⟨rfl, rfl, rfl⟩ := e
              have Z7 := hideP (PX.out w7 (PX6.out w7 B7.out))
              have ca1 := Z7.out.1.2
              have cb1 := Z7.out.2.1.2
              have HTX := hideP htlX
              clear hf PE2 htlX
              go_wp2_with (go_at_call 80; refine (KF.out _ _ RD7.out).mono ?_; rintro e w7 ⟨rfl, rfl⟩)
              have AL := hideP (A3.out w7 (.cells #[.slice a1 da.length k1, .slice a3 db.length k3] 23))
              have J := joined2 w7.heap.size (.slice a1 da.length k1) (.slice a3 db.length k3) da db (w7.alloc (.cells #[.slice a1 da.length k1, .slice a3 db.length k3] 23)) (by omega) (by omega) (by simp) (by simp [go_sem]) (by simp [go_sem]) (((Z7.out.2.2.2.2.xd).keep AL.out).up AL.out.size) (((Z7.out.2.2.2.2.xe).keep AL.out).up AL.out.size)
              refine J.mono ?_
              clear J
              rintro e w8 ⟨dv, rfl, ho8, hb8⟩
              have B8 := hideP (AL.out.trans (hb8.mono AL.out.size))
              have O8 := hideP (ho8.base AL.out.size)
              have C8 := hideP (Z7.out.2.2.2.2.keep B8.out)
              have O78 := hideP (O7.out.keep B8.out)
              have AP := hideP (apart_right (B := w7.heap.size) O8.out O7.out.lt)
              obtain ⟨zd, yd, ed⟩ := ho8.form
              subst ed
              have hs8 := B8.out.size
              clear ho8 hb8 ca1 cb1
              obtain ⟨r0, r1, f2⟩ := C8.out.res
              go_wp2_with fail
              refine bodyPost_ret (v := .agg #[.slice zs (m + 1) yy, .slice zd (da ++ db).length yd]) (by simp [results, Tryz.results53, go_sem, r0, r1]) rfl ⟨(C8.out.bel.setCell (by simp; omega) _).setCell (by simp; omega) _, .inl ⟨rfl, _, _, rfl, ?_, ?_, AP.out⟩⟩
              · exact Own.base (B := w6.heap.size) (Own.store (Own.store O78.out (by omega) _) (by omega) _) (by omega)
              · exact Own.base (B := w7.heap.size) (Own.store (Own.store O8.out (by omega) _) (by omega) _) (by omega)
            · have KF : Hid (∀ w' v, Rd w'.heap.size w' v ((n1 + n2) :: X.tail) → Calls Tryz.prog 80 #[v] w' fun e w'' => e = .panicked [thrown 6] ∧ w'' = w') := fun w' v h => (needFit_any _ _ _ w' (by rw [List.length_cons, htlX]; omega) h).mono (by
                rintro e w'' ⟨rfl, ⟨g, _⟩ | ⟨_, rfl⟩⟩
                · rw [g] at hf; exact absurd rfl hf
                · exact ⟨rfl, rfl⟩)
              have e := PE2.out
              rw [if_neg hf] at e
              simp only [Prod.mk.injEq] at e
              obtain ⟨rfl, rfl, rfl⟩ := e
              have BW := hideP (PX.out w7 (PX6.out w7 B7.out)).2.2.2.2.bel
              clear hf PE2
              go_wp2_with (go_at_call 80; refine (KF.out _ _ RD7.out).mono ?_; rintro e w7 ⟨rfl, rfl⟩)
              exact ⟨rfl, BW.out, .inr ⟨by decide, rfl, rfl, rfl⟩⟩
          · have htd : decide (X.tail = Y.tail) = false := decide_eq_false htl
            rw [htd] at KEQ
            have e := PE.out
            rw [if_neg htl] at e
            simp only [Prod.mk.injEq] at e
            obtain ⟨rfl, rfl, rfl⟩ := e
            clear htd htl PE
            refine wpAnyH_ready (rs := [6]) (by kernel_rfl) (by simp) ?_
            refine AllReadyH.cons rfl (fun K hK => ?_) AllReadyH.nil
            go_simp
            refine (KEQ.out wd DR.out).mono ?_
            rintro e w6 ⟨rfl, hb6⟩
            have D6 := hideP (DR.out.trans (hb6.mono DR.out.size))
            have BW6 := hideP (PX.out w6 D6.out).2.2.2.2.bel
            clear hb6 DR
            refine hK.out _ _ D6.out (fun _ => ?_)
            clear hK
            refine wpAnyH_ready (rs := [7]) (by kernel_rfl) (by simp) ?_
            refine AllReadyH.cons rfl (fun K hK => ?_) AllReadyH.nil
            go_simp
            refine hK.out _ _ D6.out (fun _ => ?_)
            clear hK
            refine wpAnyH_ready (rs := [8]) (by kernel_rfl) (by simp) ?_
            refine AllReadyH.cons rfl (fun K hK => ?_) AllReadyH.nil
            go_simp
            refine (refuse_yes _ _).mono ?_
            rintro e w6 ⟨rfl, rfl⟩
            go_wp2_with fail
            exact ⟨rfl, BW6.out, .inr ⟨by decide, rfl, rfl, rfl⟩⟩
        · exact absurd HEQ.out hc3

end Go.Proofs.YtaopohihipihdaaGreatDoor
