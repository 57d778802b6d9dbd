import Derived.Test.YtmobjomebmipdaaDyX
namespace Go.Proofs.Ytmobjomebmipdaa
open Go.RowKit
set_option linter.unusedVariables false

set_option maxRecDepth 100000 in
set_option maxHeartbeats 16000000 in
/-- impl.cat: the arrays have axes -/
theorem cat_core (b0 b1 b2 b3 : Nat) (sa da sb db xs ys : List Int) (w : World)
    (h0 : Rd w.heap.size w (.slice (some ⟨b0, 0, none⟩) sa.length sa.length) sa) (h1 : Rd w.heap.size w (.slice (some ⟨b1, 0, none⟩) da.length da.length) da) (h2 : Rd w.heap.size w (.slice (some ⟨b2, 0, none⟩) sb.length sb.length) sb) (h3 : Rd w.heap.size w (.slice (some ⟨b3, 0, none⟩) db.length db.length) db)
    (hxs : Pl.axesS sa da = xs) (hys : Pl.axesS sb db = ys) (hlx : 1 ≤ xs.length) (hlx3 : xs.length ≤ 3) (hly : 1 ≤ ys.length) (hly3 : ys.length ≤ 3) (hla : sa.length ≤ 3) (hlb : sb.length ≤ 3) (hda : da.length ≤ 1000) (hdb : db.length ≤ 1000)
    (hx0 : 0 ≤ xs.getD 0 0 ∧ xs.getD 0 0 ≤ 1000) (hy0 : 0 ≤ ys.getD 0 0 ∧ ys.getD 0 0 ≤ 1000) (c : Int) (SS DD : List Int) (hres : Pl.catM sa da sb db = (c, SS, DD)) :
    Calls Try.prog 124 #[.agg #[.slice (some ⟨b0, 0, none⟩) sa.length sa.length, .slice (some ⟨b1, 0, none⟩) da.length da.length], .agg #[.slice (some ⟨b2, 0, none⟩) sb.length sb.length, .slice (some ⟨b3, 0, none⟩) db.length db.length]] w (KPost w c SS DD) := by
  have e := hres
  unfold Pl.catM at e
  rw [hxs, hys] at e
  have HE := hideP e
  clear e hres
  have C0 := hideP (Cs.new w sa da sb db b0 b1 b2 b3 h0 h1 h2 h3 (by omega) (by omega))
  have KWA : Hid (∀ w', Cs w sa da sb db b0 sa.length b1 da.length b2 sb.length b3 db.length w' → Calls Try.prog 147 #[.agg #[.slice (some ⟨b0, 0, none⟩) sa.length sa.length, .slice (some ⟨b1, 0, none⟩) da.length da.length]] w' fun e w'' => ∃ gA, e = .returned (.agg #[.slice (some ⟨gA, 0, none⟩) xs.length xs.length, .slice (some ⟨b1, 0, none⟩) da.length da.length]) ∧ Rd w''.heap.size w'' (.slice (some ⟨gA, 0, none⟩) xs.length xs.length) xs ∧ Below w'.heap.size w' w'') := fun w' h => by
    have := withAxes_sl b0 b1 sa da w' h.xa h.xd
    rw [hxs] at this
    exact this.mono (by rintro e w'' ⟨g, rfl, q1, q2, _⟩; exact ⟨g, rfl, q1, q2⟩)
  have KWB : Hid (∀ w', Cs w sa da sb db b0 sa.length b1 da.length b2 sb.length b3 db.length w' → Calls Try.prog 147 #[.agg #[.slice (some ⟨b2, 0, none⟩) sb.length sb.length, .slice (some ⟨b3, 0, none⟩) db.length db.length]] w' fun e w'' => ∃ gB, e = .returned (.agg #[.slice (some ⟨gB, 0, none⟩) ys.length ys.length, .slice (some ⟨b3, 0, none⟩) db.length db.length]) ∧ Rd w''.heap.size w'' (.slice (some ⟨gB, 0, none⟩) ys.length ys.length) ys ∧ Below w'.heap.size w' w'') := fun w' h => by
    have := withAxes_sl b2 b3 sb db w' h.xb h.xe
    rw [hys] at this
    exact this.mono (by rintro e w'' ⟨g, rfl, q1, q2, _⟩; exact ⟨g, rfl, q1, q2⟩)
  have CCA : Hid (xs.length ≤ xs.length ∧ xs.length ≤ 9223372036854775807) := ⟨Nat.le_refl _, by omega⟩
  have CCB : Hid (ys.length ≤ ys.length ∧ ys.length ≤ 9223372036854775807) := ⟨Nat.le_refl _, by omega⟩
  clear h0 h1 h2 h3 hxs hys
  go_enter Try.func124, Try.ntmps124
  go_upto_region 1 with fail
  have DW : Hid (Cs w sa da sb db b0 sa.length b1 da.length b2 sb.length b3 db.length (((w.alloc (.cells #[.slice (some ⟨b0, 0, none⟩) sa.length sa.length, .slice (some ⟨b1, 0, none⟩) da.length da.length] 27)).alloc (.cells #[.slice (some ⟨b2, 0, none⟩) sb.length sb.length, .slice (some ⟨b3, 0, none⟩) db.length db.length] 27)).alloc (.cells #[.slice none 0 0, .slice none 0 0] 27)).drew) := C0.out.keep (Below.refl _ _).drew
  go_cut [6] (fun _ wy => ∃ gA gB, Cs w xs da ys db gA xs.length b1 da.length gB ys.length b3 db.length wy)
  case first =>
    refine wp_region_held (S := fun w' => True) (by kernel_rfl) ?_
    change wpAnyH _ _ _ _ _ _ _ _ (World.drew _)
    generalize World.drew (((w.alloc (.cells #[.slice (some ⟨b0, 0, none⟩) sa.length sa.length, .slice (some ⟨b1, 0, none⟩) da.length da.length] 27)).alloc (.cells #[.slice (some ⟨b2, 0, none⟩) sb.length sb.length, .slice (some ⟨b3, 0, none⟩) db.length db.length] 27)).alloc (.cells #[.slice none 0 0, .slice none 0 0] 27)) = wd at DW ⊢
    refine wpAnyH_ready (rs := [0, 2]) (by kernel_rfl) (by simp) ?_
    refine AllReadyH.cons rfl (fun K hK => ?_) (AllReadyH.cons rfl (fun K hK => ?_) AllReadyH.nil)
    · have q0 := DW.out.a0
      have q1 := DW.out.a1
      go_simp
      refine hK.out _ _ trivial (fun _ => ?_)
      clear hK q0 q1
      refine wpAnyH_ready (rs := [1, 2]) (by kernel_rfl) (by simp) ?_
      refine AllReadyH.cons rfl (fun K hK => ?_) (AllReadyH.cons rfl (fun K hK => ?_) AllReadyH.nil)
      · go_simp
        refine (KWA.out wd DW.out).mono ?_
        rintro e w2 ⟨gA, rfl, hr, hb⟩
        have C2 := hideP (DW.out.keep hb)
        have RA2 := hideP hr
        clear hr hb
        refine hK.out _ _ trivial (fun _ => ?_)
        clear hK
        refine wpAnyH_ready (rs := [2]) (by kernel_rfl) (by simp) ?_
        refine AllReadyH.cons rfl (fun K hK => ?_) AllReadyH.nil
        have q0 := C2.out.b0
        have q1 := C2.out.b1
        go_simp
        refine hK.out _ _ trivial (fun _ => ?_)
        clear hK q0 q1
        refine wpAnyH_ready (rs := [3]) (by kernel_rfl) (by simp) ?_
        refine AllReadyH.cons rfl (fun K hK => ?_) AllReadyH.nil
        go_simp
        refine (KWB.out w2 C2.out).mono ?_
        rintro e w4 ⟨gB, rfl, hr, hb⟩
        have C4 := hideP (C2.out.keep hb)
        have RA4 := hideP ((RA2.out.keep hb).up hb.size)
        have RB4 := hideP hr
        clear hr hb
        refine hK.out _ _ trivial (fun _ => ?_)
        clear hK
        refine wpAnyH_ready (rs := [4]) (by kernel_rfl) (by simp) ?_
        refine AllReadyH.cons rfl (fun K hK => ?_) AllReadyH.nil
        have q0 := C4.out.a0
        have q1 := C4.out.a1
        have q2 := C4.out.fa
        have C5 := hideP (C4.out.putA RA4.out C4.out.xd CCA.out)
        have RO5 : Hid (Rd ((w4.setCell ⟨w.heap.size, 0, none⟩ (.slice (some ⟨gA, 0, none⟩) xs.length xs.length)).setCell ⟨w.heap.size, 1, none⟩ (.slice (some ⟨b1, 0, none⟩) da.length da.length)).heap.size ((w4.setCell ⟨w.heap.size, 0, none⟩ (.slice (some ⟨gA, 0, none⟩) xs.length xs.length)).setCell ⟨w.heap.size, 1, none⟩ (.slice (some ⟨b1, 0, none⟩) da.length da.length)) (.slice (some ⟨gB, 0, none⟩) ys.length ys.length) ys) := by
          have := RB4.out.aside2 q0 (.slice (some ⟨gA, 0, none⟩) xs.length xs.length) (.slice (some ⟨b1, 0, none⟩) da.length da.length)
          show Rd _ _ _ _
          simpa using this
        go_simp
        refine hK.out _ _ trivial (fun _ => ?_)
        clear hK q0 q1 q2
        generalize ((w4.setCell ⟨w.heap.size, 0, none⟩ (.slice (some ⟨gA, 0, none⟩) xs.length xs.length)).setCell ⟨w.heap.size, 1, none⟩ (.slice (some ⟨b1, 0, none⟩) da.length da.length)) = w5 at C5 RO5 ⊢
        refine wpAnyH_ready (rs := [5]) (by kernel_rfl) (by simp) ?_
        refine AllReadyH.cons rfl (fun K hK => ?_) AllReadyH.nil
        have q0 := C5.out.b0
        have q1 := C5.out.b1
        have q2 := C5.out.fb
        have C6 := hideP (C5.out.putB RO5.out C5.out.xe CCB.out)
        go_simp
        refine hK.out _ _ trivial (fun _ => ?_)
        clear hK q0 q1 q2
        generalize ((w5.setCell ⟨w.heap.size + 1, 0, none⟩ (.slice (some ⟨gB, 0, none⟩) ys.length ys.length)).setCell ⟨w.heap.size + 1, 1, none⟩ (.slice (some ⟨b3, 0, none⟩) db.length db.length)) = w6 at C6 ⊢
        refine wpAnyH_done (by kernel_rfl) ?_ _
        go_wp2_with fail
        go_meet
        case rel => exact ⟨_, _, C6.out⟩
      · have q0 := DW.out.b0
        have q1 := DW.out.b1
        go_simp
        refine hK.out _ _ trivial (fun _ => ?_)
        clear hK q0 q1
        refine wpAnyH_ready (rs := [1]) (by kernel_rfl) (by simp) ?_
        refine AllReadyH.cons rfl (fun K hK => ?_) AllReadyH.nil
        go_simp
        refine (KWA.out wd DW.out).mono ?_
        rintro e w8 ⟨gA, rfl, hr, hb⟩
        have C8 := hideP (DW.out.keep hb)
        have RA8 := hideP hr
        clear hr hb
        refine hK.out _ _ trivial (fun _ => ?_)
        clear hK
        refine wpAnyH_ready (rs := [3]) (by kernel_rfl) (by simp) ?_
        refine AllReadyH.cons rfl (fun K hK => ?_) AllReadyH.nil
        go_simp
        refine (KWB.out w8 C8.out).mono ?_
        rintro e w9 ⟨gB, rfl, hr, hb⟩
        have C9 := hideP (C8.out.keep hb)
        have RA9 := hideP ((RA8.out.keep hb).up hb.size)
        have RB9 := hideP hr
        clear hr hb
        refine hK.out _ _ trivial (fun _ => ?_)
        clear hK
        refine wpAnyH_ready (rs := [4]) (by kernel_rfl) (by simp) ?_
        refine AllReadyH.cons rfl (fun K hK => ?_) AllReadyH.nil
        have q0 := C9.out.a0
        have q1 := C9.out.a1
        have q2 := C9.out.fa
        have C10 := hideP (C9.out.putA RA9.out C9.out.xd CCA.out)
        have RO10 : Hid (Rd ((w9.setCell ⟨w.heap.size, 0, none⟩ (.slice (some ⟨gA, 0, none⟩) xs.length xs.length)).setCell ⟨w.heap.size, 1, none⟩ (.slice (some ⟨b1, 0, none⟩) da.length da.length)).heap.size ((w9.setCell ⟨w.heap.size, 0, none⟩ (.slice (some ⟨gA, 0, none⟩) xs.length xs.length)).setCell ⟨w.heap.size, 1, none⟩ (.slice (some ⟨b1, 0, none⟩) da.length da.length)) (.slice (some ⟨gB, 0, none⟩) ys.length ys.length) ys) := by
          have := RB9.out.aside2 q0 (.slice (some ⟨gA, 0, none⟩) xs.length xs.length) (.slice (some ⟨b1, 0, none⟩) da.length da.length)
          show Rd _ _ _ _
          simpa using this
        go_simp
        refine hK.out _ _ trivial (fun _ => ?_)
        clear hK q0 q1 q2
        generalize ((w9.setCell ⟨w.heap.size, 0, none⟩ (.slice (some ⟨gA, 0, none⟩) xs.length xs.length)).setCell ⟨w.heap.size, 1, none⟩ (.slice (some ⟨b1, 0, none⟩) da.length da.length)) = w10 at C10 RO10 ⊢
        refine wpAnyH_ready (rs := [5]) (by kernel_rfl) (by simp) ?_
        refine AllReadyH.cons rfl (fun K hK => ?_) AllReadyH.nil
        have q0 := C10.out.b0
        have q1 := C10.out.b1
        have q2 := C10.out.fb
        have C11 := hideP (C10.out.putB RO10.out C10.out.xe CCB.out)
        go_simp
        refine hK.out _ _ trivial (fun _ => ?_)
        clear hK q0 q1 q2
        generalize ((w10.setCell ⟨w.heap.size + 1, 0, none⟩ (.slice (some ⟨gB, 0, none⟩) ys.length ys.length)).setCell ⟨w.heap.size + 1, 1, none⟩ (.slice (some ⟨b3, 0, none⟩) db.length db.length)) = w11 at C11 ⊢
        refine wpAnyH_done (by kernel_rfl) ?_ _
        go_wp2_with fail
        go_meet
        case rel => exact ⟨_, _, C11.out⟩
    · have q0 := DW.out.b0
      have q1 := DW.out.b1
      go_simp
      refine hK.out _ _ trivial (fun _ => ?_)
      clear hK q0 q1
      refine wpAnyH_ready (rs := [0]) (by kernel_rfl) (by simp) ?_
      refine AllReadyH.cons rfl (fun K hK => ?_) AllReadyH.nil
      have q0 := DW.out.a0
      have q1 := DW.out.a1
      go_simp
      refine hK.out _ _ trivial (fun _ => ?_)
      clear hK q0 q1
      refine wpAnyH_ready (rs := [1]) (by kernel_rfl) (by simp) ?_
      refine AllReadyH.cons rfl (fun K hK => ?_) AllReadyH.nil
      go_simp
      refine (KWA.out wd DW.out).mono ?_
      rintro e w14 ⟨gA, rfl, hr, hb⟩
      have C14 := hideP (DW.out.keep hb)
      have RA14 := hideP hr
      clear hr hb
      refine hK.out _ _ trivial (fun _ => ?_)
      clear hK
      refine wpAnyH_ready (rs := [3]) (by kernel_rfl) (by simp) ?_
      refine AllReadyH.cons rfl (fun K hK => ?_) AllReadyH.nil
      go_simp
      refine (KWB.out w14 C14.out).mono ?_
      rintro e w15 ⟨gB, rfl, hr, hb⟩
      have C15 := hideP (C14.out.keep hb)
      have RA15 := hideP ((RA14.out.keep hb).up hb.size)
      have RB15 := hideP hr
      clear hr hb
      refine hK.out _ _ trivial (fun _ => ?_)
      clear hK
      refine wpAnyH_ready (rs := [4]) (by kernel_rfl) (by simp) ?_
      refine AllReadyH.cons rfl (fun K hK => ?_) AllReadyH.nil
      have q0 := C15.out.a0
      have q1 := C15.out.a1
      have q2 := C15.out.fa
      have C16 := hideP (C15.out.putA RA15.out C15.out.xd CCA.out)
      have RO16 : Hid (Rd ((w15.setCell ⟨w.heap.size, 0, none⟩ (.slice (some ⟨gA, 0, none⟩) xs.length xs.length)).setCell ⟨w.heap.size, 1, none⟩ (.slice (some ⟨b1, 0, none⟩) da.length da.length)).heap.size ((w15.setCell ⟨w.heap.size, 0, none⟩ (.slice (some ⟨gA, 0, none⟩) xs.length xs.length)).setCell ⟨w.heap.size, 1, none⟩ (.slice (some ⟨b1, 0, none⟩) da.length da.length)) (.slice (some ⟨gB, 0, none⟩) ys.length ys.length) ys) := by
        have := RB15.out.aside2 q0 (.slice (some ⟨gA, 0, none⟩) xs.length xs.length) (.slice (some ⟨b1, 0, none⟩) da.length da.length)
        show Rd _ _ _ _
        simpa using this
      go_simp
      refine hK.out _ _ trivial (fun _ => ?_)
      clear hK q0 q1 q2
      generalize ((w15.setCell ⟨w.heap.size, 0, none⟩ (.slice (some ⟨gA, 0, none⟩) xs.length xs.length)).setCell ⟨w.heap.size, 1, none⟩ (.slice (some ⟨b1, 0, none⟩) da.length da.length)) = w16 at C16 RO16 ⊢
      refine wpAnyH_ready (rs := [5]) (by kernel_rfl) (by simp) ?_
      refine AllReadyH.cons rfl (fun K hK => ?_) AllReadyH.nil
      have q0 := C16.out.b0
      have q1 := C16.out.b1
      have q2 := C16.out.fb
      have C17 := hideP (C16.out.putB RO16.out C16.out.xe CCB.out)
      go_simp
      refine hK.out _ _ trivial (fun _ => ?_)
      clear hK q0 q1 q2
      generalize ((w16.setCell ⟨w.heap.size + 1, 0, none⟩ (.slice (some ⟨gB, 0, none⟩) ys.length ys.length)).setCell ⟨w.heap.size + 1, 1, none⟩ (.slice (some ⟨b3, 0, none⟩) db.length db.length)) = w17 at C17 ⊢
      refine wpAnyH_done (by kernel_rfl) ?_ _
      go_wp2_with fail
      go_meet
      case rel => exact ⟨_, _, C17.out⟩
  case rest =>
    obtain ⟨gA, gB, hC⟩ := hcut
    rename World => wx
    have C1 := hideP hC
    clear hC DW C0 KWA KWB
    have z0 := C1.out.a0
    have z1 := C1.out.a1
    have z2 := C1.out.b0
    have z3 := C1.out.b1
    by_cases hc1 : ys.length = xs.length + 1
    · have t1 : ((xs.length : Int) - (ys.length : Int) == -1) = true := by rw [beq_iff_eq]; omega
      have eA : Pl.asR xs ys.length = 1 :: xs := by unfold Pl.asR; rw [if_pos (by omega)]
      have eB : Pl.asR ys xs.length = ys := by unfold Pl.asR; rw [if_neg (by omega)]
      have KR := hideP (asRow_any gA xs.length b1 da.length da.length xs wx (by omega) C1.out.xa)
      have e := HE.out
      rw [eA, eB, if_pos (by rw [List.length_cons]; omega)] at e
      go_wp2_with fail
      refine KR.out.mono ?_
      rintro e' w2 ⟨g2, k2, rfl, hk1, hk2, hr, hb⟩
      have C2 := hideP (C1.out.keep hb)
      have CP : Hid (Cs w (1 :: xs) da ys db g2 k2 b1 da.length gB ys.length b3 db.length ((w2.setCell ⟨w.heap.size, 0, none⟩ (.slice (some ⟨g2, 0, none⟩) (xs.length + 1) k2)).setCell ⟨w.heap.size, 1, none⟩ (.slice (some ⟨b1, 0, none⟩) da.length da.length))) := C2.out.putA (xs' := 1 :: xs) hr C2.out.xd ⟨hk1, hk2⟩
      clear z0 z1 z2 z3
      have z0 := C2.out.a0
      have z1 := C2.out.a1
      have z2 := C2.out.fa
      clear hr hb C1 KR
      go_upto_region 7 with fail
      generalize ((w2.setCell ⟨w.heap.size, 0, none⟩ (.slice (some ⟨g2, 0, none⟩) (xs.length + 1) k2)).setCell ⟨w.heap.size, 1, none⟩ (.slice (some ⟨b1, 0, none⟩) da.length da.length)) = wx at CP ⊢
      clear z0 z1 z2 C2 t1
      obtain ⟨m, hm⟩ : ∃ m, m = xs.length := ⟨_, rfl⟩
      obtain ⟨n1, hn1⟩ : ∃ n1, (1 :: xs).getD 0 0 = n1 := ⟨_, rfl⟩
      obtain ⟨n2, hn2⟩ : ∃ n2, ys.getD 0 0 = n2 := ⟨_, rfl⟩
      have hx1 : 0 ≤ n1 := by rw [← hn1]; simp
      have hx2 : n1 ≤ 1000 := by rw [← hn1]; simp
      have hy1 : 0 ≤ n2 := by rw [← hn2]; exact hy0.1
      have hy2 : n2 ≤ 1000 := by rw [← hn2]; exact hy0.2
      rw [hn1, hn2] at e
      obtain ⟨X, hX⟩ : ∃ X, X = (1 :: xs) := ⟨_, rfl⟩
      obtain ⟨Y, hY⟩ : ∃ Y, Y = ys := ⟨_, rfl⟩
      rw [← hX, ← hY] at e CP
      rw [← hX] at hn1
      rw [← hY] at hn2
      have PE := hideP e
      have hXl : X.length = m + 1 := by rw [hX]; rw [List.length_cons]; omega
      have hYl : Y.length = m + 1 := by rw [hY]; omega
      have hm2 : m ≤ 2 := by omega
      obtain ⟨kA, hkA⟩ : ∃ kA, kA = k2 := ⟨_, rfl⟩
      obtain ⟨kB, hkB⟩ : ∃ kB, kB = Y.length := ⟨_, rfl⟩
      obtain ⟨gA, hgA⟩ : ∃ gA, gA = g2 := ⟨_, rfl⟩
      have CX : Hid (Cs w X da Y db gA kA b1 da.length gB kB b3 db.length wx) := by rw [hkA, hkB, hgA]; exact CP
      clear HE e CP eA eB hX hY hkA hkB hgA hm hc1
      obtain ⟨oA, hoA⟩ : ∃ oA : Nat, oA = if kA = 1 then 0 else 1 := ⟨_, rfl⟩
      obtain ⟨oB, hoB⟩ : ∃ oB : Nat, oB = if kB = 1 then 0 else 1 := ⟨_, rfl⟩
      have HOA := hideP hoA
      have HOB := hideP hoB
      have PX : Hid (∀ w', Below wx.heap.size wx w' → (w'.cell? ⟨w.heap.size, 0, none⟩ = some (.slice (some ⟨gA, 0, none⟩) (m + 1) kA) ∧ w'.cell? ⟨w.heap.size, 1, none⟩ = some (.slice (some ⟨b1, 0, none⟩) da.length da.length)) ∧ (w'.cell? ⟨w.heap.size + 1, 0, none⟩ = some (.slice (some ⟨gB, 0, none⟩) (m + 1) kB) ∧ w'.cell? ⟨w.heap.size + 1, 1, none⟩ = some (.slice (some ⟨b3, 0, none⟩) db.length db.length)) ∧ (w'.cell? ⟨gA, 0, none⟩ = some (.int .i64 n1) ∧ w'.cell? ⟨gB, 0, none⟩ = some (.int .i64 n2)) ∧ (Rd w'.heap.size w' (.slice (some ⟨gA, oA, none⟩) m (kA - 1)) X.tail ∧ Rd w'.heap.size w' (.slice (some ⟨gB, oB, none⟩) m (kB - 1)) Y.tail) ∧ Cs w X da Y db gA kA b1 da.length gB kB b3 db.length w') := fun w' hb => by
        have k := CX.out.keep hb
        have z0 := k.a0
        have z1 := k.b0
        rw [hXl] at z0
        rw [hYl] at z1
        have zc := k.ca.1
        have zd := k.cb.1
        have x0 := (rd_cell k.xa (i := 0) (by omega)).2
        have y0 := (rd_cell k.xb (i := 0) (by omega)).2
        rw [Nat.add_zero, hn1] at x0
        rw [Nat.add_zero, hn2] at y0
        exact ⟨⟨z0, k.a1⟩, ⟨z1, k.b1⟩, ⟨x0, y0⟩, ⟨rd_onek hXl (by omega) hoA k.xa, rd_onek hYl (by omega) hoB k.xb⟩, k⟩
      have KEQ : Hid (∀ w', Below wx.heap.size wx w' → Calls Try.prog 94 #[.slice (some ⟨gA, oA, none⟩) m (kA - 1), .slice (some ⟨gB, oB, none⟩) m (kB - 1)] w' fun e w'' => e = .returned (.bool (decide (X.tail = Y.tail))) ∧ Below w'.heap.size w' w'') := fun w' hb => slEq_any _ _ X.tail Y.tail w' (by rw [List.length_tail]; omega) (by rw [List.length_tail]; omega) (PX.out w' hb).2.2.2.1.1 (PX.out w' hb).2.2.2.1.2
      have htlX : X.tail.length = m := by rw [List.length_tail]; omega
      have A3 : Hid (∀ (W : World) o, Below W.heap.size W (W.alloc o)) := fun W o => (Below.refl _ _).alloc (Nat.le_refl _) _
      have hszx := CX.out.size
      have c0 := (PX.out wx (Below.refl _ _)).1.1
      have c1 := (PX.out wx (Below.refl _ _)).2.1.1
      clear hoA hoB hXl hYl hn1 hn2 CX
      go_wp2_with (go_at_call 83; refine (refuse_no _ _).mono ?_; rintro e wx ⟨rfl, rfl⟩)
      clear c0 c1
      have DR := hideP (show Below wx.heap.size wx wx.drew from (Below.refl _ _).drew)
      refine wp_region_held (S := fun w' => Below wx.heap.size wx w') (by kernel_rfl) ?_
      change wpAnyH _ _ _ _ _ _ _ _ (World.drew _)
      generalize World.drew wx = wd at DR ⊢
      refine wpAnyH_take (i := 0) (v := .pointer (some ⟨w.heap.size, 0, none⟩)) rfl (by kernel_rfl) (by kernel_rfl) (by kernel_rfl) (fun _ _ _ h => h) (Or.inl ⟨by rfl, ?_⟩) DR.out ?_
      · intro w' hS
        clear hS
        go_simp
      refine wpAnyH_take (i := 1) (v := .slice (some ⟨gA, 0, none⟩) (m + 1) kA) rfl (by kernel_rfl) (by kernel_rfl) (by kernel_rfl) (fun _ _ _ h => h) (Or.inl ⟨by rfl, ?_⟩) DR.out ?_
      · intro w' hS
        have := (PX.out w' hS).1.1
        clear hS
        go_simp
      refine wpAnyH_take (i := 2) (v := .slice (some ⟨gA, oA, none⟩) m (kA - 1)) rfl (by kernel_rfl) (by kernel_rfl) (by kernel_rfl) (fun _ _ _ h => h) (Or.inl ⟨by rfl, fun w' _ => exec_lok (.tmp 34) (.const (.int .i64 1)) gA m kA oA HOA.out (by kernel_rfl) (by kernel_rfl) (by kernel_rfl) w'⟩) DR.out ?_
      refine wpAnyH_take (i := 3) (v := .pointer (some ⟨w.heap.size + 1, 0, none⟩)) rfl (by kernel_rfl) (by kernel_rfl) (by kernel_rfl) (fun _ _ _ h => h) (Or.inl ⟨by rfl, ?_⟩) DR.out ?_
      · intro w' hS
        clear hS
        go_simp
      refine wpAnyH_take (i := 4) (v := .slice (some ⟨gB, 0, none⟩) (m + 1) kB) rfl (by kernel_rfl) (by kernel_rfl) (by kernel_rfl) (fun _ _ _ h => h) (Or.inl ⟨by rfl, ?_⟩) DR.out ?_
      · intro w' hS
        have := (PX.out w' hS).2.1.1
        clear hS
        go_simp
      refine wpAnyH_take (i := 5) (v := .slice (some ⟨gB, oB, none⟩) m (kB - 1)) rfl (by kernel_rfl) (by kernel_rfl) (by kernel_rfl) (fun _ _ _ h => h) (Or.inl ⟨by rfl, fun w' _ => exec_lok (.tmp 37) (.const (.int .i64 1)) gB m kB oB HOB.out (by kernel_rfl) (by kernel_rfl) (by kernel_rfl) w'⟩) DR.out ?_
      by_cases htl : X.tail = Y.tail
      · have htd : decide (X.tail = Y.tail) = true := decide_eq_true htl
        rw [htd] at KEQ
        have e := PE.out
        rw [if_pos htl] at e
        have PE2 := hideP e
        clear e htd htl PE
        refine wpAnyH_ready (rs := [6]) (by kernel_rfl) (by simp) ?_
        refine AllReadyH.cons rfl (fun K hK => ?_) AllReadyH.nil
        go_simp
        refine (KEQ.out wd DR.out).mono ?_
        rintro e w6 ⟨rfl, hb6⟩
        have D6 := hideP (DR.out.trans (hb6.mono DR.out.size))
        clear hb6 DR
        refine hK.out _ _ D6.out (fun _ => ?_)
        clear hK
        refine wpAnyH_ready (rs := [7]) (by kernel_rfl) (by simp) ?_
        refine AllReadyH.cons rfl (fun K hK => ?_) AllReadyH.nil
        go_simp
        refine hK.out _ _ D6.out (fun _ => ?_)
        clear hK
        refine wpAnyH_ready (rs := [8]) (by kernel_rfl) (by simp) ?_
        refine AllReadyH.cons rfl (fun K hK => ?_) AllReadyH.nil
        go_simp
        refine (refuse_no _ _).mono ?_
        rintro e w6 ⟨rfl, rfl⟩
        refine hK.out _ _ D6.out (fun _ => ?_)
        clear hK
        refine wpAnyH_done (by kernel_rfl) ?_ _
        have PX6 : Hid (∀ w', Below w6.heap.size w6 w' → Below wx.heap.size wx w') := fun w' hb => D6.out.trans (hb.mono D6.out.size)
        have hs6 := D6.out.size
        clear KEQ
        go_upto_region 9 with fail
        have DR := hideP (show Below w6.heap.size w6 w6.drew from (Below.refl _ _).drew)
        refine wp_region_held (S := fun w' => Below w6.heap.size w6 w') (by kernel_rfl) ?_
        change wpAnyH _ _ _ _ _ _ _ _ (World.drew _)
        generalize World.drew w6 = wd at DR ⊢
        refine wpAnyH_take (i := 0) (v := .pointer (some ⟨w.heap.size, 0, none⟩)) rfl (by kernel_rfl) (by kernel_rfl) (by kernel_rfl) (fun _ _ _ h => h) (Or.inl ⟨by rfl, ?_⟩) DR.out ?_
        · intro w' hS
          clear hS
          go_simp
        refine wpAnyH_take (i := 1) (v := .slice (some ⟨gA, 0, none⟩) (m + 1) kA) rfl (by kernel_rfl) (by kernel_rfl) (by kernel_rfl) (fun _ _ _ h => h) (Or.inl ⟨by rfl, ?_⟩) DR.out ?_
        · intro w' hS
          have := (PX.out w' (PX6.out w' hS)).1.1
          clear hS
          go_simp
        refine wpAnyH_take (i := 2) (v := .pointer (some ⟨gA, 0, none⟩)) rfl (by kernel_rfl) (by kernel_rfl) (by kernel_rfl) (fun _ _ _ h => h) (Or.inl ⟨by rfl, ?_⟩) DR.out ?_
        · intro w' hS
          clear hS
          go_simp
        refine wpAnyH_take (i := 3) (v := .int .i64 n1) rfl (by kernel_rfl) (by kernel_rfl) (by kernel_rfl) (fun _ _ _ h => h) (Or.inl ⟨by rfl, ?_⟩) DR.out ?_
        · intro w' hS
          have := (PX.out w' (PX6.out w' hS)).2.2.1.1
          clear hS
          go_simp
        refine wpAnyH_take (i := 4) (v := .pointer (some ⟨w.heap.size + 1, 0, none⟩)) rfl (by kernel_rfl) (by kernel_rfl) (by kernel_rfl) (fun _ _ _ h => h) (Or.inl ⟨by rfl, ?_⟩) DR.out ?_
        · intro w' hS
          clear hS
          go_simp
        refine wpAnyH_take (i := 5) (v := .slice (some ⟨gB, 0, none⟩) (m + 1) kB) rfl (by kernel_rfl) (by kernel_rfl) (by kernel_rfl) (fun _ _ _ h => h) (Or.inl ⟨by rfl, ?_⟩) DR.out ?_
        · intro w' hS
          have := (PX.out w' (PX6.out w' hS)).2.1.1
          clear hS
          go_simp
        refine wpAnyH_take (i := 6) (v := .pointer (some ⟨gB, 0, none⟩)) rfl (by kernel_rfl) (by kernel_rfl) (by kernel_rfl) (fun _ _ _ h => h) (Or.inl ⟨by rfl, ?_⟩) DR.out ?_
        · intro w' hS
          clear hS
          go_simp
        refine wpAnyH_take (i := 7) (v := .int .i64 n2) rfl (by kernel_rfl) (by kernel_rfl) (by kernel_rfl) (fun _ _ _ h => h) (Or.inl ⟨by rfl, ?_⟩) DR.out ?_
        · intro w' hS
          have := (PX.out w' (PX6.out w' hS)).2.2.1.2
          clear hS
          go_simp
        refine wpAnyH_take (i := 8) (v := .int .i64 (n1 + n2)) rfl (by kernel_rfl) (by kernel_rfl) (by kernel_rfl) (fun _ _ _ h => h) (Or.inl ⟨by rfl, ?_⟩) DR.out ?_
        · intro w' hS
          clear hS
          go_simp
          rw [IntKind.wrap_i64]
          omega
        refine wpAnyH_take (i := 10) (v := .pointer (some ⟨w.heap.size, 0, none⟩)) rfl (by kernel_rfl) (by kernel_rfl) (by kernel_rfl) (fun _ _ _ h => h) (Or.inl ⟨by rfl, ?_⟩) DR.out ?_
        · intro w' hS
          clear hS
          go_simp
        refine wpAnyH_take (i := 11) (v := .slice (some ⟨gA, 0, none⟩) (m + 1) kA) rfl (by kernel_rfl) (by kernel_rfl) (by kernel_rfl) (fun _ _ _ h => h) (Or.inl ⟨by rfl, ?_⟩) DR.out ?_
        · intro w' hS
          have := (PX.out w' (PX6.out w' hS)).1.1
          clear hS
          go_simp
        refine wpAnyH_take (i := 12) (v := .slice (some ⟨gA, oA, none⟩) m (kA - 1)) rfl (by kernel_rfl) (by kernel_rfl) (by kernel_rfl) (fun _ _ _ h => h) (Or.inl ⟨by rfl, fun w' _ => exec_lok (.tmp 53) (.const (.int .i64 1)) gA m kA oA HOA.out (by kernel_rfl) (by kernel_rfl) (by kernel_rfl) w'⟩) DR.out ?_
        refine wpAnyH_ready (rs := [9]) (by kernel_rfl) (by simp) ?_
        refine AllReadyH.cons rfl (fun K hK => ?_) AllReadyH.nil
        go_simp
        have D1 := hideP (DR.out.trans ((A3.out wd (.cells #[.int .i64 (n1 + n2)] 3)).mono DR.out.size))
        refine hK.out _ _ D1.out (fun _ => ?_)
        clear hK
        refine wpAnyH_ready (rs := [13]) (by kernel_rfl) (by simp) ?_
        refine AllReadyH.cons rfl (fun K hK => ?_) AllReadyH.nil
        go_simp
        have D2 := hideP (D1.out.trans ((A3.out (wd.alloc (.cells #[.int .i64 (n1 + n2)] 3)) (.cells #[.slice (some ⟨wd.heap.size, 0, none⟩) 1 1, .slice (some ⟨gA, oA, none⟩) m (kA - 1)] 22)).mono D1.out.size))
        refine hK.out _ _ D2.out (fun _ => ?_)
        clear hK
        refine wpAnyH_ready (rs := [14]) (by kernel_rfl) (by simp) ?_
        refine AllReadyH.cons rfl (fun K hK => ?_) AllReadyH.nil
        go_simp
        have J := joined_lit (n1 + n2) (.slice (some ⟨gA, oA, none⟩) m (kA - 1)) X.tail wd (by omega) (PX.out wd (PX6.out wd DR.out)).2.2.2.1.1
        rw [htlX] at J
        refine J.mono ?_
        clear J
        rintro e w7 ⟨zs, yy, rfl, ho7, hb7⟩
        have B7 := hideP (DR.out.trans (hb7.mono DR.out.size))
        have O7 := hideP (ho7.base DR.out.size)
        clear ho7 hb7 D1 D2
        refine hK.out _ _ B7.out (fun _ => ?_)
        clear hK
        refine wpAnyH_ready (rs := [15]) (by kernel_rfl) (by simp) ?_
        refine AllReadyH.cons rfl (fun K hK => ?_) AllReadyH.nil
        go_simp
        refine hK.out _ _ B7.out (fun _ => ?_)
        clear hK
        refine wpAnyH_done (by kernel_rfl) ?_ _
        have RD7 := hideP O7.out.rd
        have hs7 := B7.out.size
        clear DR
        by_cases hf : Pl.fitsB ((n1 + n2) :: X.tail) = true
        · have KF : Hid (∀ w' v, Rd w'.heap.size w' v ((n1 + n2) :: X.tail) → Calls Try.prog 131 #[v] w' fun e w'' => e = .returned (.tuple #[]) ∧ w'' = w') := fun w' v h => (needFit_any _ _ _ w' (by rw [List.length_cons, htlX]; omega) h).mono (by
            rintro e w'' ⟨rfl, ⟨_, rfl⟩ | ⟨g, _⟩⟩
            · exact ⟨rfl, rfl⟩
            · rw [hf] at g; cases g)
          have e := PE2.out
          rw [if_pos hf] at e
          simp only [Prod.mk.injEq] at e
          obtain ⟨rfl, rfl, rfl⟩ := e
          have Z7 := hideP (PX.out w7 (PX6.out w7 B7.out))
          have ca1 := Z7.out.1.2
          have cb1 := Z7.out.2.1.2
          have HTX := hideP htlX
          clear hf PE2 htlX
          go_wp2_with (go_at_call 131; refine (KF.out _ _ RD7.out).mono ?_; rintro e w7 ⟨rfl, rfl⟩)
          have AL := hideP (A3.out w7 (.cells #[.slice (some ⟨b1, 0, none⟩) da.length da.length, .slice (some ⟨b3, 0, none⟩) db.length db.length] 22))
          have J := joined2 w7.heap.size (.slice (some ⟨b1, 0, none⟩) da.length da.length) (.slice (some ⟨b3, 0, none⟩) db.length db.length) da db (w7.alloc (.cells #[.slice (some ⟨b1, 0, none⟩) da.length da.length, .slice (some ⟨b3, 0, none⟩) db.length db.length] 22)) (by omega) (by omega) (by simp) (by simp [go_sem]) (by simp [go_sem]) (((Z7.out.2.2.2.2.xd).keep AL.out).up AL.out.size) (((Z7.out.2.2.2.2.xe).keep AL.out).up AL.out.size)
          refine J.mono ?_
          clear J
          rintro e w8 ⟨dv, rfl, ho8, hb8⟩
          have B8 := hideP (AL.out.trans (hb8.mono AL.out.size))
          have O8 := hideP (ho8.base AL.out.size)
          have C8 := hideP (Z7.out.2.2.2.2.keep B8.out)
          have O78 := hideP (O7.out.keep B8.out)
          have AP := hideP (apart_right (B := w7.heap.size) O8.out O7.out.lt)
          obtain ⟨zd, yd, ed⟩ := ho8.form
          subst ed
          have hs8 := B8.out.size
          clear ho8 hb8 ca1 cb1
          obtain ⟨r0, r1, f2⟩ := C8.out.res
          go_wp2_with fail
          refine bodyPost_ret (v := .agg #[.slice zs (m + 1) yy, .slice zd (da ++ db).length yd]) (by simp [results, Try.results124, go_sem, r0, r1]) rfl ⟨(C8.out.bel.setCell (by simp; omega) _).setCell (by simp; omega) _, .inl ⟨rfl, _, _, rfl, ?_, ?_, AP.out⟩⟩
          · exact Own.base (B := w6.heap.size) (Own.store (Own.store O78.out (by omega) _) (by omega) _) (by omega)
          · exact Own.base (B := w7.heap.size) (Own.store (Own.store O8.out (by omega) _) (by omega) _) (by omega)
        · have KF : Hid (∀ w' v, Rd w'.heap.size w' v ((n1 + n2) :: X.tail) → Calls Try.prog 131 #[v] w' fun e w'' => e = .panicked [thrown 6] ∧ w'' = w') := fun w' v h => (needFit_any _ _ _ w' (by rw [List.length_cons, htlX]; omega) h).mono (by
            rintro e w'' ⟨rfl, ⟨g, _⟩ | ⟨_, rfl⟩⟩
            · rw [g] at hf; exact absurd rfl hf
            · exact ⟨rfl, rfl⟩)
          have e := PE2.out
          rw [if_neg hf] at e
          simp only [Prod.mk.injEq] at e
          obtain ⟨rfl, rfl, rfl⟩ := e
          have BW := hideP (PX.out w7 (PX6.out w7 B7.out)).2.2.2.2.bel
          clear hf PE2
          go_wp2_with (go_at_call 131; refine (KF.out _ _ RD7.out).mono ?_; rintro e w7 ⟨rfl, rfl⟩)
          exact ⟨rfl, BW.out, .inr ⟨by decide, rfl, rfl, rfl⟩⟩
      · have htd : decide (X.tail = Y.tail) = false := decide_eq_false htl
        rw [htd] at KEQ
        have e := PE.out
        rw [if_neg htl] at e
        simp only [Prod.mk.injEq] at e
        obtain ⟨rfl, rfl, rfl⟩ := e
        clear htd htl PE
        refine wpAnyH_ready (rs := [6]) (by kernel_rfl) (by simp) ?_
        refine AllReadyH.cons rfl (fun K hK => ?_) AllReadyH.nil
        go_simp
        refine (KEQ.out wd DR.out).mono ?_
        rintro e w6 ⟨rfl, hb6⟩
        have D6 := hideP (DR.out.trans (hb6.mono DR.out.size))
        have BW6 := hideP (PX.out w6 D6.out).2.2.2.2.bel
        clear hb6 DR
        refine hK.out _ _ D6.out (fun _ => ?_)
        clear hK
        refine wpAnyH_ready (rs := [7]) (by kernel_rfl) (by simp) ?_
        refine AllReadyH.cons rfl (fun K hK => ?_) AllReadyH.nil
        go_simp
        refine hK.out _ _ D6.out (fun _ => ?_)
        clear hK
        refine wpAnyH_ready (rs := [8]) (by kernel_rfl) (by simp) ?_
        refine AllReadyH.cons rfl (fun K hK => ?_) AllReadyH.nil
        go_simp
        refine (refuse_yes _ _).mono ?_
        rintro e w6 ⟨rfl, rfl⟩
        go_wp2_with fail
        exact ⟨rfl, BW6.out, .inr ⟨by decide, rfl, rfl, rfl⟩⟩
    · have t1 : ((xs.length : Int) - (ys.length : Int) == -1) = false := by rw [beq_eq_false_iff_ne]; omega
      by_cases hc2 : xs.length = ys.length + 1
      · have t2 : ((xs.length : Int) - (ys.length : Int) == 1) = true := by rw [beq_iff_eq]; omega
        have eA : Pl.asR xs ys.length = xs := by unfold Pl.asR; rw [if_neg (by omega)]
        have eB : Pl.asR ys xs.length = 1 :: ys := by unfold Pl.asR; rw [if_pos (by omega)]
        have KR := hideP (asRow_any gB ys.length b3 db.length db.length ys wx (by omega) C1.out.xb)
        have e := HE.out
        rw [eA, eB, if_pos (by rw [List.length_cons]; omega)] at e
        go_wp2_with fail
        refine KR.out.mono ?_
        rintro e' w2 ⟨g2, k2, rfl, hk1, hk2, hr, hb⟩
        have C2 := hideP (C1.out.keep hb)
        have CP : Hid (Cs w xs da (1 :: ys) db gA xs.length b1 da.length g2 k2 b3 db.length ((w2.setCell ⟨w.heap.size + 1, 0, none⟩ (.slice (some ⟨g2, 0, none⟩) (ys.length + 1) k2)).setCell ⟨w.heap.size + 1, 1, none⟩ (.slice (some ⟨b3, 0, none⟩) db.length db.length))) := C2.out.putB (xs' := 1 :: ys) hr C2.out.xe ⟨hk1, hk2⟩
        clear z0 z1 z2 z3
        have z0 := C2.out.b0
        have z1 := C2.out.b1
        have z2 := C2.out.fb
        clear hr hb C1 KR
        go_upto_region 7 with fail
        generalize ((w2.setCell ⟨w.heap.size + 1, 0, none⟩ (.slice (some ⟨g2, 0, none⟩) (ys.length + 1) k2)).setCell ⟨w.heap.size + 1, 1, none⟩ (.slice (some ⟨b3, 0, none⟩) db.length db.length)) = wx at CP ⊢
        clear z0 z1 z2 C2 t1 t2
        obtain ⟨m, hm⟩ : ∃ m, m = ys.length := ⟨_, rfl⟩
        obtain ⟨n1, hn1⟩ : ∃ n1, xs.getD 0 0 = n1 := ⟨_, rfl⟩
        obtain ⟨n2, hn2⟩ : ∃ n2, (1 :: ys).getD 0 0 = n2 := ⟨_, rfl⟩
        have hx1 : 0 ≤ n1 := by rw [← hn1]; exact hx0.1
        have hx2 : n1 ≤ 1000 := by rw [← hn1]; exact hx0.2
        have hy1 : 0 ≤ n2 := by rw [← hn2]; simp
        have hy2 : n2 ≤ 1000 := by rw [← hn2]; simp
        rw [hn1, hn2] at e
        obtain ⟨X, hX⟩ : ∃ X, X = xs := ⟨_, rfl⟩
        obtain ⟨Y, hY⟩ : ∃ Y, Y = (1 :: ys) := ⟨_, rfl⟩
        rw [← hX, ← hY] at e CP
        rw [← hX] at hn1
        rw [← hY] at hn2
        have PE := hideP e
        have hXl : X.length = m + 1 := by rw [hX]; omega
        have hYl : Y.length = m + 1 := by rw [hY]; rw [List.length_cons]; omega
        have hm2 : m ≤ 2 := by omega
        obtain ⟨kA, hkA⟩ : ∃ kA, kA = X.length := ⟨_, rfl⟩
        obtain ⟨kB, hkB⟩ : ∃ kB, kB = k2 := ⟨_, rfl⟩
        obtain ⟨gB, hgA⟩ : ∃ gB, gB = g2 := ⟨_, rfl⟩
        have CX : Hid (Cs w X da Y db gA kA b1 da.length gB kB b3 db.length wx) := by rw [hkA, hkB, hgA]; exact CP
        clear HE e CP eA eB hX hY hkA hkB hgA hm hc1 hc2
        obtain ⟨oA, hoA⟩ : ∃ oA : Nat, oA = if kA = 1 then 0 else 1 := ⟨_, rfl⟩
        obtain ⟨oB, hoB⟩ : ∃ oB : Nat, oB = if kB = 1 then 0 else 1 := ⟨_, rfl⟩
        have HOA := hideP hoA
        have HOB := hideP hoB
        have PX : Hid (∀ w', Below wx.heap.size wx w' → (w'.cell? ⟨w.heap.size, 0, none⟩ = some (.slice (some ⟨gA, 0, none⟩) (m + 1) kA) ∧ w'.cell? ⟨w.heap.size, 1, none⟩ = some (.slice (some ⟨b1, 0, none⟩) da.length da.length)) ∧ (w'.cell? ⟨w.heap.size + 1, 0, none⟩ = some (.slice (some ⟨gB, 0, none⟩) (m + 1) kB) ∧ w'.cell? ⟨w.heap.size + 1, 1, none⟩ = some (.slice (some ⟨b3, 0, none⟩) db.length db.length)) ∧ (w'.cell? ⟨gA, 0, none⟩ = some (.int .i64 n1) ∧ w'.cell? ⟨gB, 0, none⟩ = some (.int .i64 n2)) ∧ (Rd w'.heap.size w' (.slice (some ⟨gA, oA, none⟩) m (kA - 1)) X.tail ∧ Rd w'.heap.size w' (.slice (some ⟨gB, oB, none⟩) m (kB - 1)) Y.tail) ∧ Cs w X da Y db gA kA b1 da.length gB kB b3 db.length w') := fun w' hb => by
          have k := CX.out.keep hb
          have z0 := k.a0
          have z1 := k.b0
          rw [hXl] at z0
          rw [hYl] at z1
          have zc := k.ca.1
          have zd := k.cb.1
          have x0 := (rd_cell k.xa (i := 0) (by omega)).2
          have y0 := (rd_cell k.xb (i := 0) (by omega)).2
          rw [Nat.add_zero, hn1] at x0
          rw [Nat.add_zero, hn2] at y0
          exact ⟨⟨z0, k.a1⟩, ⟨z1, k.b1⟩, ⟨x0, y0⟩, ⟨rd_onek hXl (by omega) hoA k.xa, rd_onek hYl (by omega) hoB k.xb⟩, k⟩
        have KEQ : Hid (∀ w', Below wx.heap.size wx w' → Calls Try.prog 94 #[.slice (some ⟨gA, oA, none⟩) m (kA - 1), .slice (some ⟨gB, oB, none⟩) m (kB - 1)] w' fun e w'' => e = .returned (.bool (decide (X.tail = Y.tail))) ∧ Below w'.heap.size w' w'') := fun w' hb => slEq_any _ _ X.tail Y.tail w' (by rw [List.length_tail]; omega) (by rw [List.length_tail]; omega) (PX.out w' hb).2.2.2.1.1 (PX.out w' hb).2.2.2.1.2
        have htlX : X.tail.length = m := by rw [List.length_tail]; omega
        have A3 : Hid (∀ (W : World) o, Below W.heap.size W (W.alloc o)) := fun W o => (Below.refl _ _).alloc (Nat.le_refl _) _
        have hszx := CX.out.size
        have c0 := (PX.out wx (Below.refl _ _)).1.1
        have c1 := (PX.out wx (Below.refl _ _)).2.1.1
        clear hoA hoB hXl hYl hn1 hn2 CX
        go_wp2_with (go_at_call 83; refine (refuse_no _ _).mono ?_; rintro e wx ⟨rfl, rfl⟩)
        clear c0 c1
        have DR := hideP (show Below wx.heap.size wx wx.drew from (Below.refl _ _).drew)
        refine wp_region_held (S := fun w' => Below wx.heap.size wx w') (by kernel_rfl) ?_
        change wpAnyH _ _ _ _ _ _ _ _ (World.drew _)
        generalize World.drew wx = wd at DR ⊢
        refine wpAnyH_take (i := 0) (v := .pointer (some ⟨w.heap.size, 0, none⟩)) rfl (by kernel_rfl) (by kernel_rfl) (by kernel_rfl) (fun _ _ _ h => h) (Or.inl ⟨by rfl, ?_⟩) DR.out ?_
        · intro w' hS
          clear hS
          go_simp
        refine wpAnyH_take (i := 1) (v := .slice (some ⟨gA, 0, none⟩) (m + 1) kA) rfl (by kernel_rfl) (by kernel_rfl) (by kernel_rfl) (fun _ _ _ h => h) (Or.inl ⟨by rfl, ?_⟩) DR.out ?_
        · intro w' hS
          have := (PX.out w' hS).1.1
          clear hS
          go_simp
        refine wpAnyH_take (i := 2) (v := .slice (some ⟨gA, oA, none⟩) m (kA - 1)) rfl (by kernel_rfl) (by kernel_rfl) (by kernel_rfl) (fun _ _ _ h => h) (Or.inl ⟨by rfl, fun w' _ => exec_lok (.tmp 34) (.const (.int .i64 1)) gA m kA oA HOA.out (by kernel_rfl) (by kernel_rfl) (by kernel_rfl) w'⟩) DR.out ?_
        refine wpAnyH_take (i := 3) (v := .pointer (some ⟨w.heap.size + 1, 0, none⟩)) rfl (by kernel_rfl) (by kernel_rfl) (by kernel_rfl) (fun _ _ _ h => h) (Or.inl ⟨by rfl, ?_⟩) DR.out ?_
        · intro w' hS
          clear hS
          go_simp
        refine wpAnyH_take (i := 4) (v := .slice (some ⟨gB, 0, none⟩) (m + 1) kB) rfl (by kernel_rfl) (by kernel_rfl) (by kernel_rfl) (fun _ _ _ h => h) (Or.inl ⟨by rfl, ?_⟩) DR.out ?_
        · intro w' hS
          have := (PX.out w' hS).2.1.1
          clear hS
          go_simp
        refine wpAnyH_take (i := 5) (v := .slice (some ⟨gB, oB, none⟩) m (kB - 1)) rfl (by kernel_rfl) (by kernel_rfl) (by kernel_rfl) (fun _ _ _ h => h) (Or.inl ⟨by rfl, fun w' _ => exec_lok (.tmp 37) (.const (.int .i64 1)) gB m kB oB HOB.out (by kernel_rfl) (by kernel_rfl) (by kernel_rfl) w'⟩) DR.out ?_
        by_cases htl : X.tail = Y.tail
        · have htd : decide (X.tail = Y.tail) = true := decide_eq_true htl
          rw [htd] at KEQ
          have e := PE.out
          rw [if_pos htl] at e
          have PE2 := hideP e
          clear e htd htl PE
          refine wpAnyH_ready (rs := [6]) (by kernel_rfl) (by simp) ?_
          refine AllReadyH.cons rfl (fun K hK => ?_) AllReadyH.nil
          go_simp
          refine (KEQ.out wd DR.out).mono ?_
          rintro e w6 ⟨rfl, hb6⟩
          have D6 := hideP (DR.out.trans (hb6.mono DR.out.size))
          clear hb6 DR
          refine hK.out _ _ D6.out (fun _ => ?_)
          clear hK
          refine wpAnyH_ready (rs := [7]) (by kernel_rfl) (by simp) ?_
          refine AllReadyH.cons rfl (fun K hK => ?_) AllReadyH.nil
          go_simp
          refine hK.out _ _ D6.out (fun _ => ?_)
          clear hK
          refine wpAnyH_ready (rs := [8]) (by kernel_rfl) (by simp) ?_
          refine AllReadyH.cons rfl (fun K hK => ?_) AllReadyH.nil
          go_simp
          refine (refuse_no _ _).mono ?_
          rintro e w6 ⟨rfl, rfl⟩
          refine hK.out _ _ D6.out (fun _ => ?_)
          clear hK
          refine wpAnyH_done (by kernel_rfl) ?_ _
          have PX6 : Hid (∀ w', Below w6.heap.size w6 w' → Below wx.heap.size wx w') := fun w' hb => D6.out.trans (hb.mono D6.out.size)
          have hs6 := D6.out.size
          clear KEQ
          go_upto_region 9 with fail
          have DR := hideP (show Below w6.heap.size w6 w6.drew from (Below.refl _ _).drew)
          refine wp_region_held (S := fun w' => Below w6.heap.size w6 w') (by kernel_rfl) ?_
          change wpAnyH _ _ _ _ _ _ _ _ (World.drew _)
          generalize World.drew w6 = wd at DR ⊢
          refine wpAnyH_take (i := 0) (v := .pointer (some ⟨w.heap.size, 0, none⟩)) rfl (by kernel_rfl) (by kernel_rfl) (by kernel_rfl) (fun _ _ _ h => h) (Or.inl ⟨by rfl, ?_⟩) DR.out ?_
          · intro w' hS
            clear hS
            go_simp
          refine wpAnyH_take (i := 1) (v := .slice (some ⟨gA, 0, none⟩) (m + 1) kA) rfl (by kernel_rfl) (by kernel_rfl) (by kernel_rfl) (fun _ _ _ h => h) (Or.inl ⟨by rfl, ?_⟩) DR.out ?_
          · intro w' hS
            have := (PX.out w' (PX6.out w' hS)).1.1
            clear hS
            go_simp
          refine wpAnyH_take (i := 2) (v := .pointer (some ⟨gA, 0, none⟩)) rfl (by kernel_rfl) (by kernel_rfl) (by kernel_rfl) (fun _ _ _ h => h) (Or.inl ⟨by rfl, ?_⟩) DR.out ?_
          · intro w' hS
            clear hS
            go_simp
          refine wpAnyH_take (i := 3) (v := .int .i64 n1) rfl (by kernel_rfl) (by kernel_rfl) (by kernel_rfl) (fun _ _ _ h => h) (Or.inl ⟨by rfl, ?_⟩) DR.out ?_
          · intro w' hS
            have := (PX.out w' (PX6.out w' hS)).2.2.1.1
            clear hS
            go_simp
          refine wpAnyH_take (i := 4) (v := .pointer (some ⟨w.heap.size + 1, 0, none⟩)) rfl (by kernel_rfl) (by kernel_rfl) (by kernel_rfl) (fun _ _ _ h => h) (Or.inl ⟨by rfl, ?_⟩) DR.out ?_
          · intro w' hS
            clear hS
            go_simp
          refine wpAnyH_take (i := 5) (v := .slice (some ⟨gB, 0, none⟩) (m + 1) kB) rfl (by kernel_rfl) (by kernel_rfl) (by kernel_rfl) (fun _ _ _ h => h) (Or.inl ⟨by rfl, ?_⟩) DR.out ?_
          · intro w' hS
            have := (PX.out w' (PX6.out w' hS)).2.1.1
            clear hS
            go_simp
          refine wpAnyH_take (i := 6) (v := .pointer (some ⟨gB, 0, none⟩)) rfl (by kernel_rfl) (by kernel_rfl) (by kernel_rfl) (fun _ _ _ h => h) (Or.inl ⟨by rfl, ?_⟩) DR.out ?_
          · intro w' hS
            clear hS
            go_simp
          refine wpAnyH_take (i := 7) (v := .int .i64 n2) rfl (by kernel_rfl) (by kernel_rfl) (by kernel_rfl) (fun _ _ _ h => h) (Or.inl ⟨by rfl, ?_⟩) DR.out ?_
          · intro w' hS
            have := (PX.out w' (PX6.out w' hS)).2.2.1.2
            clear hS
            go_simp
          refine wpAnyH_take (i := 8) (v := .int .i64 (n1 + n2)) rfl (by kernel_rfl) (by kernel_rfl) (by kernel_rfl) (fun _ _ _ h => h) (Or.inl ⟨by rfl, ?_⟩) DR.out ?_
          · intro w' hS
            clear hS
            go_simp
            rw [IntKind.wrap_i64]
            omega
          refine wpAnyH_take (i := 10) (v := .pointer (some ⟨w.heap.size, 0, none⟩)) rfl (by kernel_rfl) (by kernel_rfl) (by kernel_rfl) (fun _ _ _ h => h) (Or.inl ⟨by rfl, ?_⟩) DR.out ?_
          · intro w' hS
            clear hS
            go_simp
          refine wpAnyH_take (i := 11) (v := .slice (some ⟨gA, 0, none⟩) (m + 1) kA) rfl (by kernel_rfl) (by kernel_rfl) (by kernel_rfl) (fun _ _ _ h => h) (Or.inl ⟨by rfl, ?_⟩) DR.out ?_
          · intro w' hS
            have := (PX.out w' (PX6.out w' hS)).1.1
            clear hS
            go_simp
          refine wpAnyH_take (i := 12) (v := .slice (some ⟨gA, oA, none⟩) m (kA - 1)) rfl (by kernel_rfl) (by kernel_rfl) (by kernel_rfl) (fun _ _ _ h => h) (Or.inl ⟨by rfl, fun w' _ => exec_lok (.tmp 53) (.const (.int .i64 1)) gA m kA oA HOA.out (by kernel_rfl) (by kernel_rfl) (by kernel_rfl) w'⟩) DR.out ?_
          refine wpAnyH_ready (rs := [9]) (by kernel_rfl) (by simp) ?_
          refine AllReadyH.cons rfl (fun K hK => ?_) AllReadyH.nil
          go_simp
          have D1 := hideP (DR.out.trans ((A3.out wd (.cells #[.int .i64 (n1 + n2)] 3)).mono DR.out.size))
          refine hK.out _ _ D1.out (fun _ => ?_)
          clear hK
          refine wpAnyH_ready (rs := [13]) (by kernel_rfl) (by simp) ?_
          refine AllReadyH.cons rfl (fun K hK => ?_) AllReadyH.nil
          go_simp
          have D2 := hideP (D1.out.trans ((A3.out (wd.alloc (.cells #[.int .i64 (n1 + n2)] 3)) (.cells #[.slice (some ⟨wd.heap.size, 0, none⟩) 1 1, .slice (some ⟨gA, oA, none⟩) m (kA - 1)] 22)).mono D1.out.size))
          refine hK.out _ _ D2.out (fun _ => ?_)
          clear hK
          refine wpAnyH_ready (rs := [14]) (by kernel_rfl) (by simp) ?_
          refine AllReadyH.cons rfl (fun K hK => ?_) AllReadyH.nil
          go_simp
          have J := joined_lit (n1 + n2) (.slice (some ⟨gA, oA, none⟩) m (kA - 1)) X.tail wd (by omega) (PX.out wd (PX6.out wd DR.out)).2.2.2.1.1
          rw [htlX] at J
          refine J.mono ?_
          clear J
          rintro e w7 ⟨zs, yy, rfl, ho7, hb7⟩
          have B7 := hideP (DR.out.trans (hb7.mono DR.out.size))
          have O7 := hideP (ho7.base DR.out.size)
          clear ho7 hb7 D1 D2
          refine hK.out _ _ B7.out (fun _ => ?_)
          clear hK
          refine wpAnyH_ready (rs := [15]) (by kernel_rfl) (by simp) ?_
          refine AllReadyH.cons rfl (fun K hK => ?_) AllReadyH.nil
          go_simp
          refine hK.out _ _ B7.out (fun _ => ?_)
          clear hK
          refine wpAnyH_done (by kernel_rfl) ?_ _
          have RD7 := hideP O7.out.rd
          have hs7 := B7.out.size
          clear DR
          by_cases hf : Pl.fitsB ((n1 + n2) :: X.tail) = true
          · have KF : Hid (∀ w' v, Rd w'.heap.size w' v ((n1 + n2) :: X.tail) → Calls Try.prog 131 #[v] w' fun e w'' => e = .returned (.tuple #[]) ∧ w'' = w') := fun w' v h => (needFit_any _ _ _ w' (by rw [List.length_cons, htlX]; omega) h).mono (by
              rintro e w'' ⟨rfl, ⟨_, rfl⟩ | ⟨g, _⟩⟩
              · exact ⟨rfl, rfl⟩
              · rw [hf] at g; cases g)
            have e := PE2.out
            rw [if_pos hf] at e
            simp only [Prod.mk.injEq] at e
            obtain ⟨rfl, rfl, rfl⟩ := e
            have Z7 := hideP (PX.out w7 (PX6.out w7 B7.out))
            have ca1 := Z7.out.1.2
            have cb1 := Z7.out.2.1.2
            have HTX := hideP htlX
            clear hf PE2 htlX
            go_wp2_with (go_at_call 131; refine (KF.out _ _ RD7.out).mono ?_; rintro e w7 ⟨rfl, rfl⟩)
            have AL := hideP (A3.out w7 (.cells #[.slice (some ⟨b1, 0, none⟩) da.length da.length, .slice (some ⟨b3, 0, none⟩) db.length db.length] 22))
            have J := joined2 w7.heap.size (.slice (some ⟨b1, 0, none⟩) da.length da.length) (.slice (some ⟨b3, 0, none⟩) db.length db.length) da db (w7.alloc (.cells #[.slice (some ⟨b1, 0, none⟩) da.length da.length, .slice (some ⟨b3, 0, none⟩) db.length db.length] 22)) (by omega) (by omega) (by simp) (by simp [go_sem]) (by simp [go_sem]) (((Z7.out.2.2.2.2.xd).keep AL.out).up AL.out.size) (((Z7.out.2.2.2.2.xe).keep AL.out).up AL.out.size)
            refine J.mono ?_
            clear J
            rintro e w8 ⟨dv, rfl, ho8, hb8⟩
            have B8 := hideP (AL.out.trans (hb8.mono AL.out.size))
            have O8 := hideP (ho8.base AL.out.size)
            have C8 := hideP (Z7.out.2.2.2.2.keep B8.out)
            have O78 := hideP (O7.out.keep B8.out)
            have AP := hideP (apart_right (B := w7.heap.size) O8.out O7.out.lt)
            obtain ⟨zd, yd, ed⟩ := ho8.form
            subst ed
            have hs8 := B8.out.size
            clear ho8 hb8 ca1 cb1
            obtain ⟨r0, r1, f2⟩ := C8.out.res
            go_wp2_with fail
            refine bodyPost_ret (v := .agg #[.slice zs (m + 1) yy, .slice zd (da ++ db).length yd]) (by simp [results, Try.results124, go_sem, r0, r1]) rfl ⟨(C8.out.bel.setCell (by simp; omega) _).setCell (by simp; omega) _, .inl ⟨rfl, _, _, rfl, ?_, ?_, AP.out⟩⟩
            · exact Own.base (B := w6.heap.size) (Own.store (Own.store O78.out (by omega) _) (by omega) _) (by omega)
            · exact Own.base (B := w7.heap.size) (Own.store (Own.store O8.out (by omega) _) (by omega) _) (by omega)
          · have KF : Hid (∀ w' v, Rd w'.heap.size w' v ((n1 + n2) :: X.tail) → Calls Try.prog 131 #[v] w' fun e w'' => e = .panicked [thrown 6] ∧ w'' = w') := fun w' v h => (needFit_any _ _ _ w' (by rw [List.length_cons, htlX]; omega) h).mono (by
              rintro e w'' ⟨rfl, ⟨g, _⟩ | ⟨_, rfl⟩⟩
              · rw [g] at hf; exact absurd rfl hf
              · exact ⟨rfl, rfl⟩)
            have e := PE2.out
            rw [if_neg hf] at e
            simp only [Prod.mk.injEq] at e
            obtain ⟨rfl, rfl, rfl⟩ := e
            have BW := hideP (PX.out w7 (PX6.out w7 B7.out)).2.2.2.2.bel
            clear hf PE2
            go_wp2_with (go_at_call 131; refine (KF.out _ _ RD7.out).mono ?_; rintro e w7 ⟨rfl, rfl⟩)
            exact ⟨rfl, BW.out, .inr ⟨by decide, rfl, rfl, rfl⟩⟩
        · have htd : decide (X.tail = Y.tail) = false := decide_eq_false htl
          rw [htd] at KEQ
          have e := PE.out
          rw [if_neg htl] at e
          simp only [Prod.mk.injEq] at e
          obtain ⟨rfl, rfl, rfl⟩ := e
          clear htd htl PE
          refine wpAnyH_ready (rs := [6]) (by kernel_rfl) (by simp) ?_
          refine AllReadyH.cons rfl (fun K hK => ?_) AllReadyH.nil
          go_simp
          refine (KEQ.out wd DR.out).mono ?_
          rintro e w6 ⟨rfl, hb6⟩
          have D6 := hideP (DR.out.trans (hb6.mono DR.out.size))
          have BW6 := hideP (PX.out w6 D6.out).2.2.2.2.bel
          clear hb6 DR
          refine hK.out _ _ D6.out (fun _ => ?_)
          clear hK
          refine wpAnyH_ready (rs := [7]) (by kernel_rfl) (by simp) ?_
          refine AllReadyH.cons rfl (fun K hK => ?_) AllReadyH.nil
          go_simp
          refine hK.out _ _ D6.out (fun _ => ?_)
          clear hK
          refine wpAnyH_ready (rs := [8]) (by kernel_rfl) (by simp) ?_
          refine AllReadyH.cons rfl (fun K hK => ?_) AllReadyH.nil
          go_simp
          refine (refuse_yes _ _).mono ?_
          rintro e w6 ⟨rfl, rfl⟩
          go_wp2_with fail
          exact ⟨rfl, BW6.out, .inr ⟨by decide, rfl, rfl, rfl⟩⟩
      · have t2 : ((xs.length : Int) - (ys.length : Int) == 1) = false := by rw [beq_eq_false_iff_ne]; omega
        have eA : Pl.asR xs ys.length = xs := by unfold Pl.asR; rw [if_neg (by omega)]
        have eB : Pl.asR ys xs.length = ys := by unfold Pl.asR; rw [if_neg (by omega)]
        have e := HE.out
        rw [eA, eB] at e
        by_cases hc3 : xs.length = ys.length
        · rw [if_pos hc3] at e
          obtain ⟨m, hm⟩ : ∃ m, xs.length = m + 1 := ⟨xs.length - 1, by omega⟩
          obtain ⟨n1, hn1⟩ : ∃ n1, xs.getD 0 0 = n1 := ⟨_, rfl⟩
          obtain ⟨n2, hn2⟩ : ∃ n2, ys.getD 0 0 = n2 := ⟨_, rfl⟩
          rw [hn1, hn2] at e
          rw [hn1] at hx0
          rw [hn2] at hy0
          obtain ⟨hx1, hx2⟩ := hx0
          obtain ⟨hy1, hy2⟩ := hy0
          have PE := hideP e
          have hXl : xs.length = m + 1 := hm
          have hYl : ys.length = m + 1 := by omega
          have hm2 : m ≤ 2 := by omega
          obtain ⟨kA, hkA⟩ : ∃ kA, kA = xs.length := ⟨_, rfl⟩
          obtain ⟨kB, hkB⟩ : ∃ kB, kB = ys.length := ⟨_, rfl⟩
          have CX : Hid (Cs w xs da ys db gA kA b1 da.length gB kB b3 db.length wx) := by rw [hkA, hkB]; exact C1
          clear HE e C1 eA eB
          rw [hXl] at z0 t1 t2
          rw [hYl] at z2 t1 t2
          clear hkA hkB hm hc1 hc2 hc3
          obtain ⟨X, hX⟩ : ∃ X, X = xs := ⟨_, rfl⟩
          obtain ⟨Y, hY⟩ : ∃ Y, Y = ys := ⟨_, rfl⟩
          rw [← hX, ← hY] at CX PE
          rw [← hX] at hXl hn1
          rw [← hY] at hYl hn2
          go_upto_region 7 with fail
          clear z0 z1 z2 z3 t1 t2 hX hY
          obtain ⟨oA, hoA⟩ : ∃ oA : Nat, oA = if kA = 1 then 0 else 1 := ⟨_, rfl⟩
          obtain ⟨oB, hoB⟩ : ∃ oB : Nat, oB = if kB = 1 then 0 else 1 := ⟨_, rfl⟩
          have HOA := hideP hoA
          have HOB := hideP hoB
          have PX : Hid (∀ w', Below wx.heap.size wx w' → (w'.cell? ⟨w.heap.size, 0, none⟩ = some (.slice (some ⟨gA, 0, none⟩) (m + 1) kA) ∧ w'.cell? ⟨w.heap.size, 1, none⟩ = some (.slice (some ⟨b1, 0, none⟩) da.length da.length)) ∧ (w'.cell? ⟨w.heap.size + 1, 0, none⟩ = some (.slice (some ⟨gB, 0, none⟩) (m + 1) kB) ∧ w'.cell? ⟨w.heap.size + 1, 1, none⟩ = some (.slice (some ⟨b3, 0, none⟩) db.length db.length)) ∧ (w'.cell? ⟨gA, 0, none⟩ = some (.int .i64 n1) ∧ w'.cell? ⟨gB, 0, none⟩ = some (.int .i64 n2)) ∧ (Rd w'.heap.size w' (.slice (some ⟨gA, oA, none⟩) m (kA - 1)) X.tail ∧ Rd w'.heap.size w' (.slice (some ⟨gB, oB, none⟩) m (kB - 1)) Y.tail) ∧ Cs w X da Y db gA kA b1 da.length gB kB b3 db.length w') := fun w' hb => by
            have k := CX.out.keep hb
            have z0 := k.a0
            have z1 := k.b0
            rw [hXl] at z0
            rw [hYl] at z1
            have zc := k.ca.1
            have zd := k.cb.1
            have x0 := (rd_cell k.xa (i := 0) (by omega)).2
            have y0 := (rd_cell k.xb (i := 0) (by omega)).2
            rw [Nat.add_zero, hn1] at x0
            rw [Nat.add_zero, hn2] at y0
            exact ⟨⟨z0, k.a1⟩, ⟨z1, k.b1⟩, ⟨x0, y0⟩, ⟨rd_onek hXl (by omega) hoA k.xa, rd_onek hYl (by omega) hoB k.xb⟩, k⟩
          have KEQ : Hid (∀ w', Below wx.heap.size wx w' → Calls Try.prog 94 #[.slice (some ⟨gA, oA, none⟩) m (kA - 1), .slice (some ⟨gB, oB, none⟩) m (kB - 1)] w' fun e w'' => e = .returned (.bool (decide (X.tail = Y.tail))) ∧ Below w'.heap.size w' w'') := fun w' hb => slEq_any _ _ X.tail Y.tail w' (by rw [List.length_tail]; omega) (by rw [List.length_tail]; omega) (PX.out w' hb).2.2.2.1.1 (PX.out w' hb).2.2.2.1.2
          have htlX : X.tail.length = m := by rw [List.length_tail]; omega
          have A3 : Hid (∀ (W : World) o, Below W.heap.size W (W.alloc o)) := fun W o => (Below.refl _ _).alloc (Nat.le_refl _) _
          have hszx := CX.out.size
          have c0 := (PX.out wx (Below.refl _ _)).1.1
          have c1 := (PX.out wx (Below.refl _ _)).2.1.1
          clear hoA hoB hXl hYl hn1 hn2 CX
          go_wp2_with (go_at_call 83; refine (refuse_no _ _).mono ?_; rintro e wx ⟨rfl, rfl⟩)
          clear c0 c1
          have DR := hideP (show Below wx.heap.size wx wx.drew from (Below.refl _ _).drew)
          refine wp_region_held (S := fun w' => Below wx.heap.size wx w') (by kernel_rfl) ?_
          change wpAnyH _ _ _ _ _ _ _ _ (World.drew _)
          generalize World.drew wx = wd at DR ⊢
          refine wpAnyH_take (i := 0) (v := .pointer (some ⟨w.heap.size, 0, none⟩)) rfl (by kernel_rfl) (by kernel_rfl) (by kernel_rfl) (fun _ _ _ h => h) (Or.inl ⟨by rfl, ?_⟩) DR.out ?_
          · intro w' hS
            clear hS
            go_simp
          refine wpAnyH_take (i := 1) (v := .slice (some ⟨gA, 0, none⟩) (m + 1) kA) rfl (by kernel_rfl) (by kernel_rfl) (by kernel_rfl) (fun _ _ _ h => h) (Or.inl ⟨by rfl, ?_⟩) DR.out ?_
          · intro w' hS
            have := (PX.out w' hS).1.1
            clear hS
            go_simp
          refine wpAnyH_take (i := 2) (v := .slice (some ⟨gA, oA, none⟩) m (kA - 1)) rfl (by kernel_rfl) (by kernel_rfl) (by kernel_rfl) (fun _ _ _ h => h) (Or.inl ⟨by rfl, fun w' _ => exec_lok (.tmp 34) (.const (.int .i64 1)) gA m kA oA HOA.out (by kernel_rfl) (by kernel_rfl) (by kernel_rfl) w'⟩) DR.out ?_
          refine wpAnyH_take (i := 3) (v := .pointer (some ⟨w.heap.size + 1, 0, none⟩)) rfl (by kernel_rfl) (by kernel_rfl) (by kernel_rfl) (fun _ _ _ h => h) (Or.inl ⟨by rfl, ?_⟩) DR.out ?_
          · intro w' hS
            clear hS
            go_simp
          refine wpAnyH_take (i := 4) (v := .slice (some ⟨gB, 0, none⟩) (m + 1) kB) rfl (by kernel_rfl) (by kernel_rfl) (by kernel_rfl) (fun _ _ _ h => h) (Or.inl ⟨by rfl, ?_⟩) DR.out ?_
          · intro w' hS
            have := (PX.out w' hS).2.1.1
            clear hS
            go_simp
          refine wpAnyH_take (i := 5) (v := .slice (some ⟨gB, oB, none⟩) m (kB - 1)) rfl (by kernel_rfl) (by kernel_rfl) (by kernel_rfl) (fun _ _ _ h => h) (Or.inl ⟨by rfl, fun w' _ => exec_lok (.tmp 37) (.const (.int .i64 1)) gB m kB oB HOB.out (by kernel_rfl) (by kernel_rfl) (by kernel_rfl) w'⟩) DR.out ?_
          by_cases htl : X.tail = Y.tail
          · have htd : decide (X.tail = Y.tail) = true := decide_eq_true htl
            rw [htd] at KEQ
            have e := PE.out
            rw [if_pos htl] at e
            have PE2 := hideP e
            clear e htd htl PE
            refine wpAnyH_ready (rs := [6]) (by kernel_rfl) (by simp) ?_
            refine AllReadyH.cons rfl (fun K hK => ?_) AllReadyH.nil
            go_simp
            refine (KEQ.out wd DR.out).mono ?_
            rintro e w6 ⟨rfl, hb6⟩
            have D6 := hideP (DR.out.trans (hb6.mono DR.out.size))
            clear hb6 DR
            refine hK.out _ _ D6.out (fun _ => ?_)
            clear hK
            refine wpAnyH_ready (rs := [7]) (by kernel_rfl) (by simp) ?_
            refine AllReadyH.cons rfl (fun K hK => ?_) AllReadyH.nil
            go_simp
            refine hK.out _ _ D6.out (fun _ => ?_)
            clear hK
            refine wpAnyH_ready (rs := [8]) (by kernel_rfl) (by simp) ?_
            refine AllReadyH.cons rfl (fun K hK => ?_) AllReadyH.nil
            go_simp
            refine (refuse_no _ _).mono ?_
            rintro e w6 ⟨rfl, rfl⟩
            refine hK.out _ _ D6.out (fun _ => ?_)
            clear hK
            refine wpAnyH_done (by kernel_rfl) ?_ _
            have PX6 : Hid (∀ w', Below w6.heap.size w6 w' → Below wx.heap.size wx w') := fun w' hb => D6.out.trans (hb.mono D6.out.size)
            have hs6 := D6.out.size
            clear KEQ
            go_upto_region 9 with fail
            have DR := hideP (show Below w6.heap.size w6 w6.drew from (Below.refl _ _).drew)
            refine wp_region_held (S := fun w' => Below w6.heap.size w6 w') (by kernel_rfl) ?_
            change wpAnyH _ _ _ _ _ _ _ _ (World.drew _)
            generalize World.drew w6 = wd at DR ⊢
            refine wpAnyH_take (i := 0) (v := .pointer (some ⟨w.heap.size, 0, none⟩)) rfl (by kernel_rfl) (by kernel_rfl) (by kernel_rfl) (fun _ _ _ h => h) (Or.inl ⟨by rfl, ?_⟩) DR.out ?_
            · intro w' hS
              clear hS
              go_simp
            refine wpAnyH_take (i := 1) (v := .slice (some ⟨gA, 0, none⟩) (m + 1) kA) rfl (by kernel_rfl) (by kernel_rfl) (by kernel_rfl) (fun _ _ _ h => h) (Or.inl ⟨by rfl, ?_⟩) DR.out ?_
            · intro w' hS
              have := (PX.out w' (PX6.out w' hS)).1.1
              clear hS
              go_simp
            refine wpAnyH_take (i := 2) (v := .pointer (some ⟨gA, 0, none⟩)) rfl (by kernel_rfl) (by kernel_rfl) (by kernel_rfl) (fun _ _ _ h => h) (Or.inl ⟨by rfl, ?_⟩) DR.out ?_
            · intro w' hS
              clear hS
              go_simp
            refine wpAnyH_take (i := 3) (v := .int .i64 n1) rfl (by kernel_rfl) (by kernel_rfl) (by kernel_rfl) (fun _ _ _ h => h) (Or.inl ⟨by rfl, ?_⟩) DR.out ?_
            · intro w' hS
              have := (PX.out w' (PX6.out w' hS)).2.2.1.1
              clear hS
              go_simp
            refine wpAnyH_take (i := 4) (v := .pointer (some ⟨w.heap.size + 1, 0, none⟩)) rfl (by kernel_rfl) (by kernel_rfl) (by kernel_rfl) (fun _ _ _ h => h) (Or.inl ⟨by rfl, ?_⟩) DR.out ?_
            · intro w' hS
              clear hS
              go_simp
            refine wpAnyH_take (i := 5) (v := .slice (some ⟨gB, 0, none⟩) (m + 1) kB) rfl (by kernel_rfl) (by kernel_rfl) (by kernel_rfl) (fun _ _ _ h => h) (Or.inl ⟨by rfl, ?_⟩) DR.out ?_
            · intro w' hS
              have := (PX.out w' (PX6.out w' hS)).2.1.1
              clear hS
              go_simp
            refine wpAnyH_take (i := 6) (v := .pointer (some ⟨gB, 0, none⟩)) rfl (by kernel_rfl) (by kernel_rfl) (by kernel_rfl) (fun _ _ _ h => h) (Or.inl ⟨by rfl, ?_⟩) DR.out ?_
            · intro w' hS
              clear hS
              go_simp
            refine wpAnyH_take (i := 7) (v := .int .i64 n2) rfl (by kernel_rfl) (by kernel_rfl) (by kernel_rfl) (fun _ _ _ h => h) (Or.inl ⟨by rfl, ?_⟩) DR.out ?_
            · intro w' hS
              have := (PX.out w' (PX6.out w' hS)).2.2.1.2
              clear hS
              go_simp
            refine wpAnyH_take (i := 8) (v := .int .i64 (n1 + n2)) rfl (by kernel_rfl) (by kernel_rfl) (by kernel_rfl) (fun _ _ _ h => h) (Or.inl ⟨by rfl, ?_⟩) DR.out ?_
            · intro w' hS
              clear hS
              go_simp
              rw [IntKind.wrap_i64]
              omega
            refine wpAnyH_take (i := 10) (v := .pointer (some ⟨w.heap.size, 0, none⟩)) rfl (by kernel_rfl) (by kernel_rfl) (by kernel_rfl) (fun _ _ _ h => h) (Or.inl ⟨by rfl, ?_⟩) DR.out ?_
            · intro w' hS
              clear hS
              go_simp
            refine wpAnyH_take (i := 11) (v := .slice (some ⟨gA, 0, none⟩) (m + 1) kA) rfl (by kernel_rfl) (by kernel_rfl) (by kernel_rfl) (fun _ _ _ h => h) (Or.inl ⟨by rfl, ?_⟩) DR.out ?_
            · intro w' hS
              have := (PX.out w' (PX6.out w' hS)).1.1
              clear hS
              go_simp
            refine wpAnyH_take (i := 12) (v := .slice (some ⟨gA, oA, none⟩) m (kA - 1)) rfl (by kernel_rfl) (by kernel_rfl) (by kernel_rfl) (fun _ _ _ h => h) (Or.inl ⟨by rfl, fun w' _ => exec_lok (.tmp 53) (.const (.int .i64 1)) gA m kA oA HOA.out (by kernel_rfl) (by kernel_rfl) (by kernel_rfl) w'⟩) DR.out ?_
            refine wpAnyH_ready (rs := [9]) (by kernel_rfl) (by simp) ?_
            refine AllReadyH.cons rfl (fun K hK => ?_) AllReadyH.nil
            go_simp
            have D1 := hideP (DR.out.trans ((A3.out wd (.cells #[.int .i64 (n1 + n2)] 3)).mono DR.out.size))
            refine hK.out _ _ D1.out (fun _ => ?_)
            clear hK
            refine wpAnyH_ready (rs := [13]) (by kernel_rfl) (by simp) ?_
            refine AllReadyH.cons rfl (fun K hK => ?_) AllReadyH.nil
            go_simp
            have D2 := hideP (D1.out.trans ((A3.out (wd.alloc (.cells #[.int .i64 (n1 + n2)] 3)) (.cells #[.slice (some ⟨wd.heap.size, 0, none⟩) 1 1, .slice (some ⟨gA, oA, none⟩) m (kA - 1)] 22)).mono D1.out.size))
            refine hK.out _ _ D2.out (fun _ => ?_)
            clear hK
            refine wpAnyH_ready (rs := [14]) (by kernel_rfl) (by simp) ?_
            refine AllReadyH.cons rfl (fun K hK => ?_) AllReadyH.nil
            go_simp
            have J := joined_lit (n1 + n2) (.slice (some ⟨gA, oA, none⟩) m (kA - 1)) X.tail wd (by omega) (PX.out wd (PX6.out wd DR.out)).2.2.2.1.1
            rw [htlX] at J
            refine J.mono ?_
            clear J
            rintro e w7 ⟨zs, yy, rfl, ho7, hb7⟩
            have B7 := hideP (DR.out.trans (hb7.mono DR.out.size))
            have O7 := hideP (ho7.base DR.out.size)
            clear ho7 hb7 D1 D2
            refine hK.out _ _ B7.out (fun _ => ?_)
            clear hK
            refine wpAnyH_ready (rs := [15]) (by kernel_rfl) (by simp) ?_
            refine AllReadyH.cons rfl (fun K hK => ?_) AllReadyH.nil
            go_simp
            refine hK.out _ _ B7.out (fun _ => ?_)
            clear hK
            refine wpAnyH_done (by kernel_rfl) ?_ _
            have RD7 := hideP O7.out.rd
            have hs7 := B7.out.size
            clear DR
            by_cases hf : Pl.fitsB ((n1 + n2) :: X.tail) = true
            · have KF : Hid (∀ w' v, Rd w'.heap.size w' v ((n1 + n2) :: X.tail) → Calls Try.prog 131 #[v] w' fun e w'' => e = .returned (.tuple #[]) ∧ w'' = w') := fun w' v h => (needFit_any _ _ _ w' (by rw [List.length_cons, htlX]; omega) h).mono (by
                rintro e w'' ⟨rfl, ⟨_, rfl⟩ | ⟨g, _⟩⟩
                · exact ⟨rfl, rfl⟩
                · rw [hf] at g; cases g)
              have e := PE2.out
              rw [if_pos hf] at e
              simp only [Prod.mk.injEq] at e
              obtain ⟨rfl, rfl, rfl⟩ := e
              have Z7 := hideP (PX.out w7 (PX6.out w7 B7.out))
              have ca1 := Z7.out.1.2
              have cb1 := Z7.out.2.1.2
              have HTX := hideP htlX
              clear hf PE2 htlX
              go_wp2_with (go_at_call 131; refine (KF.out _ _ RD7.out).mono ?_; rintro e w7 ⟨rfl, rfl⟩)
              have AL := hideP (A3.out w7 (.cells #[.slice (some ⟨b1, 0, none⟩) da.length da.length, .slice (some ⟨b3, 0, none⟩) db.length db.length] 22))
              have J := joined2 w7.heap.size (.slice (some ⟨b1, 0, none⟩) da.length da.length) (.slice (some ⟨b3, 0, none⟩) db.length db.length) da db (w7.alloc (.cells #[.slice (some ⟨b1, 0, none⟩) da.length da.length, .slice (some ⟨b3, 0, none⟩) db.length db.length] 22)) (by omega) (by omega) (by simp) (by simp [go_sem]) (by simp [go_sem]) (((Z7.out.2.2.2.2.xd).keep AL.out).up AL.out.size) (((Z7.out.2.2.2.2.xe).keep AL.out).up AL.out.size)
              refine J.mono ?_
              clear J
              rintro e w8 ⟨dv, rfl, ho8, hb8⟩
              have B8 := hideP (AL.out.trans (hb8.mono AL.out.size))
              have O8 := hideP (ho8.base AL.out.size)
              have C8 := hideP (Z7.out.2.2.2.2.keep B8.out)
              have O78 := hideP (O7.out.keep B8.out)
              have AP := hideP (apart_right (B := w7.heap.size) O8.out O7.out.lt)
              obtain ⟨zd, yd, ed⟩ := ho8.form
              subst ed
              have hs8 := B8.out.size
              clear ho8 hb8 ca1 cb1
              obtain ⟨r0, r1, f2⟩ := C8.out.res
              go_wp2_with fail
              refine bodyPost_ret (v := .agg #[.slice zs (m + 1) yy, .slice zd (da ++ db).length yd]) (by simp [results, Try.results124, go_sem, r0, r1]) rfl ⟨(C8.out.bel.setCell (by simp; omega) _).setCell (by simp; omega) _, .inl ⟨rfl, _, _, rfl, ?_, ?_, AP.out⟩⟩
              · exact Own.base (B := w6.heap.size) (Own.store (Own.store O78.out (by omega) _) (by omega) _) (by omega)
              · exact Own.base (B := w7.heap.size) (Own.store (Own.store O8.out (by omega) _) (by omega) _) (by omega)
            · have KF : Hid (∀ w' v, Rd w'.heap.size w' v ((n1 + n2) :: X.tail) → Calls Try.prog 131 #[v] w' fun e w'' => e = .panicked [thrown 6] ∧ w'' = w') := fun w' v h => (needFit_any _ _ _ w' (by rw [List.length_cons, htlX]; omega) h).mono (by
                rintro e w'' ⟨rfl, ⟨g, _⟩ | ⟨_, rfl⟩⟩
                · rw [g] at hf; exact absurd rfl hf
                · exact ⟨rfl, rfl⟩)
              have e := PE2.out
              rw [if_neg hf] at e
              simp only [Prod.mk.injEq] at e
              obtain ⟨rfl, rfl, rfl⟩ := e
              have BW := hideP (PX.out w7 (PX6.out w7 B7.out)).2.2.2.2.bel
              clear hf PE2
              go_wp2_with (go_at_call 131; refine (KF.out _ _ RD7.out).mono ?_; rintro e w7 ⟨rfl, rfl⟩)
              exact ⟨rfl, BW.out, .inr ⟨by decide, rfl, rfl, rfl⟩⟩
          · have htd : decide (X.tail = Y.tail) = false := decide_eq_false htl
            rw [htd] at KEQ
            have e := PE.out
            rw [if_neg htl] at e
            simp only [Prod.mk.injEq] at e
            obtain ⟨rfl, rfl, rfl⟩ := e
            clear htd htl PE
            refine wpAnyH_ready (rs := [6]) (by kernel_rfl) (by simp) ?_
            refine AllReadyH.cons rfl (fun K hK => ?_) AllReadyH.nil
            go_simp
            refine (KEQ.out wd DR.out).mono ?_
            rintro e w6 ⟨rfl, hb6⟩
            have D6 := hideP (DR.out.trans (hb6.mono DR.out.size))
            have BW6 := hideP (PX.out w6 D6.out).2.2.2.2.bel
            clear hb6 DR
            refine hK.out _ _ D6.out (fun _ => ?_)
            clear hK
            refine wpAnyH_ready (rs := [7]) (by kernel_rfl) (by simp) ?_
            refine AllReadyH.cons rfl (fun K hK => ?_) AllReadyH.nil
            go_simp
            refine hK.out _ _ D6.out (fun _ => ?_)
            clear hK
            refine wpAnyH_ready (rs := [8]) (by kernel_rfl) (by simp) ?_
            refine AllReadyH.cons rfl (fun K hK => ?_) AllReadyH.nil
            go_simp
            refine (refuse_yes _ _).mono ?_
            rintro e w6 ⟨rfl, rfl⟩
            go_wp2_with fail
            exact ⟨rfl, BW6.out, .inr ⟨by decide, rfl, rfl, rfl⟩⟩
        · rw [if_neg hc3] at e
          simp only [Prod.mk.injEq] at e
          obtain ⟨rfl, rfl, rfl⟩ := e
          have t3 : ((xs.length : Int) != (ys.length : Int)) = true := by rw [bne_iff_ne]; omega
          have BW := hideP C1.out.bel
          clear HE eA eB hc1 hc2 hc3 C1
          generalize xs.length = la at *
          generalize ys.length = lb at *
          go_wp2_with (go_at_call 83; refine (refuse_yes _ _).mono ?_; rintro e wx ⟨rfl, rfl⟩)
          exact ⟨rfl, BW.out, .inr ⟨by decide, rfl, rfl, rfl⟩⟩

theorem cat_any (b0 b1 b2 b3 : Nat) (sa da sb db : List Int) (w : World)
    (h0 : Rd w.heap.size w (.slice (some ⟨b0, 0, none⟩) sa.length sa.length) sa) (h1 : Rd w.heap.size w (.slice (some ⟨b1, 0, none⟩) da.length da.length) da) (h2 : Rd w.heap.size w (.slice (some ⟨b2, 0, none⟩) sb.length sb.length) sb) (h3 : Rd w.heap.size w (.slice (some ⟨b3, 0, none⟩) db.length db.length) db)
    (oka : Pl.okB sa da = true) (okb : Pl.okB sb db = true) (c : Int) (SS DD : List Int) (hres : Pl.catM sa da sb db = (c, SS, DD)) :
    Calls Try.prog 124 #[.agg #[.slice (some ⟨b0, 0, none⟩) sa.length sa.length, .slice (some ⟨b1, 0, none⟩) da.length da.length], .agg #[.slice (some ⟨b2, 0, none⟩) sb.length sb.length, .slice (some ⟨b3, 0, none⟩) db.length db.length]] w (KPost w c SS DD) := by
  have f : ∀ s d : List Int, Pl.okB s d = true → (1 ≤ (Pl.axesS s d).length ∧ (Pl.axesS s d).length ≤ 3) ∧ 0 ≤ (Pl.axesS s d).getD 0 0 ∧ (Pl.axesS s d).getD 0 0 ≤ 1000 := fun s d ok => by
    have okx := Pl.axes_ok ok
    obtain ⟨n, t, e⟩ := Pl.axes_cons s d
    have m := (Pl.ok_max okx).1
    rw [e] at okx m ⊢
    have hb := (Pl.ok_len okx).2
    simp only [Pl.fitsB, Pl.baseB, Bool.and_eq_true, List.all_cons] at hb
    have := Pl.inR_bd hb.1.2.1
    exact ⟨⟨by simp, m⟩, this.1, this.2⟩
  obtain ⟨⟨p1, p2⟩, p3⟩ := f sa da oka
  obtain ⟨⟨q1, q2⟩, q3⟩ := f sb db okb
  have m1 := Pl.ok_max oka
  have m2 := Pl.ok_max okb
  exact cat_core b0 b1 b2 b3 sa da sb db _ _ w h0 h1 h2 h3 rfl rfl p1 p2 q1 q2 m1.1 m2.1 m1.2 m2.2 p3 q3 c SS DD hres

end Go.Proofs.Ytmobjomebmipdaa
