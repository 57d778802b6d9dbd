import Derived.Test.YtmobjomebmipdaaDyX
namespace Go.Proofs.Ytmobjomebmipdaa
open Go.RowKit
set_option linter.unusedVariables false

set_option maxRecDepth 100000 in
set_option maxHeartbeats 16000000 in
/-- spec.l2Cat: the arrays have axes -/
theorem l2Cat_core (b0 b1 b2 b3 : Nat) (sa da sb db xs ys : List Int) (w : World)
    (h0 : Rd w.heap.size w (.slice (some ⟨b0, 0, none⟩) sa.length sa.length) sa) (h1 : Rd w.heap.size w (.slice (some ⟨b1, 0, none⟩) da.length da.length) da) (h2 : Rd w.heap.size w (.slice (some ⟨b2, 0, none⟩) sb.length sb.length) sb) (h3 : Rd w.heap.size w (.slice (some ⟨b3, 0, none⟩) db.length db.length) db)
    (hxs : Pl.axesS sa da = xs) (hys : Pl.axesS sb db = ys) (hlx : 1 ≤ xs.length) (hlx3 : xs.length ≤ 3) (hly : 1 ≤ ys.length) (hly3 : ys.length ≤ 3) (hla : sa.length ≤ 3) (hlb : sb.length ≤ 3) (hda : da.length ≤ 1000) (hdb : db.length ≤ 1000)
    (hx0 : 0 ≤ xs.getD 0 0 ∧ xs.getD 0 0 ≤ 1000) (hy0 : 0 ≤ ys.getD 0 0 ∧ ys.getD 0 0 ≤ 1000) (c : Int) (SS DD : List Int) (hres : Pl.catM sa da sb db = (c, SS, DD)) :
    Calls Try.prog 64 #[.agg #[.slice (some ⟨b0, 0, none⟩) sa.length sa.length, .slice (some ⟨b1, 0, none⟩) da.length da.length], .agg #[.slice (some ⟨b2, 0, none⟩) sb.length sb.length, .slice (some ⟨b3, 0, none⟩) db.length db.length]] w (FPost w c SS DD) := by
  have e := hres
  unfold Pl.catM at e
  rw [hxs, hys] at e
  have HE := hideP e
  clear e hres
  have C0 := hideP (Cs.new w sa da sb db b0 b1 b2 b3 h0 h1 h2 h3 (by omega) (by omega))
  have KXA : Hid (∀ w', Rd w'.heap.size w' (.slice (some ⟨b0, 0, none⟩) sa.length sa.length) sa → Rd w'.heap.size w' (.slice (some ⟨b1, 0, none⟩) da.length da.length) da → Calls Try.prog 118 #[.agg #[.slice (some ⟨b0, 0, none⟩) sa.length sa.length, .slice (some ⟨b1, 0, none⟩) da.length da.length]] w' fun e w'' => ∃ gA g1 k1, e = .returned (.agg #[.slice (some ⟨gA, 0, none⟩) xs.length xs.length, .slice (some ⟨g1, 0, none⟩) da.length k1]) ∧ da.length ≤ k1 ∧ k1 ≤ 9223372036854775807 ∧ Rd w''.heap.size w'' (.slice (some ⟨gA, 0, none⟩) xs.length xs.length) xs ∧ Rd w''.heap.size w'' (.slice (some ⟨g1, 0, none⟩) da.length k1) da ∧ Below w'.heap.size w' w'') := fun w' r0 r1 => by
    have := l2Axes_sl b0 b1 sa da w' (by omega) r0 r1
    rw [hxs] at this
    exact this
  have KXB : Hid (∀ w', Rd w'.heap.size w' (.slice (some ⟨b2, 0, none⟩) sb.length sb.length) sb → Rd w'.heap.size w' (.slice (some ⟨b3, 0, none⟩) db.length db.length) db → Calls Try.prog 118 #[.agg #[.slice (some ⟨b2, 0, none⟩) sb.length sb.length, .slice (some ⟨b3, 0, none⟩) db.length db.length]] w' fun e w'' => ∃ gB g3 k3, e = .returned (.agg #[.slice (some ⟨gB, 0, none⟩) ys.length ys.length, .slice (some ⟨g3, 0, none⟩) db.length k3]) ∧ db.length ≤ k3 ∧ k3 ≤ 9223372036854775807 ∧ Rd w''.heap.size w'' (.slice (some ⟨gB, 0, none⟩) ys.length ys.length) ys ∧ Rd w''.heap.size w'' (.slice (some ⟨g3, 0, none⟩) db.length k3) db ∧ Below w'.heap.size w' w'') := fun w' r0 r1 => by
    have := l2Axes_sl b2 b3 sb db w' (by omega) r0 r1
    rw [hys] at this
    exact this
  clear h0 h1 h2 h3 hxs hys
  go_enter Try.func64, Try.ntmps64
  go_wp2_with fail
  refine (KXA.out _ C0.out.xa C0.out.xd).mono ?_
  rintro e w1 ⟨gA, g1, k1, rfl, _, _, ra, rd, hb⟩
  have C1 := hideP (C0.out.keep hb)
  have C2 := hideP (C1.out.putA ra rd ⟨Nat.le_refl _, by omega⟩)
  clear ra rd hb C0 KXA
  have z0 := C1.out.a0
  have z1 := C1.out.a1
  have z2 := C1.out.fa
  go_upto_region 2 with fail
  generalize ((w1.setCell ⟨w.heap.size, 0, none⟩ (.slice (some ⟨gA, 0, none⟩) xs.length xs.length)).setCell ⟨w.heap.size, 1, none⟩ (.slice (some ⟨g1, 0, none⟩) da.length k1)) = w2 at C2 ⊢
  clear z0 z1 z2 C1
  have z0 := C2.out.b0
  have z1 := C2.out.b1
  go_wp2_with fail
  refine (KXB.out _ C2.out.xb C2.out.xe).mono ?_
  rintro e w3 ⟨gB, g3, k3, rfl, _, _, ra, rd, hb⟩
  have C3 := hideP (C2.out.keep hb)
  have C1 := hideP (C3.out.putB ra rd ⟨Nat.le_refl _, by omega⟩)
  clear ra rd hb C2 KXB z0 z1
  have z0 := C3.out.b0
  have z1 := C3.out.b1
  have z2 := C3.out.fb
  go_upto_region 3 with fail
  generalize ((w3.setCell ⟨w.heap.size + 1, 0, none⟩ (.slice (some ⟨gB, 0, none⟩) ys.length ys.length)).setCell ⟨w.heap.size + 1, 1, none⟩ (.slice (some ⟨g3, 0, none⟩) db.length k3)) = wx at C1 ⊢
  clear z0 z1 z2 C3
  have z0 := C1.out.a0
  have z1 := C1.out.a1
  have z2 := C1.out.b0
  have z3 := C1.out.b1
  by_cases hc1 : xs.length = ys.length + 1
  · have t1 : ((xs.length : Int) == (ys.length : Int) + 1) = true := by rw [beq_iff_eq]; omega
    have eA : Pl.asR xs ys.length = xs := by unfold Pl.asR; rw [if_neg (by omega)]
    have eB : Pl.asR ys xs.length = 1 :: ys := by unfold Pl.asR; rw [if_pos (by omega)]
    have e := HE.out
    rw [eA, eB, if_pos (by rw [List.length_cons]; omega)] at e
    go_upto_region 4 with fail
    clear z0 z1 z2 z3
    have DW : Hid (Cs w xs da ys db gA xs.length g1 k1 gB ys.length g3 k3 wx.drew) := C1.out.keep (Below.refl _ _).drew
    go_cut [21] (fun _ wy => ∃ g2 k2, ys.length + 1 ≤ k2 ∧ k2 ≤ 9223372036854775807 ∧ Cs w xs da (1 :: ys) db gA xs.length g1 k1 g2 k2 g3 k3 wy)
    case first =>
      refine wp_region_held (S := fun w' => True) (by kernel_rfl) ?_
      change wpAnyH _ _ _ _ _ _ _ _ (World.drew _)
      generalize World.drew wx = wd at DW ⊢
      have A1 : Hid (Below wd.heap.size wd (wd.alloc (.cells #[.int .i64 1] 3))) := (Below.refl _ _).alloc (Nat.le_refl _) _
      have CL := hideP (DW.out.keep A1.out)
      have OL : Hid ((wd.alloc (.cells #[.int .i64 1] 3)).ownsRow wd.heap.size 3 1 (.slice (some ⟨wd.heap.size, 0, none⟩) 1 1) 1 (([1] : List Int).map (Value.int .i64))) := owns_one wd 1 wd.heap.size (Nat.le_refl _)
      have RL : Hid (Rd (wd.alloc (.cells #[.int .i64 1] 3)).heap.size (wd.alloc (.cells #[.int .i64 1] 3)) (.slice (some ⟨gB, 0, none⟩) ys.length ys.length) ys) := CL.out.xb
      refine wpAnyH_take (i := 1) (v := .pointer (some ⟨w.heap.size + 1, 0, none⟩)) rfl (by kernel_rfl) (by kernel_rfl) (by kernel_rfl) (fun _ _ _ h => h) (Or.inl ⟨by rfl, ?_⟩) trivial ?_
      · intro w' hS
        clear hS
        go_simp
      refine wpAnyH_take (i := 4) (v := .pointer (some ⟨w.heap.size + 1, 1, none⟩)) rfl (by kernel_rfl) (by kernel_rfl) (by kernel_rfl) (fun _ _ _ h => h) (Or.inl ⟨by rfl, ?_⟩) trivial ?_
      · intro w' hS
        clear hS
        go_simp
      refine wpAnyH_ready (rs := [0, 2, 5]) (by kernel_rfl) (by simp) ?_
      refine AllReadyH.cons rfl (fun K hK => ?_) (AllReadyH.cons rfl (fun K hK => ?_) (AllReadyH.cons rfl (fun K hK => ?_) AllReadyH.nil))
      · go_simp
        refine hK.out _ _ trivial (fun _ => ?_)
        clear hK
        refine wpAnyH_ready (rs := [2, 5]) (by kernel_rfl) (by simp) ?_
        refine AllReadyH.cons rfl (fun K hK => ?_) (AllReadyH.cons rfl (fun K hK => ?_) AllReadyH.nil)
        · have q0 := CL.out.b0
          go_simp
          refine hK.out _ _ trivial (fun _ => ?_)
          clear hK q0
          refine wpAnyH_ready (rs := [3, 5]) (by kernel_rfl) (by simp) ?_
          refine AllReadyH.cons rfl (fun K hK => ?_) (AllReadyH.cons rfl (fun K hK => ?_) AllReadyH.nil)
          · refine step_append_rd (base := wd.heap.size) (wd.alloc (.cells #[.int .i64 1] 3)) rfl (.tmp 18) (.tmp 20) rfl (.slice (some ⟨wd.heap.size, 0, none⟩) 1 1) (.slice (some ⟨gB, 0, none⟩) ys.length ys.length) rfl rfl 1 [1] ys OL.out RL.out (by omega) (by simp) ?_
            intro v' w2 ho hg
            have B2 : Hid (Below wd.heap.size wd w2) := A1.out.grown hg (by simp) (fun k hk => (OL.out.lt k hk).1)
            have C2 := hideP (DW.out.keep B2.out)
            obtain ⟨g2, k2, ev, hk1', hk2⟩ := row_at ho (by omega)
            subst ev
            have hk1 : ys.length + 1 ≤ k2 := by omega
            have RN : Hid (Rd w2.heap.size w2 (.slice (some ⟨g2, 0, none⟩) (ys.length + 1) k2) (1 :: ys)) := by
              have e1 : 1 + ys.length = ys.length + 1 := Nat.add_comm _ _
              rw [e1] at ho
              exact (own_of_any (zs := 1 :: ys) ho).rd
            have eA : 1 + ys.length = ys.length + 1 := Nat.add_comm _ _
            rw [eA]
            clear ho hg hk1' eA
            refine hK.out _ _ trivial (fun _ => ?_)
            clear hK
            refine wpAnyH_ready (rs := [5]) (by kernel_rfl) (by simp) ?_
            refine AllReadyH.cons rfl (fun K hK => ?_) AllReadyH.nil
            have q0 := C2.out.b1
            go_simp
            refine hK.out _ _ trivial (fun _ => ?_)
            clear hK q0
            refine wpAnyH_ready (rs := [6]) (by kernel_rfl) (by simp) ?_
            refine AllReadyH.cons rfl (fun K hK => ?_) AllReadyH.nil
            go_simp
            refine hK.out _ _ trivial (fun _ => ?_)
            clear hK
            refine wpAnyH_ready (rs := [7]) (by kernel_rfl) (by simp) ?_
            refine AllReadyH.cons rfl (fun K hK => ?_) AllReadyH.nil
            have CP : Hid (Cs w xs da (1 :: ys) db gA xs.length g1 k1 g2 k2 g3 k3 ((w2.setCell ⟨w.heap.size + 1, 0, none⟩ (.slice (some ⟨g2, 0, none⟩) (ys.length + 1) k2)).setCell ⟨w.heap.size + 1, 1, none⟩ (.slice (some ⟨g3, 0, none⟩) db.length k3))) := C2.out.putB (xs' := 1 :: ys) RN.out C2.out.xe ⟨hk1, hk2⟩
            have q0 := C2.out.b0
            have q1 := C2.out.b1
            have q2 := C2.out.fb
            go_simp
            refine hK.out _ _ trivial (fun _ => ?_)
            clear hK q0 q1 q2
            generalize ((w2.setCell ⟨w.heap.size + 1, 0, none⟩ (.slice (some ⟨g2, 0, none⟩) (ys.length + 1) k2)).setCell ⟨w.heap.size + 1, 1, none⟩ (.slice (some ⟨g3, 0, none⟩) db.length k3)) = w9 at CP ⊢
            refine wpAnyH_done (by kernel_rfl) ?_ _
            go_wp2_with fail
            go_meet
            case rel => exact ⟨_, _, hk1, hk2, CP.out⟩
          · have q0 := CL.out.b1
            go_simp
            refine hK.out _ _ trivial (fun _ => ?_)
            clear hK q0
            refine wpAnyH_ready (rs := [3]) (by kernel_rfl) (by simp) ?_
            refine AllReadyH.cons rfl (fun K hK => ?_) AllReadyH.nil
            refine step_append_rd (base := wd.heap.size) (wd.alloc (.cells #[.int .i64 1] 3)) rfl (.tmp 18) (.tmp 20) rfl (.slice (some ⟨wd.heap.size, 0, none⟩) 1 1) (.slice (some ⟨gB, 0, none⟩) ys.length ys.length) rfl rfl 1 [1] ys OL.out RL.out (by omega) (by simp) ?_
            intro v' w2 ho hg
            have B2 : Hid (Below wd.heap.size wd w2) := A1.out.grown hg (by simp) (fun k hk => (OL.out.lt k hk).1)
            have C2 := hideP (DW.out.keep B2.out)
            obtain ⟨g2, k2, ev, hk1', hk2⟩ := row_at ho (by omega)
            subst ev
            have hk1 : ys.length + 1 ≤ k2 := by omega
            have RN : Hid (Rd w2.heap.size w2 (.slice (some ⟨g2, 0, none⟩) (ys.length + 1) k2) (1 :: ys)) := by
              have e1 : 1 + ys.length = ys.length + 1 := Nat.add_comm _ _
              rw [e1] at ho
              exact (own_of_any (zs := 1 :: ys) ho).rd
            have eA : 1 + ys.length = ys.length + 1 := Nat.add_comm _ _
            rw [eA]
            clear ho hg hk1' eA
            refine hK.out _ _ trivial (fun _ => ?_)
            clear hK
            refine wpAnyH_ready (rs := [6]) (by kernel_rfl) (by simp) ?_
            refine AllReadyH.cons rfl (fun K hK => ?_) AllReadyH.nil
            go_simp
            refine hK.out _ _ trivial (fun _ => ?_)
            clear hK
            refine wpAnyH_ready (rs := [7]) (by kernel_rfl) (by simp) ?_
            refine AllReadyH.cons rfl (fun K hK => ?_) AllReadyH.nil
            have CP : Hid (Cs w xs da (1 :: ys) db gA xs.length g1 k1 g2 k2 g3 k3 ((w2.setCell ⟨w.heap.size + 1, 0, none⟩ (.slice (some ⟨g2, 0, none⟩) (ys.length + 1) k2)).setCell ⟨w.heap.size + 1, 1, none⟩ (.slice (some ⟨g3, 0, none⟩) db.length k3))) := C2.out.putB (xs' := 1 :: ys) RN.out C2.out.xe ⟨hk1, hk2⟩
            have q0 := C2.out.b0
            have q1 := C2.out.b1
            have q2 := C2.out.fb
            go_simp
            refine hK.out _ _ trivial (fun _ => ?_)
            clear hK q0 q1 q2
            generalize ((w2.setCell ⟨w.heap.size + 1, 0, none⟩ (.slice (some ⟨g2, 0, none⟩) (ys.length + 1) k2)).setCell ⟨w.heap.size + 1, 1, none⟩ (.slice (some ⟨g3, 0, none⟩) db.length k3)) = w9 at CP ⊢
            refine wpAnyH_done (by kernel_rfl) ?_ _
            go_wp2_with fail
            go_meet
            case rel => exact ⟨_, _, hk1, hk2, CP.out⟩
        · have q0 := CL.out.b1
          go_simp
          refine hK.out _ _ trivial (fun _ => ?_)
          clear hK q0
          refine wpAnyH_ready (rs := [2]) (by kernel_rfl) (by simp) ?_
          refine AllReadyH.cons rfl (fun K hK => ?_) AllReadyH.nil
          have q0 := CL.out.b0
          go_simp
          refine hK.out _ _ trivial (fun _ => ?_)
          clear hK q0
          refine wpAnyH_ready (rs := [3]) (by kernel_rfl) (by simp) ?_
          refine AllReadyH.cons rfl (fun K hK => ?_) AllReadyH.nil
          refine step_append_rd (base := wd.heap.size) (wd.alloc (.cells #[.int .i64 1] 3)) rfl (.tmp 18) (.tmp 20) rfl (.slice (some ⟨wd.heap.size, 0, none⟩) 1 1) (.slice (some ⟨gB, 0, none⟩) ys.length ys.length) rfl rfl 1 [1] ys OL.out RL.out (by omega) (by simp) ?_
          intro v' w2 ho hg
          have B2 : Hid (Below wd.heap.size wd w2) := A1.out.grown hg (by simp) (fun k hk => (OL.out.lt k hk).1)
          have C2 := hideP (DW.out.keep B2.out)
          obtain ⟨g2, k2, ev, hk1', hk2⟩ := row_at ho (by omega)
          subst ev
          have hk1 : ys.length + 1 ≤ k2 := by omega
          have RN : Hid (Rd w2.heap.size w2 (.slice (some ⟨g2, 0, none⟩) (ys.length + 1) k2) (1 :: ys)) := by
            have e1 : 1 + ys.length = ys.length + 1 := Nat.add_comm _ _
            rw [e1] at ho
            exact (own_of_any (zs := 1 :: ys) ho).rd
          have eA : 1 + ys.length = ys.length + 1 := Nat.add_comm _ _
          rw [eA]
          clear ho hg hk1' eA
          refine hK.out _ _ trivial (fun _ => ?_)
          clear hK
          refine wpAnyH_ready (rs := [6]) (by kernel_rfl) (by simp) ?_
          refine AllReadyH.cons rfl (fun K hK => ?_) AllReadyH.nil
          go_simp
          refine hK.out _ _ trivial (fun _ => ?_)
          clear hK
          refine wpAnyH_ready (rs := [7]) (by kernel_rfl) (by simp) ?_
          refine AllReadyH.cons rfl (fun K hK => ?_) AllReadyH.nil
          have CP : Hid (Cs w xs da (1 :: ys) db gA xs.length g1 k1 g2 k2 g3 k3 ((w2.setCell ⟨w.heap.size + 1, 0, none⟩ (.slice (some ⟨g2, 0, none⟩) (ys.length + 1) k2)).setCell ⟨w.heap.size + 1, 1, none⟩ (.slice (some ⟨g3, 0, none⟩) db.length k3))) := C2.out.putB (xs' := 1 :: ys) RN.out C2.out.xe ⟨hk1, hk2⟩
          have q0 := C2.out.b0
          have q1 := C2.out.b1
          have q2 := C2.out.fb
          go_simp
          refine hK.out _ _ trivial (fun _ => ?_)
          clear hK q0 q1 q2
          generalize ((w2.setCell ⟨w.heap.size + 1, 0, none⟩ (.slice (some ⟨g2, 0, none⟩) (ys.length + 1) k2)).setCell ⟨w.heap.size + 1, 1, none⟩ (.slice (some ⟨g3, 0, none⟩) db.length k3)) = w9 at CP ⊢
          refine wpAnyH_done (by kernel_rfl) ?_ _
          go_wp2_with fail
          go_meet
          case rel => exact ⟨_, _, hk1, hk2, CP.out⟩
      · have q0 := DW.out.b0
        go_simp
        refine hK.out _ _ trivial (fun _ => ?_)
        clear hK q0
        refine wpAnyH_ready (rs := [0, 5]) (by kernel_rfl) (by simp) ?_
        refine AllReadyH.cons rfl (fun K hK => ?_) (AllReadyH.cons rfl (fun K hK => ?_) AllReadyH.nil)
        · go_simp
          refine hK.out _ _ trivial (fun _ => ?_)
          clear hK
          refine wpAnyH_ready (rs := [3, 5]) (by kernel_rfl) (by simp) ?_
          refine AllReadyH.cons rfl (fun K hK => ?_) (AllReadyH.cons rfl (fun K hK => ?_) AllReadyH.nil)
          · refine step_append_rd (base := wd.heap.size) (wd.alloc (.cells #[.int .i64 1] 3)) rfl (.tmp 18) (.tmp 20) rfl (.slice (some ⟨wd.heap.size, 0, none⟩) 1 1) (.slice (some ⟨gB, 0, none⟩) ys.length ys.length) rfl rfl 1 [1] ys OL.out RL.out (by omega) (by simp) ?_
            intro v' w2 ho hg
            have B2 : Hid (Below wd.heap.size wd w2) := A1.out.grown hg (by simp) (fun k hk => (OL.out.lt k hk).1)
            have C2 := hideP (DW.out.keep B2.out)
            obtain ⟨g2, k2, ev, hk1', hk2⟩ := row_at ho (by omega)
            subst ev
            have hk1 : ys.length + 1 ≤ k2 := by omega
            have RN : Hid (Rd w2.heap.size w2 (.slice (some ⟨g2, 0, none⟩) (ys.length + 1) k2) (1 :: ys)) := by
              have e1 : 1 + ys.length = ys.length + 1 := Nat.add_comm _ _
              rw [e1] at ho
              exact (own_of_any (zs := 1 :: ys) ho).rd
            have eA : 1 + ys.length = ys.length + 1 := Nat.add_comm _ _
            rw [eA]
            clear ho hg hk1' eA
            refine hK.out _ _ trivial (fun _ => ?_)
            clear hK
            refine wpAnyH_ready (rs := [5]) (by kernel_rfl) (by simp) ?_
            refine AllReadyH.cons rfl (fun K hK => ?_) AllReadyH.nil
            have q0 := C2.out.b1
            go_simp
            refine hK.out _ _ trivial (fun _ => ?_)
            clear hK q0
            refine wpAnyH_ready (rs := [6]) (by kernel_rfl) (by simp) ?_
            refine AllReadyH.cons rfl (fun K hK => ?_) AllReadyH.nil
            go_simp
            refine hK.out _ _ trivial (fun _ => ?_)
            clear hK
            refine wpAnyH_ready (rs := [7]) (by kernel_rfl) (by simp) ?_
            refine AllReadyH.cons rfl (fun K hK => ?_) AllReadyH.nil
            have CP : Hid (Cs w xs da (1 :: ys) db gA xs.length g1 k1 g2 k2 g3 k3 ((w2.setCell ⟨w.heap.size + 1, 0, none⟩ (.slice (some ⟨g2, 0, none⟩) (ys.length + 1) k2)).setCell ⟨w.heap.size + 1, 1, none⟩ (.slice (some ⟨g3, 0, none⟩) db.length k3))) := C2.out.putB (xs' := 1 :: ys) RN.out C2.out.xe ⟨hk1, hk2⟩
            have q0 := C2.out.b0
            have q1 := C2.out.b1
            have q2 := C2.out.fb
            go_simp
            refine hK.out _ _ trivial (fun _ => ?_)
            clear hK q0 q1 q2
            generalize ((w2.setCell ⟨w.heap.size + 1, 0, none⟩ (.slice (some ⟨g2, 0, none⟩) (ys.length + 1) k2)).setCell ⟨w.heap.size + 1, 1, none⟩ (.slice (some ⟨g3, 0, none⟩) db.length k3)) = w9 at CP ⊢
            refine wpAnyH_done (by kernel_rfl) ?_ _
            go_wp2_with fail
            go_meet
            case rel => exact ⟨_, _, hk1, hk2, CP.out⟩
          · have q0 := CL.out.b1
            go_simp
            refine hK.out _ _ trivial (fun _ => ?_)
            clear hK q0
            refine wpAnyH_ready (rs := [3]) (by kernel_rfl) (by simp) ?_
            refine AllReadyH.cons rfl (fun K hK => ?_) AllReadyH.nil
            refine step_append_rd (base := wd.heap.size) (wd.alloc (.cells #[.int .i64 1] 3)) rfl (.tmp 18) (.tmp 20) rfl (.slice (some ⟨wd.heap.size, 0, none⟩) 1 1) (.slice (some ⟨gB, 0, none⟩) ys.length ys.length) rfl rfl 1 [1] ys OL.out RL.out (by omega) (by simp) ?_
            intro v' w2 ho hg
            have B2 : Hid (Below wd.heap.size wd w2) := A1.out.grown hg (by simp) (fun k hk => (OL.out.lt k hk).1)
            have C2 := hideP (DW.out.keep B2.out)
            obtain ⟨g2, k2, ev, hk1', hk2⟩ := row_at ho (by omega)
            subst ev
            have hk1 : ys.length + 1 ≤ k2 := by omega
            have RN : Hid (Rd w2.heap.size w2 (.slice (some ⟨g2, 0, none⟩) (ys.length + 1) k2) (1 :: ys)) := by
              have e1 : 1 + ys.length = ys.length + 1 := Nat.add_comm _ _
              rw [e1] at ho
              exact (own_of_any (zs := 1 :: ys) ho).rd
            have eA : 1 + ys.length = ys.length + 1 := Nat.add_comm _ _
            rw [eA]
            clear ho hg hk1' eA
            refine hK.out _ _ trivial (fun _ => ?_)
            clear hK
            refine wpAnyH_ready (rs := [6]) (by kernel_rfl) (by simp) ?_
            refine AllReadyH.cons rfl (fun K hK => ?_) AllReadyH.nil
            go_simp
            refine hK.out _ _ trivial (fun _ => ?_)
            clear hK
            refine wpAnyH_ready (rs := [7]) (by kernel_rfl) (by simp) ?_
            refine AllReadyH.cons rfl (fun K hK => ?_) AllReadyH.nil
            have CP : Hid (Cs w xs da (1 :: ys) db gA xs.length g1 k1 g2 k2 g3 k3 ((w2.setCell ⟨w.heap.size + 1, 0, none⟩ (.slice (some ⟨g2, 0, none⟩) (ys.length + 1) k2)).setCell ⟨w.heap.size + 1, 1, none⟩ (.slice (some ⟨g3, 0, none⟩) db.length k3))) := C2.out.putB (xs' := 1 :: ys) RN.out C2.out.xe ⟨hk1, hk2⟩
            have q0 := C2.out.b0
            have q1 := C2.out.b1
            have q2 := C2.out.fb
            go_simp
            refine hK.out _ _ trivial (fun _ => ?_)
            clear hK q0 q1 q2
            generalize ((w2.setCell ⟨w.heap.size + 1, 0, none⟩ (.slice (some ⟨g2, 0, none⟩) (ys.length + 1) k2)).setCell ⟨w.heap.size + 1, 1, none⟩ (.slice (some ⟨g3, 0, none⟩) db.length k3)) = w9 at CP ⊢
            refine wpAnyH_done (by kernel_rfl) ?_ _
            go_wp2_with fail
            go_meet
            case rel => exact ⟨_, _, hk1, hk2, CP.out⟩
        · have q0 := DW.out.b1
          go_simp
          refine hK.out _ _ trivial (fun _ => ?_)
          clear hK q0
          refine wpAnyH_ready (rs := [0]) (by kernel_rfl) (by simp) ?_
          refine AllReadyH.cons rfl (fun K hK => ?_) AllReadyH.nil
          go_simp
          refine hK.out _ _ trivial (fun _ => ?_)
          clear hK
          refine wpAnyH_ready (rs := [3]) (by kernel_rfl) (by simp) ?_
          refine AllReadyH.cons rfl (fun K hK => ?_) AllReadyH.nil
          refine step_append_rd (base := wd.heap.size) (wd.alloc (.cells #[.int .i64 1] 3)) rfl (.tmp 18) (.tmp 20) rfl (.slice (some ⟨wd.heap.size, 0, none⟩) 1 1) (.slice (some ⟨gB, 0, none⟩) ys.length ys.length) rfl rfl 1 [1] ys OL.out RL.out (by omega) (by simp) ?_
          intro v' w2 ho hg
          have B2 : Hid (Below wd.heap.size wd w2) := A1.out.grown hg (by simp) (fun k hk => (OL.out.lt k hk).1)
          have C2 := hideP (DW.out.keep B2.out)
          obtain ⟨g2, k2, ev, hk1', hk2⟩ := row_at ho (by omega)
          subst ev
          have hk1 : ys.length + 1 ≤ k2 := by omega
          have RN : Hid (Rd w2.heap.size w2 (.slice (some ⟨g2, 0, none⟩) (ys.length + 1) k2) (1 :: ys)) := by
            have e1 : 1 + ys.length = ys.length + 1 := Nat.add_comm _ _
            rw [e1] at ho
            exact (own_of_any (zs := 1 :: ys) ho).rd
          have eA : 1 + ys.length = ys.length + 1 := Nat.add_comm _ _
          rw [eA]
          clear ho hg hk1' eA
          refine hK.out _ _ trivial (fun _ => ?_)
          clear hK
          refine wpAnyH_ready (rs := [6]) (by kernel_rfl) (by simp) ?_
          refine AllReadyH.cons rfl (fun K hK => ?_) AllReadyH.nil
          go_simp
          refine hK.out _ _ trivial (fun _ => ?_)
          clear hK
          refine wpAnyH_ready (rs := [7]) (by kernel_rfl) (by simp) ?_
          refine AllReadyH.cons rfl (fun K hK => ?_) AllReadyH.nil
          have CP : Hid (Cs w xs da (1 :: ys) db gA xs.length g1 k1 g2 k2 g3 k3 ((w2.setCell ⟨w.heap.size + 1, 0, none⟩ (.slice (some ⟨g2, 0, none⟩) (ys.length + 1) k2)).setCell ⟨w.heap.size + 1, 1, none⟩ (.slice (some ⟨g3, 0, none⟩) db.length k3))) := C2.out.putB (xs' := 1 :: ys) RN.out C2.out.xe ⟨hk1, hk2⟩
          have q0 := C2.out.b0
          have q1 := C2.out.b1
          have q2 := C2.out.fb
          go_simp
          refine hK.out _ _ trivial (fun _ => ?_)
          clear hK q0 q1 q2
          generalize ((w2.setCell ⟨w.heap.size + 1, 0, none⟩ (.slice (some ⟨g2, 0, none⟩) (ys.length + 1) k2)).setCell ⟨w.heap.size + 1, 1, none⟩ (.slice (some ⟨g3, 0, none⟩) db.length k3)) = w9 at CP ⊢
          refine wpAnyH_done (by kernel_rfl) ?_ _
          go_wp2_with fail
          go_meet
          case rel => exact ⟨_, _, hk1, hk2, CP.out⟩
      · have q0 := DW.out.b1
        go_simp
        refine hK.out _ _ trivial (fun _ => ?_)
        clear hK q0
        refine wpAnyH_ready (rs := [0, 2]) (by kernel_rfl) (by simp) ?_
        refine AllReadyH.cons rfl (fun K hK => ?_) (AllReadyH.cons rfl (fun K hK => ?_) AllReadyH.nil)
        · go_simp
          refine hK.out _ _ trivial (fun _ => ?_)
          clear hK
          refine wpAnyH_ready (rs := [2]) (by kernel_rfl) (by simp) ?_
          refine AllReadyH.cons rfl (fun K hK => ?_) AllReadyH.nil
          have q0 := CL.out.b0
          go_simp
          refine hK.out _ _ trivial (fun _ => ?_)
          clear hK q0
          refine wpAnyH_ready (rs := [3]) (by kernel_rfl) (by simp) ?_
          refine AllReadyH.cons rfl (fun K hK => ?_) AllReadyH.nil
          refine step_append_rd (base := wd.heap.size) (wd.alloc (.cells #[.int .i64 1] 3)) rfl (.tmp 18) (.tmp 20) rfl (.slice (some ⟨wd.heap.size, 0, none⟩) 1 1) (.slice (some ⟨gB, 0, none⟩) ys.length ys.length) rfl rfl 1 [1] ys OL.out RL.out (by omega) (by simp) ?_
          intro v' w2 ho hg
          have B2 : Hid (Below wd.heap.size wd w2) := A1.out.grown hg (by simp) (fun k hk => (OL.out.lt k hk).1)
          have C2 := hideP (DW.out.keep B2.out)
          obtain ⟨g2, k2, ev, hk1', hk2⟩ := row_at ho (by omega)
          subst ev
          have hk1 : ys.length + 1 ≤ k2 := by omega
          have RN : Hid (Rd w2.heap.size w2 (.slice (some ⟨g2, 0, none⟩) (ys.length + 1) k2) (1 :: ys)) := by
            have e1 : 1 + ys.length = ys.length + 1 := Nat.add_comm _ _
            rw [e1] at ho
            exact (own_of_any (zs := 1 :: ys) ho).rd
          have eA : 1 + ys.length = ys.length + 1 := Nat.add_comm _ _
          rw [eA]
          clear ho hg hk1' eA
          refine hK.out _ _ trivial (fun _ => ?_)
          clear hK
          refine wpAnyH_ready (rs := [6]) (by kernel_rfl) (by simp) ?_
          refine AllReadyH.cons rfl (fun K hK => ?_) AllReadyH.nil
          go_simp
          refine hK.out _ _ trivial (fun _ => ?_)
          clear hK
          refine wpAnyH_ready (rs := [7]) (by kernel_rfl) (by simp) ?_
          refine AllReadyH.cons rfl (fun K hK => ?_) AllReadyH.nil
          have CP : Hid (Cs w xs da (1 :: ys) db gA xs.length g1 k1 g2 k2 g3 k3 ((w2.setCell ⟨w.heap.size + 1, 0, none⟩ (.slice (some ⟨g2, 0, none⟩) (ys.length + 1) k2)).setCell ⟨w.heap.size + 1, 1, none⟩ (.slice (some ⟨g3, 0, none⟩) db.length k3))) := C2.out.putB (xs' := 1 :: ys) RN.out C2.out.xe ⟨hk1, hk2⟩
          have q0 := C2.out.b0
          have q1 := C2.out.b1
          have q2 := C2.out.fb
          go_simp
          refine hK.out _ _ trivial (fun _ => ?_)
          clear hK q0 q1 q2
          generalize ((w2.setCell ⟨w.heap.size + 1, 0, none⟩ (.slice (some ⟨g2, 0, none⟩) (ys.length + 1) k2)).setCell ⟨w.heap.size + 1, 1, none⟩ (.slice (some ⟨g3, 0, none⟩) db.length k3)) = w9 at CP ⊢
          refine wpAnyH_done (by kernel_rfl) ?_ _
          go_wp2_with fail
          go_meet
          case rel => exact ⟨_, _, hk1, hk2, CP.out⟩
        · have q0 := DW.out.b0
          go_simp
          refine hK.out _ _ trivial (fun _ => ?_)
          clear hK q0
          refine wpAnyH_ready (rs := [0]) (by kernel_rfl) (by simp) ?_
          refine AllReadyH.cons rfl (fun K hK => ?_) AllReadyH.nil
          go_simp
          refine hK.out _ _ trivial (fun _ => ?_)
          clear hK
          refine wpAnyH_ready (rs := [3]) (by kernel_rfl) (by simp) ?_
          refine AllReadyH.cons rfl (fun K hK => ?_) AllReadyH.nil
          refine step_append_rd (base := wd.heap.size) (wd.alloc (.cells #[.int .i64 1] 3)) rfl (.tmp 18) (.tmp 20) rfl (.slice (some ⟨wd.heap.size, 0, none⟩) 1 1) (.slice (some ⟨gB, 0, none⟩) ys.length ys.length) rfl rfl 1 [1] ys OL.out RL.out (by omega) (by simp) ?_
          intro v' w2 ho hg
          have B2 : Hid (Below wd.heap.size wd w2) := A1.out.grown hg (by simp) (fun k hk => (OL.out.lt k hk).1)
          have C2 := hideP (DW.out.keep B2.out)
          obtain ⟨g2, k2, ev, hk1', hk2⟩ := row_at ho (by omega)
          subst ev
          have hk1 : ys.length + 1 ≤ k2 := by omega
          have RN : Hid (Rd w2.heap.size w2 (.slice (some ⟨g2, 0, none⟩) (ys.length + 1) k2) (1 :: ys)) := by
            have e1 : 1 + ys.length = ys.length + 1 := Nat.add_comm _ _
            rw [e1] at ho
            exact (own_of_any (zs := 1 :: ys) ho).rd
          have eA : 1 + ys.length = ys.length + 1 := Nat.add_comm _ _
          rw [eA]
          clear ho hg hk1' eA
          refine hK.out _ _ trivial (fun _ => ?_)
          clear hK
          refine wpAnyH_ready (rs := [6]) (by kernel_rfl) (by simp) ?_
          refine AllReadyH.cons rfl (fun K hK => ?_) AllReadyH.nil
          go_simp
          refine hK.out _ _ trivial (fun _ => ?_)
          clear hK
          refine wpAnyH_ready (rs := [7]) (by kernel_rfl) (by simp) ?_
          refine AllReadyH.cons rfl (fun K hK => ?_) AllReadyH.nil
          have CP : Hid (Cs w xs da (1 :: ys) db gA xs.length g1 k1 g2 k2 g3 k3 ((w2.setCell ⟨w.heap.size + 1, 0, none⟩ (.slice (some ⟨g2, 0, none⟩) (ys.length + 1) k2)).setCell ⟨w.heap.size + 1, 1, none⟩ (.slice (some ⟨g3, 0, none⟩) db.length k3))) := C2.out.putB (xs' := 1 :: ys) RN.out C2.out.xe ⟨hk1, hk2⟩
          have q0 := C2.out.b0
          have q1 := C2.out.b1
          have q2 := C2.out.fb
          go_simp
          refine hK.out _ _ trivial (fun _ => ?_)
          clear hK q0 q1 q2
          generalize ((w2.setCell ⟨w.heap.size + 1, 0, none⟩ (.slice (some ⟨g2, 0, none⟩) (ys.length + 1) k2)).setCell ⟨w.heap.size + 1, 1, none⟩ (.slice (some ⟨g3, 0, none⟩) db.length k3)) = w9 at CP ⊢
          refine wpAnyH_done (by kernel_rfl) ?_ _
          go_wp2_with fail
          go_meet
          case rel => exact ⟨_, _, hk1, hk2, CP.out⟩
    case rest =>
      obtain ⟨g2, k2, hk1, hk2, hCP⟩ := hcut
      have CP := hideP hCP
      clear hCP DW C1 t1
      rename World => wx
      obtain ⟨m, hm⟩ : ∃ m, m + 1 = xs.length := ⟨xs.length - 1, by omega⟩
      obtain ⟨n1, hn1⟩ : ∃ n1, xs.getD 0 0 = n1 := ⟨_, rfl⟩
      obtain ⟨n2, hn2⟩ : ∃ n2, (1 :: ys).getD 0 0 = n2 := ⟨_, rfl⟩
      have hx1 : 0 ≤ n1 := by rw [← hn1]; exact hx0.1
      have hx2 : n1 ≤ 1000 := by rw [← hn1]; exact hx0.2
      have hy1 : 0 ≤ n2 := by rw [← hn2]; simp
      have hy2 : n2 ≤ 1000 := by rw [← hn2]; simp
      rw [hn1, hn2] at e
      obtain ⟨X, hX⟩ : ∃ X, X = xs := ⟨_, rfl⟩
      obtain ⟨Y, hY⟩ : ∃ Y, Y = (1 :: ys) := ⟨_, rfl⟩
      rw [← hX, ← hY] at e
      rw [← hX] at hn1
      rw [← hY] at hn2
      have PE := hideP e
      have hXl : X.length = m + 1 := by rw [hX]; omega
      have hYl : Y.length = m + 1 := by rw [hY]; rw [List.length_cons]; omega
      have hm2 : m ≤ 2 := by omega
      obtain ⟨kA, hkA⟩ : ∃ kA, kA = xs.length := ⟨_, rfl⟩
      obtain ⟨kB, hkB⟩ : ∃ kB, kB = k2 := ⟨_, rfl⟩
      have CX : Hid (Cs w X da Y db gA kA g1 k1 g2 kB g3 k3 wx) := by rw [hkA, hkB, hX, hY]; exact CP
      generalize g2 = gB at *
      clear HE e CP eA eB hX hY hkA hkB hm hc1
      obtain ⟨oA, hoA⟩ : ∃ oA : Nat, oA = if kA = 1 then 0 else 1 := ⟨_, rfl⟩
      obtain ⟨oB, hoB⟩ : ∃ oB : Nat, oB = if kB = 1 then 0 else 1 := ⟨_, rfl⟩
      have HOA := hideP hoA
      have HOB := hideP hoB
      have PX : Hid (∀ w', Below wx.heap.size wx w' → (w'.cell? ⟨w.heap.size, 0, none⟩ = some (.slice (some ⟨gA, 0, none⟩) (m + 1) kA) ∧ w'.cell? ⟨w.heap.size, 1, none⟩ = some (.slice (some ⟨g1, 0, none⟩) da.length k1)) ∧ (w'.cell? ⟨w.heap.size + 1, 0, none⟩ = some (.slice (some ⟨gB, 0, none⟩) (m + 1) kB) ∧ w'.cell? ⟨w.heap.size + 1, 1, none⟩ = some (.slice (some ⟨g3, 0, none⟩) db.length k3)) ∧ (w'.cell? ⟨gA, 0, none⟩ = some (.int .i64 n1) ∧ w'.cell? ⟨gB, 0, none⟩ = some (.int .i64 n2)) ∧ (Rd w'.heap.size w' (.slice (some ⟨gA, oA, none⟩) m (kA - 1)) X.tail ∧ Rd w'.heap.size w' (.slice (some ⟨gB, oB, none⟩) m (kB - 1)) Y.tail) ∧ Cs w X da Y db gA kA g1 k1 gB kB g3 k3 w') := fun w' hb => by
        have k := CX.out.keep hb
        have z0 := k.a0
        have z1 := k.b0
        rw [hXl] at z0
        rw [hYl] at z1
        have zc := k.ca.1
        have zd := k.cb.1
        have x0 := (rd_cell k.xa (i := 0) (by omega)).2
        have y0 := (rd_cell k.xb (i := 0) (by omega)).2
        rw [Nat.add_zero, hn1] at x0
        rw [Nat.add_zero, hn2] at y0
        exact ⟨⟨z0, k.a1⟩, ⟨z1, k.b1⟩, ⟨x0, y0⟩, ⟨rd_onek hXl (by omega) hoA k.xa, rd_onek hYl (by omega) hoB k.xb⟩, k⟩
      have KEQ : Hid (∀ w', Below wx.heap.size wx w' → Calls Try.prog 67 #[.slice (some ⟨gA, oA, none⟩) m (kA - 1), .slice (some ⟨gB, oB, none⟩) m (kB - 1)] w' fun e w'' => e = .returned (.bool (decide (X.tail = Y.tail))) ∧ Below w'.heap.size w' w'') := fun w' hb => l2Same_any _ _ X.tail Y.tail w' (by rw [List.length_tail]; omega) (by rw [List.length_tail]; omega) (PX.out w' hb).2.2.2.1.1 (PX.out w' hb).2.2.2.1.2
      have htlX : X.tail.length = m := by rw [List.length_tail]; omega
      have A3 : Hid (∀ (W : World) o, Below W.heap.size W (W.alloc o)) := fun W o => (Below.refl _ _).alloc (Nat.le_refl _) _
      have hszx := CX.out.size
      have c0 := (PX.out wx (Below.refl _ _)).1.1
      have c1 := (PX.out wx (Below.refl _ _)).2.1.1
      clear hoA hoB hXl hYl hn1 hn2 CX
      go_upto_region 9 with fail
      clear c0 c1
      have DR := hideP (show Below wx.heap.size wx wx.drew from (Below.refl _ _).drew)
      refine wp_region_held (S := fun w' => Below wx.heap.size wx w') (by kernel_rfl) ?_
      change wpAnyH _ _ _ _ _ _ _ _ (World.drew _)
      generalize World.drew wx = wd at DR ⊢
      refine wpAnyH_take (i := 0) (v := .pointer (some ⟨w.heap.size, 0, none⟩)) rfl (by kernel_rfl) (by kernel_rfl) (by kernel_rfl) (fun _ _ _ h => h) (Or.inl ⟨by rfl, ?_⟩) DR.out ?_
      · intro w' hS
        clear hS
        go_simp
      refine wpAnyH_take (i := 1) (v := .slice (some ⟨gA, 0, none⟩) (m + 1) kA) rfl (by kernel_rfl) (by kernel_rfl) (by kernel_rfl) (fun _ _ _ h => h) (Or.inl ⟨by rfl, ?_⟩) DR.out ?_
      · intro w' hS
        have := (PX.out w' hS).1.1
        clear hS
        go_simp
      refine wpAnyH_take (i := 2) (v := .slice (some ⟨gA, oA, none⟩) m (kA - 1)) rfl (by kernel_rfl) (by kernel_rfl) (by kernel_rfl) (fun _ _ _ h => h) (Or.inl ⟨by rfl, fun w' _ => exec_lok (.tmp 49) (.const (.int .i64 1)) gA m kA oA HOA.out (by kernel_rfl) (by kernel_rfl) (by kernel_rfl) w'⟩) DR.out ?_
      refine wpAnyH_take (i := 3) (v := .pointer (some ⟨w.heap.size + 1, 0, none⟩)) rfl (by kernel_rfl) (by kernel_rfl) (by kernel_rfl) (fun _ _ _ h => h) (Or.inl ⟨by rfl, ?_⟩) DR.out ?_
      · intro w' hS
        clear hS
        go_simp
      refine wpAnyH_take (i := 4) (v := .slice (some ⟨gB, 0, none⟩) (m + 1) kB) rfl (by kernel_rfl) (by kernel_rfl) (by kernel_rfl) (fun _ _ _ h => h) (Or.inl ⟨by rfl, ?_⟩) DR.out ?_
      · intro w' hS
        have := (PX.out w' hS).2.1.1
        clear hS
        go_simp
      refine wpAnyH_take (i := 5) (v := .slice (some ⟨gB, oB, none⟩) m (kB - 1)) rfl (by kernel_rfl) (by kernel_rfl) (by kernel_rfl) (fun _ _ _ h => h) (Or.inl ⟨by rfl, fun w' _ => exec_lok (.tmp 52) (.const (.int .i64 1)) gB m kB oB HOB.out (by kernel_rfl) (by kernel_rfl) (by kernel_rfl) w'⟩) DR.out ?_
      refine wpAnyH_ready (rs := [6]) (by kernel_rfl) (by simp) ?_
      refine AllReadyH.cons rfl (fun K hK => ?_) AllReadyH.nil
      go_simp
      refine (KEQ.out wd DR.out).mono ?_
      rintro e w6 ⟨rfl, hb6⟩
      have D6 := hideP (DR.out.trans (hb6.mono DR.out.size))
      clear hb6 DR
      refine hK.out _ _ D6.out (fun _ => ?_)
      clear hK
      refine wpAnyH_ready (rs := [7]) (by kernel_rfl) (by simp) ?_
      refine AllReadyH.cons rfl (fun K hK => ?_) AllReadyH.nil
      go_simp
      refine hK.out _ _ D6.out (fun _ => ?_)
      clear hK
      refine wpAnyH_done (by kernel_rfl) ?_ _
      have hs6 := D6.out.size
      by_cases htl : X.tail = Y.tail
      · have htd : decide (X.tail = Y.tail) = true := decide_eq_true htl
        rw [htd]
        have e := PE.out
        rw [if_pos htl] at e
        have PE2 := hideP e
        clear e htd htl PE KEQ
        have PX6 : Hid (∀ w', Below w6.heap.size w6 w' → Below wx.heap.size wx w') := fun w' hb => D6.out.trans (hb.mono D6.out.size)
        have LB : Hid (∀ w', Below (w.heap.size + 1 + 1) w6 w' → (w'.cell? ⟨w.heap.size, 0, none⟩ = some (.slice (some ⟨gA, 0, none⟩) (m + 1) kA) ∧ w'.cell? ⟨w.heap.size, 1, none⟩ = some (.slice (some ⟨g1, 0, none⟩) da.length k1)) ∧ (w'.cell? ⟨w.heap.size + 1, 0, none⟩ = some (.slice (some ⟨gB, 0, none⟩) (m + 1) kB) ∧ w'.cell? ⟨w.heap.size + 1, 1, none⟩ = some (.slice (some ⟨g3, 0, none⟩) db.length k3))) := fun w' hb => by
          have z := PX.out w6 (PX6.out w6 (Below.refl _ _))
          exact ⟨⟨(hb.cell (p := ⟨w.heap.size, 0, none⟩) (by show w.heap.size < _; omega)).trans z.1.1, (hb.cell (p := ⟨w.heap.size, 1, none⟩) (by show w.heap.size < _; omega)).trans z.1.2⟩, (hb.cell (p := ⟨w.heap.size + 1, 0, none⟩) (by show w.heap.size + 1 < _; omega)).trans z.2.1.1, (hb.cell (p := ⟨w.heap.size + 1, 1, none⟩) (by show w.heap.size + 1 < _; omega)).trans z.2.1.2⟩
        go_upto_region 11 with fail
        have DR := hideP (show Below w6.heap.size w6 w6.drew from (Below.refl _ _).drew)
        refine wp_region_held (S := fun w' => Below (w.heap.size + 1 + 1) w6 w' ∧ w'.cell? ⟨gA, 0, none⟩ = some (.int .i64 n1) ∧ w'.cell? ⟨gB, 0, none⟩ = some (.int .i64 n2)) (by kernel_rfl) ?_
        change wpAnyH _ _ _ _ _ _ _ _ (World.drew _)
        generalize World.drew w6 = wd at DR ⊢
        have hSle : w.heap.size + 1 + 1 ≤ w6.heap.size := by omega
        have SX : Hid (∀ w', Below w6.heap.size w6 w' → Below (w.heap.size + 1 + 1) w6 w' ∧ w'.cell? ⟨gA, 0, none⟩ = some (.int .i64 n1) ∧ w'.cell? ⟨gB, 0, none⟩ = some (.int .i64 n2)) := fun w' hb => ⟨hb.mono hSle, (PX.out w' (PX6.out w' hb)).2.2.1⟩
        have SW := hideP (SX.out wd DR.out)
        have hwd := DR.out.size
        have OL := hideP (owns_one wd (n1 + n2) wd.heap.size (Nat.le_refl _))
        have AL := hideP (A3.out wd (.cells #[.int .i64 (n1 + n2)] 3))
        have RLX : Hid (Rd (wd.alloc (.cells #[.int .i64 (n1 + n2)] 3)).heap.size (wd.alloc (.cells #[.int .i64 (n1 + n2)] 3)) (.slice (some ⟨gA, oA, none⟩) m (kA - 1)) X.tail) := (PX.out _ (PX6.out _ (DR.out.trans (AL.out.mono hwd)))).2.2.2.1.1
        refine wpAnyH_take (i := 0) (v := .pointer (some ⟨w.heap.size, 0, none⟩)) rfl (by kernel_rfl) (by kernel_rfl) (by kernel_rfl) (fun _ _ _ h => h) (Or.inl ⟨by rfl, ?_⟩) SW.out ?_
        · intro w' hS
          clear hS
          go_simp
        refine wpAnyH_take (i := 1) (v := .slice (some ⟨gA, 0, none⟩) (m + 1) kA) rfl (by kernel_rfl) (by kernel_rfl) (by kernel_rfl) (fun _ _ _ h => h) (Or.inl ⟨by rfl, ?_⟩) SW.out ?_
        · intro w' hS
          have := (LB.out w' hS.1).1.1
          clear hS
          go_simp
        refine wpAnyH_take (i := 2) (v := .pointer (some ⟨gA, 0, none⟩)) rfl (by kernel_rfl) (by kernel_rfl) (by kernel_rfl) (fun _ _ _ h => h) (Or.inl ⟨by rfl, ?_⟩) SW.out ?_
        · intro w' hS
          clear hS
          go_simp
        refine wpAnyH_take (i := 3) (v := .int .i64 n1) rfl (by kernel_rfl) (by kernel_rfl) (by kernel_rfl) (fun _ _ _ h => h) (Or.inl ⟨by rfl, ?_⟩) SW.out ?_
        · intro w' hS
          have := hS.2.1
          clear hS
          go_simp
        refine wpAnyH_take (i := 4) (v := .pointer (some ⟨w.heap.size + 1, 0, none⟩)) rfl (by kernel_rfl) (by kernel_rfl) (by kernel_rfl) (fun _ _ _ h => h) (Or.inl ⟨by rfl, ?_⟩) SW.out ?_
        · intro w' hS
          clear hS
          go_simp
        refine wpAnyH_take (i := 5) (v := .slice (some ⟨gB, 0, none⟩) (m + 1) kB) rfl (by kernel_rfl) (by kernel_rfl) (by kernel_rfl) (fun _ _ _ h => h) (Or.inl ⟨by rfl, ?_⟩) SW.out ?_
        · intro w' hS
          have := (LB.out w' hS.1).2.1
          clear hS
          go_simp
        refine wpAnyH_take (i := 6) (v := .pointer (some ⟨gB, 0, none⟩)) rfl (by kernel_rfl) (by kernel_rfl) (by kernel_rfl) (fun _ _ _ h => h) (Or.inl ⟨by rfl, ?_⟩) SW.out ?_
        · intro w' hS
          clear hS
          go_simp
        refine wpAnyH_take (i := 7) (v := .int .i64 n2) rfl (by kernel_rfl) (by kernel_rfl) (by kernel_rfl) (fun _ _ _ h => h) (Or.inl ⟨by rfl, ?_⟩) SW.out ?_
        · intro w' hS
          have := hS.2.2
          clear hS
          go_simp
        refine wpAnyH_take (i := 8) (v := .int .i64 (n1 + n2)) rfl (by kernel_rfl) (by kernel_rfl) (by kernel_rfl) (fun _ _ _ h => h) (Or.inl ⟨by rfl, ?_⟩) SW.out ?_
        · intro w' hS
          clear hS
          go_simp
          rw [IntKind.wrap_i64]
          omega
        refine wpAnyH_take (i := 10) (v := .pointer (some ⟨w.heap.size, 0, none⟩)) rfl (by kernel_rfl) (by kernel_rfl) (by kernel_rfl) (fun _ _ _ h => h) (Or.inl ⟨by rfl, ?_⟩) SW.out ?_
        · intro w' hS
          clear hS
          go_simp
        refine wpAnyH_take (i := 11) (v := .slice (some ⟨gA, 0, none⟩) (m + 1) kA) rfl (by kernel_rfl) (by kernel_rfl) (by kernel_rfl) (fun _ _ _ h => h) (Or.inl ⟨by rfl, ?_⟩) SW.out ?_
        · intro w' hS
          have := (LB.out w' hS.1).1.1
          clear hS
          go_simp
        refine wpAnyH_take (i := 12) (v := .slice (some ⟨gA, oA, none⟩) m (kA - 1)) rfl (by kernel_rfl) (by kernel_rfl) (by kernel_rfl) (fun _ _ _ h => h) (Or.inl ⟨by rfl, fun w' _ => exec_lok (.tmp 68) (.const (.int .i64 1)) gA m kA oA HOA.out (by kernel_rfl) (by kernel_rfl) (by kernel_rfl) w'⟩) SW.out ?_
        refine wpAnyH_take (i := 14) (v := .pointer (some ⟨w.heap.size, 1, none⟩)) rfl (by kernel_rfl) (by kernel_rfl) (by kernel_rfl) (fun _ _ _ h => h) (Or.inl ⟨by rfl, ?_⟩) SW.out ?_
        · intro w' hS
          clear hS
          go_simp
        refine wpAnyH_take (i := 15) (v := .slice (some ⟨g1, 0, none⟩) da.length k1) rfl (by kernel_rfl) (by kernel_rfl) (by kernel_rfl) (fun _ _ _ h => h) (Or.inl ⟨by rfl, ?_⟩) SW.out ?_
        · intro w' hS
          have := (LB.out w' hS.1).1.2
          clear hS
          go_simp
        refine wpAnyH_take (i := 17) (v := .pointer (some ⟨w.heap.size + 1, 1, none⟩)) rfl (by kernel_rfl) (by kernel_rfl) (by kernel_rfl) (fun _ _ _ h => h) (Or.inl ⟨by rfl, ?_⟩) SW.out ?_
        · intro w' hS
          clear hS
          go_simp
        refine wpAnyH_take (i := 18) (v := .slice (some ⟨g3, 0, none⟩) db.length k3) rfl (by kernel_rfl) (by kernel_rfl) (by kernel_rfl) (fun _ _ _ h => h) (Or.inl ⟨by rfl, ?_⟩) SW.out ?_
        · intro w' hS
          have := (LB.out w' hS.1).2.2
          clear hS
          go_simp
        refine wpAnyH_ready (rs := [9]) (by kernel_rfl) (by simp) ?_
        refine AllReadyH.cons rfl (fun K hK => ?_) AllReadyH.nil
        go_simp
        refine hK.out _ _ (SX.out _ (DR.out.trans (AL.out.mono hwd))) (fun _ => ?_)
        clear hK
        refine wpAnyH_ready (rs := [13]) (by kernel_rfl) (by simp) ?_
        refine AllReadyH.cons rfl (fun K hK => ?_) AllReadyH.nil
        refine step_append_rd (base := wd.heap.size) (wd.alloc (.cells #[.int .i64 (n1 + n2)] 3)) rfl (.tmp 66) (.tmp 69) rfl (.slice (some ⟨wd.heap.size, 0, none⟩) 1 1) (.slice (some ⟨gA, oA, none⟩) m (kA - 1)) rfl rfl 1 [n1 + n2] X.tail OL.out RLX.out (by omega) (by simp) ?_
        intro v1 w1 ho1 hg1
        rw [htlX] at ho1
        have B1 : Hid (Below wd.heap.size wd w1) := AL.out.grown hg1 (by simp) (fun k hk => (OL.out.lt k hk).1)
        have D1' := hideP (DR.out.trans (B1.out.mono hwd))
        obtain ⟨gv, kv, ev, _, _⟩ := row_at ho1 (by omega)
        subst ev
        have O1 : Hid (Own wd.heap.size w1 (.slice (some ⟨gv, 0, none⟩) (1 + m) kv) ((n1 + n2) :: X.tail)) := own_of_any (zs := (n1 + n2) :: X.tail) ho1
        clear ho1 hg1
        refine hK.out _ _ (SX.out _ D1'.out) (fun _ => ?_)
        clear hK
        refine wpAnyH_ready (rs := [16]) (by kernel_rfl) (by simp) ?_
        refine AllReadyH.cons rfl (fun K hK => ?_) AllReadyH.nil
        go_simp
        refine (l2Copy_at (.slice (some ⟨g1, 0, none⟩) da.length k1) da w1 (by omega) (PX.out _ (PX6.out _ D1'.out)).2.2.2.2.xd).mono ?_
        rintro e w2 ⟨gd, kd, rfl, _, _, ho2, hb2⟩
        have D2' := hideP (D1'.out.trans (hb2.mono D1'.out.size))
        have O2 := hideP ho2
        have B12 := hideP hb2
        clear ho2 hb2
        refine hK.out _ _ (SX.out _ D2'.out) (fun _ => ?_)
        clear hK
        have RE : Hid (Rd w2.heap.size w2 (.slice (some ⟨g3, 0, none⟩) db.length k3) db) := (PX.out _ (PX6.out _ D2'.out)).2.2.2.2.xe
        refine wpAnyH_ready (rs := [19]) (by kernel_rfl) (by simp) ?_
        refine AllReadyH.cons rfl (fun K hK => ?_) AllReadyH.nil
        refine step_append_rd (base := w1.heap.size) w2 rfl (.tmp 73) (.tmp 75) rfl (.slice (some ⟨gd, 0, none⟩) da.length kd) (.slice (some ⟨g3, 0, none⟩) db.length k3) rfl rfl da.length da db O2.out RE.out (by omega) B12.out.size ?_
        intro v3 w3 ho3 hg3
        have B13 : Hid (Below w1.heap.size w1 w3) := B12.out.grown hg3 B12.out.size (fun k hk => (O2.out.lt k hk).1)
        have D3' := hideP (D1'.out.trans (B13.out.mono D1'.out.size))
        have O3 : Hid (Own w1.heap.size w3 v3 (da ++ db)) := own_of_any (zs := da ++ db) ho3
        have O13 := hideP (O1.out.keep B13.out)
        obtain ⟨zd, yd, ed⟩ := O3.out.form
        rw [List.length_append] at ed
        subst ed
        clear ho3 hg3
        refine hK.out _ _ (SX.out _ D3'.out) (fun _ => ?_)
        clear hK
        have AP := hideP (apart_right (B := w1.heap.size) O3.out O1.out.lt)
        have hs13 := B13.out.size
        have hs1 := B1.out.size
        have htX : 1 + m = ((n1 + n2) :: X.tail).length := by rw [List.length_cons, htlX, Nat.add_comm]
        have KM : Hid (Calls Try.prog 78 #[.slice (some ⟨gv, 0, none⟩) (1 + m) kv, .slice zd (da.length + db.length) yd] w3 fun e w' => Below w3.heap.size w3 w' ∧ ((Pl.fitsB ((n1 + n2) :: X.tail) = true ∧ e = .returned (.tuple #[.agg #[.slice (some ⟨gv, 0, none⟩) (1 + m) kv, .slice zd (da.length + db.length) yd], .int .i64 0])) ∨ (Pl.fitsB ((n1 + n2) :: X.tail) = false ∧ e = .returned (.tuple #[.agg #[.slice none 0 0, .slice none 0 0], .int .i64 6])))) := by
          have r := O13.out.rd
          rw [htX] at r ⊢
          exact l2Made_any _ _ zd _ kv yd ((n1 + n2) :: X.tail) w3 (by rw [← htX]; omega) r (Nat.le_refl _)
        have HTX := hideP htX
        clear htX
        refine wpAnyH_ready (rs := [20]) (by kernel_rfl) (by simp) ?_
        refine AllReadyH.cons rfl (fun K hK => ?_) AllReadyH.nil
        go_simp
        refine KM.out.mono ?_
        rintro e w4 ⟨hb4, hor⟩
        have D4 := hideP (D3'.out.trans (hb4.mono D3'.out.size))
        have C4 := hideP (PX.out _ (PX6.out _ D4.out)).2.2.2.2
        have B34 := hideP hb4
        have hs4 := hb4.size
        have gne1 : ¬ gA = w.heap.size + 1 + 1 := fun e => by
          have z := (PX.out _ (PX6.out _ D4.out)).2.2.1.1
          rw [e, C4.out.res.1] at z
          cases z
        have gne2 : ¬ gB = w.heap.size + 1 + 1 := fun e => by
          have z := (PX.out _ (PX6.out _ D4.out)).2.2.1.2
          rw [e, C4.out.res.1] at z
          cases z
        have SST : Hid (∀ v0 v1, Below (w.heap.size + 1 + 1) w6 ((w4.setCell ⟨w.heap.size + 1 + 1, 0, none⟩ v0).setCell ⟨w.heap.size + 1 + 1, 1, none⟩ v1) ∧ ((w4.setCell ⟨w.heap.size + 1 + 1, 0, none⟩ v0).setCell ⟨w.heap.size + 1 + 1, 1, none⟩ v1).cell? ⟨gA, 0, none⟩ = some (.int .i64 n1) ∧ ((w4.setCell ⟨w.heap.size + 1 + 1, 0, none⟩ v0).setCell ⟨w.heap.size + 1 + 1, 1, none⟩ v1).cell? ⟨gB, 0, none⟩ = some (.int .i64 n2)) := fun v0 v1 => by
          have z := SX.out _ D4.out
          refine ⟨(z.1.setCell (by simp) _).setCell (by simp) _, ?_, ?_⟩
          · rw [← z.2.1]
            exact (World.cell?_of_block (heap_setCell_other _ _ _ _ gne1)).trans (World.cell?_of_block (heap_setCell_other _ _ _ _ gne1))
          · rw [← z.2.2]
            exact (World.cell?_of_block (heap_setCell_other _ _ _ _ gne2)).trans (World.cell?_of_block (heap_setCell_other _ _ _ _ gne2))
        clear hb4 gne1 gne2
        obtain ⟨r0, r1, f2⟩ := C4.out.res
        rcases hor with ⟨hf, rfl⟩ | ⟨hf, rfl⟩
        · have e := PE2.out
          rw [if_pos hf] at e
          simp only [Prod.mk.injEq] at e
          obtain ⟨rfl, rfl, rfl⟩ := e
          clear PE2 hf KM
          refine hK.out _ _ (SX.out _ D4.out) (fun _ => ?_)
          clear hK
          refine wpAnyH_ready (rs := [21, 22]) (by kernel_rfl) (by simp) ?_
          refine AllReadyH.cons rfl (fun K hK => ?_) (AllReadyH.cons rfl (fun K hK => ?_) AllReadyH.nil)
          · go_simp
            refine hK.out _ _ (SX.out _ D4.out) (fun _ => ?_)
            clear hK
            refine wpAnyH_ready (rs := [22]) (by kernel_rfl) (by simp) ?_
            refine AllReadyH.cons rfl (fun K hK => ?_) AllReadyH.nil
            go_simp
            refine hK.out _ _ (SX.out _ D4.out) (fun _ => ?_)
            clear hK
            refine wpAnyH_ready (rs := [23]) (by kernel_rfl) (by simp) ?_
            refine AllReadyH.cons rfl (fun K hK => ?_) AllReadyH.nil
            go_simp
            refine hK.out _ _ (SST.out _ _) (fun _ => ?_)
            clear hK
            refine wpAnyH_ready (rs := [24]) (by kernel_rfl) (by simp) ?_
            refine AllReadyH.cons rfl (fun K hK => ?_) AllReadyH.nil
            go_simp
            refine hK.out _ _ (SST.out _ _) (fun _ => ?_)
            clear hK
            refine wpAnyH_done (by kernel_rfl) ?_ _
            go_wp2_with fail
            refine bodyPost_ret (v := .tuple #[.agg #[.slice (some ⟨gv, 0, none⟩) (1 + m) kv, .slice zd (da.length + db.length) yd], .int .i64 0]) (by simp [results, Try.results64, go_sem, r0, r1]) rfl ⟨(C4.out.bel.setCell (by simp; omega) _).setCell (by simp; omega) _, _, _, rfl, ?_, ?_, AP.out⟩
            · exact Own.base (B := wd.heap.size) (Own.store (Own.store (O13.out.keep B34.out) (by omega) _) (by omega) _) (by omega)
            · exact Own.base (B := w1.heap.size) (Own.store (Own.store (O3.out.keep B34.out) (by omega) _) (by omega) _) (by omega)
          · go_simp
            refine hK.out _ _ (SX.out _ D4.out) (fun _ => ?_)
            clear hK
            refine wpAnyH_ready (rs := [21]) (by kernel_rfl) (by simp) ?_
            refine AllReadyH.cons rfl (fun K hK => ?_) AllReadyH.nil
            go_simp
            refine hK.out _ _ (SX.out _ D4.out) (fun _ => ?_)
            clear hK
            refine wpAnyH_ready (rs := [23]) (by kernel_rfl) (by simp) ?_
            refine AllReadyH.cons rfl (fun K hK => ?_) AllReadyH.nil
            go_simp
            refine hK.out _ _ (SST.out _ _) (fun _ => ?_)
            clear hK
            refine wpAnyH_ready (rs := [24]) (by kernel_rfl) (by simp) ?_
            refine AllReadyH.cons rfl (fun K hK => ?_) AllReadyH.nil
            go_simp
            refine hK.out _ _ (SST.out _ _) (fun _ => ?_)
            clear hK
            refine wpAnyH_done (by kernel_rfl) ?_ _
            go_wp2_with fail
            refine bodyPost_ret (v := .tuple #[.agg #[.slice (some ⟨gv, 0, none⟩) (1 + m) kv, .slice zd (da.length + db.length) yd], .int .i64 0]) (by simp [results, Try.results64, go_sem, r0, r1]) rfl ⟨(C4.out.bel.setCell (by simp; omega) _).setCell (by simp; omega) _, _, _, rfl, ?_, ?_, AP.out⟩
            · exact Own.base (B := wd.heap.size) (Own.store (Own.store (O13.out.keep B34.out) (by omega) _) (by omega) _) (by omega)
            · exact Own.base (B := w1.heap.size) (Own.store (Own.store (O3.out.keep B34.out) (by omega) _) (by omega) _) (by omega)
        · have e := PE2.out
          rw [if_neg (by rw [hf]; decide)] at e
          simp only [Prod.mk.injEq] at e
          obtain ⟨rfl, rfl, rfl⟩ := e
          clear PE2 hf KM
          refine hK.out _ _ (SX.out _ D4.out) (fun _ => ?_)
          clear hK
          refine wpAnyH_ready (rs := [21, 22]) (by kernel_rfl) (by simp) ?_
          refine AllReadyH.cons rfl (fun K hK => ?_) (AllReadyH.cons rfl (fun K hK => ?_) AllReadyH.nil)
          · go_simp
            refine hK.out _ _ (SX.out _ D4.out) (fun _ => ?_)
            clear hK
            refine wpAnyH_ready (rs := [22]) (by kernel_rfl) (by simp) ?_
            refine AllReadyH.cons rfl (fun K hK => ?_) AllReadyH.nil
            go_simp
            refine hK.out _ _ (SX.out _ D4.out) (fun _ => ?_)
            clear hK
            refine wpAnyH_ready (rs := [23]) (by kernel_rfl) (by simp) ?_
            refine AllReadyH.cons rfl (fun K hK => ?_) AllReadyH.nil
            go_simp
            refine hK.out _ _ (SST.out _ _) (fun _ => ?_)
            clear hK
            refine wpAnyH_ready (rs := [24]) (by kernel_rfl) (by simp) ?_
            refine AllReadyH.cons rfl (fun K hK => ?_) AllReadyH.nil
            go_simp
            refine hK.out _ _ (SST.out _ _) (fun _ => ?_)
            clear hK
            refine wpAnyH_done (by kernel_rfl) ?_ _
            go_wp2_with fail
            refine bodyPost_ret (v := .tuple #[.agg #[.slice none 0 0, .slice none 0 0], .int .i64 6]) (by simp [results, Try.results64, go_sem, r0, r1]) rfl ⟨(C4.out.bel.setCell (by simp; omega) _).setCell (by simp; omega) _, _, _, rfl, Own.nil _ _, Own.nil _ _, .inl rfl⟩
          · go_simp
            refine hK.out _ _ (SX.out _ D4.out) (fun _ => ?_)
            clear hK
            refine wpAnyH_ready (rs := [21]) (by kernel_rfl) (by simp) ?_
            refine AllReadyH.cons rfl (fun K hK => ?_) AllReadyH.nil
            go_simp
            refine hK.out _ _ (SX.out _ D4.out) (fun _ => ?_)
            clear hK
            refine wpAnyH_ready (rs := [23]) (by kernel_rfl) (by simp) ?_
            refine AllReadyH.cons rfl (fun K hK => ?_) AllReadyH.nil
            go_simp
            refine hK.out _ _ (SST.out _ _) (fun _ => ?_)
            clear hK
            refine wpAnyH_ready (rs := [24]) (by kernel_rfl) (by simp) ?_
            refine AllReadyH.cons rfl (fun K hK => ?_) AllReadyH.nil
            go_simp
            refine hK.out _ _ (SST.out _ _) (fun _ => ?_)
            clear hK
            refine wpAnyH_done (by kernel_rfl) ?_ _
            go_wp2_with fail
            refine bodyPost_ret (v := .tuple #[.agg #[.slice none 0 0, .slice none 0 0], .int .i64 6]) (by simp [results, Try.results64, go_sem, r0, r1]) rfl ⟨(C4.out.bel.setCell (by simp; omega) _).setCell (by simp; omega) _, _, _, rfl, Own.nil _ _, Own.nil _ _, .inl rfl⟩
      · have htd : decide (X.tail = Y.tail) = false := decide_eq_false htl
        rw [htd]
        have e := PE.out
        rw [if_neg htl] at e
        simp only [Prod.mk.injEq] at e
        obtain ⟨rfl, rfl, rfl⟩ := e
        have C6 := hideP (PX.out w6 D6.out).2.2.2.2
        clear htd htl PE KEQ
        obtain ⟨r0, r1, f2⟩ := C6.out.res
        go_wp2_with fail
        refine bodyPost_ret (v := .tuple #[.agg #[.slice none 0 0, .slice none 0 0], .int .i64 3]) (by simp [results, Try.results64, go_sem, r0, r1]) rfl ⟨(C6.out.bel.setCell (by simp; omega) _).setCell (by simp; omega) _, _, _, rfl, Own.nil _ _, Own.nil _ _, .inl rfl⟩
  · have t1 : ((xs.length : Int) == (ys.length : Int) + 1) = false := by rw [beq_eq_false_iff_ne]; omega
    by_cases hc2 : ys.length = xs.length + 1
    · have t2 : ((ys.length : Int) == (xs.length : Int) + 1) = true := by rw [beq_iff_eq]; omega
      have eA : Pl.asR xs ys.length = 1 :: xs := by unfold Pl.asR; rw [if_pos (by omega)]
      have eB : Pl.asR ys xs.length = ys := by unfold Pl.asR; rw [if_neg (by omega)]
      have e := HE.out
      rw [eA, eB, if_pos (by rw [List.length_cons]; omega)] at e
      go_upto_region 6 with fail
      clear z0 z1 z2 z3
      have DW : Hid (Cs w xs da ys db gA xs.length g1 k1 gB ys.length g3 k3 wx.drew) := C1.out.keep (Below.refl _ _).drew
      go_cut [36] (fun _ wy => ∃ g2 k2, xs.length + 1 ≤ k2 ∧ k2 ≤ 9223372036854775807 ∧ Cs w (1 :: xs) da ys db g2 k2 g1 k1 gB ys.length g3 k3 wy)
      case first =>
        refine wp_region_held (S := fun w' => True) (by kernel_rfl) ?_
        change wpAnyH _ _ _ _ _ _ _ _ (World.drew _)
        generalize World.drew wx = wd at DW ⊢
        have A1 : Hid (Below wd.heap.size wd (wd.alloc (.cells #[.int .i64 1] 3))) := (Below.refl _ _).alloc (Nat.le_refl _) _
        have CL := hideP (DW.out.keep A1.out)
        have OL : Hid ((wd.alloc (.cells #[.int .i64 1] 3)).ownsRow wd.heap.size 3 1 (.slice (some ⟨wd.heap.size, 0, none⟩) 1 1) 1 (([1] : List Int).map (Value.int .i64))) := owns_one wd 1 wd.heap.size (Nat.le_refl _)
        have RL : Hid (Rd (wd.alloc (.cells #[.int .i64 1] 3)).heap.size (wd.alloc (.cells #[.int .i64 1] 3)) (.slice (some ⟨gA, 0, none⟩) xs.length xs.length) xs) := CL.out.xa
        refine wpAnyH_take (i := 1) (v := .pointer (some ⟨w.heap.size, 0, none⟩)) rfl (by kernel_rfl) (by kernel_rfl) (by kernel_rfl) (fun _ _ _ h => h) (Or.inl ⟨by rfl, ?_⟩) trivial ?_
        · intro w' hS
          clear hS
          go_simp
        refine wpAnyH_take (i := 4) (v := .pointer (some ⟨w.heap.size, 1, none⟩)) rfl (by kernel_rfl) (by kernel_rfl) (by kernel_rfl) (fun _ _ _ h => h) (Or.inl ⟨by rfl, ?_⟩) trivial ?_
        · intro w' hS
          clear hS
          go_simp
        refine wpAnyH_ready (rs := [0, 2, 5]) (by kernel_rfl) (by simp) ?_
        refine AllReadyH.cons rfl (fun K hK => ?_) (AllReadyH.cons rfl (fun K hK => ?_) (AllReadyH.cons rfl (fun K hK => ?_) AllReadyH.nil))
        · go_simp
          refine hK.out _ _ trivial (fun _ => ?_)
          clear hK
          refine wpAnyH_ready (rs := [2, 5]) (by kernel_rfl) (by simp) ?_
          refine AllReadyH.cons rfl (fun K hK => ?_) (AllReadyH.cons rfl (fun K hK => ?_) AllReadyH.nil)
          · have q0 := CL.out.a0
            go_simp
            refine hK.out _ _ trivial (fun _ => ?_)
            clear hK q0
            refine wpAnyH_ready (rs := [3, 5]) (by kernel_rfl) (by simp) ?_
            refine AllReadyH.cons rfl (fun K hK => ?_) (AllReadyH.cons rfl (fun K hK => ?_) AllReadyH.nil)
            · refine step_append_rd (base := wd.heap.size) (wd.alloc (.cells #[.int .i64 1] 3)) rfl (.tmp 33) (.tmp 35) rfl (.slice (some ⟨wd.heap.size, 0, none⟩) 1 1) (.slice (some ⟨gA, 0, none⟩) xs.length xs.length) rfl rfl 1 [1] xs OL.out RL.out (by omega) (by simp) ?_
              intro v' w2 ho hg
              have B2 : Hid (Below wd.heap.size wd w2) := A1.out.grown hg (by simp) (fun k hk => (OL.out.lt k hk).1)
              have C2 := hideP (DW.out.keep B2.out)
              obtain ⟨g2, k2, ev, hk1', hk2⟩ := row_at ho (by omega)
              subst ev
              have hk1 : xs.length + 1 ≤ k2 := by omega
              have RN : Hid (Rd w2.heap.size w2 (.slice (some ⟨g2, 0, none⟩) (xs.length + 1) k2) (1 :: xs)) := by
                have e1 : 1 + xs.length = xs.length + 1 := Nat.add_comm _ _
                rw [e1] at ho
                exact (own_of_any (zs := 1 :: xs) ho).rd
              have eA : 1 + xs.length = xs.length + 1 := Nat.add_comm _ _
              rw [eA]
              clear ho hg hk1' eA
              refine hK.out _ _ trivial (fun _ => ?_)
              clear hK
              refine wpAnyH_ready (rs := [5]) (by kernel_rfl) (by simp) ?_
              refine AllReadyH.cons rfl (fun K hK => ?_) AllReadyH.nil
              have q0 := C2.out.a1
              go_simp
              refine hK.out _ _ trivial (fun _ => ?_)
              clear hK q0
              refine wpAnyH_ready (rs := [6]) (by kernel_rfl) (by simp) ?_
              refine AllReadyH.cons rfl (fun K hK => ?_) AllReadyH.nil
              go_simp
              refine hK.out _ _ trivial (fun _ => ?_)
              clear hK
              refine wpAnyH_ready (rs := [7]) (by kernel_rfl) (by simp) ?_
              refine AllReadyH.cons rfl (fun K hK => ?_) AllReadyH.nil
              have CP : Hid (Cs w (1 :: xs) da ys db g2 k2 g1 k1 gB ys.length g3 k3 ((w2.setCell ⟨w.heap.size, 0, none⟩ (.slice (some ⟨g2, 0, none⟩) (xs.length + 1) k2)).setCell ⟨w.heap.size, 1, none⟩ (.slice (some ⟨g1, 0, none⟩) da.length k1))) := C2.out.putA (xs' := 1 :: xs) RN.out C2.out.xd ⟨hk1, hk2⟩
              have q0 := C2.out.a0
              have q1 := C2.out.a1
              have q2 := C2.out.fa
              go_simp
              refine hK.out _ _ trivial (fun _ => ?_)
              clear hK q0 q1 q2
              generalize ((w2.setCell ⟨w.heap.size, 0, none⟩ (.slice (some ⟨g2, 0, none⟩) (xs.length + 1) k2)).setCell ⟨w.heap.size, 1, none⟩ (.slice (some ⟨g1, 0, none⟩) da.length k1)) = w9 at CP ⊢
              refine wpAnyH_done (by kernel_rfl) ?_ _
              go_wp2_with fail
              go_meet
              case rel => exact ⟨_, _, hk1, hk2, CP.out⟩
            · have q0 := CL.out.a1
              go_simp
              refine hK.out _ _ trivial (fun _ => ?_)
              clear hK q0
              refine wpAnyH_ready (rs := [3]) (by kernel_rfl) (by simp) ?_
              refine AllReadyH.cons rfl (fun K hK => ?_) AllReadyH.nil
              refine step_append_rd (base := wd.heap.size) (wd.alloc (.cells #[.int .i64 1] 3)) rfl (.tmp 33) (.tmp 35) rfl (.slice (some ⟨wd.heap.size, 0, none⟩) 1 1) (.slice (some ⟨gA, 0, none⟩) xs.length xs.length) rfl rfl 1 [1] xs OL.out RL.out (by omega) (by simp) ?_
              intro v' w2 ho hg
              have B2 : Hid (Below wd.heap.size wd w2) := A1.out.grown hg (by simp) (fun k hk => (OL.out.lt k hk).1)
              have C2 := hideP (DW.out.keep B2.out)
              obtain ⟨g2, k2, ev, hk1', hk2⟩ := row_at ho (by omega)
              subst ev
              have hk1 : xs.length + 1 ≤ k2 := by omega
              have RN : Hid (Rd w2.heap.size w2 (.slice (some ⟨g2, 0, none⟩) (xs.length + 1) k2) (1 :: xs)) := by
                have e1 : 1 + xs.length = xs.length + 1 := Nat.add_comm _ _
                rw [e1] at ho
                exact (own_of_any (zs := 1 :: xs) ho).rd
              have eA : 1 + xs.length = xs.length + 1 := Nat.add_comm _ _
              rw [eA]
              clear ho hg hk1' eA
              refine hK.out _ _ trivial (fun _ => ?_)
              clear hK
              refine wpAnyH_ready (rs := [6]) (by kernel_rfl) (by simp) ?_
              refine AllReadyH.cons rfl (fun K hK => ?_) AllReadyH.nil
              go_simp
              refine hK.out _ _ trivial (fun _ => ?_)
              clear hK
              refine wpAnyH_ready (rs := [7]) (by kernel_rfl) (by simp) ?_
              refine AllReadyH.cons rfl (fun K hK => ?_) AllReadyH.nil
              have CP : Hid (Cs w (1 :: xs) da ys db g2 k2 g1 k1 gB ys.length g3 k3 ((w2.setCell ⟨w.heap.size, 0, none⟩ (.slice (some ⟨g2, 0, none⟩) (xs.length + 1) k2)).setCell ⟨w.heap.size, 1, none⟩ (.slice (some ⟨g1, 0, none⟩) da.length k1))) := C2.out.putA (xs' := 1 :: xs) RN.out C2.out.xd ⟨hk1, hk2⟩
              have q0 := C2.out.a0
              have q1 := C2.out.a1
              have q2 := C2.out.fa
              go_simp
              refine hK.out _ _ trivial (fun _ => ?_)
              clear hK q0 q1 q2
              generalize ((w2.setCell ⟨w.heap.size, 0, none⟩ (.slice (some ⟨g2, 0, none⟩) (xs.length + 1) k2)).setCell ⟨w.heap.size, 1, none⟩ (.slice (some ⟨g1, 0, none⟩) da.length k1)) = w9 at CP ⊢
              refine wpAnyH_done (by kernel_rfl) ?_ _
              go_wp2_with fail
              go_meet
              case rel => exact ⟨_, _, hk1, hk2, CP.out⟩
          · have q0 := CL.out.a1
            go_simp
            refine hK.out _ _ trivial (fun _ => ?_)
            clear hK q0
            refine wpAnyH_ready (rs := [2]) (by kernel_rfl) (by simp) ?_
            refine AllReadyH.cons rfl (fun K hK => ?_) AllReadyH.nil
            have q0 := CL.out.a0
            go_simp
            refine hK.out _ _ trivial (fun _ => ?_)
            clear hK q0
            refine wpAnyH_ready (rs := [3]) (by kernel_rfl) (by simp) ?_
            refine AllReadyH.cons rfl (fun K hK => ?_) AllReadyH.nil
            refine step_append_rd (base := wd.heap.size) (wd.alloc (.cells #[.int .i64 1] 3)) rfl (.tmp 33) (.tmp 35) rfl (.slice (some ⟨wd.heap.size, 0, none⟩) 1 1) (.slice (some ⟨gA, 0, none⟩) xs.length xs.length) rfl rfl 1 [1] xs OL.out RL.out (by omega) (by simp) ?_
            intro v' w2 ho hg
            have B2 : Hid (Below wd.heap.size wd w2) := A1.out.grown hg (by simp) (fun k hk => (OL.out.lt k hk).1)
            have C2 := hideP (DW.out.keep B2.out)
            obtain ⟨g2, k2, ev, hk1', hk2⟩ := row_at ho (by omega)
            subst ev
            have hk1 : xs.length + 1 ≤ k2 := by omega
            have RN : Hid (Rd w2.heap.size w2 (.slice (some ⟨g2, 0, none⟩) (xs.length + 1) k2) (1 :: xs)) := by
              have e1 : 1 + xs.length = xs.length + 1 := Nat.add_comm _ _
              rw [e1] at ho
              exact (own_of_any (zs := 1 :: xs) ho).rd
            have eA : 1 + xs.length = xs.length + 1 := Nat.add_comm _ _
            rw [eA]
            clear ho hg hk1' eA
            refine hK.out _ _ trivial (fun _ => ?_)
            clear hK
            refine wpAnyH_ready (rs := [6]) (by kernel_rfl) (by simp) ?_
            refine AllReadyH.cons rfl (fun K hK => ?_) AllReadyH.nil
            go_simp
            refine hK.out _ _ trivial (fun _ => ?_)
            clear hK
            refine wpAnyH_ready (rs := [7]) (by kernel_rfl) (by simp) ?_
            refine AllReadyH.cons rfl (fun K hK => ?_) AllReadyH.nil
            have CP : Hid (Cs w (1 :: xs) da ys db g2 k2 g1 k1 gB ys.length g3 k3 ((w2.setCell ⟨w.heap.size, 0, none⟩ (.slice (some ⟨g2, 0, none⟩) (xs.length + 1) k2)).setCell ⟨w.heap.size, 1, none⟩ (.slice (some ⟨g1, 0, none⟩) da.length k1))) := C2.out.putA (xs' := 1 :: xs) RN.out C2.out.xd ⟨hk1, hk2⟩
            have q0 := C2.out.a0
            have q1 := C2.out.a1
            have q2 := C2.out.fa
            go_simp
            refine hK.out _ _ trivial (fun _ => ?_)
            clear hK q0 q1 q2
            generalize ((w2.setCell ⟨w.heap.size, 0, none⟩ (.slice (some ⟨g2, 0, none⟩) (xs.length + 1) k2)).setCell ⟨w.heap.size, 1, none⟩ (.slice (some ⟨g1, 0, none⟩) da.length k1)) = w9 at CP ⊢
            refine wpAnyH_done (by kernel_rfl) ?_ _
            go_wp2_with fail
            go_meet
            case rel => exact ⟨_, _, hk1, hk2, CP.out⟩
        · have q0 := DW.out.a0
          go_simp
          refine hK.out _ _ trivial (fun _ => ?_)
          clear hK q0
          refine wpAnyH_ready (rs := [0, 5]) (by kernel_rfl) (by simp) ?_
          refine AllReadyH.cons rfl (fun K hK => ?_) (AllReadyH.cons rfl (fun K hK => ?_) AllReadyH.nil)
          · go_simp
            refine hK.out _ _ trivial (fun _ => ?_)
            clear hK
            refine wpAnyH_ready (rs := [3, 5]) (by kernel_rfl) (by simp) ?_
            refine AllReadyH.cons rfl (fun K hK => ?_) (AllReadyH.cons rfl (fun K hK => ?_) AllReadyH.nil)
            · refine step_append_rd (base := wd.heap.size) (wd.alloc (.cells #[.int .i64 1] 3)) rfl (.tmp 33) (.tmp 35) rfl (.slice (some ⟨wd.heap.size, 0, none⟩) 1 1) (.slice (some ⟨gA, 0, none⟩) xs.length xs.length) rfl rfl 1 [1] xs OL.out RL.out (by omega) (by simp) ?_
              intro v' w2 ho hg
              have B2 : Hid (Below wd.heap.size wd w2) := A1.out.grown hg (by simp) (fun k hk => (OL.out.lt k hk).1)
              have C2 := hideP (DW.out.keep B2.out)
              obtain ⟨g2, k2, ev, hk1', hk2⟩ := row_at ho (by omega)
              subst ev
              have hk1 : xs.length + 1 ≤ k2 := by omega
              have RN : Hid (Rd w2.heap.size w2 (.slice (some ⟨g2, 0, none⟩) (xs.length + 1) k2) (1 :: xs)) := by
                have e1 : 1 + xs.length = xs.length + 1 := Nat.add_comm _ _
                rw [e1] at ho
                exact (own_of_any (zs := 1 :: xs) ho).rd
              have eA : 1 + xs.length = xs.length + 1 := Nat.add_comm _ _
              rw [eA]
              clear ho hg hk1' eA
              refine hK.out _ _ trivial (fun _ => ?_)
              clear hK
              refine wpAnyH_ready (rs := [5]) (by kernel_rfl) (by simp) ?_
              refine AllReadyH.cons rfl (fun K hK => ?_) AllReadyH.nil
              have q0 := C2.out.a1
              go_simp
              refine hK.out _ _ trivial (fun _ => ?_)
              clear hK q0
              refine wpAnyH_ready (rs := [6]) (by kernel_rfl) (by simp) ?_
              refine AllReadyH.cons rfl (fun K hK => ?_) AllReadyH.nil
              go_simp
              refine hK.out _ _ trivial (fun _ => ?_)
              clear hK
              refine wpAnyH_ready (rs := [7]) (by kernel_rfl) (by simp) ?_
              refine AllReadyH.cons rfl (fun K hK => ?_) AllReadyH.nil
              have CP : Hid (Cs w (1 :: xs) da ys db g2 k2 g1 k1 gB ys.length g3 k3 ((w2.setCell ⟨w.heap.size, 0, none⟩ (.slice (some ⟨g2, 0, none⟩) (xs.length + 1) k2)).setCell ⟨w.heap.size, 1, none⟩ (.slice (some ⟨g1, 0, none⟩) da.length k1))) := C2.out.putA (xs' := 1 :: xs) RN.out C2.out.xd ⟨hk1, hk2⟩
              have q0 := C2.out.a0
              have q1 := C2.out.a1
              have q2 := C2.out.fa
              go_simp
              refine hK.out _ _ trivial (fun _ => ?_)
              clear hK q0 q1 q2
              generalize ((w2.setCell ⟨w.heap.size, 0, none⟩ (.slice (some ⟨g2, 0, none⟩) (xs.length + 1) k2)).setCell ⟨w.heap.size, 1, none⟩ (.slice (some ⟨g1, 0, none⟩) da.length k1)) = w9 at CP ⊢
              refine wpAnyH_done (by kernel_rfl) ?_ _
              go_wp2_with fail
              go_meet
              case rel => exact ⟨_, _, hk1, hk2, CP.out⟩
            · have q0 := CL.out.a1
              go_simp
              refine hK.out _ _ trivial (fun _ => ?_)
              clear hK q0
              refine wpAnyH_ready (rs := [3]) (by kernel_rfl) (by simp) ?_
              refine AllReadyH.cons rfl (fun K hK => ?_) AllReadyH.nil
              refine step_append_rd (base := wd.heap.size) (wd.alloc (.cells #[.int .i64 1] 3)) rfl (.tmp 33) (.tmp 35) rfl (.slice (some ⟨wd.heap.size, 0, none⟩) 1 1) (.slice (some ⟨gA, 0, none⟩) xs.length xs.length) rfl rfl 1 [1] xs OL.out RL.out (by omega) (by simp) ?_
              intro v' w2 ho hg
              have B2 : Hid (Below wd.heap.size wd w2) := A1.out.grown hg (by simp) (fun k hk => (OL.out.lt k hk).1)
              have C2 := hideP (DW.out.keep B2.out)
              obtain ⟨g2, k2, ev, hk1', hk2⟩ := row_at ho (by omega)
              subst ev
              have hk1 : xs.length + 1 ≤ k2 := by omega
              have RN : Hid (Rd w2.heap.size w2 (.slice (some ⟨g2, 0, none⟩) (xs.length + 1) k2) (1 :: xs)) := by
                have e1 : 1 + xs.length = xs.length + 1 := Nat.add_comm _ _
                rw [e1] at ho
                exact (own_of_any (zs := 1 :: xs) ho).rd
              have eA : 1 + xs.length = xs.length + 1 := Nat.add_comm _ _
              rw [eA]
              clear ho hg hk1' eA
              refine hK.out _ _ trivial (fun _ => ?_)
              clear hK
              refine wpAnyH_ready (rs := [6]) (by kernel_rfl) (by simp) ?_
              refine AllReadyH.cons rfl (fun K hK => ?_) AllReadyH.nil
              go_simp
              refine hK.out _ _ trivial (fun _ => ?_)
              clear hK
              refine wpAnyH_ready (rs := [7]) (by kernel_rfl) (by simp) ?_
              refine AllReadyH.cons rfl (fun K hK => ?_) AllReadyH.nil
              have CP : Hid (Cs w (1 :: xs) da ys db g2 k2 g1 k1 gB ys.length g3 k3 ((w2.setCell ⟨w.heap.size, 0, none⟩ (.slice (some ⟨g2, 0, none⟩) (xs.length + 1) k2)).setCell ⟨w.heap.size, 1, none⟩ (.slice (some ⟨g1, 0, none⟩) da.length k1))) := C2.out.putA (xs' := 1 :: xs) RN.out C2.out.xd ⟨hk1, hk2⟩
              have q0 := C2.out.a0
              have q1 := C2.out.a1
              have q2 := C2.out.fa
              go_simp
              refine hK.out _ _ trivial (fun _ => ?_)
              clear hK q0 q1 q2
              generalize ((w2.setCell ⟨w.heap.size, 0, none⟩ (.slice (some ⟨g2, 0, none⟩) (xs.length + 1) k2)).setCell ⟨w.heap.size, 1, none⟩ (.slice (some ⟨g1, 0, none⟩) da.length k1)) = w9 at CP ⊢
              refine wpAnyH_done (by kernel_rfl) ?_ _
              go_wp2_with fail
              go_meet
              case rel => exact ⟨_, _, hk1, hk2, CP.out⟩
          · have q0 := DW.out.a1
            go_simp
            refine hK.out _ _ trivial (fun _ => ?_)
            clear hK q0
            refine wpAnyH_ready (rs := [0]) (by kernel_rfl) (by simp) ?_
            refine AllReadyH.cons rfl (fun K hK => ?_) AllReadyH.nil
            go_simp
            refine hK.out _ _ trivial (fun _ => ?_)
            clear hK
            refine wpAnyH_ready (rs := [3]) (by kernel_rfl) (by simp) ?_
            refine AllReadyH.cons rfl (fun K hK => ?_) AllReadyH.nil
            refine step_append_rd (base := wd.heap.size) (wd.alloc (.cells #[.int .i64 1] 3)) rfl (.tmp 33) (.tmp 35) rfl (.slice (some ⟨wd.heap.size, 0, none⟩) 1 1) (.slice (some ⟨gA, 0, none⟩) xs.length xs.length) rfl rfl 1 [1] xs OL.out RL.out (by omega) (by simp) ?_
            intro v' w2 ho hg
            have B2 : Hid (Below wd.heap.size wd w2) := A1.out.grown hg (by simp) (fun k hk => (OL.out.lt k hk).1)
            have C2 := hideP (DW.out.keep B2.out)
            obtain ⟨g2, k2, ev, hk1', hk2⟩ := row_at ho (by omega)
            subst ev
            have hk1 : xs.length + 1 ≤ k2 := by omega
            have RN : Hid (Rd w2.heap.size w2 (.slice (some ⟨g2, 0, none⟩) (xs.length + 1) k2) (1 :: xs)) := by
              have e1 : 1 + xs.length = xs.length + 1 := Nat.add_comm _ _
              rw [e1] at ho
              exact (own_of_any (zs := 1 :: xs) ho).rd
            have eA : 1 + xs.length = xs.length + 1 := Nat.add_comm _ _
            rw [eA]
            clear ho hg hk1' eA
            refine hK.out _ _ trivial (fun _ => ?_)
            clear hK
            refine wpAnyH_ready (rs := [6]) (by kernel_rfl) (by simp) ?_
            refine AllReadyH.cons rfl (fun K hK => ?_) AllReadyH.nil
            go_simp
            refine hK.out _ _ trivial (fun _ => ?_)
            clear hK
            refine wpAnyH_ready (rs := [7]) (by kernel_rfl) (by simp) ?_
            refine AllReadyH.cons rfl (fun K hK => ?_) AllReadyH.nil
            have CP : Hid (Cs w (1 :: xs) da ys db g2 k2 g1 k1 gB ys.length g3 k3 ((w2.setCell ⟨w.heap.size, 0, none⟩ (.slice (some ⟨g2, 0, none⟩) (xs.length + 1) k2)).setCell ⟨w.heap.size, 1, none⟩ (.slice (some ⟨g1, 0, none⟩) da.length k1))) := C2.out.putA (xs' := 1 :: xs) RN.out C2.out.xd ⟨hk1, hk2⟩
            have q0 := C2.out.a0
            have q1 := C2.out.a1
            have q2 := C2.out.fa
            go_simp
            refine hK.out _ _ trivial (fun _ => ?_)
            clear hK q0 q1 q2
            generalize ((w2.setCell ⟨w.heap.size, 0, none⟩ (.slice (some ⟨g2, 0, none⟩) (xs.length + 1) k2)).setCell ⟨w.heap.size, 1, none⟩ (.slice (some ⟨g1, 0, none⟩) da.length k1)) = w9 at CP ⊢
            refine wpAnyH_done (by kernel_rfl) ?_ _
            go_wp2_with fail
            go_meet
            case rel => exact ⟨_, _, hk1, hk2, CP.out⟩
        · have q0 := DW.out.a1
          go_simp
          refine hK.out _ _ trivial (fun _ => ?_)
          clear hK q0
          refine wpAnyH_ready (rs := [0, 2]) (by kernel_rfl) (by simp) ?_
          refine AllReadyH.cons rfl (fun K hK => ?_) (AllReadyH.cons rfl (fun K hK => ?_) AllReadyH.nil)
          · go_simp
            refine hK.out _ _ trivial (fun _ => ?_)
            clear hK
            refine wpAnyH_ready (rs := [2]) (by kernel_rfl) (by simp) ?_
            refine AllReadyH.cons rfl (fun K hK => ?_) AllReadyH.nil
            have q0 := CL.out.a0
            go_simp
            refine hK.out _ _ trivial (fun _ => ?_)
            clear hK q0
            refine wpAnyH_ready (rs := [3]) (by kernel_rfl) (by simp) ?_
            refine AllReadyH.cons rfl (fun K hK => ?_) AllReadyH.nil
            refine step_append_rd (base := wd.heap.size) (wd.alloc (.cells #[.int .i64 1] 3)) rfl (.tmp 33) (.tmp 35) rfl (.slice (some ⟨wd.heap.size, 0, none⟩) 1 1) (.slice (some ⟨gA, 0, none⟩) xs.length xs.length) rfl rfl 1 [1] xs OL.out RL.out (by omega) (by simp) ?_
            intro v' w2 ho hg
            have B2 : Hid (Below wd.heap.size wd w2) := A1.out.grown hg (by simp) (fun k hk => (OL.out.lt k hk).1)
            have C2 := hideP (DW.out.keep B2.out)
            obtain ⟨g2, k2, ev, hk1', hk2⟩ := row_at ho (by omega)
            subst ev
            have hk1 : xs.length + 1 ≤ k2 := by omega
            have RN : Hid (Rd w2.heap.size w2 (.slice (some ⟨g2, 0, none⟩) (xs.length + 1) k2) (1 :: xs)) := by
              have e1 : 1 + xs.length = xs.length + 1 := Nat.add_comm _ _
              rw [e1] at ho
              exact (own_of_any (zs := 1 :: xs) ho).rd
            have eA : 1 + xs.length = xs.length + 1 := Nat.add_comm _ _
            rw [eA]
            clear ho hg hk1' eA
            refine hK.out _ _ trivial (fun _ => ?_)
            clear hK
            refine wpAnyH_ready (rs := [6]) (by kernel_rfl) (by simp) ?_
            refine AllReadyH.cons rfl (fun K hK => ?_) AllReadyH.nil
            go_simp
            refine hK.out _ _ trivial (fun _ => ?_)
            clear hK
            refine wpAnyH_ready (rs := [7]) (by kernel_rfl) (by simp) ?_
            refine AllReadyH.cons rfl (fun K hK => ?_) AllReadyH.nil
            have CP : Hid (Cs w (1 :: xs) da ys db g2 k2 g1 k1 gB ys.length g3 k3 ((w2.setCell ⟨w.heap.size, 0, none⟩ (.slice (some ⟨g2, 0, none⟩) (xs.length + 1) k2)).setCell ⟨w.heap.size, 1, none⟩ (.slice (some ⟨g1, 0, none⟩) da.length k1))) := C2.out.putA (xs' := 1 :: xs) RN.out C2.out.xd ⟨hk1, hk2⟩
            have q0 := C2.out.a0
            have q1 := C2.out.a1
            have q2 := C2.out.fa
            go_simp
            refine hK.out _ _ trivial (fun _ => ?_)
            clear hK q0 q1 q2
            generalize ((w2.setCell ⟨w.heap.size, 0, none⟩ (.slice (some ⟨g2, 0, none⟩) (xs.length + 1) k2)).setCell ⟨w.heap.size, 1, none⟩ (.slice (some ⟨g1, 0, none⟩) da.length k1)) = w9 at CP ⊢
            refine wpAnyH_done (by kernel_rfl) ?_ _
            go_wp2_with fail
            go_meet
            case rel => exact ⟨_, _, hk1, hk2, CP.out⟩
          · have q0 := DW.out.a0
            go_simp
            refine hK.out _ _ trivial (fun _ => ?_)
            clear hK q0
            refine wpAnyH_ready (rs := [0]) (by kernel_rfl) (by simp) ?_
            refine AllReadyH.cons rfl (fun K hK => ?_) AllReadyH.nil
            go_simp
            refine hK.out _ _ trivial (fun _ => ?_)
            clear hK
            refine wpAnyH_ready (rs := [3]) (by kernel_rfl) (by simp) ?_
            refine AllReadyH.cons rfl (fun K hK => ?_) AllReadyH.nil
            refine step_append_rd (base := wd.heap.size) (wd.alloc (.cells #[.int .i64 1] 3)) rfl (.tmp 33) (.tmp 35) rfl (.slice (some ⟨wd.heap.size, 0, none⟩) 1 1) (.slice (some ⟨gA, 0, none⟩) xs.length xs.length) rfl rfl 1 [1] xs OL.out RL.out (by omega) (by simp) ?_
            intro v' w2 ho hg
            have B2 : Hid (Below wd.heap.size wd w2) := A1.out.grown hg (by simp) (fun k hk => (OL.out.lt k hk).1)
            have C2 := hideP (DW.out.keep B2.out)
            obtain ⟨g2, k2, ev, hk1', hk2⟩ := row_at ho (by omega)
            subst ev
            have hk1 : xs.length + 1 ≤ k2 := by omega
            have RN : Hid (Rd w2.heap.size w2 (.slice (some ⟨g2, 0, none⟩) (xs.length + 1) k2) (1 :: xs)) := by
              have e1 : 1 + xs.length = xs.length + 1 := Nat.add_comm _ _
              rw [e1] at ho
              exact (own_of_any (zs := 1 :: xs) ho).rd
            have eA : 1 + xs.length = xs.length + 1 := Nat.add_comm _ _
            rw [eA]
            clear ho hg hk1' eA
            refine hK.out _ _ trivial (fun _ => ?_)
            clear hK
            refine wpAnyH_ready (rs := [6]) (by kernel_rfl) (by simp) ?_
            refine AllReadyH.cons rfl (fun K hK => ?_) AllReadyH.nil
            go_simp
            refine hK.out _ _ trivial (fun _ => ?_)
            clear hK
            refine wpAnyH_ready (rs := [7]) (by kernel_rfl) (by simp) ?_
            refine AllReadyH.cons rfl (fun K hK => ?_) AllReadyH.nil
            have CP : Hid (Cs w (1 :: xs) da ys db g2 k2 g1 k1 gB ys.length g3 k3 ((w2.setCell ⟨w.heap.size, 0, none⟩ (.slice (some ⟨g2, 0, none⟩) (xs.length + 1) k2)).setCell ⟨w.heap.size, 1, none⟩ (.slice (some ⟨g1, 0, none⟩) da.length k1))) := C2.out.putA (xs' := 1 :: xs) RN.out C2.out.xd ⟨hk1, hk2⟩
            have q0 := C2.out.a0
            have q1 := C2.out.a1
            have q2 := C2.out.fa
            go_simp
            refine hK.out _ _ trivial (fun _ => ?_)
            clear hK q0 q1 q2
            generalize ((w2.setCell ⟨w.heap.size, 0, none⟩ (.slice (some ⟨g2, 0, none⟩) (xs.length + 1) k2)).setCell ⟨w.heap.size, 1, none⟩ (.slice (some ⟨g1, 0, none⟩) da.length k1)) = w9 at CP ⊢
            refine wpAnyH_done (by kernel_rfl) ?_ _
            go_wp2_with fail
            go_meet
            case rel => exact ⟨_, _, hk1, hk2, CP.out⟩
      case rest =>
        obtain ⟨g2, k2, hk1, hk2, hCP⟩ := hcut
        have CP := hideP hCP
        clear hCP DW C1 t1 t2
        rename World => wx
        obtain ⟨m, hm⟩ : ∃ m, m + 1 = ys.length := ⟨ys.length - 1, by omega⟩
        obtain ⟨n1, hn1⟩ : ∃ n1, (1 :: xs).getD 0 0 = n1 := ⟨_, rfl⟩
        obtain ⟨n2, hn2⟩ : ∃ n2, ys.getD 0 0 = n2 := ⟨_, rfl⟩
        have hx1 : 0 ≤ n1 := by rw [← hn1]; simp
        have hx2 : n1 ≤ 1000 := by rw [← hn1]; simp
        have hy1 : 0 ≤ n2 := by rw [← hn2]; exact hy0.1
        have hy2 : n2 ≤ 1000 := by rw [← hn2]; exact hy0.2
        rw [hn1, hn2] at e
        obtain ⟨X, hX⟩ : ∃ X, X = (1 :: xs) := ⟨_, rfl⟩
        obtain ⟨Y, hY⟩ : ∃ Y, Y = ys := ⟨_, rfl⟩
        rw [← hX, ← hY] at e
        rw [← hX] at hn1
        rw [← hY] at hn2
        have PE := hideP e
        have hXl : X.length = m + 1 := by rw [hX]; rw [List.length_cons]; omega
        have hYl : Y.length = m + 1 := by rw [hY]; omega
        have hm2 : m ≤ 2 := by omega
        obtain ⟨kA, hkA⟩ : ∃ kA, kA = k2 := ⟨_, rfl⟩
        obtain ⟨kB, hkB⟩ : ∃ kB, kB = ys.length := ⟨_, rfl⟩
        have CX : Hid (Cs w X da Y db g2 kA g1 k1 gB kB g3 k3 wx) := by rw [hkA, hkB, hX, hY]; exact CP
        generalize g2 = gA at *
        clear HE e CP eA eB hX hY hkA hkB hm hc1
        obtain ⟨oA, hoA⟩ : ∃ oA : Nat, oA = if kA = 1 then 0 else 1 := ⟨_, rfl⟩
        obtain ⟨oB, hoB⟩ : ∃ oB : Nat, oB = if kB = 1 then 0 else 1 := ⟨_, rfl⟩
        have HOA := hideP hoA
        have HOB := hideP hoB
        have PX : Hid (∀ w', Below wx.heap.size wx w' → (w'.cell? ⟨w.heap.size, 0, none⟩ = some (.slice (some ⟨gA, 0, none⟩) (m + 1) kA) ∧ w'.cell? ⟨w.heap.size, 1, none⟩ = some (.slice (some ⟨g1, 0, none⟩) da.length k1)) ∧ (w'.cell? ⟨w.heap.size + 1, 0, none⟩ = some (.slice (some ⟨gB, 0, none⟩) (m + 1) kB) ∧ w'.cell? ⟨w.heap.size + 1, 1, none⟩ = some (.slice (some ⟨g3, 0, none⟩) db.length k3)) ∧ (w'.cell? ⟨gA, 0, none⟩ = some (.int .i64 n1) ∧ w'.cell? ⟨gB, 0, none⟩ = some (.int .i64 n2)) ∧ (Rd w'.heap.size w' (.slice (some ⟨gA, oA, none⟩) m (kA - 1)) X.tail ∧ Rd w'.heap.size w' (.slice (some ⟨gB, oB, none⟩) m (kB - 1)) Y.tail) ∧ Cs w X da Y db gA kA g1 k1 gB kB g3 k3 w') := fun w' hb => by
          have k := CX.out.keep hb
          have z0 := k.a0
          have z1 := k.b0
          rw [hXl] at z0
          rw [hYl] at z1
          have zc := k.ca.1
          have zd := k.cb.1
          have x0 := (rd_cell k.xa (i := 0) (by omega)).2
          have y0 := (rd_cell k.xb (i := 0) (by omega)).2
          rw [Nat.add_zero, hn1] at x0
          rw [Nat.add_zero, hn2] at y0
          exact ⟨⟨z0, k.a1⟩, ⟨z1, k.b1⟩, ⟨x0, y0⟩, ⟨rd_onek hXl (by omega) hoA k.xa, rd_onek hYl (by omega) hoB k.xb⟩, k⟩
        have KEQ : Hid (∀ w', Below wx.heap.size wx w' → Calls Try.prog 67 #[.slice (some ⟨gA, oA, none⟩) m (kA - 1), .slice (some ⟨gB, oB, none⟩) m (kB - 1)] w' fun e w'' => e = .returned (.bool (decide (X.tail = Y.tail))) ∧ Below w'.heap.size w' w'') := fun w' hb => l2Same_any _ _ X.tail Y.tail w' (by rw [List.length_tail]; omega) (by rw [List.length_tail]; omega) (PX.out w' hb).2.2.2.1.1 (PX.out w' hb).2.2.2.1.2
        have htlX : X.tail.length = m := by rw [List.length_tail]; omega
        have A3 : Hid (∀ (W : World) o, Below W.heap.size W (W.alloc o)) := fun W o => (Below.refl _ _).alloc (Nat.le_refl _) _
        have hszx := CX.out.size
        have c0 := (PX.out wx (Below.refl _ _)).1.1
        have c1 := (PX.out wx (Below.refl _ _)).2.1.1
        clear hoA hoB hXl hYl hn1 hn2 CX
        go_upto_region 9 with fail
        clear c0 c1
        have DR := hideP (show Below wx.heap.size wx wx.drew from (Below.refl _ _).drew)
        refine wp_region_held (S := fun w' => Below wx.heap.size wx w') (by kernel_rfl) ?_
        change wpAnyH _ _ _ _ _ _ _ _ (World.drew _)
        generalize World.drew wx = wd at DR ⊢
        refine wpAnyH_take (i := 0) (v := .pointer (some ⟨w.heap.size, 0, none⟩)) rfl (by kernel_rfl) (by kernel_rfl) (by kernel_rfl) (fun _ _ _ h => h) (Or.inl ⟨by rfl, ?_⟩) DR.out ?_
        · intro w' hS
          clear hS
          go_simp
        refine wpAnyH_take (i := 1) (v := .slice (some ⟨gA, 0, none⟩) (m + 1) kA) rfl (by kernel_rfl) (by kernel_rfl) (by kernel_rfl) (fun _ _ _ h => h) (Or.inl ⟨by rfl, ?_⟩) DR.out ?_
        · intro w' hS
          have := (PX.out w' hS).1.1
          clear hS
          go_simp
        refine wpAnyH_take (i := 2) (v := .slice (some ⟨gA, oA, none⟩) m (kA - 1)) rfl (by kernel_rfl) (by kernel_rfl) (by kernel_rfl) (fun _ _ _ h => h) (Or.inl ⟨by rfl, fun w' _ => exec_lok (.tmp 49) (.const (.int .i64 1)) gA m kA oA HOA.out (by kernel_rfl) (by kernel_rfl) (by kernel_rfl) w'⟩) DR.out ?_
        refine wpAnyH_take (i := 3) (v := .pointer (some ⟨w.heap.size + 1, 0, none⟩)) rfl (by kernel_rfl) (by kernel_rfl) (by kernel_rfl) (fun _ _ _ h => h) (Or.inl ⟨by rfl, ?_⟩) DR.out ?_
        · intro w' hS
          clear hS
          go_simp
        refine wpAnyH_take (i := 4) (v := .slice (some ⟨gB, 0, none⟩) (m + 1) kB) rfl (by kernel_rfl) (by kernel_rfl) (by kernel_rfl) (fun _ _ _ h => h) (Or.inl ⟨by rfl, ?_⟩) DR.out ?_
        · intro w' hS
          have := (PX.out w' hS).2.1.1
          clear hS
          go_simp
        refine wpAnyH_take (i := 5) (v := .slice (some ⟨gB, oB, none⟩) m (kB - 1)) rfl (by kernel_rfl) (by kernel_rfl) (by kernel_rfl) (fun _ _ _ h => h) (Or.inl ⟨by rfl, fun w' _ => exec_lok (.tmp 52) (.const (.int .i64 1)) gB m kB oB HOB.out (by kernel_rfl) (by kernel_rfl) (by kernel_rfl) w'⟩) DR.out ?_
        refine wpAnyH_ready (rs := [6]) (by kernel_rfl) (by simp) ?_
        refine AllReadyH.cons rfl (fun K hK => ?_) AllReadyH.nil
        go_simp
        refine (KEQ.out wd DR.out).mono ?_
        rintro e w6 ⟨rfl, hb6⟩
        have D6 := hideP (DR.out.trans (hb6.mono DR.out.size))
        clear hb6 DR
        refine hK.out _ _ D6.out (fun _ => ?_)
        clear hK
        refine wpAnyH_ready (rs := [7]) (by kernel_rfl) (by simp) ?_
        refine AllReadyH.cons rfl (fun K hK => ?_) AllReadyH.nil
        go_simp
        refine hK.out _ _ D6.out (fun _ => ?_)
        clear hK
        refine wpAnyH_done (by kernel_rfl) ?_ _
        have hs6 := D6.out.size
        by_cases htl : X.tail = Y.tail
        · have htd : decide (X.tail = Y.tail) = true := decide_eq_true htl
          rw [htd]
          have e := PE.out
          rw [if_pos htl] at e
          have PE2 := hideP e
          clear e htd htl PE KEQ
          have PX6 : Hid (∀ w', Below w6.heap.size w6 w' → Below wx.heap.size wx w') := fun w' hb => D6.out.trans (hb.mono D6.out.size)
          have LB : Hid (∀ w', Below (w.heap.size + 1 + 1) w6 w' → (w'.cell? ⟨w.heap.size, 0, none⟩ = some (.slice (some ⟨gA, 0, none⟩) (m + 1) kA) ∧ w'.cell? ⟨w.heap.size, 1, none⟩ = some (.slice (some ⟨g1, 0, none⟩) da.length k1)) ∧ (w'.cell? ⟨w.heap.size + 1, 0, none⟩ = some (.slice (some ⟨gB, 0, none⟩) (m + 1) kB) ∧ w'.cell? ⟨w.heap.size + 1, 1, none⟩ = some (.slice (some ⟨g3, 0, none⟩) db.length k3))) := fun w' hb => by
            have z := PX.out w6 (PX6.out w6 (Below.refl _ _))
            exact ⟨⟨(hb.cell (p := ⟨w.heap.size, 0, none⟩) (by show w.heap.size < _; omega)).trans z.1.1, (hb.cell (p := ⟨w.heap.size, 1, none⟩) (by show w.heap.size < _; omega)).trans z.1.2⟩, (hb.cell (p := ⟨w.heap.size + 1, 0, none⟩) (by show w.heap.size + 1 < _; omega)).trans z.2.1.1, (hb.cell (p := ⟨w.heap.size + 1, 1, none⟩) (by show w.heap.size + 1 < _; omega)).trans z.2.1.2⟩
          go_upto_region 11 with fail
          have DR := hideP (show Below w6.heap.size w6 w6.drew from (Below.refl _ _).drew)
          refine wp_region_held (S := fun w' => Below (w.heap.size + 1 + 1) w6 w' ∧ w'.cell? ⟨gA, 0, none⟩ = some (.int .i64 n1) ∧ w'.cell? ⟨gB, 0, none⟩ = some (.int .i64 n2)) (by kernel_rfl) ?_
          change wpAnyH _ _ _ _ _ _ _ _ (World.drew _)
          generalize World.drew w6 = wd at DR ⊢
          have hSle : w.heap.size + 1 + 1 ≤ w6.heap.size := by omega
          have SX : Hid (∀ w', Below w6.heap.size w6 w' → Below (w.heap.size + 1 + 1) w6 w' ∧ w'.cell? ⟨gA, 0, none⟩ = some (.int .i64 n1) ∧ w'.cell? ⟨gB, 0, none⟩ = some (.int .i64 n2)) := fun w' hb => ⟨hb.mono hSle, (PX.out w' (PX6.out w' hb)).2.2.1⟩
          have SW := hideP (SX.out wd DR.out)
          have hwd := DR.out.size
          have OL := hideP (owns_one wd (n1 + n2) wd.heap.size (Nat.le_refl _))
          have AL := hideP (A3.out wd (.cells #[.int .i64 (n1 + n2)] 3))
          have RLX : Hid (Rd (wd.alloc (.cells #[.int .i64 (n1 + n2)] 3)).heap.size (wd.alloc (.cells #[.int .i64 (n1 + n2)] 3)) (.slice (some ⟨gA, oA, none⟩) m (kA - 1)) X.tail) := (PX.out _ (PX6.out _ (DR.out.trans (AL.out.mono hwd)))).2.2.2.1.1
          refine wpAnyH_take (i := 0) (v := .pointer (some ⟨w.heap.size, 0, none⟩)) rfl (by kernel_rfl) (by kernel_rfl) (by kernel_rfl) (fun _ _ _ h => h) (Or.inl ⟨by rfl, ?_⟩) SW.out ?_
          · intro w' hS
            clear hS
            go_simp
          refine wpAnyH_take (i := 1) (v := .slice (some ⟨gA, 0, none⟩) (m + 1) kA) rfl (by kernel_rfl) (by kernel_rfl) (by kernel_rfl) (fun _ _ _ h => h) (Or.inl ⟨by rfl, ?_⟩) SW.out ?_
          · intro w' hS
            have := (LB.out w' hS.1).1.1
            clear hS
            go_simp
          refine wpAnyH_take (i := 2) (v := .pointer (some ⟨gA, 0, none⟩)) rfl (by kernel_rfl) (by kernel_rfl) (by kernel_rfl) (fun _ _ _ h => h) (Or.inl ⟨by rfl, ?_⟩) SW.out ?_
          · intro w' hS
            clear hS
            go_simp
          refine wpAnyH_take (i := 3) (v := .int .i64 n1) rfl (by kernel_rfl) (by kernel_rfl) (by kernel_rfl) (fun _ _ _ h => h) (Or.inl ⟨by rfl, ?_⟩) SW.out ?_
          · intro w' hS
            have := hS.2.1
            clear hS
            go_simp
          refine wpAnyH_take (i := 4) (v := .pointer (some ⟨w.heap.size + 1, 0, none⟩)) rfl (by kernel_rfl) (by kernel_rfl) (by kernel_rfl) (fun _ _ _ h => h) (Or.inl ⟨by rfl, ?_⟩) SW.out ?_
          · intro w' hS
            clear hS
            go_simp
          refine wpAnyH_take (i := 5) (v := .slice (some ⟨gB, 0, none⟩) (m + 1) kB) rfl (by kernel_rfl) (by kernel_rfl) (by kernel_rfl) (fun _ _ _ h => h) (Or.inl ⟨by rfl, ?_⟩) SW.out ?_
          · intro w' hS
            have := (LB.out w' hS.1).2.1
            clear hS
            go_simp
          refine wpAnyH_take (i := 6) (v := .pointer (some ⟨gB, 0, none⟩)) rfl (by kernel_rfl) (by kernel_rfl) (by kernel_rfl) (fun _ _ _ h => h) (Or.inl ⟨by rfl, ?_⟩) SW.out ?_
          · intro w' hS
            clear hS
            go_simp
          refine wpAnyH_take (i := 7) (v := .int .i64 n2) rfl (by kernel_rfl) (by kernel_rfl) (by kernel_rfl) (fun _ _ _ h => h) (Or.inl ⟨by rfl, ?_⟩) SW.out ?_
          · intro w' hS
            have := hS.2.2
            clear hS
            go_simp
          refine wpAnyH_take (i := 8) (v := .int .i64 (n1 + n2)) rfl (by kernel_rfl) (by kernel_rfl) (by kernel_rfl) (fun _ _ _ h => h) (Or.inl ⟨by rfl, ?_⟩) SW.out ?_
          · intro w' hS
            clear hS
            go_simp
            rw [IntKind.wrap_i64]
            omega
          refine wpAnyH_take (i := 10) (v := .pointer (some ⟨w.heap.size, 0, none⟩)) rfl (by kernel_rfl) (by kernel_rfl) (by kernel_rfl) (fun _ _ _ h => h) (Or.inl ⟨by rfl, ?_⟩) SW.out ?_
          · intro w' hS
            clear hS
            go_simp
          refine wpAnyH_take (i := 11) (v := .slice (some ⟨gA, 0, none⟩) (m + 1) kA) rfl (by kernel_rfl) (by kernel_rfl) (by kernel_rfl) (fun _ _ _ h => h) (Or.inl ⟨by rfl, ?_⟩) SW.out ?_
          · intro w' hS
            have := (LB.out w' hS.1).1.1
            clear hS
            go_simp
          refine wpAnyH_take (i := 12) (v := .slice (some ⟨gA, oA, none⟩) m (kA - 1)) rfl (by kernel_rfl) (by kernel_rfl) (by kernel_rfl) (fun _ _ _ h => h) (Or.inl ⟨by rfl, fun w' _ => exec_lok (.tmp 68) (.const (.int .i64 1)) gA m kA oA HOA.out (by kernel_rfl) (by kernel_rfl) (by kernel_rfl) w'⟩) SW.out ?_
          refine wpAnyH_take (i := 14) (v := .pointer (some ⟨w.heap.size, 1, none⟩)) rfl (by kernel_rfl) (by kernel_rfl) (by kernel_rfl) (fun _ _ _ h => h) (Or.inl ⟨by rfl, ?_⟩) SW.out ?_
          · intro w' hS
            clear hS
            go_simp
          refine wpAnyH_take (i := 15) (v := .slice (some ⟨g1, 0, none⟩) da.length k1) rfl (by kernel_rfl) (by kernel_rfl) (by kernel_rfl) (fun _ _ _ h => h) (Or.inl ⟨by rfl, ?_⟩) SW.out ?_
          · intro w' hS
            have := (LB.out w' hS.1).1.2
            clear hS
            go_simp
          refine wpAnyH_take (i := 17) (v := .pointer (some ⟨w.heap.size + 1, 1, none⟩)) rfl (by kernel_rfl) (by kernel_rfl) (by kernel_rfl) (fun _ _ _ h => h) (Or.inl ⟨by rfl, ?_⟩) SW.out ?_
          · intro w' hS
            clear hS
            go_simp
          refine wpAnyH_take (i := 18) (v := .slice (some ⟨g3, 0, none⟩) db.length k3) rfl (by kernel_rfl) (by kernel_rfl) (by kernel_rfl) (fun _ _ _ h => h) (Or.inl ⟨by rfl, ?_⟩) SW.out ?_
          · intro w' hS
            have := (LB.out w' hS.1).2.2
            clear hS
            go_simp
          refine wpAnyH_ready (rs := [9]) (by kernel_rfl) (by simp) ?_
          refine AllReadyH.cons rfl (fun K hK => ?_) AllReadyH.nil
          go_simp
          refine hK.out _ _ (SX.out _ (DR.out.trans (AL.out.mono hwd))) (fun _ => ?_)
          clear hK
          refine wpAnyH_ready (rs := [13]) (by kernel_rfl) (by simp) ?_
          refine AllReadyH.cons rfl (fun K hK => ?_) AllReadyH.nil
          refine step_append_rd (base := wd.heap.size) (wd.alloc (.cells #[.int .i64 (n1 + n2)] 3)) rfl (.tmp 66) (.tmp 69) rfl (.slice (some ⟨wd.heap.size, 0, none⟩) 1 1) (.slice (some ⟨gA, oA, none⟩) m (kA - 1)) rfl rfl 1 [n1 + n2] X.tail OL.out RLX.out (by omega) (by simp) ?_
          intro v1 w1 ho1 hg1
          rw [htlX] at ho1
          have B1 : Hid (Below wd.heap.size wd w1) := AL.out.grown hg1 (by simp) (fun k hk => (OL.out.lt k hk).1)
          have D1' := hideP (DR.out.trans (B1.out.mono hwd))
          obtain ⟨gv, kv, ev, _, _⟩ := row_at ho1 (by omega)
          subst ev
          have O1 : Hid (Own wd.heap.size w1 (.slice (some ⟨gv, 0, none⟩) (1 + m) kv) ((n1 + n2) :: X.tail)) := own_of_any (zs := (n1 + n2) :: X.tail) ho1
          clear ho1 hg1
          refine hK.out _ _ (SX.out _ D1'.out) (fun _ => ?_)
          clear hK
          refine wpAnyH_ready (rs := [16]) (by kernel_rfl) (by simp) ?_
          refine AllReadyH.cons rfl (fun K hK => ?_) AllReadyH.nil
          go_simp
          refine (l2Copy_at (.slice (some ⟨g1, 0, none⟩) da.length k1) da w1 (by omega) (PX.out _ (PX6.out _ D1'.out)).2.2.2.2.xd).mono ?_
          rintro e w2 ⟨gd, kd, rfl, _, _, ho2, hb2⟩
          have D2' := hideP (D1'.out.trans (hb2.mono D1'.out.size))
          have O2 := hideP ho2
          have B12 := hideP hb2
          clear ho2 hb2
          refine hK.out _ _ (SX.out _ D2'.out) (fun _ => ?_)
          clear hK
          have RE : Hid (Rd w2.heap.size w2 (.slice (some ⟨g3, 0, none⟩) db.length k3) db) := (PX.out _ (PX6.out _ D2'.out)).2.2.2.2.xe
          refine wpAnyH_ready (rs := [19]) (by kernel_rfl) (by simp) ?_
          refine AllReadyH.cons rfl (fun K hK => ?_) AllReadyH.nil
          refine step_append_rd (base := w1.heap.size) w2 rfl (.tmp 73) (.tmp 75) rfl (.slice (some ⟨gd, 0, none⟩) da.length kd) (.slice (some ⟨g3, 0, none⟩) db.length k3) rfl rfl da.length da db O2.out RE.out (by omega) B12.out.size ?_
          intro v3 w3 ho3 hg3
          have B13 : Hid (Below w1.heap.size w1 w3) := B12.out.grown hg3 B12.out.size (fun k hk => (O2.out.lt k hk).1)
          have D3' := hideP (D1'.out.trans (B13.out.mono D1'.out.size))
          have O3 : Hid (Own w1.heap.size w3 v3 (da ++ db)) := own_of_any (zs := da ++ db) ho3
          have O13 := hideP (O1.out.keep B13.out)
          obtain ⟨zd, yd, ed⟩ := O3.out.form
          rw [List.length_append] at ed
          subst ed
          clear ho3 hg3
          refine hK.out _ _ (SX.out _ D3'.out) (fun _ => ?_)
          clear hK
          have AP := hideP (apart_right (B := w1.heap.size) O3.out O1.out.lt)
          have hs13 := B13.out.size
          have hs1 := B1.out.size
          have htX : 1 + m = ((n1 + n2) :: X.tail).length := by rw [List.length_cons, htlX, Nat.add_comm]
          have KM : Hid (Calls Try.prog 78 #[.slice (some ⟨gv, 0, none⟩) (1 + m) kv, .slice zd (da.length + db.length) yd] w3 fun e w' => Below w3.heap.size w3 w' ∧ ((Pl.fitsB ((n1 + n2) :: X.tail) = true ∧ e = .returned (.tuple #[.agg #[.slice (some ⟨gv, 0, none⟩) (1 + m) kv, .slice zd (da.length + db.length) yd], .int .i64 0])) ∨ (Pl.fitsB ((n1 + n2) :: X.tail) = false ∧ e = .returned (.tuple #[.agg #[.slice none 0 0, .slice none 0 0], .int .i64 6])))) := by
            have r := O13.out.rd
            rw [htX] at r ⊢
            exact l2Made_any _ _ zd _ kv yd ((n1 + n2) :: X.tail) w3 (by rw [← htX]; omega) r (Nat.le_refl _)
          have HTX := hideP htX
          clear htX
          refine wpAnyH_ready (rs := [20]) (by kernel_rfl) (by simp) ?_
          refine AllReadyH.cons rfl (fun K hK => ?_) AllReadyH.nil
          go_simp
          refine KM.out.mono ?_
          rintro e w4 ⟨hb4, hor⟩
          have D4 := hideP (D3'.out.trans (hb4.mono D3'.out.size))
          have C4 := hideP (PX.out _ (PX6.out _ D4.out)).2.2.2.2
          have B34 := hideP hb4
          have hs4 := hb4.size
          have gne1 : ¬ gA = w.heap.size + 1 + 1 := fun e => by
            have z := (PX.out _ (PX6.out _ D4.out)).2.2.1.1
            rw [e, C4.out.res.1] at z
            cases z
          have gne2 : ¬ gB = w.heap.size + 1 + 1 := fun e => by
            have z := (PX.out _ (PX6.out _ D4.out)).2.2.1.2
            rw [e, C4.out.res.1] at z
            cases z
          have SST : Hid (∀ v0 v1, Below (w.heap.size + 1 + 1) w6 ((w4.setCell ⟨w.heap.size + 1 + 1, 0, none⟩ v0).setCell ⟨w.heap.size + 1 + 1, 1, none⟩ v1) ∧ ((w4.setCell ⟨w.heap.size + 1 + 1, 0, none⟩ v0).setCell ⟨w.heap.size + 1 + 1, 1, none⟩ v1).cell? ⟨gA, 0, none⟩ = some (.int .i64 n1) ∧ ((w4.setCell ⟨w.heap.size + 1 + 1, 0, none⟩ v0).setCell ⟨w.heap.size + 1 + 1, 1, none⟩ v1).cell? ⟨gB, 0, none⟩ = some (.int .i64 n2)) := fun v0 v1 => by
            have z := SX.out _ D4.out
            refine ⟨(z.1.setCell (by simp) _).setCell (by simp) _, ?_, ?_⟩
            · rw [← z.2.1]
              exact (World.cell?_of_block (heap_setCell_other _ _ _ _ gne1)).trans (World.cell?_of_block (heap_setCell_other _ _ _ _ gne1))
            · rw [← z.2.2]
              exact (World.cell?_of_block (heap_setCell_other _ _ _ _ gne2)).trans (World.cell?_of_block (heap_setCell_other _ _ _ _ gne2))
          clear hb4 gne1 gne2
          obtain ⟨r0, r1, f2⟩ := C4.out.res
          rcases hor with ⟨hf, rfl⟩ | ⟨hf, rfl⟩
          · have e := PE2.out
            rw [if_pos hf] at e
            simp only [Prod.mk.injEq] at e
            obtain ⟨rfl, rfl, rfl⟩ := e
            clear PE2 hf KM
            refine hK.out _ _ (SX.out _ D4.out) (fun _ => ?_)
            clear hK
            refine wpAnyH_ready (rs := [21, 22]) (by kernel_rfl) (by simp) ?_
            refine AllReadyH.cons rfl (fun K hK => ?_) (AllReadyH.cons rfl (fun K hK => ?_) AllReadyH.nil)
            · go_simp
              refine hK.out _ _ (SX.out _ D4.out) (fun _ => ?_)
              clear hK
              refine wpAnyH_ready (rs := [22]) (by kernel_rfl) (by simp) ?_
              refine AllReadyH.cons rfl (fun K hK => ?_) AllReadyH.nil
              go_simp
              refine hK.out _ _ (SX.out _ D4.out) (fun _ => ?_)
              clear hK
              refine wpAnyH_ready (rs := [23]) (by kernel_rfl) (by simp) ?_
              refine AllReadyH.cons rfl (fun K hK => ?_) AllReadyH.nil
              go_simp
              refine hK.out _ _ (SST.out _ _) (fun _ => ?_)
              clear hK
              refine wpAnyH_ready (rs := [24]) (by kernel_rfl) (by simp) ?_
              refine AllReadyH.cons rfl (fun K hK => ?_) AllReadyH.nil
              go_simp
              refine hK.out _ _ (SST.out _ _) (fun _ => ?_)
              clear hK
              refine wpAnyH_done (by kernel_rfl) ?_ _
              go_wp2_with fail
              refine bodyPost_ret (v := .tuple #[.agg #[.slice (some ⟨gv, 0, none⟩) (1 + m) kv, .slice zd (da.length + db.length) yd], .int .i64 0]) (by simp [results, Try.results64, go_sem, r0, r1]) rfl ⟨(C4.out.bel.setCell (by simp; omega) _).setCell (by simp; omega) _, _, _, rfl, ?_, ?_, AP.out⟩
              · exact Own.base (B := wd.heap.size) (Own.store (Own.store (O13.out.keep B34.out) (by omega) _) (by omega) _) (by omega)
              · exact Own.base (B := w1.heap.size) (Own.store (Own.store (O3.out.keep B34.out) (by omega) _) (by omega) _) (by omega)
            · go_simp
              refine hK.out _ _ (SX.out _ D4.out) (fun _ => ?_)
              clear hK
              refine wpAnyH_ready (rs := [21]) (by kernel_rfl) (by simp) ?_
              refine AllReadyH.cons rfl (fun K hK => ?_) AllReadyH.nil
              go_simp
              refine hK.out _ _ (SX.out _ D4.out) (fun _ => ?_)
              clear hK
              refine wpAnyH_ready (rs := [23]) (by kernel_rfl) (by simp) ?_
              refine AllReadyH.cons rfl (fun K hK => ?_) AllReadyH.nil
              go_simp
              refine hK.out _ _ (SST.out _ _) (fun _ => ?_)
              clear hK
              refine wpAnyH_ready (rs := [24]) (by kernel_rfl) (by simp) ?_
              refine AllReadyH.cons rfl (fun K hK => ?_) AllReadyH.nil
              go_simp
              refine hK.out _ _ (SST.out _ _) (fun _ => ?_)
              clear hK
              refine wpAnyH_done (by kernel_rfl) ?_ _
              go_wp2_with fail
              refine bodyPost_ret (v := .tuple #[.agg #[.slice (some ⟨gv, 0, none⟩) (1 + m) kv, .slice zd (da.length + db.length) yd], .int .i64 0]) (by simp [results, Try.results64, go_sem, r0, r1]) rfl ⟨(C4.out.bel.setCell (by simp; omega) _).setCell (by simp; omega) _, _, _, rfl, ?_, ?_, AP.out⟩
              · exact Own.base (B := wd.heap.size) (Own.store (Own.store (O13.out.keep B34.out) (by omega) _) (by omega) _) (by omega)
              · exact Own.base (B := w1.heap.size) (Own.store (Own.store (O3.out.keep B34.out) (by omega) _) (by omega) _) (by omega)
          · have e := PE2.out
            rw [if_neg (by rw [hf]; decide)] at e
            simp only [Prod.mk.injEq] at e
            obtain ⟨rfl, rfl, rfl⟩ := e
            clear PE2 hf KM
            refine hK.out _ _ (SX.out _ D4.out) (fun _ => ?_)
            clear hK
            refine wpAnyH_ready (rs := [21, 22]) (by kernel_rfl) (by simp) ?_
            refine AllReadyH.cons rfl (fun K hK => ?_) (AllReadyH.cons rfl (fun K hK => ?_) AllReadyH.nil)
            · go_simp
              refine hK.out _ _ (SX.out _ D4.out) (fun _ => ?_)
              clear hK
              refine wpAnyH_ready (rs := [22]) (by kernel_rfl) (by simp) ?_
              refine AllReadyH.cons rfl (fun K hK => ?_) AllReadyH.nil
              go_simp
              refine hK.out _ _ (SX.out _ D4.out) (fun _ => ?_)
              clear hK
              refine wpAnyH_ready (rs := [23]) (by kernel_rfl) (by simp) ?_
              refine AllReadyH.cons rfl (fun K hK => ?_) AllReadyH.nil
              go_simp
              refine hK.out _ _ (SST.out _ _) (fun _ => ?_)
              clear hK
              refine wpAnyH_ready (rs := [24]) (by kernel_rfl) (by simp) ?_
              refine AllReadyH.cons rfl (fun K hK => ?_) AllReadyH.nil
              go_simp
              refine hK.out _ _ (SST.out _ _) (fun _ => ?_)
              clear hK
              refine wpAnyH_done (by kernel_rfl) ?_ _
              go_wp2_with fail
              refine bodyPost_ret (v := .tuple #[.agg #[.slice none 0 0, .slice none 0 0], .int .i64 6]) (by simp [results, Try.results64, go_sem, r0, r1]) rfl ⟨(C4.out.bel.setCell (by simp; omega) _).setCell (by simp; omega) _, _, _, rfl, Own.nil _ _, Own.nil _ _, .inl rfl⟩
            · go_simp
              refine hK.out _ _ (SX.out _ D4.out) (fun _ => ?_)
              clear hK
              refine wpAnyH_ready (rs := [21]) (by kernel_rfl) (by simp) ?_
              refine AllReadyH.cons rfl (fun K hK => ?_) AllReadyH.nil
              go_simp
              refine hK.out _ _ (SX.out _ D4.out) (fun _ => ?_)
              clear hK
              refine wpAnyH_ready (rs := [23]) (by kernel_rfl) (by simp) ?_
              refine AllReadyH.cons rfl (fun K hK => ?_) AllReadyH.nil
              go_simp
              refine hK.out _ _ (SST.out _ _) (fun _ => ?_)
              clear hK
              refine wpAnyH_ready (rs := [24]) (by kernel_rfl) (by simp) ?_
              refine AllReadyH.cons rfl (fun K hK => ?_) AllReadyH.nil
              go_simp
              refine hK.out _ _ (SST.out _ _) (fun _ => ?_)
              clear hK
              refine wpAnyH_done (by kernel_rfl) ?_ _
              go_wp2_with fail
              refine bodyPost_ret (v := .tuple #[.agg #[.slice none 0 0, .slice none 0 0], .int .i64 6]) (by simp [results, Try.results64, go_sem, r0, r1]) rfl ⟨(C4.out.bel.setCell (by simp; omega) _).setCell (by simp; omega) _, _, _, rfl, Own.nil _ _, Own.nil _ _, .inl rfl⟩
        · have htd : decide (X.tail = Y.tail) = false := decide_eq_false htl
          rw [htd]
          have e := PE.out
          rw [if_neg htl] at e
          simp only [Prod.mk.injEq] at e
          obtain ⟨rfl, rfl, rfl⟩ := e
          have C6 := hideP (PX.out w6 D6.out).2.2.2.2
          clear htd htl PE KEQ
          obtain ⟨r0, r1, f2⟩ := C6.out.res
          go_wp2_with fail
          refine bodyPost_ret (v := .tuple #[.agg #[.slice none 0 0, .slice none 0 0], .int .i64 3]) (by simp [results, Try.results64, go_sem, r0, r1]) rfl ⟨(C6.out.bel.setCell (by simp; omega) _).setCell (by simp; omega) _, _, _, rfl, Own.nil _ _, Own.nil _ _, .inl rfl⟩
    · have t2 : ((ys.length : Int) == (xs.length : Int) + 1) = false := by rw [beq_eq_false_iff_ne]; omega
      have eA : Pl.asR xs ys.length = xs := by unfold Pl.asR; rw [if_neg (by omega)]
      have eB : Pl.asR ys xs.length = ys := by unfold Pl.asR; rw [if_neg (by omega)]
      have e := HE.out
      rw [eA, eB] at e
      by_cases hc3 : xs.length = ys.length
      · rw [if_pos hc3] at e
        have eL := hc3
        obtain ⟨m, hm⟩ : ∃ m, m + 1 = xs.length := ⟨xs.length - 1, by omega⟩
        obtain ⟨n1, hn1⟩ : ∃ n1, xs.getD 0 0 = n1 := ⟨_, rfl⟩
        obtain ⟨n2, hn2⟩ : ∃ n2, ys.getD 0 0 = n2 := ⟨_, rfl⟩
        have hx1 : 0 ≤ n1 := by rw [← hn1]; exact hx0.1
        have hx2 : n1 ≤ 1000 := by rw [← hn1]; exact hx0.2
        have hy1 : 0 ≤ n2 := by rw [← hn2]; exact hy0.1
        have hy2 : n2 ≤ 1000 := by rw [← hn2]; exact hy0.2
        rw [hn1, hn2] at e
        obtain ⟨X, hX⟩ : ∃ X, X = xs := ⟨_, rfl⟩
        obtain ⟨Y, hY⟩ : ∃ Y, Y = ys := ⟨_, rfl⟩
        rw [← hX, ← hY] at e
        rw [← hX] at hn1
        rw [← hY] at hn2
        have PE := hideP e
        have hXl : X.length = m + 1 := by rw [hX]; omega
        have hYl : Y.length = m + 1 := by rw [hY]; omega
        have hm2 : m ≤ 2 := by omega
        obtain ⟨kA, hkA⟩ : ∃ kA, kA = xs.length := ⟨_, rfl⟩
        obtain ⟨kB, hkB⟩ : ∃ kB, kB = ys.length := ⟨_, rfl⟩
        have CX : Hid (Cs w X da Y db gA kA g1 k1 gB kB g3 k3 wx) := by rw [hkA, hkB, hX, hY]; exact C1
        rw [← hm] at z0 t1 t2
        rw [show ys.length = m + 1 by omega] at z2 t1 t2
        clear eL
        clear HE e C1 eA eB hX hY hkA hkB hm hc1 hc2 hc3
        go_upto_region 7 with fail
        clear z0 z1 z2 z3 t1 t2
        obtain ⟨oA, hoA⟩ : ∃ oA : Nat, oA = if kA = 1 then 0 else 1 := ⟨_, rfl⟩
        obtain ⟨oB, hoB⟩ : ∃ oB : Nat, oB = if kB = 1 then 0 else 1 := ⟨_, rfl⟩
        have HOA := hideP hoA
        have HOB := hideP hoB
        have PX : Hid (∀ w', Below wx.heap.size wx w' → (w'.cell? ⟨w.heap.size, 0, none⟩ = some (.slice (some ⟨gA, 0, none⟩) (m + 1) kA) ∧ w'.cell? ⟨w.heap.size, 1, none⟩ = some (.slice (some ⟨g1, 0, none⟩) da.length k1)) ∧ (w'.cell? ⟨w.heap.size + 1, 0, none⟩ = some (.slice (some ⟨gB, 0, none⟩) (m + 1) kB) ∧ w'.cell? ⟨w.heap.size + 1, 1, none⟩ = some (.slice (some ⟨g3, 0, none⟩) db.length k3)) ∧ (w'.cell? ⟨gA, 0, none⟩ = some (.int .i64 n1) ∧ w'.cell? ⟨gB, 0, none⟩ = some (.int .i64 n2)) ∧ (Rd w'.heap.size w' (.slice (some ⟨gA, oA, none⟩) m (kA - 1)) X.tail ∧ Rd w'.heap.size w' (.slice (some ⟨gB, oB, none⟩) m (kB - 1)) Y.tail) ∧ Cs w X da Y db gA kA g1 k1 gB kB g3 k3 w') := fun w' hb => by
          have k := CX.out.keep hb
          have z0 := k.a0
          have z1 := k.b0
          rw [hXl] at z0
          rw [hYl] at z1
          have zc := k.ca.1
          have zd := k.cb.1
          have x0 := (rd_cell k.xa (i := 0) (by omega)).2
          have y0 := (rd_cell k.xb (i := 0) (by omega)).2
          rw [Nat.add_zero, hn1] at x0
          rw [Nat.add_zero, hn2] at y0
          exact ⟨⟨z0, k.a1⟩, ⟨z1, k.b1⟩, ⟨x0, y0⟩, ⟨rd_onek hXl (by omega) hoA k.xa, rd_onek hYl (by omega) hoB k.xb⟩, k⟩
        have KEQ : Hid (∀ w', Below wx.heap.size wx w' → Calls Try.prog 67 #[.slice (some ⟨gA, oA, none⟩) m (kA - 1), .slice (some ⟨gB, oB, none⟩) m (kB - 1)] w' fun e w'' => e = .returned (.bool (decide (X.tail = Y.tail))) ∧ Below w'.heap.size w' w'') := fun w' hb => l2Same_any _ _ X.tail Y.tail w' (by rw [List.length_tail]; omega) (by rw [List.length_tail]; omega) (PX.out w' hb).2.2.2.1.1 (PX.out w' hb).2.2.2.1.2
        have htlX : X.tail.length = m := by rw [List.length_tail]; omega
        have A3 : Hid (∀ (W : World) o, Below W.heap.size W (W.alloc o)) := fun W o => (Below.refl _ _).alloc (Nat.le_refl _) _
        have hszx := CX.out.size
        have c0 := (PX.out wx (Below.refl _ _)).1.1
        have c1 := (PX.out wx (Below.refl _ _)).2.1.1
        clear hoA hoB hXl hYl hn1 hn2 CX
        go_upto_region 9 with fail
        clear c0 c1
        have DR := hideP (show Below wx.heap.size wx wx.drew from (Below.refl _ _).drew)
        refine wp_region_held (S := fun w' => Below wx.heap.size wx w') (by kernel_rfl) ?_
        change wpAnyH _ _ _ _ _ _ _ _ (World.drew _)
        generalize World.drew wx = wd at DR ⊢
        refine wpAnyH_take (i := 0) (v := .pointer (some ⟨w.heap.size, 0, none⟩)) rfl (by kernel_rfl) (by kernel_rfl) (by kernel_rfl) (fun _ _ _ h => h) (Or.inl ⟨by rfl, ?_⟩) DR.out ?_
        · intro w' hS
          clear hS
          go_simp
        refine wpAnyH_take (i := 1) (v := .slice (some ⟨gA, 0, none⟩) (m + 1) kA) rfl (by kernel_rfl) (by kernel_rfl) (by kernel_rfl) (fun _ _ _ h => h) (Or.inl ⟨by rfl, ?_⟩) DR.out ?_
        · intro w' hS
          have := (PX.out w' hS).1.1
          clear hS
          go_simp
        refine wpAnyH_take (i := 2) (v := .slice (some ⟨gA, oA, none⟩) m (kA - 1)) rfl (by kernel_rfl) (by kernel_rfl) (by kernel_rfl) (fun _ _ _ h => h) (Or.inl ⟨by rfl, fun w' _ => exec_lok (.tmp 49) (.const (.int .i64 1)) gA m kA oA HOA.out (by kernel_rfl) (by kernel_rfl) (by kernel_rfl) w'⟩) DR.out ?_
        refine wpAnyH_take (i := 3) (v := .pointer (some ⟨w.heap.size + 1, 0, none⟩)) rfl (by kernel_rfl) (by kernel_rfl) (by kernel_rfl) (fun _ _ _ h => h) (Or.inl ⟨by rfl, ?_⟩) DR.out ?_
        · intro w' hS
          clear hS
          go_simp
        refine wpAnyH_take (i := 4) (v := .slice (some ⟨gB, 0, none⟩) (m + 1) kB) rfl (by kernel_rfl) (by kernel_rfl) (by kernel_rfl) (fun _ _ _ h => h) (Or.inl ⟨by rfl, ?_⟩) DR.out ?_
        · intro w' hS
          have := (PX.out w' hS).2.1.1
          clear hS
          go_simp
        refine wpAnyH_take (i := 5) (v := .slice (some ⟨gB, oB, none⟩) m (kB - 1)) rfl (by kernel_rfl) (by kernel_rfl) (by kernel_rfl) (fun _ _ _ h => h) (Or.inl ⟨by rfl, fun w' _ => exec_lok (.tmp 52) (.const (.int .i64 1)) gB m kB oB HOB.out (by kernel_rfl) (by kernel_rfl) (by kernel_rfl) w'⟩) DR.out ?_
        refine wpAnyH_ready (rs := [6]) (by kernel_rfl) (by simp) ?_
        refine AllReadyH.cons rfl (fun K hK => ?_) AllReadyH.nil
        go_simp
        refine (KEQ.out wd DR.out).mono ?_
        rintro e w6 ⟨rfl, hb6⟩
        have D6 := hideP (DR.out.trans (hb6.mono DR.out.size))
        clear hb6 DR
        refine hK.out _ _ D6.out (fun _ => ?_)
        clear hK
        refine wpAnyH_ready (rs := [7]) (by kernel_rfl) (by simp) ?_
        refine AllReadyH.cons rfl (fun K hK => ?_) AllReadyH.nil
        go_simp
        refine hK.out _ _ D6.out (fun _ => ?_)
        clear hK
        refine wpAnyH_done (by kernel_rfl) ?_ _
        have hs6 := D6.out.size
        by_cases htl : X.tail = Y.tail
        · have htd : decide (X.tail = Y.tail) = true := decide_eq_true htl
          rw [htd]
          have e := PE.out
          rw [if_pos htl] at e
          have PE2 := hideP e
          clear e htd htl PE KEQ
          have PX6 : Hid (∀ w', Below w6.heap.size w6 w' → Below wx.heap.size wx w') := fun w' hb => D6.out.trans (hb.mono D6.out.size)
          have LB : Hid (∀ w', Below (w.heap.size + 1 + 1) w6 w' → (w'.cell? ⟨w.heap.size, 0, none⟩ = some (.slice (some ⟨gA, 0, none⟩) (m + 1) kA) ∧ w'.cell? ⟨w.heap.size, 1, none⟩ = some (.slice (some ⟨g1, 0, none⟩) da.length k1)) ∧ (w'.cell? ⟨w.heap.size + 1, 0, none⟩ = some (.slice (some ⟨gB, 0, none⟩) (m + 1) kB) ∧ w'.cell? ⟨w.heap.size + 1, 1, none⟩ = some (.slice (some ⟨g3, 0, none⟩) db.length k3))) := fun w' hb => by
            have z := PX.out w6 (PX6.out w6 (Below.refl _ _))
            exact ⟨⟨(hb.cell (p := ⟨w.heap.size, 0, none⟩) (by show w.heap.size < _; omega)).trans z.1.1, (hb.cell (p := ⟨w.heap.size, 1, none⟩) (by show w.heap.size < _; omega)).trans z.1.2⟩, (hb.cell (p := ⟨w.heap.size + 1, 0, none⟩) (by show w.heap.size + 1 < _; omega)).trans z.2.1.1, (hb.cell (p := ⟨w.heap.size + 1, 1, none⟩) (by show w.heap.size + 1 < _; omega)).trans z.2.1.2⟩
          go_upto_region 11 with fail
          have DR := hideP (show Below w6.heap.size w6 w6.drew from (Below.refl _ _).drew)
          refine wp_region_held (S := fun w' => Below (w.heap.size + 1 + 1) w6 w' ∧ w'.cell? ⟨gA, 0, none⟩ = some (.int .i64 n1) ∧ w'.cell? ⟨gB, 0, none⟩ = some (.int .i64 n2)) (by kernel_rfl) ?_
          change wpAnyH _ _ _ _ _ _ _ _ (World.drew _)
          generalize World.drew w6 = wd at DR ⊢
          have hSle : w.heap.size + 1 + 1 ≤ w6.heap.size := by omega
          have SX : Hid (∀ w', Below w6.heap.size w6 w' → Below (w.heap.size + 1 + 1) w6 w' ∧ w'.cell? ⟨gA, 0, none⟩ = some (.int .i64 n1) ∧ w'.cell? ⟨gB, 0, none⟩ = some (.int .i64 n2)) := fun w' hb => ⟨hb.mono hSle, (PX.out w' (PX6.out w' hb)).2.2.1⟩
          have SW := hideP (SX.out wd DR.out)
          have hwd := DR.out.size
          have OL := hideP (owns_one wd (n1 + n2) wd.heap.size (Nat.le_refl _))
          have AL := hideP (A3.out wd (.cells #[.int .i64 (n1 + n2)] 3))
          have RLX : Hid (Rd (wd.alloc (.cells #[.int .i64 (n1 + n2)] 3)).heap.size (wd.alloc (.cells #[.int .i64 (n1 + n2)] 3)) (.slice (some ⟨gA, oA, none⟩) m (kA - 1)) X.tail) := (PX.out _ (PX6.out _ (DR.out.trans (AL.out.mono hwd)))).2.2.2.1.1
          refine wpAnyH_take (i := 0) (v := .pointer (some ⟨w.heap.size, 0, none⟩)) rfl (by kernel_rfl) (by kernel_rfl) (by kernel_rfl) (fun _ _ _ h => h) (Or.inl ⟨by rfl, ?_⟩) SW.out ?_
          · intro w' hS
            clear hS
            go_simp
          refine wpAnyH_take (i := 1) (v := .slice (some ⟨gA, 0, none⟩) (m + 1) kA) rfl (by kernel_rfl) (by kernel_rfl) (by kernel_rfl) (fun _ _ _ h => h) (Or.inl ⟨by rfl, ?_⟩) SW.out ?_
          · intro w' hS
            have := (LB.out w' hS.1).1.1
            clear hS
            go_simp
          refine wpAnyH_take (i := 2) (v := .pointer (some ⟨gA, 0, none⟩)) rfl (by kernel_rfl) (by kernel_rfl) (by kernel_rfl) (fun _ _ _ h => h) (Or.inl ⟨by rfl, ?_⟩) SW.out ?_
          · intro w' hS
            clear hS
            go_simp
          refine wpAnyH_take (i := 3) (v := .int .i64 n1) rfl (by kernel_rfl) (by kernel_rfl) (by kernel_rfl) (fun _ _ _ h => h) (Or.inl ⟨by rfl, ?_⟩) SW.out ?_
          · intro w' hS
            have := hS.2.1
            clear hS
            go_simp
          refine wpAnyH_take (i := 4) (v := .pointer (some ⟨w.heap.size + 1, 0, none⟩)) rfl (by kernel_rfl) (by kernel_rfl) (by kernel_rfl) (fun _ _ _ h => h) (Or.inl ⟨by rfl, ?_⟩) SW.out ?_
          · intro w' hS
            clear hS
            go_simp
          refine wpAnyH_take (i := 5) (v := .slice (some ⟨gB, 0, none⟩) (m + 1) kB) rfl (by kernel_rfl) (by kernel_rfl) (by kernel_rfl) (fun _ _ _ h => h) (Or.inl ⟨by rfl, ?_⟩) SW.out ?_
          · intro w' hS
            have := (LB.out w' hS.1).2.1
            clear hS
            go_simp
          refine wpAnyH_take (i := 6) (v := .pointer (some ⟨gB, 0, none⟩)) rfl (by kernel_rfl) (by kernel_rfl) (by kernel_rfl) (fun _ _ _ h => h) (Or.inl ⟨by rfl, ?_⟩) SW.out ?_
          · intro w' hS
            clear hS
            go_simp
          refine wpAnyH_take (i := 7) (v := .int .i64 n2) rfl (by kernel_rfl) (by kernel_rfl) (by kernel_rfl) (fun _ _ _ h => h) (Or.inl ⟨by rfl, ?_⟩) SW.out ?_
          · intro w' hS
            have := hS.2.2
            clear hS
            go_simp
          refine wpAnyH_take (i := 8) (v := .int .i64 (n1 + n2)) rfl (by kernel_rfl) (by kernel_rfl) (by kernel_rfl) (fun _ _ _ h => h) (Or.inl ⟨by rfl, ?_⟩) SW.out ?_
          · intro w' hS
            clear hS
            go_simp
            rw [IntKind.wrap_i64]
            omega
          refine wpAnyH_take (i := 10) (v := .pointer (some ⟨w.heap.size, 0, none⟩)) rfl (by kernel_rfl) (by kernel_rfl) (by kernel_rfl) (fun _ _ _ h => h) (Or.inl ⟨by rfl, ?_⟩) SW.out ?_
          · intro w' hS
            clear hS
            go_simp
          refine wpAnyH_take (i := 11) (v := .slice (some ⟨gA, 0, none⟩) (m + 1) kA) rfl (by kernel_rfl) (by kernel_rfl) (by kernel_rfl) (fun _ _ _ h => h) (Or.inl ⟨by rfl, ?_⟩) SW.out ?_
          · intro w' hS
            have := (LB.out w' hS.1).1.1
            clear hS
            go_simp
          refine wpAnyH_take (i := 12) (v := .slice (some ⟨gA, oA, none⟩) m (kA - 1)) rfl (by kernel_rfl) (by kernel_rfl) (by kernel_rfl) (fun _ _ _ h => h) (Or.inl ⟨by rfl, fun w' _ => exec_lok (.tmp 68) (.const (.int .i64 1)) gA m kA oA HOA.out (by kernel_rfl) (by kernel_rfl) (by kernel_rfl) w'⟩) SW.out ?_
          refine wpAnyH_take (i := 14) (v := .pointer (some ⟨w.heap.size, 1, none⟩)) rfl (by kernel_rfl) (by kernel_rfl) (by kernel_rfl) (fun _ _ _ h => h) (Or.inl ⟨by rfl, ?_⟩) SW.out ?_
          · intro w' hS
            clear hS
            go_simp
          refine wpAnyH_take (i := 15) (v := .slice (some ⟨g1, 0, none⟩) da.length k1) rfl (by kernel_rfl) (by kernel_rfl) (by kernel_rfl) (fun _ _ _ h => h) (Or.inl ⟨by rfl, ?_⟩) SW.out ?_
          · intro w' hS
            have := (LB.out w' hS.1).1.2
            clear hS
            go_simp
          refine wpAnyH_take (i := 17) (v := .pointer (some ⟨w.heap.size + 1, 1, none⟩)) rfl (by kernel_rfl) (by kernel_rfl) (by kernel_rfl) (fun _ _ _ h => h) (Or.inl ⟨by rfl, ?_⟩) SW.out ?_
          · intro w' hS
            clear hS
            go_simp
          refine wpAnyH_take (i := 18) (v := .slice (some ⟨g3, 0, none⟩) db.length k3) rfl (by kernel_rfl) (by kernel_rfl) (by kernel_rfl) (fun _ _ _ h => h) (Or.inl ⟨by rfl, ?_⟩) SW.out ?_
          · intro w' hS
            have := (LB.out w' hS.1).2.2
            clear hS
            go_simp
          refine wpAnyH_ready (rs := [9]) (by kernel_rfl) (by simp) ?_
          refine AllReadyH.cons rfl (fun K hK => ?_) AllReadyH.nil
          go_simp
          refine hK.out _ _ (SX.out _ (DR.out.trans (AL.out.mono hwd))) (fun _ => ?_)
          clear hK
          refine wpAnyH_ready (rs := [13]) (by kernel_rfl) (by simp) ?_
          refine AllReadyH.cons rfl (fun K hK => ?_) AllReadyH.nil
          refine step_append_rd (base := wd.heap.size) (wd.alloc (.cells #[.int .i64 (n1 + n2)] 3)) rfl (.tmp 66) (.tmp 69) rfl (.slice (some ⟨wd.heap.size, 0, none⟩) 1 1) (.slice (some ⟨gA, oA, none⟩) m (kA - 1)) rfl rfl 1 [n1 + n2] X.tail OL.out RLX.out (by omega) (by simp) ?_
          intro v1 w1 ho1 hg1
          rw [htlX] at ho1
          have B1 : Hid (Below wd.heap.size wd w1) := AL.out.grown hg1 (by simp) (fun k hk => (OL.out.lt k hk).1)
          have D1' := hideP (DR.out.trans (B1.out.mono hwd))
          obtain ⟨gv, kv, ev, _, _⟩ := row_at ho1 (by omega)
          subst ev
          have O1 : Hid (Own wd.heap.size w1 (.slice (some ⟨gv, 0, none⟩) (1 + m) kv) ((n1 + n2) :: X.tail)) := own_of_any (zs := (n1 + n2) :: X.tail) ho1
          clear ho1 hg1
          refine hK.out _ _ (SX.out _ D1'.out) (fun _ => ?_)
          clear hK
          refine wpAnyH_ready (rs := [16]) (by kernel_rfl) (by simp) ?_
          refine AllReadyH.cons rfl (fun K hK => ?_) AllReadyH.nil
          go_simp
          refine (l2Copy_at (.slice (some ⟨g1, 0, none⟩) da.length k1) da w1 (by omega) (PX.out _ (PX6.out _ D1'.out)).2.2.2.2.xd).mono ?_
          rintro e w2 ⟨gd, kd, rfl, _, _, ho2, hb2⟩
          have D2' := hideP (D1'.out.trans (hb2.mono D1'.out.size))
          have O2 := hideP ho2
          have B12 := hideP hb2
          clear ho2 hb2
          refine hK.out _ _ (SX.out _ D2'.out) (fun _ => ?_)
          clear hK
          have RE : Hid (Rd w2.heap.size w2 (.slice (some ⟨g3, 0, none⟩) db.length k3) db) := (PX.out _ (PX6.out _ D2'.out)).2.2.2.2.xe
          refine wpAnyH_ready (rs := [19]) (by kernel_rfl) (by simp) ?_
          refine AllReadyH.cons rfl (fun K hK => ?_) AllReadyH.nil
          refine step_append_rd (base := w1.heap.size) w2 rfl (.tmp 73) (.tmp 75) rfl (.slice (some ⟨gd, 0, none⟩) da.length kd) (.slice (some ⟨g3, 0, none⟩) db.length k3) rfl rfl da.length da db O2.out RE.out (by omega) B12.out.size ?_
          intro v3 w3 ho3 hg3
          have B13 : Hid (Below w1.heap.size w1 w3) := B12.out.grown hg3 B12.out.size (fun k hk => (O2.out.lt k hk).1)
          have D3' := hideP (D1'.out.trans (B13.out.mono D1'.out.size))
          have O3 : Hid (Own w1.heap.size w3 v3 (da ++ db)) := own_of_any (zs := da ++ db) ho3
          have O13 := hideP (O1.out.keep B13.out)
          obtain ⟨zd, yd, ed⟩ := O3.out.form
          rw [List.length_append] at ed
          subst ed
          clear ho3 hg3
          refine hK.out _ _ (SX.out _ D3'.out) (fun _ => ?_)
          clear hK
          have AP := hideP (apart_right (B := w1.heap.size) O3.out O1.out.lt)
          have hs13 := B13.out.size
          have hs1 := B1.out.size
          have htX : 1 + m = ((n1 + n2) :: X.tail).length := by rw [List.length_cons, htlX, Nat.add_comm]
          have KM : Hid (Calls Try.prog 78 #[.slice (some ⟨gv, 0, none⟩) (1 + m) kv, .slice zd (da.length + db.length) yd] w3 fun e w' => Below w3.heap.size w3 w' ∧ ((Pl.fitsB ((n1 + n2) :: X.tail) = true ∧ e = .returned (.tuple #[.agg #[.slice (some ⟨gv, 0, none⟩) (1 + m) kv, .slice zd (da.length + db.length) yd], .int .i64 0])) ∨ (Pl.fitsB ((n1 + n2) :: X.tail) = false ∧ e = .returned (.tuple #[.agg #[.slice none 0 0, .slice none 0 0], .int .i64 6])))) := by
            have r := O13.out.rd
            rw [htX] at r ⊢
            exact l2Made_any _ _ zd _ kv yd ((n1 + n2) :: X.tail) w3 (by rw [← htX]; omega) r (Nat.le_refl _)
          have HTX := hideP htX
          clear htX
          refine wpAnyH_ready (rs := [20]) (by kernel_rfl) (by simp) ?_
          refine AllReadyH.cons rfl (fun K hK => ?_) AllReadyH.nil
          go_simp
          refine KM.out.mono ?_
          rintro e w4 ⟨hb4, hor⟩
          have D4 := hideP (D3'.out.trans (hb4.mono D3'.out.size))
          have C4 := hideP (PX.out _ (PX6.out _ D4.out)).2.2.2.2
          have B34 := hideP hb4
          have hs4 := hb4.size
          have gne1 : ¬ gA = w.heap.size + 1 + 1 := fun e => by
            have z := (PX.out _ (PX6.out _ D4.out)).2.2.1.1
            rw [e, C4.out.res.1] at z
            cases z
          have gne2 : ¬ gB = w.heap.size + 1 + 1 := fun e => by
            have z := (PX.out _ (PX6.out _ D4.out)).2.2.1.2
            rw [e, C4.out.res.1] at z
            cases z
          have SST : Hid (∀ v0 v1, Below (w.heap.size + 1 + 1) w6 ((w4.setCell ⟨w.heap.size + 1 + 1, 0, none⟩ v0).setCell ⟨w.heap.size + 1 + 1, 1, none⟩ v1) ∧ ((w4.setCell ⟨w.heap.size + 1 + 1, 0, none⟩ v0).setCell ⟨w.heap.size + 1 + 1, 1, none⟩ v1).cell? ⟨gA, 0, none⟩ = some (.int .i64 n1) ∧ ((w4.setCell ⟨w.heap.size + 1 + 1, 0, none⟩ v0).setCell ⟨w.heap.size + 1 + 1, 1, none⟩ v1).cell? ⟨gB, 0, none⟩ = some (.int .i64 n2)) := fun v0 v1 => by
            have z := SX.out _ D4.out
            refine ⟨(z.1.setCell (by simp) _).setCell (by simp) _, ?_, ?_⟩
            · rw [← z.2.1]
              exact (World.cell?_of_block (heap_setCell_other _ _ _ _ gne1)).trans (World.cell?_of_block (heap_setCell_other _ _ _ _ gne1))
            · rw [← z.2.2]
              exact (World.cell?_of_block (heap_setCell_other _ _ _ _ gne2)).trans (World.cell?_of_block (heap_setCell_other _ _ _ _ gne2))
          clear hb4 gne1 gne2
          obtain ⟨r0, r1, f2⟩ := C4.out.res
          rcases hor with ⟨hf, rfl⟩ | ⟨hf, rfl⟩
          · have e := PE2.out
            rw [if_pos hf] at e
            simp only [Prod.mk.injEq] at e
            obtain ⟨rfl, rfl, rfl⟩ := e
            clear PE2 hf KM
            refine hK.out _ _ (SX.out _ D4.out) (fun _ => ?_)
            clear hK
            refine wpAnyH_ready (rs := [21, 22]) (by kernel_rfl) (by simp) ?_
            refine AllReadyH.cons rfl (fun K hK => ?_) (AllReadyH.cons rfl (fun K hK => ?_) AllReadyH.nil)
            · go_simp
              refine hK.out _ _ (SX.out _ D4.out) (fun _ => ?_)
              clear hK
              refine wpAnyH_ready (rs := [22]) (by kernel_rfl) (by simp) ?_
              refine AllReadyH.cons rfl (fun K hK => ?_) AllReadyH.nil
              go_simp
              refine hK.out _ _ (SX.out _ D4.out) (fun _ => ?_)
              clear hK
              refine wpAnyH_ready (rs := [23]) (by kernel_rfl) (by simp) ?_
              refine AllReadyH.cons rfl (fun K hK => ?_) AllReadyH.nil
              go_simp
              refine hK.out _ _ (SST.out _ _) (fun _ => ?_)
              clear hK
              refine wpAnyH_ready (rs := [24]) (by kernel_rfl) (by simp) ?_
              refine AllReadyH.cons rfl (fun K hK => ?_) AllReadyH.nil
              go_simp
              refine hK.out _ _ (SST.out _ _) (fun _ => ?_)
              clear hK
              refine wpAnyH_done (by kernel_rfl) ?_ _
              go_wp2_with fail
              refine bodyPost_ret (v := .tuple #[.agg #[.slice (some ⟨gv, 0, none⟩) (1 + m) kv, .slice zd (da.length + db.length) yd], .int .i64 0]) (by simp [results, Try.results64, go_sem, r0, r1]) rfl ⟨(C4.out.bel.setCell (by simp; omega) _).setCell (by simp; omega) _, _, _, rfl, ?_, ?_, AP.out⟩
              · exact Own.base (B := wd.heap.size) (Own.store (Own.store (O13.out.keep B34.out) (by omega) _) (by omega) _) (by omega)
              · exact Own.base (B := w1.heap.size) (Own.store (Own.store (O3.out.keep B34.out) (by omega) _) (by omega) _) (by omega)
            · go_simp
              refine hK.out _ _ (SX.out _ D4.out) (fun _ => ?_)
              clear hK
              refine wpAnyH_ready (rs := [21]) (by kernel_rfl) (by simp) ?_
              refine AllReadyH.cons rfl (fun K hK => ?_) AllReadyH.nil
              go_simp
              refine hK.out _ _ (SX.out _ D4.out) (fun _ => ?_)
              clear hK
              refine wpAnyH_ready (rs := [23]) (by kernel_rfl) (by simp) ?_
              refine AllReadyH.cons rfl (fun K hK => ?_) AllReadyH.nil
              go_simp
              refine hK.out _ _ (SST.out _ _) (fun _ => ?_)
              clear hK
              refine wpAnyH_ready (rs := [24]) (by kernel_rfl) (by simp) ?_
              refine AllReadyH.cons rfl (fun K hK => ?_) AllReadyH.nil
              go_simp
              refine hK.out _ _ (SST.out _ _) (fun _ => ?_)
              clear hK
              refine wpAnyH_done (by kernel_rfl) ?_ _
              go_wp2_with fail
              refine bodyPost_ret (v := .tuple #[.agg #[.slice (some ⟨gv, 0, none⟩) (1 + m) kv, .slice zd (da.length + db.length) yd], .int .i64 0]) (by simp [results, Try.results64, go_sem, r0, r1]) rfl ⟨(C4.out.bel.setCell (by simp; omega) _).setCell (by simp; omega) _, _, _, rfl, ?_, ?_, AP.out⟩
              · exact Own.base (B := wd.heap.size) (Own.store (Own.store (O13.out.keep B34.out) (by omega) _) (by omega) _) (by omega)
              · exact Own.base (B := w1.heap.size) (Own.store (Own.store (O3.out.keep B34.out) (by omega) _) (by omega) _) (by omega)
          · have e := PE2.out
            rw [if_neg (by rw [hf]; decide)] at e
            simp only [Prod.mk.injEq] at e
            obtain ⟨rfl, rfl, rfl⟩ := e
            clear PE2 hf KM
            refine hK.out _ _ (SX.out _ D4.out) (fun _ => ?_)
            clear hK
            refine wpAnyH_ready (rs := [21, 22]) (by kernel_rfl) (by simp) ?_
            refine AllReadyH.cons rfl (fun K hK => ?_) (AllReadyH.cons rfl (fun K hK => ?_) AllReadyH.nil)
            · go_simp
              refine hK.out _ _ (SX.out _ D4.out) (fun _ => ?_)
              clear hK
              refine wpAnyH_ready (rs := [22]) (by kernel_rfl) (by simp) ?_
              refine AllReadyH.cons rfl (fun K hK => ?_) AllReadyH.nil
              go_simp
              refine hK.out _ _ (SX.out _ D4.out) (fun _ => ?_)
              clear hK
              refine wpAnyH_ready (rs := [23]) (by kernel_rfl) (by simp) ?_
              refine AllReadyH.cons rfl (fun K hK => ?_) AllReadyH.nil
              go_simp
              refine hK.out _ _ (SST.out _ _) (fun _ => ?_)
              clear hK
              refine wpAnyH_ready (rs := [24]) (by kernel_rfl) (by simp) ?_
              refine AllReadyH.cons rfl (fun K hK => ?_) AllReadyH.nil
              go_simp
              refine hK.out _ _ (SST.out _ _) (fun _ => ?_)
              clear hK
              refine wpAnyH_done (by kernel_rfl) ?_ _
              go_wp2_with fail
              refine bodyPost_ret (v := .tuple #[.agg #[.slice none 0 0, .slice none 0 0], .int .i64 6]) (by simp [results, Try.results64, go_sem, r0, r1]) rfl ⟨(C4.out.bel.setCell (by simp; omega) _).setCell (by simp; omega) _, _, _, rfl, Own.nil _ _, Own.nil _ _, .inl rfl⟩
            · go_simp
              refine hK.out _ _ (SX.out _ D4.out) (fun _ => ?_)
              clear hK
              refine wpAnyH_ready (rs := [21]) (by kernel_rfl) (by simp) ?_
              refine AllReadyH.cons rfl (fun K hK => ?_) AllReadyH.nil
              go_simp
              refine hK.out _ _ (SX.out _ D4.out) (fun _ => ?_)
              clear hK
              refine wpAnyH_ready (rs := [23]) (by kernel_rfl) (by simp) ?_
              refine AllReadyH.cons rfl (fun K hK => ?_) AllReadyH.nil
              go_simp
              refine hK.out _ _ (SST.out _ _) (fun _ => ?_)
              clear hK
              refine wpAnyH_ready (rs := [24]) (by kernel_rfl) (by simp) ?_
              refine AllReadyH.cons rfl (fun K hK => ?_) AllReadyH.nil
              go_simp
              refine hK.out _ _ (SST.out _ _) (fun _ => ?_)
              clear hK
              refine wpAnyH_done (by kernel_rfl) ?_ _
              go_wp2_with fail
              refine bodyPost_ret (v := .tuple #[.agg #[.slice none 0 0, .slice none 0 0], .int .i64 6]) (by simp [results, Try.results64, go_sem, r0, r1]) rfl ⟨(C4.out.bel.setCell (by simp; omega) _).setCell (by simp; omega) _, _, _, rfl, Own.nil _ _, Own.nil _ _, .inl rfl⟩
        · have htd : decide (X.tail = Y.tail) = false := decide_eq_false htl
          rw [htd]
          have e := PE.out
          rw [if_neg htl] at e
          simp only [Prod.mk.injEq] at e
          obtain ⟨rfl, rfl, rfl⟩ := e
          have C6 := hideP (PX.out w6 D6.out).2.2.2.2
          clear htd htl PE KEQ
          obtain ⟨r0, r1, f2⟩ := C6.out.res
          go_wp2_with fail
          refine bodyPost_ret (v := .tuple #[.agg #[.slice none 0 0, .slice none 0 0], .int .i64 3]) (by simp [results, Try.results64, go_sem, r0, r1]) rfl ⟨(C6.out.bel.setCell (by simp; omega) _).setCell (by simp; omega) _, _, _, rfl, Own.nil _ _, Own.nil _ _, .inl rfl⟩
      · rw [if_neg hc3] at e
        simp only [Prod.mk.injEq] at e
        obtain ⟨rfl, rfl, rfl⟩ := e
        have t3 : ((xs.length : Int) != (ys.length : Int)) = true := by rw [bne_iff_ne]; omega
        obtain ⟨r0, r1, f2⟩ := C1.out.res
        have hszx := C1.out.size
        clear HE eA eB hc1 hc2 hc3
        generalize xs.length = la at *
        generalize ys.length = lb at *
        go_wp2_with fail
        refine bodyPost_ret (v := .tuple #[.agg #[.slice none 0 0, .slice none 0 0], .int .i64 2]) (by simp [results, Try.results64, go_sem, r0, r1]) rfl ⟨(C1.out.bel.setCell (by simp; omega) _).setCell (by simp; omega) _, _, _, rfl, Own.nil _ _, Own.nil _ _, .inl rfl⟩

theorem l2Cat_any (b0 b1 b2 b3 : Nat) (sa da sb db : List Int) (w : World)
    (h0 : Rd w.heap.size w (.slice (some ⟨b0, 0, none⟩) sa.length sa.length) sa) (h1 : Rd w.heap.size w (.slice (some ⟨b1, 0, none⟩) da.length da.length) da) (h2 : Rd w.heap.size w (.slice (some ⟨b2, 0, none⟩) sb.length sb.length) sb) (h3 : Rd w.heap.size w (.slice (some ⟨b3, 0, none⟩) db.length db.length) db)
    (oka : Pl.okB sa da = true) (okb : Pl.okB sb db = true) (c : Int) (SS DD : List Int) (hres : Pl.catM sa da sb db = (c, SS, DD)) :
    Calls Try.prog 64 #[.agg #[.slice (some ⟨b0, 0, none⟩) sa.length sa.length, .slice (some ⟨b1, 0, none⟩) da.length da.length], .agg #[.slice (some ⟨b2, 0, none⟩) sb.length sb.length, .slice (some ⟨b3, 0, none⟩) db.length db.length]] w (FPost w c SS DD) := by
  have f : ∀ s d : List Int, Pl.okB s d = true → (1 ≤ (Pl.axesS s d).length ∧ (Pl.axesS s d).length ≤ 3) ∧ 0 ≤ (Pl.axesS s d).getD 0 0 ∧ (Pl.axesS s d).getD 0 0 ≤ 1000 := fun s d ok => by
    have okx := Pl.axes_ok ok
    obtain ⟨n, t, e⟩ := Pl.axes_cons s d
    have m := (Pl.ok_max okx).1
    rw [e] at okx m ⊢
    have hb := (Pl.ok_len okx).2
    simp only [Pl.fitsB, Pl.baseB, Bool.and_eq_true, List.all_cons] at hb
    have := Pl.inR_bd hb.1.2.1
    exact ⟨⟨by simp, m⟩, this.1, this.2⟩
  obtain ⟨⟨p1, p2⟩, p3⟩ := f sa da oka
  obtain ⟨⟨q1, q2⟩, q3⟩ := f sb db okb
  have m1 := Pl.ok_max oka
  have m2 := Pl.ok_max okb
  exact l2Cat_core b0 b1 b2 b3 sa da sb db _ _ w h0 h1 h2 h3 rfl rfl p1 p2 q1 q2 m1.1 m2.1 m1.2 m2.2 p3 q3 c SS DD hres

end Go.Proofs.Ytmobjomebmipdaa
