import Derived.Test.YtfangdhbadmolaaDo
import Derived.Test.YtfangdhbadmolaaDk
import Derived.Test.YtfangdhbadmolaaAs
namespace Go.Proofs.Ytfangdhbadmolaa
open Go.RowKit
set_option linter.unusedVariables false

namespace Pl
theorem play_ok (fs : List Fl) (l : List Ac) (a : Ac) (h : playN fs l = l.length) (hr : refB (playF fs l) a = 0) : playN fs (l ++ [a]) = l.length + 1 ∧ playF fs (l ++ [a]) = effF (playF fs l) a := by
  induction l generalizing fs with
  | nil => simp [playN, playF] at hr ⊢; simp [hr]
  | cons b r ih =>
    by_cases hb : refB fs b = 0
    · simp only [playN, playF, List.cons_append, if_pos hb, List.length_cons] at h hr ⊢
      have := ih (effF fs b) (by omega) hr
      exact ⟨by omega, this.2⟩
    · simp [playN, hb] at h
theorem play_stop (fs : List Fl) (l : List Ac) (a : Ac) (r : List Ac) (h : playN fs l = l.length) (hr : ¬ refB (playF fs l) a = 0) : playN fs (l ++ a :: r) = l.length ∧ playF fs (l ++ a :: r) = playF fs l := by
  induction l generalizing fs with
  | nil => simp [playN, playF] at hr ⊢; simp [hr]
  | cons b t ih =>
    by_cases hb : refB fs b = 0
    · simp only [playN, playF, List.cons_append, if_pos hb, List.length_cons] at h hr ⊢
      have := ih (effF fs b) (by omega) hr
      exact ⟨by omega, this.2⟩
    · simp [playN, hb] at h
theorem play_vd {fs : List Fl} (h : Vd fs) (l : List Ac) : Vd (playF fs l) := by
  induction l generalizing fs with
  | nil => exact h
  | cons b r ih =>
    unfold playF
    split
    · rename_i hb; exact ih (eff_vd h hb)
    · exact h
/-- how many acts are asked for -/
def mostN (qs : List Ac) (most : Int) : Nat := min most.toNat qs.length
def playM (fs : List Fl) (qs : List Ac) (most : Int) : List Fl × Int :=
  if diskB fs = true ∧ qs.length ≤ 10000 then (playF fs (qs.take (mostN qs most)), (playN fs (qs.take (mostN qs most)) : Int)) else (fs, 0)
theorem take_stop (fs : List Fl) (qs : List Ac) (k m : Nat) (hk : k < m) (hm : m ≤ qs.length) (h : playN fs (qs.take k) = k) (hr : ¬ refB (playF fs (qs.take k)) (aa qs k) = 0) : playN fs (qs.take m) = k ∧ playF fs (qs.take m) = playF fs (qs.take k) := by
  have hl : (qs.take k).length = k := by simp; omega
  have e : qs.take m = qs.take k ++ aa qs k :: (qs.take m).drop (k + 1) := by
    have e1 : qs.take m = (qs.take m).take k ++ (qs.take m).drop k := (List.take_append_drop k _).symm
    have e2 : (qs.take m).take k = qs.take k := by rw [List.take_take]; congr 1; omega
    have hkm : k < (qs.take m).length := by simp; omega
    have e3 : (qs.take m).drop k = (qs.take m)[k] :: (qs.take m).drop (k + 1) := List.drop_eq_getElem_cons hkm
    have e4 : (qs.take m)[k] = aa qs k := by simp [aa, List.getD, show k < qs.length by omega]
    rw [e2, e3, e4] at e1
    exact e1
  have := play_stop fs (qs.take k) (aa qs k) ((qs.take m).drop (k + 1)) (by rw [hl]; exact h) hr
  rw [← e, hl] at this
  exact this
theorem take_ok (fs : List Fl) (qs : List Ac) (k : Nat) (hk : k < qs.length) (h : playN fs (qs.take k) = k) (hr : refB (playF fs (qs.take k)) (aa qs k) = 0) : playN fs (qs.take (k + 1)) = k + 1 ∧ playF fs (qs.take (k + 1)) = effF (playF fs (qs.take k)) (aa qs k) := by
  have hl : (qs.take k).length = k := by simp; omega
  have := play_ok fs (qs.take k) (aa qs k) (by rw [hl]; exact h) hr
  rw [takeA_snoc qs k hk]
  rw [hl] at this
  exact this
end Pl

/-- what Play does -/
def PlayPost (W : World) (fs : List Pl.Fl) (qs : List Pl.Ac) (most : Int) (e : Ending) (w' : World) : Prop :=
  Below W.heap.size W w' ∧ ∃ u, e = .returned (.tuple #[.agg #[u], .int .i64 (Pl.playM fs qs most).2]) ∧ OwF W.heap.size w' u (Pl.playM fs qs most).1

/-- where the acts of a slice lie -/
theorem rdA_at {B : Nat} {w : World} {ao : Option Addr} {cap n : Nat} {qs : List Pl.Ac} (hn : qs.length = n) (h : RdA B w (.slice ao n cap) qs) :
    ∀ k, k < n → ∃ b off, ao = some ⟨b, off, none⟩ ∧ b < B ∧ ActAt w b (off + k * 4) (Pl.aa qs k) := by
  intro k hk
  obtain ⟨ao', cap', e, h⟩ := h
  simp only [Value.slice.injEq] at e
  obtain ⟨rfl, _, rfl⟩ := e
  rcases h with h0 | ⟨b, off, hb, e, hc⟩
  · omega
  · exact ⟨b, off, e, hb, hc k (by omega)⟩

/-- the sizes that the law lets through -/
def SmF (fs : List Pl.Fl) : Prop := ∀ f ∈ fs, f.1.size ≤ 1048576 ∧ f.2.size ≤ 1048576
def SmA (qs : List Pl.Ac) : Prop := ∀ a ∈ qs, a.name.size ≤ 1048576 ∧ a.to.size ≤ 1048576 ∧ a.data.size ≤ 1048576

set_option maxRecDepth 100000 in
set_option maxHeartbeats 8000000 in
/-- spec.Play -/
theorem specPlay_any (v av : Value) (fs : List Pl.Fl) (qs : List Pl.Ac) (most : Int) (w : World) (hl : fs.length ≤ 1048576) (hq : qs.length ≤ 1048576) (hz : SmF fs) (hy : SmA qs)
    (hm0 : -9223372036854775808 ≤ most) (hm1 : most ≤ 9223372036854775807) (h : RdF w.heap.size w v fs) (ha : RdA w.heap.size w av qs) :
    Calls Try.prog 6 #[.agg #[v], av, .int .i64 most] w (PlayPost w fs qs most) := by
  have H := hideP h
  have HY := hideP hy
  have HZ := hideP hz
  obtain ⟨ao, cap, e0⟩ := h.form
  subst e0
  obtain ⟨bo, cbp, e1⟩ := ha.form
  subst e1
  generalize hnq : qs.length = n at *
  have Hn := hideP hnq
  have HR := hideP (rdA_at hnq ha)
  have HA := hideP ha
  clear hnq ha h hz hy
  have B2 : Hid (∀ o1 o2 : Obj, Below w.heap.size w ((w.alloc o1).alloc o2)) := fun o1 o2 => ((Below.refl _ _).alloc (Nat.le_refl _) _).alloc (by simp) _
  go_enter Try.func6, Try.ntmps6
  go_wp2_with fail
  refine (l7Copy_any _ fs _ hl ((H.out.keep (B2.out _ _)).up (by simp; omega))).mono ?_
  rintro e w1 ⟨u, rfl, hu, hb1⟩
  obtain ⟨x1, y1, e1⟩ := hu.form
  subst e1
  have B1 := hideP ((B2.out _ _).trans (hb1.mono (by simp; omega)))
  have O1 : Hid (OwF (w.heap.size + 1 + 1) w1 (.slice x1 fs.length y1) fs) := by show OwF _ _ _ _; simpa using hu
  have s1 := hb1.size
  simp at s1
  obtain ⟨hc, hf⟩ := bcell hb1
  have q0 : w1.cell? ⟨w.heap.size, 0, none⟩ = some (.slice ao fs.length cap) := by rw [hc w.heap.size 0 (by simp; omega)]; simp [go_sem]
  have g0 : w1.frozen? ⟨w.heap.size, 0, none⟩ = false := by rw [hf w.heap.size 0 (by simp; omega)]; simp [go_sem]
  have r0 : w1.cell? ⟨w.heap.size + 1, 0, none⟩ = some (.slice none 0 0) := by rw [hc (w.heap.size + 1) 0 (by simp)]; simp [go_sem]
  have f0 : w1.frozen? ⟨w.heap.size + 1, 0, none⟩ = false := by rw [hf (w.heap.size + 1) 0 (by simp)]; simp [go_sem]
  clear hc hf hb1 hu
  go_wp2_with fail
  have FW : Hid (Below w.heap.size w (w1.setCell ⟨w.heap.size, 0, none⟩ (.slice x1 fs.length y1)) ∧ OwF (w.heap.size + 1 + 1) (w1.setCell ⟨w.heap.size, 0, none⟩ (.slice x1 fs.length y1)) (.slice x1 fs.length y1) fs ∧ (w1.setCell ⟨w.heap.size, 0, none⟩ (.slice x1 fs.length y1)).cell? ⟨w.heap.size, 0, none⟩ = some (.slice x1 fs.length y1) ∧ (w1.setCell ⟨w.heap.size, 0, none⟩ (.slice x1 fs.length y1)).frozen? ⟨w.heap.size, 0, none⟩ = false ∧ (w1.setCell ⟨w.heap.size, 0, none⟩ (.slice x1 fs.length y1)).cell? ⟨w.heap.size + 1, 0, none⟩ = some (.slice none 0 0) ∧ (w1.setCell ⟨w.heap.size, 0, none⟩ (.slice x1 fs.length y1)).frozen? ⟨w.heap.size + 1, 0, none⟩ = false ∧ w.heap.size + 1 + 1 ≤ (w1.setCell ⟨w.heap.size, 0, none⟩ (.slice x1 fs.length y1)).heap.size) :=
    ⟨B1.out.setCell (by simp) _, O1.out.store (by omega) _, World.cell?_setCell_same _ _ _ q0, by simp [go_sem, g0], by rw [World.cell?_setCell_other _ _ _ _ (by intro e; injection e with e1 _ _; omega)]; exact r0, by simp [go_sem, f0], by simp; omega⟩
  clear q0 g0 r0 f0 B1 O1
  generalize w1.setCell ⟨w.heap.size, 0, none⟩ (.slice x1 fs.length y1) = W1 at FW ⊢
  refine (specDisk_any _ fs _ (by omega) (fun f hf => by have := HZ.out f hf; omega) FW.out.2.1.rd).mono ?_
  rintro e w2 ⟨rfl, hb2⟩
  have B2' := hideP (FW.out.1.trans (hb2.mono FW.out.1.size))
  have O2 := hideP (FW.out.2.1.keep hb2)
  have hszW := FW.out.2.2.2.2.2.2
  have CC : Hid (w2.cell? ⟨w.heap.size, 0, none⟩ = some (.slice x1 fs.length y1) ∧ w2.frozen? ⟨w.heap.size, 0, none⟩ = false ∧ w2.cell? ⟨w.heap.size + 1, 0, none⟩ = some (.slice none 0 0) ∧ w2.frozen? ⟨w.heap.size + 1, 0, none⟩ = false) :=
    ⟨(hb2.cell (p := ⟨w.heap.size, 0, none⟩) (by show w.heap.size < _; omega)).trans FW.out.2.2.1, (hb2.frozen (p := ⟨w.heap.size, 0, none⟩) (by show w.heap.size < _; omega)).trans FW.out.2.2.2.1, (hb2.cell (p := ⟨w.heap.size + 1, 0, none⟩) (by show w.heap.size + 1 < _; omega)).trans FW.out.2.2.2.2.1, (hb2.frozen (p := ⟨w.heap.size + 1, 0, none⟩) (by show w.heap.size + 1 < _; omega)).trans FW.out.2.2.2.2.2.1⟩
  have hs2 : w.heap.size + 1 + 1 ≤ w2.heap.size := by have := hb2.size; omega
  clear hb2 FW hszW
  obtain ⟨q0, g0, r0, f0⟩ := CC.out
  by_cases hok : Pl.diskB fs = true ∧ n ≤ 10000
  · obtain ⟨hd, hn1⟩ := hok
    have PM : Hid (Pl.playM fs qs most = (Pl.playF fs (qs.take (Pl.mostN qs most)), (Pl.playN fs (qs.take (Pl.mostN qs most)) : Int))) := by show _ = _; unfold Pl.playM; rw [if_pos ⟨hd, by rw [Hn.out]; exact hn1⟩]
    have VD := hideP (Pl.vd_of_disk hd)
    have hn1' : ¬ (10000 : Int) < n := by omega
    rw [hd]
    have MN : Hid (Pl.mostN qs most = min most.toNat n) := by show _ = _; unfold Pl.mostN; rw [Hn.out]
    clear hd q0 g0 r0 f0
    obtain ⟨q0, _⟩ := CC.out
    go_wp2_with fail
    clear q0
    go_loopw [8, 9, 10] (fun i _ _ wr => ∃ k : Nat, k ≤ n ∧ (k = 0 ∨ (k : Int) ≤ most) ∧ i = .int .i64 k ∧ Hid (Pl.playN fs (qs.take k) = k) ∧ ∃ u, Hid (OwF (w.heap.size + 1 + 1) wr u (Pl.playF fs (qs.take k)) ∧ Below w.heap.size w wr ∧ wr.cell? ⟨w.heap.size, 0, none⟩ = some u ∧ wr.frozen? ⟨w.heap.size, 0, none⟩ = false ∧ wr.cell? ⟨w.heap.size + 1, 0, none⟩ = some (.slice none 0 0) ∧ wr.frozen? ⟨w.heap.size + 1, 0, none⟩ = false ∧ w.heap.size + 1 + 1 ≤ wr.heap.size)) (fun i _ _ _ => n - (intOf i).toNat)
    case atStart => exact ⟨0, Nat.zero_le _, .inl rfl, rfl, rfl, _, O2.out, B2'.out, CC.out.1, CC.out.2.1, CC.out.2.2.1, CC.out.2.2.2, hs2⟩
    case round =>
      clear O2 B2' CC hs2
      obtain ⟨k, hk, hkm, rfl, hN, u, FR⟩ := hrel
      obtain ⟨x5, y5, e5⟩ := FR.out.1.form
      have hsw := FR.out.2.2.2.2.2.2
      by_cases hgo : k < n ∧ (k : Int) < most
      · obtain ⟨hlt, hmo⟩ := hgo
        have hlt' : (k : Int) < (n : Int) := by omega
        obtain ⟨b, off, e0, hb, hact⟩ := HR.out k hlt
        subst e0
        have hyy := HY.out _ (Pl.aa_mem (l := qs) (k := k) (by rw [Hn.out]; exact hlt))
        have TO := hideP (Pl.take_ok fs qs k (by rw [Hn.out]; exact hlt) hN.out)
        have TS := hideP (Pl.take_stop fs qs k (Pl.mostN qs most) (by rw [MN.out]; omega) (by rw [MN.out, Hn.out]; omega) hN.out)
        have VK := hideP (Pl.play_vd VD.out (qs.take k))
        have AC := hideP (hact.keep FR.out.2.1 hb)
        generalize Pl.aa qs k = act at *
        obtain ⟨kd, nm, to, da⟩ := act
        simp only at hyy
        have AS : Hid (∀ w', Below wr.heap.size wr w' → ActAt w' b (off + k * 4) ⟨kd, nm, to, da⟩) := fun w' h => AC.out.keep h (by omega)
        have DS : Hid (∀ w', Below wr.heap.size wr w' → w'.cell? ⟨w.heap.size, 0, none⟩ = some u) := fun w' h => (h.cell (p := ⟨w.heap.size, 0, none⟩) (by show w.heap.size < _; omega)).trans FR.out.2.2.1
        have KD : Hid (∀ w', Below wr.heap.size wr w' → Calls Try.prog 19 #[.agg #[u], .agg #[.int .i64 kd, .string nm, .string to, .string da]] w' (DoPost w' u (Pl.playF fs (qs.take k)) ⟨kd, nm, to, da⟩)) := fun w' h => l7Do_any u _ kd nm to da w' VK.out hyy.1 hyy.2.1 hyy.2.2 ((FR.out.1.rd.keep h).up h.size)
        have D := hideP (show Below wr.heap.size wr wr.drew from (Below.refl _ _).drew)
        have DA : Hid (∀ o, Below wr.heap.size wr (wr.alloc o).drew) := fun o => ((Below.refl _ _).alloc (Nat.le_refl _) _).drew
        clear hact hyy AC
        subst e5
        generalize hF : Pl.playF fs (qs.take k) = F at *
        by_cases hrf : Pl.refB F ⟨kd, nm, to, da⟩ = 0
        · have T2 := hideP (TO.out hrf)
          have RF := hideP hrf
          clear hrf TO TS hN hF
          generalize hF9 : Pl.effF F ⟨kd, nm, to, da⟩ = F9 at *
          have HF9 := hideP hF9
          clear hF9
          have KO : Hid (∀ w', Below wr.heap.size wr w' → Calls Try.prog 19 #[.agg #[.slice x5 F.length y5], .agg #[.int .i64 kd, .string nm, .string to, .string da]] w' (fun e w2 => ∃ x9 y9, e = .returned (.tuple #[.agg #[.slice x9 F9.length y9], .int .i64 0]) ∧ Below w'.heap.size w' w2 ∧ OwF w'.heap.size w2 (.slice x9 F9.length y9) F9)) := by
            intro w' h
            refine (KD.out w' h).mono ?_
            rintro e w2 ⟨hb, (⟨_, v, e1, ho⟩ | ⟨h0, _⟩)⟩
            · rw [HF9.out] at ho
              obtain ⟨x9, y9, e9⟩ := ho.form
              subst e9
              exact ⟨x9, y9, e1, hb, ho⟩
            · exact absurd RF.out h0
          clear KD RF HF9 HR HA
          go_wp2_with fail
          refine wp_region_held (S := fun w' => Below wr.heap.size wr w') (by kernel_rfl) ?_
          change wpAnyH _ _ _ _ _ _ _ _ (World.drew _)
          refine wpAnyH_take (i := 0) (v := .agg #[.slice x5 F.length y5]) rfl (by kernel_rfl) (by kernel_rfl) (by kernel_rfl) (fun _ _ _ h => h) (Or.inl ⟨by rfl, ?_⟩) D.out ?_
          · intro w' hS
            have := DS.out w' hS
            clear hS
            go_simp
          refine wpAnyH_take (i := 1) (v := .slice (some ⟨b, off, none⟩) n cbp) rfl (by kernel_rfl) (by kernel_rfl) (by kernel_rfl) (fun _ _ _ h => h) (Or.inl ⟨by rfl, ?_⟩) D.out ?_
          · intro w' hS
            clear hS
            go_simp
          refine wpAnyH_take (i := 2) (v := .int .i64 k) rfl (by kernel_rfl) (by kernel_rfl) (by kernel_rfl) (fun _ _ _ h => h) (Or.inl ⟨by rfl, ?_⟩) D.out ?_
          · intro w' hS
            clear hS
            go_simp
          refine wpAnyH_take (i := 3) (v := .pointer (some ⟨b, off + k * 4, none⟩)) rfl (by kernel_rfl) (by kernel_rfl) (by kernel_rfl) (fun _ _ _ h => h) (Or.inl ⟨by rfl, ?_⟩) D.out ?_
          · intro w' hS
            clear hS
            go_simp
          refine wpAnyH_take (i := 4) (v := .agg #[.int .i64 kd, .string nm, .string to, .string da]) rfl (by kernel_rfl) (by kernel_rfl) (by kernel_rfl) (fun _ _ _ h => h) (Or.inl ⟨by rfl, ?_⟩) D.out ?_
          · intro w' hS
            have h0 := (AS.out w' hS).1; have h1 := (AS.out w' hS).2.1; have h2 := (AS.out w' hS).2.2.1; have h3 := (AS.out w' hS).2.2.2
            clear hS
            go_simp
          refine wpAnyH_ready (rs := [5, 9]) (by kernel_rfl) (by simp) ?_
          refine AllReadyH.cons rfl (fun K hK => ?_) (AllReadyH.cons rfl (fun K hK => ?_) AllReadyH.nil)
          · go_simp
            refine (KO.out _ D.out).mono ?_
            rintro e w2 ⟨x9, y9, rfl, hb9, ho9⟩
            have B2 : Hid (Below wr.heap.size wr w2) := D.out.trans (hb9.mono (by simp))
            have O9 : Hid (OwF wr.heap.size w2 (.slice x9 F9.length y9) F9) := ho9.base (by simp)
            refine hK.out _ _ B2.out (fun _ => ?_)
            clear hK hb9 ho9
            refine wpAnyH_take (i := 6) (v := .tuple #[.agg #[.slice x9 F9.length y9], .int .i64 0]) rfl (by kernel_rfl) (by kernel_rfl) (by kernel_rfl) (fun _ _ _ h => h) (Or.inl ⟨by rfl, ?_⟩) B2.out ?_
            · intro w' hS
              clear hS
              go_simp
            refine wpAnyH_take (i := 7) (v := .agg #[.slice x9 F9.length y9]) rfl (by kernel_rfl) (by kernel_rfl) (by kernel_rfl) (fun _ _ _ h => h) (Or.inl ⟨by rfl, ?_⟩) B2.out ?_
            · intro w' hS
              clear hS
              go_simp
            refine wpAnyH_take (i := 8) (v := .int .i64 0) rfl (by kernel_rfl) (by kernel_rfl) (by kernel_rfl) (fun _ _ _ h => h) (Or.inl ⟨by rfl, ?_⟩) B2.out ?_
            · intro w' hS
              clear hS
              go_simp
            refine wpAnyH_ready (rs := [9]) (by kernel_rfl) (by simp) ?_
            refine AllReadyH.cons rfl (fun K hK => ?_) AllReadyH.nil
            have B3 : Hid (∀ o, Below wr.heap.size wr (w2.alloc o)) := fun o => B2.out.alloc B2.out.size _
            go_simp
            refine hK.out _ _ (B3.out _) (fun _ => ?_)
            clear hK
            refine wpAnyH_ready (rs := [10]) (by kernel_rfl) (by simp) ?_
            refine AllReadyH.cons rfl (fun K hK => ?_) AllReadyH.nil
            go_simp
            refine hK.out _ _ (B3.out _) (fun _ => ?_)
            clear hK
            refine wpAnyH_ready (rs := [11]) (by kernel_rfl) (by simp) ?_
            refine AllReadyH.cons rfl (fun K hK => ?_) AllReadyH.nil
            go_simp
            refine hK.out _ _ (B3.out _) (fun _ => ?_)
            clear hK
            refine wpAnyH_done (by kernel_rfl) ?_ _
            have FX : Hid (Below wr.heap.size wr (w2.alloc (.cells #[.slice x9 F9.length y9] 30)) ∧ (w2.alloc (.cells #[.slice x9 F9.length y9] 30)).cell? ⟨w2.heap.size, 0, none⟩ = some (.slice x9 F9.length y9) ∧ wr.heap.size ≤ w2.heap.size ∧ OwF wr.heap.size (w2.alloc (.cells #[.slice x9 F9.length y9] 30)) (.slice x9 F9.length y9) F9) := ⟨B3.out _, by simp [go_sem], B2.out.size, O9.out.keep ((Below.refl _ _).alloc (Nat.le_refl _) _)⟩
            generalize w2.alloc (.cells #[.slice x9 F9.length y9] 30) = W9 at FX ⊢
            generalize w2.heap.size = P at FX ⊢
            have c2 : W9.cell? ⟨w.heap.size, 0, none⟩ = some (.slice x5 F.length y5) := DS.out _ FX.out.1
            have c3 : W9.frozen? ⟨w.heap.size, 0, none⟩ = false := (FX.out.1.frozen (p := ⟨w.heap.size, 0, none⟩) (by show w.heap.size < _; omega)).trans FR.out.2.2.2.1
            have c4 : W9.cell? ⟨w.heap.size + 1, 0, none⟩ = some (.slice none 0 0) := (FX.out.1.cell (p := ⟨w.heap.size + 1, 0, none⟩) (by show w.heap.size + 1 < _; omega)).trans FR.out.2.2.2.2.1
            have c5 : W9.frozen? ⟨w.heap.size + 1, 0, none⟩ = false := (FX.out.1.frozen (p := ⟨w.heap.size + 1, 0, none⟩) (by show w.heap.size + 1 < _; omega)).trans FR.out.2.2.2.2.2.1
            have BW := hideP (FR.out.2.1.trans (FX.out.1.mono (by omega)))
            have c1 : W9.cell? ⟨P, 0, none⟩ = some (.slice x9 F9.length y9) := FX.out.2.1
            have C4 := hideP (And.intro c4 c5)
            clear c4 c5
            go_wp2_with fail
            go_roundw
            case rel => exact ⟨k + 1, by omega, .inr (by omega), by go_num, T2.out.1, _, by rw [T2.out.2]; exact (FX.out.2.2.2.store (by omega) _).base (by omega), BW.out.setCell (by simp) _, World.cell?_setCell_same _ _ _ c2, by simp [go_sem, c3], by rw [World.cell?_setCell_other _ _ _ _ (by intro e; injection e with e1 _ _; omega)]; exact C4.out.1, by simp [go_sem, C4.out.2], by have := FX.out.1.size; simp; omega⟩
            case measure => simp [intOf]; omega
          · go_simp
            refine hK.out _ _ (DA.out _) (fun _ => ?_)
            clear hK
            refine wpAnyH_ready (rs := [5]) (by kernel_rfl) (by simp) ?_
            refine AllReadyH.cons rfl (fun K hK => ?_) AllReadyH.nil
            go_simp
            refine (KO.out _ (DA.out _)).mono ?_
            rintro e w2 ⟨x9, y9, rfl, hb9, ho9⟩
            have B2 : Hid (Below wr.heap.size wr w2) := (DA.out _).trans (hb9.mono (by simp))
            have pz : w2.cell? ⟨wr.heap.size, 0, none⟩ = some (.slice none 0 0) := by rw [hb9.cell (p := ⟨wr.heap.size, 0, none⟩) (by simp)]; simp [go_sem]
            have pf : w2.frozen? ⟨wr.heap.size, 0, none⟩ = false := by rw [hb9.frozen (p := ⟨wr.heap.size, 0, none⟩) (by simp)]; simp [go_sem]
            have O9 : Hid (OwF (wr.heap.size + 1) w2 (.slice x9 F9.length y9) F9) := ho9.base (by simp)
            refine hK.out _ _ B2.out (fun _ => ?_)
            clear hK hb9 ho9
            refine wpAnyH_take (i := 6) (v := .tuple #[.agg #[.slice x9 F9.length y9], .int .i64 0]) rfl (by kernel_rfl) (by kernel_rfl) (by kernel_rfl) (fun _ _ _ h => h) (Or.inl ⟨by rfl, ?_⟩) B2.out ?_
            · intro w' hS
              clear hS
              go_simp
            refine wpAnyH_take (i := 7) (v := .agg #[.slice x9 F9.length y9]) rfl (by kernel_rfl) (by kernel_rfl) (by kernel_rfl) (fun _ _ _ h => h) (Or.inl ⟨by rfl, ?_⟩) B2.out ?_
            · intro w' hS
              clear hS
              go_simp
            refine wpAnyH_take (i := 8) (v := .int .i64 0) rfl (by kernel_rfl) (by kernel_rfl) (by kernel_rfl) (fun _ _ _ h => h) (Or.inl ⟨by rfl, ?_⟩) B2.out ?_
            · intro w' hS
              clear hS
              go_simp
            refine wpAnyH_ready (rs := [10]) (by kernel_rfl) (by simp) ?_
            refine AllReadyH.cons rfl (fun K hK => ?_) AllReadyH.nil
            have B3 : Hid (Below wr.heap.size wr (w2.setCell ⟨wr.heap.size, 0, none⟩ (.slice x9 F9.length y9))) := B2.out.setCell (Nat.le_refl _) _
            go_simp
            refine hK.out _ _ B3.out (fun _ => ?_)
            clear hK
            refine wpAnyH_ready (rs := [11]) (by kernel_rfl) (by simp) ?_
            refine AllReadyH.cons rfl (fun K hK => ?_) AllReadyH.nil
            go_simp
            refine hK.out _ _ B3.out (fun _ => ?_)
            clear hK
            refine wpAnyH_done (by kernel_rfl) ?_ _
            have FX : Hid (Below wr.heap.size wr (w2.setCell ⟨wr.heap.size, 0, none⟩ (.slice x9 F9.length y9)) ∧ (w2.setCell ⟨wr.heap.size, 0, none⟩ (.slice x9 F9.length y9)).cell? ⟨wr.heap.size, 0, none⟩ = some (.slice x9 F9.length y9) ∧ wr.heap.size ≤ wr.heap.size ∧ OwF wr.heap.size (w2.setCell ⟨wr.heap.size, 0, none⟩ (.slice x9 F9.length y9)) (.slice x9 F9.length y9) F9) := ⟨B3.out, World.cell?_setCell_same _ _ _ pz, Nat.le_refl _, (OwF.store (b := wr.heap.size) O9.out (by omega) _).base (Nat.le_succ _)⟩
            clear pz pf
            generalize w2.setCell ⟨wr.heap.size, 0, none⟩ (.slice x9 F9.length y9) = W9 at FX ⊢
            have FX : Hid (Below wr.heap.size wr W9 ∧ W9.cell? ⟨wr.heap.size, 0, none⟩ = some (.slice x9 F9.length y9) ∧ wr.heap.size ≤ wr.heap.size ∧ OwF wr.heap.size W9 (.slice x9 F9.length y9) F9) := FX
            have c2 : W9.cell? ⟨w.heap.size, 0, none⟩ = some (.slice x5 F.length y5) := DS.out _ FX.out.1
            have c3 : W9.frozen? ⟨w.heap.size, 0, none⟩ = false := (FX.out.1.frozen (p := ⟨w.heap.size, 0, none⟩) (by show w.heap.size < _; omega)).trans FR.out.2.2.2.1
            have c4 : W9.cell? ⟨w.heap.size + 1, 0, none⟩ = some (.slice none 0 0) := (FX.out.1.cell (p := ⟨w.heap.size + 1, 0, none⟩) (by show w.heap.size + 1 < _; omega)).trans FR.out.2.2.2.2.1
            have c5 : W9.frozen? ⟨w.heap.size + 1, 0, none⟩ = false := (FX.out.1.frozen (p := ⟨w.heap.size + 1, 0, none⟩) (by show w.heap.size + 1 < _; omega)).trans FR.out.2.2.2.2.2.1
            have BW := hideP (FR.out.2.1.trans (FX.out.1.mono (by omega)))
            have c1 : W9.cell? ⟨wr.heap.size, 0, none⟩ = some (.slice x9 F9.length y9) := FX.out.2.1
            have C4 := hideP (And.intro c4 c5)
            clear c4 c5
            go_wp2_with fail
            go_roundw
            case rel => exact ⟨k + 1, by omega, .inr (by omega), by go_num, T2.out.1, _, by rw [T2.out.2]; exact (FX.out.2.2.2.store (by omega) _).base (by omega), BW.out.setCell (by simp) _, World.cell?_setCell_same _ _ _ c2, by simp [go_sem, c3], by rw [World.cell?_setCell_other _ _ _ _ (by intro e; injection e with e1 _ _; omega)]; exact C4.out.1, by simp [go_sem, C4.out.2], by have := FX.out.1.size; simp; omega⟩
            case measure => simp [intOf]; omega

        · have TT := hideP (TS.out hrf)
          obtain ⟨c, hce⟩ : ∃ c, Pl.refB F ⟨kd, nm, to, da⟩ = c := ⟨_, rfl⟩
          have HC : Hid (¬ c = 0) := hce ▸ hrf
          have KO : Hid (∀ w', Below wr.heap.size wr w' → Calls Try.prog 19 #[.agg #[.slice x5 F.length y5], .agg #[.int .i64 kd, .string nm, .string to, .string da]] w' (fun e w2 => e = .returned (.tuple #[.agg #[.slice x5 F.length y5], .int .i64 c]) ∧ Below w'.heap.size w' w2)) := by
            intro w' h
            refine (KD.out w' h).mono ?_
            rintro e w2 ⟨hb, (⟨h0, _⟩ | ⟨_, e1⟩)⟩
            · exact absurd h0 hrf
            · exact ⟨by rw [e1, hce], hb⟩
          clear KD HR HA hrf TO TS hN hF hce
          go_wp2_with fail
          refine wp_region_held (S := fun w' => Below wr.heap.size wr w') (by kernel_rfl) ?_
          change wpAnyH _ _ _ _ _ _ _ _ (World.drew _)
          refine wpAnyH_take (i := 0) (v := .agg #[.slice x5 F.length y5]) rfl (by kernel_rfl) (by kernel_rfl) (by kernel_rfl) (fun _ _ _ h => h) (Or.inl ⟨by rfl, ?_⟩) D.out ?_
          · intro w' hS
            have := DS.out w' hS
            clear hS
            go_simp
          refine wpAnyH_take (i := 1) (v := .slice (some ⟨b, off, none⟩) n cbp) rfl (by kernel_rfl) (by kernel_rfl) (by kernel_rfl) (fun _ _ _ h => h) (Or.inl ⟨by rfl, ?_⟩) D.out ?_
          · intro w' hS
            clear hS
            go_simp
          refine wpAnyH_take (i := 2) (v := .int .i64 k) rfl (by kernel_rfl) (by kernel_rfl) (by kernel_rfl) (fun _ _ _ h => h) (Or.inl ⟨by rfl, ?_⟩) D.out ?_
          · intro w' hS
            clear hS
            go_simp
          refine wpAnyH_take (i := 3) (v := .pointer (some ⟨b, off + k * 4, none⟩)) rfl (by kernel_rfl) (by kernel_rfl) (by kernel_rfl) (fun _ _ _ h => h) (Or.inl ⟨by rfl, ?_⟩) D.out ?_
          · intro w' hS
            clear hS
            go_simp
          refine wpAnyH_take (i := 4) (v := .agg #[.int .i64 kd, .string nm, .string to, .string da]) rfl (by kernel_rfl) (by kernel_rfl) (by kernel_rfl) (fun _ _ _ h => h) (Or.inl ⟨by rfl, ?_⟩) D.out ?_
          · intro w' hS
            have h0 := (AS.out w' hS).1; have h1 := (AS.out w' hS).2.1; have h2 := (AS.out w' hS).2.2.1; have h3 := (AS.out w' hS).2.2.2
            clear hS
            go_simp
          refine wpAnyH_ready (rs := [5, 9]) (by kernel_rfl) (by simp) ?_
          refine AllReadyH.cons rfl (fun K hK => ?_) (AllReadyH.cons rfl (fun K hK => ?_) AllReadyH.nil)
          · go_simp
            refine (KO.out _ D.out).mono ?_
            rintro e w2 ⟨rfl, hb9⟩
            have B2 : Hid (Below wr.heap.size wr w2) := D.out.trans (hb9.mono (by simp))
            refine hK.out _ _ B2.out (fun _ => ?_)
            clear hK hb9
            refine wpAnyH_take (i := 6) (v := .tuple #[.agg #[.slice x5 F.length y5], .int .i64 c]) rfl (by kernel_rfl) (by kernel_rfl) (by kernel_rfl) (fun _ _ _ h => h) (Or.inl ⟨by rfl, ?_⟩) B2.out ?_
            · intro w' hS
              clear hS
              go_simp
            refine wpAnyH_take (i := 7) (v := .agg #[.slice x5 F.length y5]) rfl (by kernel_rfl) (by kernel_rfl) (by kernel_rfl) (fun _ _ _ h => h) (Or.inl ⟨by rfl, ?_⟩) B2.out ?_
            · intro w' hS
              clear hS
              go_simp
            refine wpAnyH_take (i := 8) (v := .int .i64 c) rfl (by kernel_rfl) (by kernel_rfl) (by kernel_rfl) (fun _ _ _ h => h) (Or.inl ⟨by rfl, ?_⟩) B2.out ?_
            · intro w' hS
              clear hS
              go_simp
            refine wpAnyH_ready (rs := [9]) (by kernel_rfl) (by simp) ?_
            refine AllReadyH.cons rfl (fun K hK => ?_) AllReadyH.nil
            have B3 : Hid (∀ o, Below wr.heap.size wr (w2.alloc o)) := fun o => B2.out.alloc B2.out.size _
            go_simp
            refine hK.out _ _ (B3.out _) (fun _ => ?_)
            clear hK
            refine wpAnyH_ready (rs := [10]) (by kernel_rfl) (by simp) ?_
            refine AllReadyH.cons rfl (fun K hK => ?_) AllReadyH.nil
            go_simp
            refine hK.out _ _ (B3.out _) (fun _ => ?_)
            clear hK
            refine wpAnyH_ready (rs := [11]) (by kernel_rfl) (by simp) ?_
            refine AllReadyH.cons rfl (fun K hK => ?_) AllReadyH.nil
            go_simp
            refine hK.out _ _ (B3.out _) (fun _ => ?_)
            clear hK
            refine wpAnyH_done (by kernel_rfl) ?_ _
            have FX : Hid (Below wr.heap.size wr (w2.alloc (.cells #[.slice x5 F.length y5] 30)) ∧ (w2.alloc (.cells #[.slice x5 F.length y5] 30)).cell? ⟨w2.heap.size, 0, none⟩ = some (.slice x5 F.length y5) ∧ wr.heap.size ≤ w2.heap.size) := ⟨B3.out _, by simp [go_sem], B2.out.size⟩
            generalize w2.alloc (.cells #[.slice x5 F.length y5] 30) = W9 at FX ⊢
            generalize w2.heap.size = P at FX ⊢
            have c2 : W9.cell? ⟨w.heap.size, 0, none⟩ = some (.slice x5 F.length y5) := DS.out _ FX.out.1
            have c3 : W9.frozen? ⟨w.heap.size, 0, none⟩ = false := (FX.out.1.frozen (p := ⟨w.heap.size, 0, none⟩) (by show w.heap.size < _; omega)).trans FR.out.2.2.2.1
            have c4 : W9.cell? ⟨w.heap.size + 1, 0, none⟩ = some (.slice none 0 0) := (FX.out.1.cell (p := ⟨w.heap.size + 1, 0, none⟩) (by show w.heap.size + 1 < _; omega)).trans FR.out.2.2.2.2.1
            have c5 : W9.frozen? ⟨w.heap.size + 1, 0, none⟩ = false := (FX.out.1.frozen (p := ⟨w.heap.size + 1, 0, none⟩) (by show w.heap.size + 1 < _; omega)).trans FR.out.2.2.2.2.2.1
            have BW := hideP (FR.out.2.1.trans (FX.out.1.mono (by omega)))
            clear c3
            have hc' : ¬ c = 0 := HC.out
            go_wp2_with fail
            refine bodyPost_ret (v := .tuple #[.agg #[.slice x5 F.length y5], .int .i64 k]) (by simp [results, Try.results6, go_sem, c4]) rfl ?_
            refine ⟨BW.out.setCell (by simp) _, .slice x5 F.length y5, by rw [PM.out, TT.out.1], ?_⟩
            rw [PM.out, TT.out.2]
            exact ((FR.out.1.keep FX.out.1).store (by omega) _).base (by omega)
          · go_simp
            refine hK.out _ _ (DA.out _) (fun _ => ?_)
            clear hK
            refine wpAnyH_ready (rs := [5]) (by kernel_rfl) (by simp) ?_
            refine AllReadyH.cons rfl (fun K hK => ?_) AllReadyH.nil
            go_simp
            refine (KO.out _ (DA.out _)).mono ?_
            rintro e w2 ⟨rfl, hb9⟩
            have B2 : Hid (Below wr.heap.size wr w2) := (DA.out _).trans (hb9.mono (by simp))
            have pz : w2.cell? ⟨wr.heap.size, 0, none⟩ = some (.slice none 0 0) := by rw [hb9.cell (p := ⟨wr.heap.size, 0, none⟩) (by simp)]; simp [go_sem]
            have pf : w2.frozen? ⟨wr.heap.size, 0, none⟩ = false := by rw [hb9.frozen (p := ⟨wr.heap.size, 0, none⟩) (by simp)]; simp [go_sem]
            refine hK.out _ _ B2.out (fun _ => ?_)
            clear hK hb9
            refine wpAnyH_take (i := 6) (v := .tuple #[.agg #[.slice x5 F.length y5], .int .i64 c]) rfl (by kernel_rfl) (by kernel_rfl) (by kernel_rfl) (fun _ _ _ h => h) (Or.inl ⟨by rfl, ?_⟩) B2.out ?_
            · intro w' hS
              clear hS
              go_simp
            refine wpAnyH_take (i := 7) (v := .agg #[.slice x5 F.length y5]) rfl (by kernel_rfl) (by kernel_rfl) (by kernel_rfl) (fun _ _ _ h => h) (Or.inl ⟨by rfl, ?_⟩) B2.out ?_
            · intro w' hS
              clear hS
              go_simp
            refine wpAnyH_take (i := 8) (v := .int .i64 c) rfl (by kernel_rfl) (by kernel_rfl) (by kernel_rfl) (fun _ _ _ h => h) (Or.inl ⟨by rfl, ?_⟩) B2.out ?_
            · intro w' hS
              clear hS
              go_simp
            refine wpAnyH_ready (rs := [10]) (by kernel_rfl) (by simp) ?_
            refine AllReadyH.cons rfl (fun K hK => ?_) AllReadyH.nil
            have B3 : Hid (Below wr.heap.size wr (w2.setCell ⟨wr.heap.size, 0, none⟩ (.slice x5 F.length y5))) := B2.out.setCell (Nat.le_refl _) _
            go_simp
            refine hK.out _ _ B3.out (fun _ => ?_)
            clear hK
            refine wpAnyH_ready (rs := [11]) (by kernel_rfl) (by simp) ?_
            refine AllReadyH.cons rfl (fun K hK => ?_) AllReadyH.nil
            go_simp
            refine hK.out _ _ B3.out (fun _ => ?_)
            clear hK
            refine wpAnyH_done (by kernel_rfl) ?_ _
            have FX : Hid (Below wr.heap.size wr (w2.setCell ⟨wr.heap.size, 0, none⟩ (.slice x5 F.length y5)) ∧ (w2.setCell ⟨wr.heap.size, 0, none⟩ (.slice x5 F.length y5)).cell? ⟨wr.heap.size, 0, none⟩ = some (.slice x5 F.length y5) ∧ wr.heap.size ≤ wr.heap.size) := ⟨B3.out, World.cell?_setCell_same _ _ _ pz, Nat.le_refl _⟩
            clear pz pf
            generalize w2.setCell ⟨wr.heap.size, 0, none⟩ (.slice x5 F.length y5) = W9 at FX ⊢
            have FX : Hid (Below wr.heap.size wr W9 ∧ W9.cell? ⟨wr.heap.size, 0, none⟩ = some (.slice x5 F.length y5) ∧ wr.heap.size ≤ wr.heap.size) := FX
            have c2 : W9.cell? ⟨w.heap.size, 0, none⟩ = some (.slice x5 F.length y5) := DS.out _ FX.out.1
            have c3 : W9.frozen? ⟨w.heap.size, 0, none⟩ = false := (FX.out.1.frozen (p := ⟨w.heap.size, 0, none⟩) (by show w.heap.size < _; omega)).trans FR.out.2.2.2.1
            have c4 : W9.cell? ⟨w.heap.size + 1, 0, none⟩ = some (.slice none 0 0) := (FX.out.1.cell (p := ⟨w.heap.size + 1, 0, none⟩) (by show w.heap.size + 1 < _; omega)).trans FR.out.2.2.2.2.1
            have c5 : W9.frozen? ⟨w.heap.size + 1, 0, none⟩ = false := (FX.out.1.frozen (p := ⟨w.heap.size + 1, 0, none⟩) (by show w.heap.size + 1 < _; omega)).trans FR.out.2.2.2.2.2.1
            have BW := hideP (FR.out.2.1.trans (FX.out.1.mono (by omega)))
            clear c3
            have hc' : ¬ c = 0 := HC.out
            go_wp2_with fail
            refine bodyPost_ret (v := .tuple #[.agg #[.slice x5 F.length y5], .int .i64 k]) (by simp [results, Try.results6, go_sem, c4]) rfl ?_
            refine ⟨BW.out.setCell (by simp) _, .slice x5 F.length y5, by rw [PM.out, TT.out.1], ?_⟩
            rw [PM.out, TT.out.2]
            exact ((FR.out.1.keep FX.out.1).store (by omega) _).base (by omega)

      · have EX : Hid (Pl.mostN qs most = k) := by show _ = _; rw [MN.out]; omega
        have hF := hideP FR.out.1
        obtain ⟨q0, g0, r0, f0, _⟩ := FR.out.2.2
        have BW := hideP FR.out.2.1
        subst e5
        generalize hF0 : Pl.playF fs (qs.take k) = F at *
        have HF0 := hideP hF0
        clear hF0 g0 FR HR HA
        have FIN : Hid (∀ W, Below w.heap.size w W → OwF w.heap.size W (.slice x5 F.length y5) F → PlayPost w fs qs most (.returned (.tuple #[.agg #[.slice x5 F.length y5], .int .i64 k])) W) := by
          intro W h1 h2
          refine ⟨h1, _, by rw [PM.out, EX.out, hN.out], ?_⟩
          rw [PM.out, EX.out, HF0.out]
          exact h2
        have OF : Hid (∀ v, OwF w.heap.size (wr.setCell ⟨w.heap.size + 1, 0, none⟩ v) (.slice x5 F.length y5) F) := fun v => (hF.out.store (by omega) _).base (by omega)
        have BF : Hid (∀ v, Below w.heap.size w (wr.setCell ⟨w.heap.size + 1, 0, none⟩ v)) := fun v => BW.out.setCell (by simp) _
        clear hN PM HF0 hF BW EX MN
        by_cases hlt : k < n
        · have hlt' : (k : Int) < (n : Int) := by omega
          have hmo : ¬ (k : Int) < most := by omega
          by_cases hneg : most < 0
          · have hk0 : k = 0 := by omega
            subst hk0
            go_wp2_with fail
            refine bodyPost_ret (v := .tuple #[.agg #[.slice x5 F.length y5], .int .i64 0]) (by simp [results, Try.results6, go_sem, r0]) rfl ?_
            exact FIN.out _ (BF.out _) (OF.out _)
          · have hk0 : most = (k : Int) := by omega
            subst hk0
            have hle : ¬ (n : Int) < (k : Int) := by omega
            go_wp2_with fail
            refine bodyPost_ret (v := .tuple #[.agg #[.slice x5 F.length y5], .int .i64 k]) (by simp [results, Try.results6, go_sem, r0]) rfl ?_
            exact FIN.out _ (BF.out _) (OF.out _)
        · have hkn : k = n := by omega
          subst hkn
          have hlt' : ¬ (k : Int) < (k : Int) := by omega
          by_cases hneg : most < 0
          · have hk0 : k = 0 := by omega
            subst hk0
            go_wp2_with fail
            refine bodyPost_ret (v := .tuple #[.agg #[.slice x5 F.length y5], .int .i64 0]) (by simp [results, Try.results6, go_sem, r0]) rfl ?_
            exact FIN.out _ (BF.out _) (OF.out _)
          · by_cases hbig : (k : Int) < most
            · go_wp2_with fail
              refine bodyPost_ret (v := .tuple #[.agg #[.slice x5 F.length y5], .int .i64 k]) (by simp [results, Try.results6, go_sem, r0]) rfl ?_
              exact FIN.out _ (BF.out _) (OF.out _)
            · have hk0 : most = (k : Int) := by omega
              subst hk0
              go_wp2_with fail
              refine bodyPost_ret (v := .tuple #[.agg #[.slice x5 F.length y5], .int .i64 k]) (by simp [results, Try.results6, go_sem, r0]) rfl ?_
              exact FIN.out _ (BF.out _) (OF.out _)
  · have PM : Hid (Pl.playM fs qs most = (fs, 0)) := by show _ = _; unfold Pl.playM; rw [if_neg (by rw [Hn.out]; exact hok)]
    have FIN : Hid (∀ v, PlayPost w fs qs most (.returned (.tuple #[.agg #[.slice x1 fs.length y1], .int .i64 0])) (w2.setCell ⟨w.heap.size + 1, 0, none⟩ v)) := by
      intro v
      refine ⟨B2'.out.setCell (by simp) _, _, by rw [PM.out], ?_⟩
      rw [PM.out]
      exact (O2.out.store (by omega) _).base (by omega)
    clear g0
    by_cases hd : Pl.diskB fs = true
    · have hbig : (10000 : Int) < (n : Int) := by
        have : ¬ n ≤ 10000 := fun h => hok ⟨hd, h⟩
        omega
      rw [hd]
      clear hd hok
      go_wp2_with fail
      refine bodyPost_ret (v := .tuple #[.agg #[.slice x1 fs.length y1], .int .i64 0]) (by simp [results, Try.results6, go_sem, r0]) rfl ?_
      exact FIN.out _
    · have hd' : Pl.diskB fs = false := by simpa using hd
      rw [hd']
      clear hd hok hd'
      go_wp2_with fail
      refine bodyPost_ret (v := .tuple #[.agg #[.slice x1 fs.length y1], .int .i64 0]) (by simp [results, Try.results6, go_sem, r0]) rfl ?_
      exact FIN.out _

end Go.Proofs.Ytfangdhbadmolaa
