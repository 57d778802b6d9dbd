import Derived.Test.YtfangdhbadmolaaGreatDoorDo
import Derived.Test.YtfangdhbadmolaaGreatDoorDk
namespace Go.Proofs.YtfangdhbadmolaaGreatDoor
open Go.RowKit
set_option linter.unusedVariables false

namespace Pl
def doR (fs : List Fl) (a : Ac) : List Fl := if diskB fs = true then doM fs a else fs
def doC (fs : List Fl) (a : Ac) : Int := if diskB fs = true then refB fs a else 1
end Pl

/-- what Do does -/
def DPost (W : World) (fs : List Pl.Fl) (a : Pl.Ac) (e : Ending) (w' : World) : Prop :=
  Below W.heap.size W w' ∧ ∃ u, e = .returned (.tuple #[.agg #[u], .int .i64 (Pl.doC fs a)]) ∧ OwF W.heap.size w' u (Pl.doR fs a)

/-- the sizes that the law lets through -/
def SmF (fs : List Pl.Fl) : Prop := ∀ f ∈ fs, f.1.size ≤ 1048576 ∧ f.2.size ≤ 1048576

set_option maxRecDepth 100000 in
set_option maxHeartbeats 8000000 in
/-- spec.Do -/
theorem specDo_any (v : Value) (fs : List Pl.Fl) (kd : Int) (nm to da : ByteArray) (w : World) (hl : fs.length ≤ 1048576) (hz : SmF fs) (hn : nm.size ≤ 1048576) (ht : to.size ≤ 1048576) (hd : da.size ≤ 1048576) (h : RdF w.heap.size w v fs) :
    Calls Tryz.prog 6 #[.agg #[v], .agg #[.int .i64 kd, .string nm, .string to, .string da]] w (DPost w fs ⟨kd, nm, to, da⟩) := by
  have H := hideP h
  have HZ := hideP hz
  have HS := hideP (And.intro hn (And.intro ht hd))
  obtain ⟨ao, cap, e0⟩ := h.form
  subst e0
  clear h hz hn ht hd
  have B3 : Hid (∀ o1 o2 o3 : Obj, Below w.heap.size w (((w.alloc o1).alloc o2).alloc o3)) := fun o1 o2 o3 => (((Below.refl _ _).alloc (Nat.le_refl _) _).alloc (by simp) _).alloc (by simp; omega) _
  go_enter Tryz.func6, Tryz.ntmps6
  go_wp2_with fail
  refine (specDisk_any _ fs _ (by omega) (fun f hf => by have := HZ.out f hf; omega) ((H.out.keep (B3.out _ _ _)).up (by simp; omega))).mono ?_
  rintro e w1 ⟨rfl, hb1⟩
  have B1 := hideP ((B3.out _ _ _).trans (hb1.mono (by simp; omega)))
  have s1 : w.heap.size + 1 + 1 + 1 ≤ w1.heap.size := by have := hb1.size; simpa using this
  obtain ⟨hc, hf⟩ := bcell hb1
  have CC : Hid (w1.cell? ⟨w.heap.size, 0, none⟩ = some (.slice ao fs.length cap) ∧ w1.cell? ⟨w.heap.size + 1 + 1, 0, none⟩ = some (.slice none 0 0) ∧ w1.frozen? ⟨w.heap.size + 1 + 1, 0, none⟩ = false) :=
    ⟨by rw [hc w.heap.size 0 (by simp; omega)]; simp [go_sem], by rw [hc (w.heap.size + 1 + 1) 0 (by simp)]; simp [go_sem], by rw [hf (w.heap.size + 1 + 1) 0 (by simp)]; simp [go_sem]⟩
  have CA : Hid (w1.cell? ⟨w.heap.size + 1, 0, none⟩ = some (.int .i64 kd) ∧ w1.cell? ⟨w.heap.size + 1, 1, none⟩ = some (.string nm) ∧ w1.cell? ⟨w.heap.size + 1, 2, none⟩ = some (.string to) ∧ w1.cell? ⟨w.heap.size + 1, 3, none⟩ = some (.string da)) :=
    ⟨by rw [hc (w.heap.size + 1) 0 (by simp)]; simp [go_sem], by rw [hc (w.heap.size + 1) 1 (by simp)]; simp [go_sem], by rw [hc (w.heap.size + 1) 2 (by simp)]; simp [go_sem], by rw [hc (w.heap.size + 1) 3 (by simp)]; simp [go_sem]⟩
  clear hc hf hb1
  by_cases hdk : Pl.diskB fs = true
  · have PR : Hid (Pl.doR fs ⟨kd, nm, to, da⟩ = Pl.doM fs ⟨kd, nm, to, da⟩ ∧ Pl.doC fs ⟨kd, nm, to, da⟩ = Pl.refB fs ⟨kd, nm, to, da⟩) := ⟨by unfold Pl.doR; rw [if_pos hdk], by unfold Pl.doC; rw [if_pos hdk]⟩
    have VD := hideP (Pl.vd_of_disk hdk)
    rw [hdk]
    clear hdk
    have LS : Hid (∀ w', Below (w.heap.size + 1 + 1) w1 w' → w'.cell? ⟨w.heap.size, 0, none⟩ = some (.slice ao fs.length cap)) := fun w' h => (h.cell (p := ⟨w.heap.size, 0, none⟩) (by show w.heap.size < _; omega)).trans CC.out.1
    have LA : Hid (∀ w', Below (w.heap.size + 1 + 1) w1 w' → w'.cell? ⟨w.heap.size + 1, 0, none⟩ = some (.int .i64 kd) ∧ w'.cell? ⟨w.heap.size + 1, 1, none⟩ = some (.string nm) ∧ w'.cell? ⟨w.heap.size + 1, 2, none⟩ = some (.string to) ∧ w'.cell? ⟨w.heap.size + 1, 3, none⟩ = some (.string da)) := fun w' h =>
      ⟨(h.cell (p := ⟨w.heap.size + 1, 0, none⟩) (by show w.heap.size + 1 < _; omega)).trans CA.out.1, (h.cell (p := ⟨w.heap.size + 1, 1, none⟩) (by show w.heap.size + 1 < _; omega)).trans CA.out.2.1, (h.cell (p := ⟨w.heap.size + 1, 2, none⟩) (by show w.heap.size + 1 < _; omega)).trans CA.out.2.2.1, (h.cell (p := ⟨w.heap.size + 1, 3, none⟩) (by show w.heap.size + 1 < _; omega)).trans CA.out.2.2.2⟩
    have D := hideP (show Below (w.heap.size + 1 + 1) w1 w1.drew from (Below.refl _ _).drew)
    go_wp2_with fail
    refine wp_region_held (S := fun w' => Below (w.heap.size + 1 + 1) w1 w') (by kernel_rfl) ?_
    change wpAnyH _ _ _ _ _ _ _ _ (World.drew _)
    refine wpAnyH_take (i := 0) (v := .agg #[.slice ao fs.length cap]) rfl (by kernel_rfl) (by kernel_rfl) (by kernel_rfl) (fun _ _ _ h => h) (Or.inl ⟨by rfl, ?_⟩) D.out ?_
    · intro w' hS
      have := LS.out w' hS
      clear hS
      go_simp
    refine wpAnyH_take (i := 2) (v := .agg #[.int .i64 kd, .string nm, .string to, .string da]) rfl (by kernel_rfl) (by kernel_rfl) (by kernel_rfl) (fun _ _ _ h => h) (Or.inl ⟨by rfl, ?_⟩) D.out ?_
    · intro w' hS
      have h0 := (LA.out w' hS).1; have h1 := (LA.out w' hS).2.1; have h2 := (LA.out w' hS).2.2.1; have h3 := (LA.out w' hS).2.2.2
      clear hS
      go_simp
    refine wpAnyH_ready (rs := [1]) (by kernel_rfl) (by simp) ?_
    refine AllReadyH.cons rfl (fun K hK => ?_) AllReadyH.nil
    go_simp
    refine (l7Copy_any _ fs _ hl ((H.out.keep B1.out.drew).up (by simp; omega))).mono ?_
    rintro e w2 ⟨u, rfl, hu, hb2⟩
    obtain ⟨x1, y1, e1⟩ := hu.form
    subst e1
    have B2 : Hid (Below w1.heap.size w1 w2) := (show Below w1.heap.size w1 w1.drew from (Below.refl _ _).drew).trans hb2
    have O2 : Hid (OwF w1.heap.size w2 (.slice x1 fs.length y1) fs) := hu
    refine hK.out _ _ (B2.out.mono (by omega)) (fun _ => ?_)
    clear hK hu hb2 LS LA D
    refine wpAnyH_ready (rs := [3]) (by kernel_rfl) (by simp) ?_
    refine AllReadyH.cons rfl (fun K hK => ?_) AllReadyH.nil
    go_simp
    refine (l7Do_any _ fs kd nm to da _ VD.out HS.out.1 HS.out.2.1 HS.out.2.2 O2.out.rd).mono ?_
    rintro e w3 ⟨hb3, hcase⟩
    have B3' := hideP (B2.out.trans (hb3.mono B2.out.size))
    have R3 : Hid (w3.cell? ⟨w.heap.size + 1 + 1, 0, none⟩ = some (.slice none 0 0) ∧ w3.frozen? ⟨w.heap.size + 1 + 1, 0, none⟩ = false) :=
      ⟨(B3'.out.cell (p := ⟨w.heap.size + 1 + 1, 0, none⟩) (by show w.heap.size + 1 + 1 < _; omega)).trans CC.out.2.1, (B3'.out.frozen (p := ⟨w.heap.size + 1 + 1, 0, none⟩) (by show w.heap.size + 1 + 1 < _; omega)).trans CC.out.2.2⟩
    obtain ⟨x9, y9, F9, c9, rfl, HF9, HC9, O9⟩ : ∃ x9 y9 F9 c9, e = .returned (.tuple #[.agg #[.slice x9 (List.length F9) y9], .int .i64 c9]) ∧ Hid (Pl.doM fs ⟨kd, nm, to, da⟩ = F9) ∧ Hid (Pl.refB fs ⟨kd, nm, to, da⟩ = c9) ∧ Hid (OwF w1.heap.size w3 (.slice x9 F9.length y9) F9) := by
      rcases hcase with ⟨h0, v, rfl, ho⟩ | ⟨h0, rfl⟩
      · obtain ⟨x9, y9, e9⟩ := ho.form
        subst e9
        exact ⟨x9, y9, Pl.effF fs ⟨kd, nm, to, da⟩, 0, rfl, (by show _ = _; unfold Pl.doM; rw [if_pos h0]), h0, ho.base B2.out.size⟩
      · exact ⟨x1, y1, fs, Pl.refB fs ⟨kd, nm, to, da⟩, rfl, (by show _ = _; unfold Pl.doM; rw [if_neg h0]), rfl, O2.out.keep hb3⟩
    refine hK.out _ _ (B3'.out.mono (by omega)) (fun _ => ?_)
    clear hK hb3 hcase O2 B2 VD HS
    have D : Hid (Below (w.heap.size + 1 + 1) w1 w3) := B3'.out.mono (by omega)
    refine wpAnyH_take (i := 4) (v := .agg #[.slice x9 F9.length y9]) rfl (by kernel_rfl) (by kernel_rfl) (by kernel_rfl) (fun _ _ _ h => h) (Or.inl ⟨by rfl, ?_⟩) D.out ?_
    · intro w' hS
      clear hS
      go_simp
    refine wpAnyH_take (i := 5) (v := .int .i64 c9) rfl (by kernel_rfl) (by kernel_rfl) (by kernel_rfl) (fun _ _ _ h => h) (Or.inl ⟨by rfl, ?_⟩) D.out ?_
    · intro w' hS
      clear hS
      go_simp
    refine wpAnyH_ready (rs := [6]) (by kernel_rfl) (by simp) ?_
    refine AllReadyH.cons rfl (fun K hK => ?_) AllReadyH.nil
    obtain ⟨r3, f3⟩ := R3.out
    have B4 : Hid (Below (w.heap.size + 1 + 1) w1 (w3.setCell ⟨w.heap.size + 1 + 1, 0, none⟩ (.slice x9 F9.length y9))) := D.out.setCell (by simp) _
    have FIN : Hid (DPost w fs ⟨kd, nm, to, da⟩ (.returned (.tuple #[.agg #[.slice x9 F9.length y9], .int .i64 c9])) (w3.setCell ⟨w.heap.size + 1 + 1, 0, none⟩ (.slice x9 F9.length y9))) := by
      refine ⟨(B1.out.trans (B3'.out.mono (by omega))).setCell (by simp; omega) _, _, by rw [PR.out.2, HC9.out], ?_⟩
      rw [PR.out.1, HF9.out]
      exact (O9.out.store (by omega) _).base (by omega)
    go_simp
    refine hK.out _ _ B4.out (fun _ => ?_)
    clear hK
    refine wpAnyH_ready (rs := [7]) (by kernel_rfl) (by simp) ?_
    refine AllReadyH.cons rfl (fun K hK => ?_) AllReadyH.nil
    go_simp
    refine hK.out _ _ B4.out (fun _ => ?_)
    clear hK
    refine wpAnyH_done (by kernel_rfl) ?_ _
    have r4 : (w3.setCell ⟨w.heap.size + 1 + 1, 0, none⟩ (.slice x9 F9.length y9)).cell? ⟨w.heap.size + 1 + 1, 0, none⟩ = some (.slice x9 F9.length y9) := World.cell?_setCell_same _ _ _ r3
    clear r3 f3 B4
    generalize w3.setCell ⟨w.heap.size + 1 + 1, 0, none⟩ (.slice x9 F9.length y9) = W4 at FIN r4 ⊢
    go_wp2_with fail
    refine bodyPost_ret (v := .tuple #[.agg #[.slice x9 F9.length y9], .int .i64 c9]) (by simp [results, Tryz.results6, go_sem, r4]) rfl ?_
    exact FIN.out
  · have hdk' : Pl.diskB fs = false := by simpa using hdk
    have PR : Hid (Pl.doR fs ⟨kd, nm, to, da⟩ = fs ∧ Pl.doC fs ⟨kd, nm, to, da⟩ = 1) := ⟨by unfold Pl.doR; rw [if_neg hdk], by unfold Pl.doC; rw [if_neg hdk]⟩
    rw [hdk']
    clear hdk hdk'
    obtain ⟨q0, r0, f0⟩ := CC.out
    go_wp2_with fail
    clear q0 r0 f0
    refine (l7Copy_any _ fs _ hl ((H.out.keep B1.out).up (by omega))).mono ?_
    rintro e w2 ⟨u, rfl, hu, hb2⟩
    obtain ⟨x1, y1, e1⟩ := hu.form
    subst e1
    have r2 : w2.cell? ⟨w.heap.size + 1 + 1, 0, none⟩ = some (.slice none 0 0) := (hb2.cell (p := ⟨w.heap.size + 1 + 1, 0, none⟩) (by show w.heap.size + 1 + 1 < _; omega)).trans CC.out.2.1
    have f2 : w2.frozen? ⟨w.heap.size + 1 + 1, 0, none⟩ = false := (hb2.frozen (p := ⟨w.heap.size + 1 + 1, 0, none⟩) (by show w.heap.size + 1 + 1 < _; omega)).trans CC.out.2.2
    have FIN : Hid (∀ v, DPost w fs ⟨kd, nm, to, da⟩ (.returned (.tuple #[.agg #[.slice x1 fs.length y1], .int .i64 1])) (w2.setCell ⟨w.heap.size + 1 + 1, 0, none⟩ v)) := by
      intro v
      refine ⟨(B1.out.trans (hb2.mono (by omega))).setCell (by simp; omega) _, _, by rw [PR.out.2], ?_⟩
      rw [PR.out.1]
      exact (hu.store (by omega) _).base (by omega)
    clear hb2 hu
    go_wp2_with fail
    refine bodyPost_ret (v := .tuple #[.agg #[.slice x1 fs.length y1], .int .i64 1]) (by simp [results, Tryz.results6, go_sem, r2]) rfl ?_
    exact FIN.out _

end Go.Proofs.YtfangdhbadmolaaGreatDoor
