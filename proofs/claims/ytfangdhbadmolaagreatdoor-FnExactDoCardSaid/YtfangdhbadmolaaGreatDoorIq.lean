import Derived.Test.YtfangdhbadmolaaGreatDoorSq
import Derived.Test.YtfangdhbadmolaaGreatDoorEd
import Derived.Test.YtfangdhbadmolaaGreatDoorLd
import Derived.Test.YtfangdhbadmolaaGreatDoorLo
import Derived.Test.YtfangdhbadmolaaGreatDoorDs
namespace Go.Proofs.YtfangdhbadmolaaGreatDoor
open Go.RowKit
set_option linter.unusedVariables false

namespace Pl
theorem eff_nm {fs : List Fl} {a : Ac} {M : Nat} (h : ∀ f ∈ fs, f.1.size ≤ M) (h1 : a.name.size ≤ M) (h2 : a.to.size ≤ M) : ∀ f ∈ effF fs a, f.1.size ≤ M := by
  have wo : ∀ n, ∀ f ∈ withoutF fs n, f.1.size ≤ M := fun n f hf => h f (List.mem_filter.1 hf).1
  intro f hf
  unfold effF at hf
  split at hf
  · rcases withF_mem hf with rfl | ⟨hf, _⟩
    · exact h1
    · exact h f hf
  split at hf
  · rcases withF_mem hf with rfl | ⟨hf, _⟩
    · exact h1
    · exact h f hf
  split at hf
  · rcases withF_mem hf with rfl | ⟨hf, _⟩
    · exact h2
    · exact wo _ f hf
  · exact wo _ f hf
end Pl

theorem fld51 (c d : Int) (W : World) : (Instr.field 51 (.agg #[.int .i64 c, .int .i64 d]) 0).run Tryz.prog W = .ok (.int .i64 c) W := by kernel_rfl

set_option maxRecDepth 100000 in
set_option maxHeartbeats 8000000 in
/-- impl.Do -/
theorem implDo_any (v : Value) (fs : List Pl.Fl) (kd : Int) (nm to da : ByteArray) (w : World) (hl : fs.length ≤ 1048576) (hz : SmF fs) (hn : nm.size ≤ 1048576) (ht : to.size ≤ 1048576) (hd : da.size ≤ 1048576)
    (hg : w.cell? ⟨0, 0, none⟩ = some (.iface 113 (.agg #[.pointer (some ⟨1, 46, none⟩)]))) (h : RdF w.heap.size w v fs) :
    Calls Tryz.prog 9 #[.agg #[v], .agg #[.int .i64 kd, .string nm, .string to, .string da]] w (DPost w fs ⟨kd, nm, to, da⟩) := by
  have hlt : 0 < w.heap.size := by
    rcases Nat.eq_zero_or_pos w.heap.size with h0 | h
    · simp [World.cell?, h0] at hg
    · exact h
  have HG := hideP hg
  have H := hideP h
  have HZ := hideP hz
  have HS := hideP (And.intro hn (And.intro ht hd))
  obtain ⟨ao, cap, e0⟩ := h.form
  subst e0
  clear h hz hn ht hd hg
  have B3 : Hid (∀ o1 o2 o3 : Obj, Below w.heap.size w (((w.alloc o1).alloc o2).alloc o3)) := fun o1 o2 o3 => (((Below.refl _ _).alloc (Nat.le_refl _) _).alloc (by simp) _).alloc (by simp; omega) _
  go_enter Tryz.func9, Tryz.ntmps9
  go_wp2_with fail
  refine (liveOf_any _ fs _ hl HZ.out ((H.out.keep (B3.out _ _ _)).up (by simp; omega))).mono ?_
  rintro e w1 ⟨hb1, hcase⟩
  have B1 := hideP ((B3.out _ _ _).trans (hb1.mono (by simp; omega)))
  have s1 : w.heap.size + 1 + 1 + 1 ≤ w1.heap.size := by have := hb1.size; simpa using this
  obtain ⟨hc, hf⟩ := bcell hb1
  have CC : Hid (w1.cell? ⟨w.heap.size, 0, none⟩ = some (.slice ao fs.length cap)) := by show _ = _; rw [hc w.heap.size 0 (by simp; omega)]; simp [go_sem]
  have RR : Hid (w1.cell? ⟨w.heap.size + 1 + 1, 0, none⟩ = some (.slice none 0 0) ∧ w1.frozen? ⟨w.heap.size + 1 + 1, 0, none⟩ = false) :=
    ⟨by rw [hc (w.heap.size + 1 + 1) 0 (by simp)]; simp [go_sem], by rw [hf (w.heap.size + 1 + 1) 0 (by simp)]; simp [go_sem]⟩
  have CA : Hid (w1.cell? ⟨w.heap.size + 1, 0, none⟩ = some (.int .i64 kd) ∧ w1.cell? ⟨w.heap.size + 1, 1, none⟩ = some (.string nm) ∧ w1.cell? ⟨w.heap.size + 1, 2, none⟩ = some (.string to) ∧ w1.cell? ⟨w.heap.size + 1, 3, none⟩ = some (.string da)) :=
    ⟨by rw [hc (w.heap.size + 1) 0 (by simp)]; simp [go_sem], by rw [hc (w.heap.size + 1) 1 (by simp)]; simp [go_sem], by rw [hc (w.heap.size + 1) 2 (by simp)]; simp [go_sem], by rw [hc (w.heap.size + 1) 3 (by simp)]; simp [go_sem]⟩
  clear hc hf hb1
  rcases hcase with ⟨hdk, rfl⟩ | ⟨hdk, L, b, rfl, hL, hb, lv⟩
  · have PR : Hid (Pl.doR fs ⟨kd, nm, to, da⟩ = fs ∧ Pl.doC fs ⟨kd, nm, to, da⟩ = 1) := ⟨by unfold Pl.doR; rw [if_neg (by rw [hdk]; simp)], by unfold Pl.doC; rw [if_neg (by rw [hdk]; simp)]⟩
    clear hdk CA
    have q0 := CC.out
    go_wp2_with fail
    refine (sameDisk_any _ fs _ hl ((H.out.keep B1.out).up (by omega))).mono ?_
    rintro e w5 ⟨v2, rfl, ho2, hb2⟩
    obtain ⟨x2, y2, e2⟩ := ho2.form
    subst e2
    have B5 := hideP (B1.out.trans (hb2.mono (by omega)))
    have O5 := hideP ho2
    have R5 : Hid (w5.cell? ⟨w.heap.size + 1 + 1, 0, none⟩ = some (.slice none 0 0) ∧ w5.frozen? ⟨w.heap.size + 1 + 1, 0, none⟩ = false) :=
      ⟨(hb2.cell (p := ⟨w.heap.size + 1 + 1, 0, none⟩) (by show w.heap.size + 1 + 1 < _; omega)).trans RR.out.1, (hb2.frozen (p := ⟨w.heap.size + 1 + 1, 0, none⟩) (by show w.heap.size + 1 + 1 < _; omega)).trans RR.out.2⟩
    have s5 := hb2.size
    clear hb2 ho2
    go_wp2_with fail
    refine (refusalOf_any 1 0 _ ((B5.out.cell (p := ⟨0, 0, none⟩) hlt).trans HG.out)).mono ?_
    rintro e w6 ⟨rfl, hb6⟩
    have r6 : w6.cell? ⟨w.heap.size + 1 + 1, 0, none⟩ = some (.slice none 0 0) := (hb6.cell (p := ⟨w.heap.size + 1 + 1, 0, none⟩) (by show w.heap.size + 1 + 1 < _; omega)).trans R5.out.1
    have f6 : w6.frozen? ⟨w.heap.size + 1 + 1, 0, none⟩ = false := (hb6.frozen (p := ⟨w.heap.size + 1 + 1, 0, none⟩) (by show w.heap.size + 1 + 1 < _; omega)).trans R5.out.2
    have FIN : Hid (∀ v, DPost w fs ⟨kd, nm, to, da⟩ (.returned (.tuple #[.agg #[.slice x2 fs.length y2], .int .i64 1])) (w6.setCell ⟨w.heap.size + 1 + 1, 0, none⟩ v)) := by
      intro v
      refine ⟨(B5.out.trans (hb6.mono (by omega))).setCell (by simp; omega) _, _, by rw [PR.out.2], ?_⟩
      rw [PR.out.1]
      exact ((O5.out.keep hb6).store (by omega) _).base (by omega)
    clear hb6
    have fl := fld51
    go_wp2_with fail
    refine bodyPost_ret (v := .tuple #[.agg #[.slice x2 fs.length y2], .int .i64 1]) (by simp [results, Tryz.results9, go_sem, r6]) rfl ?_
    exact FIN.out _
  · have VD := hideP (Pl.vd_of_disk hdk)
    have PQ : Hid (Pl.doR fs ⟨kd, nm, to, da⟩ = Pl.doM fs ⟨kd, nm, to, da⟩ ∧ Pl.doC fs ⟨kd, nm, to, da⟩ = Pl.refB fs ⟨kd, nm, to, da⟩) := ⟨by unfold Pl.doR; rw [if_pos hdk], by unfold Pl.doC; rw [if_pos hdk]⟩
    have KD := hideP (do_any L b fs kd nm to da w1 VD.out HS.out.1 HS.out.2.1 HS.out.2.2 lv)
    simp at hL hb
    clear hdk lv
    by_cases hrf : Pl.refB fs ⟨kd, nm, to, da⟩ = 0
    · have PR : Hid (Pl.doR fs ⟨kd, nm, to, da⟩ = Pl.effF fs ⟨kd, nm, to, da⟩ ∧ Pl.doC fs ⟨kd, nm, to, da⟩ = 0) := ⟨by rw [PQ.out.1]; unfold Pl.doM; rw [if_pos hrf], by rw [PQ.out.2, hrf]⟩
      have KO : Hid (Calls Tryz.prog 19 #[.pointer (some ⟨L, 0, none⟩), .agg #[.int .i64 kd, .string nm, .string to, .string da]] w1 fun e w' => e = .returned .nilIface ∧ Lv L b 0 (Pl.effF fs ⟨kd, nm, to, da⟩) w' ∧ Below (w.heap.size + 1 + 1 + 1) w1 w') := by
        refine KD.out.mono ?_
        rintro e w' ⟨e1, hk, hl⟩
        refine ⟨by rw [e1, hrf]; rfl, ?_, hk.below (by omega) hL hb⟩
        rw [Pl.doM, if_pos hrf] at hl
        exact hl
      have VF := hideP (Pl.eff_vd VD.out hrf)
      have NF : Hid (∀ f ∈ Pl.effF fs ⟨kd, nm, to, da⟩, f.1.size ≤ 1048576) := Pl.eff_nm (fun f hf => (HZ.out f hf).1) HS.out.1 HS.out.2.1
      generalize Pl.effF fs ⟨kd, nm, to, da⟩ = F at *
      clear hrf KD PQ VD
      obtain ⟨a0, a1, a2, a3⟩ := CA.out
      go_wp2_with fail
      refine KO.out.mono ?_
      rintro e w2 ⟨rfl, lv2, bl2⟩
      have LW := hideP (And.intro lv2 bl2)
      clear lv2 bl2 KO a0 a1 a2 a3
      go_wp2_with fail
      refine (disk_any L b F _ VF.out NF.out LW.out.1).mono ?_
      rintro e w3 ⟨v3, rfl, ho3, hk3⟩
      obtain ⟨x3, y3, e3⟩ := ho3.form
      subst e3
      have hsz := LW.out.2.size
      have b3 := hk3.below (B := w.heap.size + 1 + 1 + 1) (by omega) hL hb
      have r3 : w3.cell? ⟨w.heap.size + 1 + 1, 0, none⟩ = some (.slice none 0 0) := (b3.cell (p := ⟨w.heap.size + 1 + 1, 0, none⟩) (by show w.heap.size + 1 + 1 < _; omega)).trans ((LW.out.2.cell (p := ⟨w.heap.size + 1 + 1, 0, none⟩) (by show w.heap.size + 1 + 1 < _; omega)).trans RR.out.1)
      have f3 : w3.frozen? ⟨w.heap.size + 1 + 1, 0, none⟩ = false := (b3.frozen (p := ⟨w.heap.size + 1 + 1, 0, none⟩) (by show w.heap.size + 1 + 1 < _; omega)).trans ((LW.out.2.frozen (p := ⟨w.heap.size + 1 + 1, 0, none⟩) (by show w.heap.size + 1 + 1 < _; omega)).trans RR.out.2)
      have FIN : Hid (∀ v, DPost w fs ⟨kd, nm, to, da⟩ (.returned (.tuple #[.agg #[.slice x3 F.length y3], .int .i64 0])) (w3.setCell ⟨w.heap.size + 1 + 1, 0, none⟩ v)) := by
        intro v
        refine ⟨(B1.out.trans ((LW.out.2.trans b3).mono (by omega))).setCell (by simp; omega) _, _, by rw [PR.out.2], ?_⟩
        rw [PR.out.1]
        exact (ho3.store (by omega) _).base (by omega)
      clear b3 hk3 ho3 hsz
      go_wp2_with fail
      refine bodyPost_ret (v := .tuple #[.agg #[.slice x3 F.length y3], .int .i64 0]) (by simp [results, Tryz.results9, go_sem, r3]) rfl ?_
      exact FIN.out _
    · obtain ⟨c, hce⟩ : ∃ c, Pl.refB fs ⟨kd, nm, to, da⟩ = c := ⟨_, rfl⟩
      have PR : Hid (Pl.doR fs ⟨kd, nm, to, da⟩ = fs ∧ Pl.doC fs ⟨kd, nm, to, da⟩ = c) := ⟨by rw [PQ.out.1]; unfold Pl.doM; rw [if_neg hrf], by rw [PQ.out.2, hce]⟩
      have KO : Hid (Calls Tryz.prog 19 #[.pointer (some ⟨L, 0, none⟩), .agg #[.int .i64 kd, .string nm, .string to, .string da]] w1 fun e w' => e = .returned (.iface 51 (.agg #[.int .i64 c, .int .i64 0])) ∧ Below (w.heap.size + 1 + 1 + 1) w1 w') := by
        refine KD.out.mono ?_
        rintro e w' ⟨e1, hk, hl⟩
        exact ⟨by rw [e1, hce]; unfold errV; rw [if_neg (hce ▸ hrf)], hk.below (by omega) hL hb⟩
      clear hrf KD PQ VD hce
      obtain ⟨a0, a1, a2, a3⟩ := CA.out
      go_wp2_with fail
      refine KO.out.mono ?_
      rintro e w2 ⟨rfl, bl2⟩
      have B1 := hideP (B1.out.trans (bl2.mono (by omega)))
      have s2 : w.heap.size + 1 + 1 + 1 ≤ w2.heap.size := by have := bl2.size; omega
      have q0 : w2.cell? ⟨w.heap.size, 0, none⟩ = some (.slice ao fs.length cap) := (bl2.cell (p := ⟨w.heap.size, 0, none⟩) (by show w.heap.size < _; omega)).trans CC.out
      have RR : Hid (w2.cell? ⟨w.heap.size + 1 + 1, 0, none⟩ = some (.slice none 0 0) ∧ w2.frozen? ⟨w.heap.size + 1 + 1, 0, none⟩ = false) :=
        ⟨(bl2.cell (p := ⟨w.heap.size + 1 + 1, 0, none⟩) (by show w.heap.size + 1 + 1 < _; omega)).trans RR.out.1, (bl2.frozen (p := ⟨w.heap.size + 1 + 1, 0, none⟩) (by show w.heap.size + 1 + 1 < _; omega)).trans RR.out.2⟩
      clear bl2 KO a0 a1 a2 a3
      go_wp2_with fail
      refine (sameDisk_any _ fs _ hl ((H.out.keep B1.out).up (by omega))).mono ?_
      rintro e w5 ⟨v2, rfl, ho2, hb2⟩
      obtain ⟨x2, y2, e2⟩ := ho2.form
      subst e2
      have B5 := hideP (B1.out.trans (hb2.mono (by omega)))
      have O5 := hideP ho2
      have R5 : Hid (w5.cell? ⟨w.heap.size + 1 + 1, 0, none⟩ = some (.slice none 0 0) ∧ w5.frozen? ⟨w.heap.size + 1 + 1, 0, none⟩ = false) :=
        ⟨(hb2.cell (p := ⟨w.heap.size + 1 + 1, 0, none⟩) (by show w.heap.size + 1 + 1 < _; omega)).trans RR.out.1, (hb2.frozen (p := ⟨w.heap.size + 1 + 1, 0, none⟩) (by show w.heap.size + 1 + 1 < _; omega)).trans RR.out.2⟩
      have s5 := hb2.size
      clear hb2 ho2
      go_wp2_with fail
      refine (refusalOf_any c 0 _ ((B5.out.cell (p := ⟨0, 0, none⟩) hlt).trans HG.out)).mono ?_
      rintro e w6 ⟨rfl, hb6⟩
      have r6 : w6.cell? ⟨w.heap.size + 1 + 1, 0, none⟩ = some (.slice none 0 0) := (hb6.cell (p := ⟨w.heap.size + 1 + 1, 0, none⟩) (by show w.heap.size + 1 + 1 < _; omega)).trans R5.out.1
      have f6 : w6.frozen? ⟨w.heap.size + 1 + 1, 0, none⟩ = false := (hb6.frozen (p := ⟨w.heap.size + 1 + 1, 0, none⟩) (by show w.heap.size + 1 + 1 < _; omega)).trans R5.out.2
      have FIN : Hid (∀ v, DPost w fs ⟨kd, nm, to, da⟩ (.returned (.tuple #[.agg #[.slice x2 fs.length y2], .int .i64 c])) (w6.setCell ⟨w.heap.size + 1 + 1, 0, none⟩ v)) := by
        intro v
        refine ⟨(B5.out.trans (hb6.mono (by omega))).setCell (by simp; omega) _, _, by rw [PR.out.2], ?_⟩
        rw [PR.out.1]
        exact ((O5.out.keep hb6).store (by omega) _).base (by omega)
      clear hb6
      have fl := fld51
      go_wp2_with fail
      refine bodyPost_ret (v := .tuple #[.agg #[.slice x2 fs.length y2], .int .i64 c]) (by simp [results, Tryz.results9, go_sem, r6]) rfl ?_
      exact FIN.out _

end Go.Proofs.YtfangdhbadmolaaGreatDoor
