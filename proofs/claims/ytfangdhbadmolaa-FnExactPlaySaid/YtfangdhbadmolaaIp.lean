import Derived.Test.YtfangdhbadmolaaSp
import Derived.Test.YtfangdhbadmolaaLd
import Derived.Test.YtfangdhbadmolaaLo
import Derived.Test.YtfangdhbadmolaaDs
namespace Go.Proofs.Ytfangdhbadmolaa
open Go.RowKit
set_option linter.unusedVariables false

namespace Pl
theorem eff_nm {fs : List Fl} {a : Ac} {M : Nat} (h : ∀ f ∈ fs, f.1.size ≤ M) (h1 : a.name.size ≤ M) (h2 : a.to.size ≤ M) : ∀ f ∈ effF fs a, f.1.size ≤ M := by
  have wo : ∀ n, ∀ f ∈ withoutF fs n, f.1.size ≤ M := fun n f hf => h f (List.mem_filter.1 hf).1
  intro f hf
  unfold effF at hf
  split at hf
  · rcases withF_mem hf with rfl | ⟨hf, _⟩
    · exact h1
    · exact h f hf
  split at hf
  · rcases withF_mem hf with rfl | ⟨hf, _⟩
    · exact h1
    · exact h f hf
  split at hf
  · rcases withF_mem hf with rfl | ⟨hf, _⟩
    · exact h2
    · exact wo _ f hf
  · exact wo _ f hf
theorem play_nm {fs : List Fl} {M : Nat} (l : List Ac) (h : ∀ f ∈ fs, f.1.size ≤ M) (hl : ∀ a ∈ l, a.name.size ≤ M ∧ a.to.size ≤ M) : ∀ f ∈ playF fs l, f.1.size ≤ M := by
  induction l generalizing fs with
  | nil => exact h
  | cons b r ih =>
    unfold playF
    split
    · exact ih (eff_nm h (hl b (List.mem_cons_self ..)).1 (hl b (List.mem_cons_self ..)).2) (fun a ha => hl a (List.mem_cons_of_mem _ ha))
    · exact h
end Pl

set_option maxRecDepth 100000 in
set_option maxHeartbeats 8000000 in
/-- impl.Play -/
theorem implPlay_any (v av : Value) (fs : List Pl.Fl) (qs : List Pl.Ac) (most : Int) (w : World) (hl : fs.length ≤ 1048576) (hq : qs.length ≤ 1048576) (hz : SmF fs) (hy : SmA qs)
    (hm0 : -9223372036854775808 ≤ most) (hm1 : most ≤ 9223372036854775807) (h : RdF w.heap.size w v fs) (ha : RdA w.heap.size w av qs) :
    Calls Try.prog 9 #[.agg #[v], av, .int .i64 most] w (PlayPost w fs qs most) := by
  have H := hideP h
  have HY := hideP hy
  have HZ := hideP hz
  have PN : Hid (∀ k, ∀ f ∈ Pl.playF fs (qs.take k), f.1.size ≤ 1048576) := fun k => Pl.play_nm _ (fun f hf => (hz f hf).1) (fun a ha => ⟨(hy a (List.mem_of_mem_take ha)).1, (hy a (List.mem_of_mem_take ha)).2.1⟩)
  obtain ⟨ao, cap, e0⟩ := h.form
  subst e0
  obtain ⟨bo, cbp, e1⟩ := ha.form
  subst e1
  generalize hnq : qs.length = n at *
  have Hn := hideP hnq
  have HR := hideP (rdA_at hnq ha)
  clear hnq ha h hz hy
  have B2 : Hid (∀ o1 o2 : Obj, Below w.heap.size w ((w.alloc o1).alloc o2)) := fun o1 o2 => ((Below.refl _ _).alloc (Nat.le_refl _) _).alloc (by simp) _
  go_enter Try.func9, Try.ntmps9
  go_wp2_with fail
  refine (liveOf_any _ fs _ hl HZ.out ((H.out.keep (B2.out _ _)).up (by simp; omega))).mono ?_
  rintro e w1 ⟨hb1, hcase⟩
  have B1 := hideP ((B2.out _ _).trans (hb1.mono (by simp; omega)))
  have s1 := hb1.size
  simp at s1
  obtain ⟨hc, hf⟩ := bcell hb1
  have CC : Hid (w1.cell? ⟨w.heap.size, 0, none⟩ = some (.slice ao fs.length cap) ∧ w1.cell? ⟨w.heap.size + 1, 0, none⟩ = some (.slice none 0 0) ∧ w1.frozen? ⟨w.heap.size + 1, 0, none⟩ = false) :=
    ⟨by rw [hc w.heap.size 0 (by simp; omega)]; simp [go_sem], by rw [hc (w.heap.size + 1) 0 (by simp)]; simp [go_sem], by rw [hf (w.heap.size + 1) 0 (by simp)]; simp [go_sem]⟩
  clear hc hf hb1
  rcases hcase with ⟨hd, rfl⟩ | ⟨hd, L, b, rfl, hL, hb, lv⟩
  · have PM : Hid (Pl.playM fs qs most = (fs, 0)) := by show _ = _; unfold Pl.playM; rw [if_neg (by rw [hd]; simp)]
    clear hd
    obtain ⟨q0, r0, f0⟩ := CC.out
    go_wp2_with fail
    refine (sameDisk_any _ fs _ hl ((H.out.keep B1.out).up (by omega))).mono ?_
    rintro e w2 ⟨v2, rfl, ho2, hb2⟩
    obtain ⟨x2, y2, e2⟩ := ho2.form
    subst e2
    have r2 : w2.cell? ⟨w.heap.size + 1, 0, none⟩ = some (.slice none 0 0) := (hb2.cell (p := ⟨w.heap.size + 1, 0, none⟩) (by show w.heap.size + 1 < _; omega)).trans CC.out.2.1
    have f2 : w2.frozen? ⟨w.heap.size + 1, 0, none⟩ = false := (hb2.frozen (p := ⟨w.heap.size + 1, 0, none⟩) (by show w.heap.size + 1 < _; omega)).trans CC.out.2.2
    have FIN : Hid (∀ v, PlayPost w fs qs most (.returned (.tuple #[.agg #[.slice x2 fs.length y2], .int .i64 0])) (w2.setCell ⟨w.heap.size + 1, 0, none⟩ v)) := by
      intro v
      refine ⟨(B1.out.trans (hb2.mono B1.out.size)).setCell (by simp) _, _, by rw [PM.out], ?_⟩
      rw [PM.out]
      exact (ho2.store (by omega) _).base (by omega)
    clear hb2 ho2
    go_wp2_with fail
    refine bodyPost_ret (v := .tuple #[.agg #[.slice x2 fs.length y2], .int .i64 0]) (by simp [results, Try.results9, go_sem, r2]) rfl ?_
    exact FIN.out _
  · have VD := hideP (Pl.vd_of_disk hd)
    have LV := hideP lv
    simp at hL hb
    clear lv
    by_cases hn1 : n ≤ 10000
    · have PM : Hid (Pl.playM fs qs most = (Pl.playF fs (qs.take (Pl.mostN qs most)), (Pl.playN fs (qs.take (Pl.mostN qs most)) : Int))) := by show _ = _; unfold Pl.playM; rw [if_pos ⟨hd, by rw [Hn.out]; exact hn1⟩]
      have MN : Hid (Pl.mostN qs most = min most.toNat n) := by show _ = _; unfold Pl.mostN; rw [Hn.out]
      have hn1' : ¬ (10000 : Int) < n := by omega
      clear hd
      go_wp2_with fail
      go_loopw [10] (fun i wr => ∃ k : Nat, k ≤ n ∧ (k = 0 ∨ (k : Int) ≤ most) ∧ i = .int .i64 k ∧ Hid (Pl.playN fs (qs.take k) = k) ∧ Hid (Lv L b 0 (Pl.playF fs (qs.take k)) wr ∧ Below (w.heap.size + 1 + 1) w1 wr)) (fun i _ => n - (intOf i).toNat)
      case atStart => exact ⟨0, Nat.zero_le _, .inl rfl, rfl, rfl, LV.out, Below.refl _ _⟩
      case round =>
        obtain ⟨k, hk, hkm, rfl, hN, LW⟩ := hrel
        have VK := hideP (Pl.play_vd VD.out (qs.take k))
        have NK := hideP (PN.out k)
        by_cases hgo : k < n ∧ (k : Int) < most
        · obtain ⟨hlt, hmo⟩ := hgo
          have hlt' : (k : Int) < min most (n : Int) := by omega
          have hltn : (k : Int) < (n : Int) := by omega
          obtain ⟨ab, off, e0, hab, hact⟩ := HR.out k hlt
          subst e0
          have hyy := HY.out _ (Pl.aa_mem (l := qs) (k := k) (by rw [Hn.out]; exact hlt))
          have TO := hideP (Pl.take_ok fs qs k (by rw [Hn.out]; exact hlt) hN.out)
          have TS := hideP (Pl.take_stop fs qs k (Pl.mostN qs most) (by rw [MN.out]; omega) (by rw [MN.out, Hn.out]; omega) hN.out)
          obtain ⟨a0, a1, a2, a3⟩ := (hact.keep B1.out hab).keep (B := w.heap.size + 1 + 1) LW.out.2 (by omega)
          clear hact
          generalize Pl.aa qs k = act at *
          obtain ⟨kd, nm, to, da⟩ := act
          simp only at hyy a0 a1 a2 a3
          have KD := hideP (do_any L b _ kd nm to da wr VK.out hyy.1 hyy.2.1 hyy.2.2 LW.out.1)
          have hsz := LW.out.2.size
          generalize hF : Pl.playF fs (qs.take k) = F at *
          by_cases hrf : Pl.refB F ⟨kd, nm, to, da⟩ = 0
          · have T2 := hideP (TO.out hrf)
            have KO : Hid (Calls Try.prog 24 #[.pointer (some ⟨L, 0, none⟩), .agg #[.int .i64 kd, .string nm, .string to, .string da]] wr fun e w' => e = .returned .nilIface ∧ Lv L b 0 (Pl.playF fs (qs.take (k + 1))) w' ∧ Below (w.heap.size + 1 + 1) w1 w') := by
              refine KD.out.mono ?_
              rintro e w' ⟨e1, hk, hl⟩
              refine ⟨by rw [e1, hrf]; rfl, ?_, LW.out.2.trans (hk.below (by omega) hL hb)⟩
              rw [T2.out.2]
              rw [Pl.doM, if_pos hrf] at hl
              exact hl
            clear hrf TO TS hN hF KD hyy VK NK HR
            go_wp2_with fail
            refine KO.out.mono ?_
            rintro e w9 ⟨rfl, lv9, bl9⟩
            have R9 := hideP (And.intro lv9 bl9)
            clear lv9 bl9 KO LW
            go_wp2_with fail
            go_roundw
            case rel => exact ⟨k + 1, by omega, .inr (by omega), by go_num, T2.out.1, R9.out⟩
            case measure => simp [intOf]; omega
          · have EX := hideP (TS.out hrf)
            have EX : Hid (((Pl.playN fs (qs.take (Pl.mostN qs most)) : Nat) : Int) = k ∧ Pl.playF fs (qs.take (Pl.mostN qs most)) = F) := ⟨by rw [EX.out.1], EX.out.2⟩
            obtain ⟨c, hce⟩ : ∃ c, Pl.refB F ⟨kd, nm, to, da⟩ = c := ⟨_, rfl⟩
            have KO : Hid (Calls Try.prog 24 #[.pointer (some ⟨L, 0, none⟩), .agg #[.int .i64 kd, .string nm, .string to, .string da]] wr fun e w' => e = .returned (.iface 73 (.agg #[.int .i64 c, .int .i64 0])) ∧ Lv L b 0 F w' ∧ Below (w.heap.size + 1 + 1) w1 w') := by
              refine KD.out.mono ?_
              rintro e w' ⟨e1, hk, hl⟩
              refine ⟨by rw [e1, hce]; unfold errV; rw [if_neg (hce ▸ hrf)], ?_, LW.out.2.trans (hk.below (by omega) hL hb)⟩
              rw [Pl.doM, if_neg hrf] at hl
              exact hl
            have VF := VK
            have NF := NK
            clear hrf TO TS hN hF KD hyy VK NK HR hce LW
            go_wp2_with fail
            refine KO.out.mono ?_
            rintro e w9 ⟨rfl, lv9, bl9⟩
            have LW := hideP (And.intro lv9 bl9)
            clear lv9 bl9 KO a0 a1 a2 a3 hsz
            go_wp2_with fail
            refine (disk_any L b F _ VF.out NF.out LW.out.1).mono ?_
            rintro e w3 ⟨v3, rfl, ho3, hk3⟩
            obtain ⟨x3, y3, e3⟩ := ho3.form
            subst e3
            have hsz := LW.out.2.size
            have b3 := hk3.below (B := w.heap.size + 1 + 1) (by omega) hL hb
            have r3 : w3.cell? ⟨w.heap.size + 1, 0, none⟩ = some (.slice none 0 0) := (b3.cell (p := ⟨w.heap.size + 1, 0, none⟩) (by show w.heap.size + 1 < _; omega)).trans ((LW.out.2.cell (p := ⟨w.heap.size + 1, 0, none⟩) (by show w.heap.size + 1 < _; omega)).trans CC.out.2.1)
            have f3 : w3.frozen? ⟨w.heap.size + 1, 0, none⟩ = false := (b3.frozen (p := ⟨w.heap.size + 1, 0, none⟩) (by show w.heap.size + 1 < _; omega)).trans ((LW.out.2.frozen (p := ⟨w.heap.size + 1, 0, none⟩) (by show w.heap.size + 1 < _; omega)).trans CC.out.2.2)
            have FIN : Hid (∀ v, PlayPost w fs qs most (.returned (.tuple #[.agg #[.slice x3 F.length y3], .int .i64 k])) (w3.setCell ⟨w.heap.size + 1, 0, none⟩ v)) := by
              intro v
              refine ⟨(B1.out.trans ((LW.out.2.trans b3).mono (by omega))).setCell (by simp) _, _, by rw [PM.out, EX.out.1], ?_⟩
              rw [PM.out, EX.out.2]
              exact (ho3.store (by omega) _).base (by omega)
            clear b3 hk3 ho3 hsz
            go_wp2_with fail
            refine bodyPost_ret (v := .tuple #[.agg #[.slice x3 F.length y3], .int .i64 k]) (by simp [results, Try.results9, go_sem, r3]) rfl ?_
            exact FIN.out _
        · have EX : Hid (((Pl.playN fs (qs.take (Pl.mostN qs most)) : Nat) : Int) = k ∧ Pl.playF fs (qs.take (Pl.mostN qs most)) = Pl.playF fs (qs.take k)) := by
            have : Pl.mostN qs most = k := by rw [MN.out]; omega
            rw [this]
            exact ⟨by rw [hN.out], rfl⟩
          have hmin : ¬ (k : Int) < min most (n : Int) := by omega
          have VF := VK
          have NF := NK
          generalize hF : Pl.playF fs (qs.take k) = F at *
          clear hF VK NK HR hN
          go_wp2_with fail
          refine (disk_any L b F _ VF.out NF.out LW.out.1).mono ?_
          rintro e w3 ⟨v3, rfl, ho3, hk3⟩
          obtain ⟨x3, y3, e3⟩ := ho3.form
          subst e3
          have hsz := LW.out.2.size
          have b3 := hk3.below (B := w.heap.size + 1 + 1) (by omega) hL hb
          have r3 : w3.cell? ⟨w.heap.size + 1, 0, none⟩ = some (.slice none 0 0) := (b3.cell (p := ⟨w.heap.size + 1, 0, none⟩) (by show w.heap.size + 1 < _; omega)).trans ((LW.out.2.cell (p := ⟨w.heap.size + 1, 0, none⟩) (by show w.heap.size + 1 < _; omega)).trans CC.out.2.1)
          have f3 : w3.frozen? ⟨w.heap.size + 1, 0, none⟩ = false := (b3.frozen (p := ⟨w.heap.size + 1, 0, none⟩) (by show w.heap.size + 1 < _; omega)).trans ((LW.out.2.frozen (p := ⟨w.heap.size + 1, 0, none⟩) (by show w.heap.size + 1 < _; omega)).trans CC.out.2.2)
          have FIN : Hid (∀ v, PlayPost w fs qs most (.returned (.tuple #[.agg #[.slice x3 F.length y3], .int .i64 k])) (w3.setCell ⟨w.heap.size + 1, 0, none⟩ v)) := by
            intro v
            refine ⟨(B1.out.trans ((LW.out.2.trans b3).mono (by omega))).setCell (by simp) _, _, by rw [PM.out, EX.out.1], ?_⟩
            rw [PM.out, EX.out.2]
            exact (ho3.store (by omega) _).base (by omega)
          clear b3 hk3 ho3 hsz
          go_wp2_with fail
          refine bodyPost_ret (v := .tuple #[.agg #[.slice x3 F.length y3], .int .i64 k]) (by simp [results, Try.results9, go_sem, r3]) rfl ?_
          exact FIN.out _
    · have PM : Hid (Pl.playM fs qs most = (fs, 0)) := by show _ = _; unfold Pl.playM; rw [if_neg (by rw [Hn.out]; exact fun h => hn1 h.2)]
      have hbig : (10000 : Int) < (n : Int) := by omega
      clear hd hn1 LV
      obtain ⟨q0, r0, f0⟩ := CC.out
      go_wp2_with fail
      refine (sameDisk_any _ fs _ hl ((H.out.keep B1.out).up (by omega))).mono ?_
      rintro e w2 ⟨v2, rfl, ho2, hb2⟩
      obtain ⟨x2, y2, e2⟩ := ho2.form
      subst e2
      have r2 : w2.cell? ⟨w.heap.size + 1, 0, none⟩ = some (.slice none 0 0) := (hb2.cell (p := ⟨w.heap.size + 1, 0, none⟩) (by show w.heap.size + 1 < _; omega)).trans CC.out.2.1
      have f2 : w2.frozen? ⟨w.heap.size + 1, 0, none⟩ = false := (hb2.frozen (p := ⟨w.heap.size + 1, 0, none⟩) (by show w.heap.size + 1 < _; omega)).trans CC.out.2.2
      have FIN : Hid (∀ v, PlayPost w fs qs most (.returned (.tuple #[.agg #[.slice x2 fs.length y2], .int .i64 0])) (w2.setCell ⟨w.heap.size + 1, 0, none⟩ v)) := by
        intro v
        refine ⟨(B1.out.trans (hb2.mono B1.out.size)).setCell (by simp) _, _, by rw [PM.out], ?_⟩
        rw [PM.out]
        exact (ho2.store (by omega) _).base (by omega)
      clear hb2 ho2
      go_wp2_with fail
      refine bodyPost_ret (v := .tuple #[.agg #[.slice x2 fs.length y2], .int .i64 0]) (by simp [results, Try.results9, go_sem, r2]) rfl ?_
      exact FIN.out _

end Go.Proofs.Ytfangdhbadmolaa
