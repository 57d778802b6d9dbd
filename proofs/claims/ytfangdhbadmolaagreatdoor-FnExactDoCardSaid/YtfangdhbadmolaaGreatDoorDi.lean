import Derived.Test.YtfangdhbadmolaaGreatDoorOwn
namespace Go.Proofs.YtfangdhbadmolaaGreatDoor
open Go.RowKit
set_option linter.unusedVariables false

/-- impl.DiskOk: too many files -/
theorem implDisk_many (ao : Option Addr) (n cap : Nat) (w : World) (hm : n ≤ 9223372036854775807) (h : 400 < n) :
    Calls Tryz.prog 33 #[.agg #[.slice ao n cap]] w fun e w' => e = .returned (.bool false) ∧ Below w.heap.size w w' := by
  have h' : (400 : Int) < n := by omega
  go_enter Tryz.func33, Tryz.ntmps33
  go_wp2
  go_ret
  exact ⟨rfl, (Below.refl _ _).alloc (Nat.le_refl _) _⟩

set_option maxHeartbeats 1000000 in
theorem implDisk_core (b off cap : Nat) (fs : List Pl.Fl) (w : World) (hm : fs.length ≤ 400) (hz : ∀ f ∈ fs, f.1.size ≤ 9223372036854775807 ∧ f.2.size ≤ 9223372036854775807) (hb : b < w.heap.size)
    (hc : ∀ i, i < fs.length → w.cell? ⟨b, off + i * 2, none⟩ = some (.string (Pl.at' fs i).1) ∧ w.cell? ⟨b, off + i * 2 + 1, none⟩ = some (.string (Pl.at' fs i).2)) :
    Calls Tryz.prog 33 #[.agg #[.slice (some ⟨b, off, none⟩) fs.length cap]] w fun e w' => e = .returned (.bool ((List.range fs.length).all (Pl.fileB fs))) ∧ Below w.heap.size w w' := by
  have HZ := hideP hz
  clear hz
  generalize hn : fs.length = n at *
  have Hn : Hid (fs.length = n) := hn
  clear hn
  have HB : Hid (∀ o, Below w.heap.size w (w.alloc o)) := fun o => (Below.refl _ _).alloc (Nat.le_refl _) _
  go_enter Tryz.func33, Tryz.ntmps33
  go_wp2
  go_loopw [3, 4, 12] (fun _ _ i wr => ∃ k : Nat, k ≤ n ∧ i = .int .i64 k ∧ Hid ((List.range k).all (Pl.fileB fs) = true) ∧ wr.cell? ⟨w.heap.size, 0, none⟩ = some (.slice (some ⟨b, off, none⟩) n cap) ∧ w.heap.size < wr.heap.size ∧ Hid (Below w.heap.size w wr)) (fun _ _ i _ => n - (intOf i).toNat)
  case atStart => exact ⟨0, Nat.zero_le _, rfl, rfl, by simp [go_sem], by simp, HB.out _⟩
  case round =>
    obtain ⟨k, hk, rfl, hall, hcl, hsz, hbel⟩ := hrel
    by_cases hlt : k < n
    · have hx0 : wr.cell? ⟨b, off + k * 2, none⟩ = some (.string (Pl.at' fs k).1) := (hbel.out.cell (p := ⟨b, off + k * 2, none⟩) hb).trans (hc k hlt).1
      have hx1 : wr.cell? ⟨b, off + k * 2 + 1, none⟩ = some (.string (Pl.at' fs k).2) := (hbel.out.cell (p := ⟨b, off + k * 2 + 1, none⟩) hb).trans (hc k hlt).2
      have HS : Hid ((List.range (k + 1)).all (Pl.fileB fs) = ((List.range k).all (Pl.fileB fs) && Pl.fileB fs k)) := Pl.range_snoc _ _
      have HF : Hid (Pl.fileB fs k = false → (List.range n).all (Pl.fileB fs) = false) := Pl.range_false hlt
      have hzz := HZ.out _ (Pl.at_mem (l := fs) (k := k) (by rw [Hn.out]; exact hlt))
      have HO : Hid (Pl.oneB fs k = (Pl.nameB (Pl.at' fs k).1 && decide ((Pl.at' fs k).2.size ≤ 100000))) := rfl
      have HE : Hid (Pl.behindB fs k = (decide (k = 0) || Op.bytesLess (Pl.at' fs (k - 1)).1.toList (Pl.at' fs k).1.toList)) := rfl
      have HFB : Hid (Pl.fileB fs k = (Pl.oneB fs k && Pl.behindB fs k)) := rfl
      have HP : Hid (0 < k → wr.cell? ⟨b, off + (k - 1) * 2, none⟩ = some (.string (Pl.at' fs (k - 1)).1)) := fun _ => (hbel.out.cell (p := ⟨b, off + (k - 1) * 2, none⟩) hb).trans (hc (k - 1) (by omega)).1
      clear hc
      generalize Pl.at' fs k = f at *
      obtain ⟨fa, fb⟩ := f
      simp only at hx0 hx1 HO HE hzz
      obtain ⟨hz0, hz1⟩ := hzz
      have K := hideP (fun w => nameOk_any fa w hz0)
      have hbs : b < wr.heap.size := by omega
      cases hnm : Pl.nameB fa
      · rw [hnm] at K HO
        have R := hideP (HF.out (by rw [HFB.out, HO.out]; rfl))
        clear hnm HO HE HFB HF HS
        go_wp2_with (go_at_call 45; refine (K.out _).mono ?_; rintro e w' ⟨rfl, rfl⟩)
        go_ret
        exact ⟨ret_bool R.out.symm, hbel.out.alloc (by omega) _⟩
      · rw [hnm] at K HO
        by_cases hbig : 100000 < fb.size
        · have hbig' : (100000 : Int) < fb.size := by omega
          have R := hideP (HF.out (by rw [HFB.out, HO.out, show decide (fb.size ≤ 100000) = false from decide_eq_false (by omega)]; rfl))
          clear hnm HO HE HFB HF HS
          go_wp2_with (go_at_call 45; refine (K.out _).mono ?_; rintro e w' ⟨rfl, rfl⟩)
          go_ret
          exact ⟨ret_bool R.out.symm, hbel.out.alloc (by omega) _⟩
        · have hbig' : ¬ (100000 : Int) < fb.size := by omega
          have hbd : decide ((100000 : Int) < fb.size) = false := decide_eq_false hbig'
          by_cases hk0 : k = 0
          · have hk0' : ¬ (0 : Int) < k := by omega
            have R := hideP (HS.out.trans (by rw [hall.out, HFB.out, HO.out, HE.out, show decide (fb.size ≤ 100000) = true from decide_eq_true (by omega), show decide (k = 0) = true from decide_eq_true hk0]))
            have hk0d : decide (0 < k) = false := decide_eq_false (by omega)
            clear hnm HO HE HFB HF HS HP hk0
            go_wp2_with (go_at_call 45; refine (K.out _).mono ?_; rintro e w' ⟨rfl, rfl⟩)
            go_quiet (fail)
            go_wp2
            go_roundw
            case rel => exact ⟨k + 1, by omega, by go_num, R, ((below_drewN ((Below.refl wr.heap.size wr).alloc (Nat.le_refl _) _) _).cell (p := ⟨w.heap.size, 0, none⟩) hsz).trans hcl, by simp; omega, below_drewN (hbel.out.alloc (by omega) _) _⟩
            case measure => simp [intOf]; omega
          · obtain ⟨j, rfl⟩ : ∃ j, k = j + 1 := ⟨k - 1, by omega⟩
            have hpre := HP.out (by omega)
            simp only [Nat.add_sub_cancel] at hpre HE
            generalize (Pl.at' fs j).1 = pa at *
            have hj : ((j + 1 : Nat) : Int) - 1 = (j : Int) := by omega
            cases hls : Op.bytesLess pa.toList fa.toList
            · have R := hideP (HF.out (by simp [HFB.out, HO.out, HE.out, hls]))
              clear hnm HO HE HFB HF HS HP hk0
              go_wp2_with (go_at_call 45; refine (K.out _).mono ?_; rintro e w' ⟨rfl, rfl⟩)
              go_quiet (fail)
              go_wp2
              go_ret
              exact ⟨ret_bool R.out.symm, below_drewN (hbel.out.alloc (by omega) _) _⟩
            · have R := hideP (HS.out.trans (by rw [hall.out, HFB.out, HO.out, HE.out, hls, show decide (fb.size ≤ 100000) = true from decide_eq_true (by omega), show decide (j + 1 = 0) = false from decide_eq_false (by omega)]))
              clear hnm HO HE HFB HF HS HP hk0
              go_wp2_with (go_at_call 45; refine (K.out _).mono ?_; rintro e w' ⟨rfl, rfl⟩)
              go_quiet (fail)
              go_wp2
              go_roundw
              case rel => exact ⟨j + 1 + 1, by omega, by go_num, R, ((below_drewN ((Below.refl wr.heap.size wr).alloc (Nat.le_refl _) _) _).cell (p := ⟨w.heap.size, 0, none⟩) hsz).trans hcl, by simp; omega, below_drewN (hbel.out.alloc (by omega) _) _⟩
              case measure => simp [intOf]; omega
    · have R := hideP (show (List.range n).all (Pl.fileB fs) = true by
        obtain rfl : k = n := by omega
        exact hall.out)
      clear hc
      go_wp2
      go_ret
      exact ⟨ret_bool R.out.symm, hbel.out⟩

theorem implDisk_nil (ao : Option Addr) (cap : Nat) (w : World) :
    Calls Tryz.prog 33 #[.agg #[.slice ao 0 cap]] w fun e w' => e = .returned (.bool true) ∧ Below w.heap.size w w' := by
  have HB : Hid (∀ o, Below w.heap.size w (w.alloc o)) := fun o => (Below.refl _ _).alloc (Nat.le_refl _) _
  go_enter Tryz.func33, Tryz.ntmps33
  go_wp2
  go_loopw [3, 4, 12] (fun _ _ i wr => i = .int .i64 0 ∧ wr.cell? ⟨w.heap.size, 0, none⟩ = some (.slice ao 0 cap) ∧ Hid (Below w.heap.size w wr)) (fun _ _ _ _ => 0)
  case atStart => exact ⟨rfl, by simp [go_sem], HB.out _⟩
  case round =>
    obtain ⟨rfl, hcl, hbel⟩ := hrel
    go_wp2
    go_ret
    exact ⟨rfl, hbel.out⟩

/-- impl.DiskOk -/
theorem implDisk_any (v : Value) (fs : List Pl.Fl) (w : World) (hm : fs.length ≤ 9223372036854775807) (hz : ∀ f ∈ fs, f.1.size ≤ 9223372036854775807 ∧ f.2.size ≤ 9223372036854775807) (h : RdF w.heap.size w v fs) :
    Calls Tryz.prog 33 #[.agg #[v]] w fun e w' => e = .returned (.bool (Pl.diskB fs)) ∧ Below w.heap.size w w' := by
  obtain ⟨ao, cap, rfl, h⟩ := h
  unfold Pl.diskB
  by_cases hl : fs.length ≤ 400
  · rw [decide_eq_true hl, Bool.true_and]
    rcases h with h | ⟨b, off, hb, rfl, hc⟩
    · obtain rfl := List.length_eq_zero_iff.1 h
      exact implDisk_nil ao cap w
    · exact implDisk_core b off cap fs w hl hz hb hc
  · rw [decide_eq_false hl, Bool.false_and]
    exact implDisk_many ao _ cap w hm (by omega)

end Go.Proofs.YtfangdhbadmolaaGreatDoor
