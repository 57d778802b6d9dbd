import Derived.Test.YtfangdhbadmolaaGreatDoorOwn
namespace Go.Proofs.YtfangdhbadmolaaGreatDoor
open Go.RowKit
set_option linter.unusedVariables false

theorem Tryz.info59 : (Tryz.prog.info? 59).map (fun i => (i.zero, i.size, i.bytes)) = some (some (.agg #[.string ByteArray.empty, .string ByteArray.empty]), 2, 32) := by kernel_rfl

/-- laws.toFileS -/
theorem toFileS_core (b off cap : Nat) (fs : List Pl.Fl) (w : World) (hl : fs.length ≤ 1048576) (hb : b < w.heap.size)
    (hc : ∀ i, i < fs.length → w.cell? ⟨b, off + i * 2, none⟩ = some (.string (Pl.at' fs i).1) ∧ w.cell? ⟨b, off + i * 2 + 1, none⟩ = some (.string (Pl.at' fs i).2)) :
    Calls Tryz.prog 17 #[.slice (some ⟨b, off, none⟩) fs.length cap] w fun e w' => e = .returned (sl w.heap.size fs.length) ∧
      w'.ownsRow w.heap.size 59 2 (sl w.heap.size fs.length) fs.length (cellsF fs) ∧ Below w.heap.size w w' := by
  obtain ⟨i0, hi, hz0, hz1, hz2⟩ := info_parts Tryz.info59
  generalize hn : fs.length = n at *
  have Hn : Hid (fs.length = n) := hn
  clear hn
  go_enter Tryz.func17, Tryz.ntmps17
  go_wp2_with (at_make; refine wpList_make_full _ rfl _ _ 29 rfl w.heap.size 59 i0 (.agg #[.string ByteArray.empty, .string ByteArray.empty]) 2 Tryz.underlying29 hi hz0 hz1 _ _ _ _ n rfl rfl rfl rfl ?b2 ?b3 ?b4 ?_)
  case b2 => rw [hz2]; omega
  case b3 => unfold maxLen; omega
  case b4 => exact Nat.le_refl _
  intro w1 hown hgrow
  have hown1 : w1.ownsRow w.heap.size 59 2 (sl w.heap.size n) n (cellsF (List.replicate n Pl.none2)) := by
    rw [← made_files n]; exact hown
  have hbel : Below w.heap.size w w1 := (Below.refl _ _).grown hgrow (Nat.le_refl _) (by intro k h; cases h)
  clear hgrow hi hz0 hz1 hz2 hown
  go_wp2
  go_loopw [4] (fun i wr => ∃ k : Nat, k ≤ n ∧ i = .int .i64 k ∧ Hid (wr.ownsRow w.heap.size 59 2 (sl w.heap.size n) n (cellsF (upF fs k))) ∧ Hid (Below w.heap.size w wr)) (fun i _ => n - (intOf i).toNat)
  case atStart => exact ⟨0, Nat.zero_le _, rfl, by show World.ownsRow _ _ _ _ _ _ _; rw [upF_zero, Hn.out]; exact hown1, hbel⟩
  case round =>
    clear hown1 hbel
    obtain ⟨k, hk, rfl, hown, hbel⟩ := hrel
    by_cases hlt : k < n
    · have hck0 : wr.cell? ⟨b, off + k * 2, none⟩ = some (.string (Pl.at' fs k).1) := (hbel.out.cell (p := ⟨b, off + k * 2, none⟩) hb).trans (hc k hlt).1
      have hck1 : wr.cell? ⟨b, off + k * 2 + 1, none⟩ = some (.string (Pl.at' fs k).2) := (hbel.out.cell (p := ⟨b, off + k * 2 + 1, none⟩) hb).trans (hc k hlt).2
      have HS := hideP (upF_step fs k (by rw [Hn.out]; exact hlt))
      have HL := hideP (upF_len fs k (by rw [Hn.out]; omega))
      generalize Pl.at' fs k = f at *
      obtain ⟨fa, fb⟩ := f
      simp only at hck0 hck1
      clear hc
      go_wp2_with fail
      refine (toFile_any fa fb _).mono ?_
      rintro e w2 ⟨rfl, hb2⟩
      have hown2 := owns_keep hown.out hb2
      have hbel2 := hbel.out.trans (hb2.mono hbel.out.size)
      have hf0 := hown2.frozenAt (k * 2)
      have hf1 := hown2.frozenAt (k * 2 + 1)
      have hg := cellsF_get (upF fs k) k (by rw [HL.out, Hn.out]; exact hlt)
      have hg0 := hown2.cellAt (k * 2) (by omega)
      have hg1 := hown2.cellAt (k * 2 + 1) (by omega)
      rw [hg.1] at hg0
      rw [hg.2] at hg1
      have hs0 := hown2.stored (k * 2) (.string fa)
      have hs1 := hs0.1.stored (k * 2 + 1) (.string fb)
      have R : Hid (((w2.setCell ⟨w.heap.size, k * 2, none⟩ (.string fa)).setCell ⟨w.heap.size, k * 2 + 1, none⟩ (.string fb)).ownsRow w.heap.size 59 2 (sl w.heap.size n) n (cellsF (upF fs (k + 1))) ∧ Below w.heap.size w ((w2.setCell ⟨w.heap.size, k * 2, none⟩ (.string fa)).setCell ⟨w.heap.size, k * 2 + 1, none⟩ (.string fb))) := by
        refine ⟨?_, (hbel2.setCell (Nat.le_refl _) _).setCell (Nat.le_refl _) _⟩
        have e := cellsF_set (upF fs k) k (fa, fb)
        rw [HS.out] at e
        rw [← e]
        exact hs1.1
      clear hs0 hs1 hown2 hbel2 hb2 hg
      go_wp2_with fail
      go_roundw
      case rel => exact ⟨k + 1, by omega, by go_num, R.out.1, R.out.2⟩
      case measure => simp [intOf]; omega
    · have R : Hid (wr.ownsRow w.heap.size 59 2 (sl w.heap.size n) n (cellsF fs) ∧ Below w.heap.size w wr) := by
        have := hown.out
        rw [upF_all fs k (by rw [Hn.out]; omega)] at this
        exact ⟨this, hbel.out⟩
      clear hown hbel hc
      go_wp2
      go_ret
      exact ⟨rfl, R.out⟩

theorem toFileS_nil (ao : Option Addr) (cap : Nat) (w : World) :
    Calls Tryz.prog 17 #[.slice ao 0 cap] w fun e w' => e = .returned (sl w.heap.size 0) ∧
      w'.ownsRow w.heap.size 59 2 (sl w.heap.size 0) 0 [] ∧ Below w.heap.size w w' := by
  obtain ⟨i0, hi, hz0, hz1, hz2⟩ := info_parts Tryz.info59
  go_enter Tryz.func17, Tryz.ntmps17
  go_wp2_with (at_make; refine wpList_make_full _ rfl _ _ 29 rfl w.heap.size 59 i0 (.agg #[.string ByteArray.empty, .string ByteArray.empty]) 2 Tryz.underlying29 hi hz0 hz1 _ _ _ _ 0 rfl rfl rfl rfl ?b2 ?b3 ?b4 ?_)
  case b2 => rw [hz2]; omega
  case b3 => unfold maxLen; omega
  case b4 => exact Nat.le_refl _
  intro w1 hown hgrow
  have hbel : Below w.heap.size w w1 := (Below.refl _ _).grown hgrow (Nat.le_refl _) (by intro k h; cases h)
  have R : Hid (w1.ownsRow w.heap.size 59 2 (sl w.heap.size 0) 0 [] ∧ Below w.heap.size w w1) := ⟨by simpa [madeCells] using hown, hbel⟩
  clear hgrow hi hz0 hz1 hz2 hown hbel
  go_wp2
  go_loopw [4] (fun i wr => i = .int .i64 0 ∧ wr = w1) (fun _ _ => 0)
  case atStart => exact ⟨rfl, rfl⟩
  case round =>
    obtain ⟨rfl, rfl⟩ := hrel
    go_wp2
    go_ret
    exact ⟨rfl, R.out⟩

theorem toFileS_any (v : Value) (fs : List Pl.Fl) (w : World) (hl : fs.length ≤ 1048576) (h : RdF w.heap.size w v fs) :
    Calls Tryz.prog 17 #[v] w fun e w' => e = .returned (sl w.heap.size fs.length) ∧ OwnF w.heap.size w' (sl w.heap.size fs.length) fs ∧ Below w.heap.size w w' := by
  obtain ⟨ao, cap, rfl, h⟩ := h
  rcases h with h | ⟨b, off, hb, rfl, hc⟩
  · obtain rfl := List.length_eq_zero_iff.1 h
    exact toFileS_nil ao cap w
  · exact toFileS_core b off cap fs w hl hb hc

/-- laws.toDisk -/
theorem toDisk_any (v : Value) (fs : List Pl.Fl) (w : World) (hl : fs.length ≤ 1048576) (h : RdF w.heap.size w v fs) :
    Calls Tryz.prog 7 #[.agg #[v]] w fun e w' => ∃ g : Nat, e = .returned (.agg #[sl g fs.length]) ∧ w.heap.size ≤ g ∧ OwnF w.heap.size w' (sl g fs.length) fs ∧ Below w.heap.size w w' := by
  have H := hideP h
  clear h
  go_enter Tryz.func7, Tryz.ntmps7
  go_wp2_with fail
  refine (toFileS_any v fs _ hl ((H.out.keep (below3 _ _ _ _)).up (by simp; omega))).mono ?_
  rintro e w1 ⟨rfl, hown0, hb1⟩
  have Hb1 := hideP hb1
  have Hown0 := hideP hown0
  have sz1 : w.heap.size + 1 + 1 + 1 < w1.heap.size := by
    have := (hown0.lt _ rfl).2
    simpa using this
  obtain ⟨hc, hf⟩ := bcell hb1
  have c1 : w1.cell? ⟨w.heap.size + 1 + 1, 0, none⟩ = some (.slice none 0 0) := by rw [hc (w.heap.size + 1 + 1) 0 (by simp)]; simp [go_sem]
  have c3 : w1.cell? ⟨w.heap.size + 1, 0, none⟩ = some (.slice none 0 0) := by rw [hc (w.heap.size + 1) 0 (by simp)]; simp [go_sem]
  have f1 : ∀ o, w1.frozen? ⟨w.heap.size + 1 + 1, o, none⟩ = false := fun o => by rw [hf (w.heap.size + 1 + 1) o (by simp)]; simp [go_sem]
  have f2 : ∀ o, w1.frozen? ⟨w.heap.size + 1, o, none⟩ = false := fun o => by rw [hf (w.heap.size + 1) o (by simp)]; simp [go_sem]
  clear hc hf hb1 hown0
  go_wp2_with fail
  refine bodyPost_ret (v := .agg #[sl (w.heap.size + 1 + 1 + 1) fs.length]) (by simp [results, Tryz.results7, go_sem, c3]) rfl ⟨w.heap.size + 1 + 1 + 1, rfl, by omega, ?_, ?_⟩
  · refine ownsRow_setCell_below (base := w.heap.size + 1 + 1 + 1) (ownsRow_setCell_below ?_ (by simp) _) (by simp) _ |> fun h => owns_base h (by omega)
    simpa using Hown0.out
  · exact (((below3 _ _ _ _).trans (Hb1.out.mono (by simp; omega))).setCell (by simp; omega) _).setCell (by simp) _

end Go.Proofs.YtfangdhbadmolaaGreatDoor
