import Derived.Test.YtfangdhbadmolaaGreatDoorName
import Derived.Deep.QuietTactic
import Derived.BigQuiet
namespace Go.Proofs.YtfangdhbadmolaaGreatDoor
open Go.RowKit
set_option linter.unusedVariables false

/-- In the world w the slice v reads as the files fs, in a block below B. -/
def RdF (B : Nat) (w : World) (v : Value) (fs : List Pl.Fl) : Prop :=
  ∃ ao cap, v = .slice ao fs.length cap ∧ (fs.length = 0 ∨ ∃ b off, b < B ∧ ao = some ⟨b, off, none⟩ ∧
    ∀ i, i < fs.length → w.cell? ⟨b, off + i * 2, none⟩ = some (.string (Pl.at' fs i).1) ∧ w.cell? ⟨b, off + i * 2 + 1, none⟩ = some (.string (Pl.at' fs i).2))

theorem RdF.keep {B : Nat} {w w' : World} {v : Value} {fs : List Pl.Fl} (h : RdF B w v fs) (hb : Below B w w') : RdF B w' v fs := by
  obtain ⟨ao, cap, rfl, h⟩ := h
  refine ⟨ao, cap, rfl, ?_⟩
  rcases h with h | ⟨b, off, hB, rfl, hc⟩
  · exact .inl h
  · exact .inr ⟨b, off, hB, rfl, fun i hi => ⟨(hb.cell (p := ⟨b, off + i * 2, none⟩) hB).trans (hc i hi).1, (hb.cell (p := ⟨b, off + i * 2 + 1, none⟩) hB).trans (hc i hi).2⟩⟩

theorem RdF.up {B B' : Nat} {w : World} {v : Value} {fs : List Pl.Fl} (h : RdF B w v fs) (hb : B ≤ B') : RdF B' w v fs := by
  obtain ⟨ao, cap, rfl, h⟩ := h
  refine ⟨ao, cap, rfl, ?_⟩
  rcases h with h | ⟨b, off, hB, rfl, hc⟩
  · exact .inl h
  · exact .inr ⟨b, off, by omega, rfl, hc⟩

/-- laws.szFile -/
theorem szFile_any (a b : ByteArray) (l : Int) (w : World) (ha : a.size ≤ 9223372036854775807) (hb : b.size ≤ 9223372036854775807) (h0 : 0 ≤ l) (h1 : l ≤ 1048576) :
    Calls Tryz.prog 26 #[.agg #[.string a, .string b], .int .i64 l] w fun e w' => e = .returned (.int .i64 (if l < (a.size : Int) + b.size then -1 else l - a.size - b.size)) ∧ Below w.heap.size w w' := by
  have HB : Hid (∀ o, Below w.heap.size w (w.alloc o)) := fun o => (Below.refl _ _).alloc (Nat.le_refl _) _
  generalize hm : a.size = m at *
  generalize hn : b.size = n at *
  by_cases g0 : l - (m : Int) < 0
  · go_enter Tryz.func26, Tryz.ntmps26
    go_wp2
    go_ret
    exact ⟨rfl, HB.out _⟩
  · by_cases g1 : l - (m : Int) - (n : Int) < 0
    · go_enter Tryz.func26, Tryz.ntmps26
      go_wp2
      go_ret
      exact ⟨rfl, HB.out _⟩
    · go_enter Tryz.func26, Tryz.ntmps26
      go_wp2
      go_ret
      exact ⟨rfl, HB.out _⟩

/-- laws.szFileS -/
theorem szFileS_core (b off cap : Nat) (fs : List Pl.Fl) (l : Int) (w : World) (hb : b < w.heap.size) (hm : fs.length ≤ 9223372036854775807) (hz : ∀ f ∈ fs, f.1.size ≤ 9223372036854775807 ∧ f.2.size ≤ 9223372036854775807) (h0 : 0 ≤ l) (h1 : l ≤ 1048576)
    (hc : ∀ i, i < fs.length → w.cell? ⟨b, off + i * 2, none⟩ = some (.string (Pl.at' fs i).1) ∧ w.cell? ⟨b, off + i * 2 + 1, none⟩ = some (.string (Pl.at' fs i).2)) :
    Calls Tryz.prog 13 #[.slice (some ⟨b, off, none⟩) fs.length cap, .int .i64 l] w fun e w' => ∃ r : Int, e = .returned (.int .i64 r) ∧ r ≤ 1048576 ∧ (r = -1 ∨ (0 ≤ r ∧ r = l - fs.length - Pl.weigh fs)) ∧ Below w.heap.size w w' := by
  have HZ := hideP hz
  clear hz
  generalize hn : fs.length = n at *
  have Hn : Hid (fs.length = n) := hn
  clear hn
  by_cases g0 : l - (n : Int) < 0
  · go_enter Tryz.func13, Tryz.ntmps13
    go_wp2
    go_ret
    exact ⟨_, rfl, by omega, .inl rfl, Below.refl _ _⟩
  · go_enter Tryz.func13, Tryz.ntmps13
    go_wp2
    go_loopw [1, 5] (fun r i wr => ∃ k : Nat, k ≤ n ∧ i = .int .i64 k ∧ (∃ q : Int, r = .int .i64 q ∧ 0 ≤ q ∧ q ≤ 1048576 ∧ Hid (q = l - n - Pl.weigh (fs.take k))) ∧ Hid (Below w.heap.size w wr)) (fun _ i _ => n - (intOf i).toNat)
    case atStart => exact ⟨0, Nat.zero_le _, rfl, ⟨_, rfl, by omega, by omega, by show _ = _; simp [Pl.weigh]⟩, Below.refl _ _⟩
    case round =>
      obtain ⟨k, hk, rfl, ⟨q, rfl, q0, q1, hq⟩, hbel⟩ := hrel
      by_cases hlt : k < n
      · have hck0 : wr.cell? ⟨b, off + k * 2, none⟩ = some (.string (Pl.at' fs k).1) := (hbel.out.cell (p := ⟨b, off + k * 2, none⟩) hb).trans (hc k hlt).1
        have hck1 : wr.cell? ⟨b, off + k * 2 + 1, none⟩ = some (.string (Pl.at' fs k).2) := (hbel.out.cell (p := ⟨b, off + k * 2 + 1, none⟩) hb).trans (hc k hlt).2
        have HS := hideP (Pl.weigh_snoc fs k (by rw [Hn.out]; exact hlt))
        have hzz := HZ.out _ (Pl.at_mem (l := fs) (k := k) (by rw [Hn.out]; exact hlt))
        generalize Pl.at' fs k = f at *
        obtain ⟨fa, fb⟩ := f
        simp only at hck0 hck1 HS
        have s := fun w => szFile_any fa fb q w hzz.1 hzz.2 q0 q1
        clear hzz hc
        by_cases g1 : q < (fa.size : Int) + fb.size
        · simp only [if_pos g1] at s
          have K := hideP s
          clear s
          go_wp2_with (go_at_call 26; refine (K.out _).mono ?_; rintro e w' ⟨rfl, hb2⟩)
          go_ret
          exact ⟨_, rfl, by omega, .inl rfl, hbel.out.trans (hb2.mono hbel.out.size)⟩
        · simp only [if_neg g1] at s
          have K := hideP s
          clear s
          have g2 : ¬ q - (fa.size : Int) - fb.size < 0 := by omega
          go_wp2_with (go_at_call 26; refine (K.out _).mono ?_; rintro e w' ⟨rfl, hb2⟩)
          go_roundw
          case rel => exact ⟨k + 1, by omega, by go_num, ⟨_, rfl, by omega, by omega, by show _ = _; have := HS.out; have := hq.out; omega⟩, hbel.out.trans (hb2.mono hbel.out.size)⟩
          case measure => simp [intOf]; omega
      · have HQ := hideP (show q = l - n - Pl.weigh fs by have := hq.out; rw [List.take_of_length_le (by rw [Hn.out]; omega)] at this; exact this)
        clear hc
        go_wp2
        go_ret
        exact ⟨_, rfl, q1, .inr ⟨q0, HQ.out⟩, hbel.out⟩

theorem szFileS_nil (ao : Option Addr) (cap : Nat) (l : Int) (w : World) (h0 : 0 ≤ l) (h1 : l ≤ 1048576) :
    Calls Tryz.prog 13 #[.slice ao 0 cap, .int .i64 l] w fun e w' => e = .returned (.int .i64 l) ∧ w' = w := by
  go_enter Tryz.func13, Tryz.ntmps13
  go_wp2
  go_loopw [1, 5] (fun r i wr => i = .int .i64 0 ∧ r = .int .i64 l ∧ wr = w) (fun _ _ _ => 0)
  case atStart => exact ⟨rfl, rfl, rfl⟩
  case round =>
    obtain ⟨rfl, rfl, rfl⟩ := hrel
    go_wp2
    go_ret
    exact ⟨rfl, rfl⟩

theorem szFileS_any (v : Value) (fs : List Pl.Fl) (l : Int) (w : World) (hm : fs.length ≤ 9223372036854775807) (hz : ∀ f ∈ fs, f.1.size ≤ 9223372036854775807 ∧ f.2.size ≤ 9223372036854775807) (h0 : 0 ≤ l) (h1 : l ≤ 1048576) (h : RdF w.heap.size w v fs) :
    Calls Tryz.prog 13 #[v, .int .i64 l] w fun e w' => ∃ r : Int, e = .returned (.int .i64 r) ∧ r ≤ 1048576 ∧ (r = -1 ∨ (0 ≤ r ∧ r = l - fs.length - Pl.weigh fs)) ∧ Below w.heap.size w w' := by
  obtain ⟨ao, cap, rfl, h⟩ := h
  rcases h with h | ⟨b, off, hb, rfl, hc⟩
  · obtain rfl := List.length_eq_zero_iff.1 h
    refine (szFileS_nil ao cap l w h0 h1).mono ?_
    rintro e w' ⟨rfl, rfl⟩
    exact ⟨_, rfl, h1, .inr ⟨h0, by simp [Pl.weigh]⟩, Below.refl _ _⟩
  · exact szFileS_core b off cap fs l w hb hm hz h0 h1 hc

/-- laws.szDisk -/
theorem szDisk_any (v : Value) (fs : List Pl.Fl) (l : Int) (w : World) (hm : fs.length ≤ 9223372036854775807) (hz : ∀ f ∈ fs, f.1.size ≤ 9223372036854775807 ∧ f.2.size ≤ 9223372036854775807) (h0 : 0 ≤ l) (h1 : l ≤ 1048576) (h : RdF w.heap.size w v fs) :
    Calls Tryz.prog 4 #[.agg #[v], .int .i64 l] w fun e w' => ∃ r : Int, e = .returned (.int .i64 r) ∧ r ≤ 1048576 ∧ (r = -1 ∨ (0 ≤ r ∧ r = l - fs.length - Pl.weigh fs)) ∧ Below w.heap.size w w' := by
  have H := hideP h
  have HZ := hideP hz
  clear h hz
  have B0 : Hid (∀ o, Below w.heap.size w (w.alloc o)) := fun o => (Below.refl _ _).alloc (Nat.le_refl _) _
  go_enter Tryz.func4, Tryz.ntmps4
  go_wp2_with fail
  refine (szFileS_any v fs l _ hm HZ.out h0 h1 ((H.out.keep (B0.out _)).up (by simp))).mono ?_
  rintro e w1 ⟨r, rfl, hr1, hr, hb1⟩
  have B1 : Hid (Below w.heap.size w w1) := (B0.out _).trans (hb1.mono (by simp))
  have HR := hideP hr
  clear hb1 hr
  by_cases g : r < 0
  · go_wp2
    go_ret
    exact ⟨_, rfl, by omega, .inl rfl, B1.out⟩
  · go_wp2
    go_ret
    exact ⟨_, rfl, hr1, HR.out, B1.out⟩

end Go.Proofs.YtfangdhbadmolaaGreatDoor
