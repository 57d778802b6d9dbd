import Derived.Test.YtnmejkgjkdgndaaEq
import Derived.Test.YtnmejkgjkdgndaaDk
import Derived.Test.YtnmejkgjkdgndaaDi
namespace Go.Proofs.Ytnmejkgjkdgndaa
open Go.RowKit
set_option linter.unusedVariables false

/-- what lies in a block below is still there -/
theorem box_keep {W w1 : World} {N : Nat} {v0 : Value} (hb : Below W.heap.size W w1) (hN : N < W.heap.size) (c0 : W.cell? ⟨N, 0, none⟩ = some v0) :
    w1.cell? ⟨N, 0, none⟩ = some v0 := (hb.cell (p := ⟨N, 0, none⟩) hN).trans c0

theorem eqDisk_same (v1 v2 : Value) (xs : List Pl.Fl) (w : World) (hl1 : xs.length ≤ 1048576) (h1 : RdF w.heap.size w v1 xs) (h2 : RdF w.heap.size w v2 xs) :
    Calls Try.prog 9 #[.agg #[v1], .agg #[v2]] w fun e w' => e = .returned (.bool true) ∧ Below w.heap.size w w' := by
  have := eqDisk_any v1 v2 xs xs w hl1 hl1 h1 h2
  simpa using this

set_option maxHeartbeats 2000000 in
/-- laws.FnExactDiskOk -/
theorem lawDiskOk (v : Value) (fs : List Pl.Fl) (w : World) (hm : fs.length ≤ 9223372036854775807) (hz : ∀ f ∈ fs, f.1.size ≤ 9223372036854775807 ∧ f.2.size ≤ 9223372036854775807)
    (h : RdF w.heap.size w v fs) :
    Calls Try.prog 3 #[.agg #[v]] w fun e w' => e = .returned (.bool true) ∧ Below w.heap.size w w' := by
  have H := hideP h
  have HZ := hideP hz
  clear h hz
  have B0 : Hid (∀ o, Below w.heap.size w (w.alloc o)) := fun o => (Below.refl _ _).alloc (Nat.le_refl _) _
  go_enter Try.func3, Try.ntmps3
  go_wp2_with fail
  refine (szDisk_any v fs 1048576 _ hm HZ.out (by omega) (by omega) ((H.out.keep (B0.out _)).up (by simp))).mono ?_
  rintro e w1 ⟨r, rfl, hr1, hr, hb1⟩
  have B1 : Hid (Below w.heap.size w w1) := (B0.out _).trans (hb1.mono (by simp))
  have sz1 : w.heap.size + 1 ≤ w1.heap.size := by have := hb1.size; simpa using this
  have c1 := box_keep hb1 (N := w.heap.size) (v0 := v) (by simp) (by simp [go_sem])
  clear hb1
  by_cases hneg : r < 0
  · go_wp2_with fail
    go_ret
    exact ⟨rfl, B1.out⟩
  · have L : fs.length ≤ 1048576 := by omega
    clear hr hr1
    go_wp2_with fail
    refine (toDisk_any v fs _ L ((H.out.keep B1.out).up (by omega))).mono ?_
    rintro e w2 ⟨g0, rfl, _, o0, hb2⟩
    have B2 : Hid (Below w.heap.size w w2) := B1.out.trans (hb2.mono (by omega))
    have sz2 : w.heap.size + 1 ≤ w2.heap.size := by have := hb2.size; omega
    have O0 := hideP (rdF_of_own o0)
    have c2 := box_keep hb2 (N := w.heap.size) (by omega) c1
    clear hb2 o0 c1 sz1 B1
    go_wp2_with fail
    refine (specDisk_any _ fs _ hm HZ.out O0.out).mono ?_
    rintro e w3 ⟨rfl, hb3⟩
    have B3 : Hid (Below w.heap.size w w3) := B2.out.trans (hb3.mono (by omega))
    have sz3 : w.heap.size + 1 ≤ w3.heap.size := by have := hb3.size; omega
    have c3 := box_keep hb3 (N := w.heap.size) (by omega) c2
    clear hb3 c2 sz2 O0 B2
    go_wp2_with fail
    refine (toDisk_any v fs _ L ((H.out.keep B3.out).up (by omega))).mono ?_
    rintro e w4 ⟨g2, rfl, _, o2, hb4⟩
    have B4 : Hid (Below w.heap.size w w4) := B3.out.trans (hb4.mono (by omega))
    have sz4 : w.heap.size + 1 ≤ w4.heap.size := by have := hb4.size; omega
    have O2 := hideP (rdF_of_own o2)
    have c4 := box_keep hb4 (N := w.heap.size) (by omega) c3
    clear hb4 o2 c3 sz3 B3
    go_wp2_with fail
    have A4 : Hid (∀ o, Below w4.heap.size w4 (w4.alloc o)) := fun o => (Below.refl _ _).alloc (Nat.le_refl _) _
    refine (implDisk_any _ fs _ hm HZ.out ((O2.out.keep (A4.out _)).up (by simp))).mono ?_
    rintro e w5 ⟨rfl, hb5⟩
    have hb5' : Below w4.heap.size w4 w5 := (A4.out _).trans (hb5.mono (by simp))
    have B5 : Hid (Below w.heap.size w w5) := B4.out.trans (hb5'.mono (by omega))
    have sz5a : w.heap.size + 1 ≤ w4.heap.size := sz4
    have sz5b : w4.heap.size + 1 ≤ w5.heap.size := by have := hb5.size; simpa using this
    have c5 := box_keep hb5' (N := w.heap.size) (by omega) c4
    have x5 := box_keep hb5 (N := w4.heap.size) (v0 := sl g2 fs.length) (by simp) (by simp [go_sem])
    have P2 := hideP ((O2.out.keep hb5').up (Nat.le_of_succ_le sz5b))
    clear hb5 hb5' c4 sz4 O2 B4 A4
    generalize Pl.diskB fs = q at *
    go_wp2_with fail
    have D0 : Hid (RdF w5.drew.heap.size w5.drew v fs) := (H.out.keep B5.out.drew).up (by show _ ≤ w5.heap.size; omega)
    have D2 : Hid (RdF w5.drew.heap.size w5.drew (sl g2 fs.length) fs) := P2.out.keep (Below.refl _ _).drew
    have BD : Hid (Below w.heap.size w w5.drew) := B5.out.drew
    have S6 := hideP (show w.heap.size + 1 ≤ w5.drew.heap.size by show _ ≤ w5.heap.size; omega)
    have S7 := hideP (show w4.heap.size < w5.drew.heap.size by show _ < w5.heap.size; omega)
    have Y : Hid (w5.drew.cell? ⟨w4.heap.size, 0, none⟩ = some (sl g2 fs.length)) := x5
    clear P2 B5 H
    go_region_with (first
      | (go_at_call 7; refine (toDisk_any v fs _ L ?_).mono ?_; exact D0.out; rintro e w6 ⟨g4, rfl, _, o4, hb6⟩; have x60 := box_keep hb6 S7.out Y.out; have E4 := hideP (rdF_of_own o4); have E2 := hideP ((D2.out.keep hb6).up hb6.size); have B6 := hideP (BD.out.trans (hb6.mono (Nat.le_of_succ_le S6.out))); have S8 := hideP (Nat.le_trans S6.out hb6.size); clear hb6 o4)
      | (go_at_call 9; refine (eqDisk_same _ _ fs _ L ?_ ?_).mono ?_; exact E2.out; exact E4.out; rintro e w7 ⟨rfl, hb7⟩; have B7 := hideP (B6.out.trans (hb7.mono (Nat.le_of_succ_le S8.out))); clear hb7))
    all_goals go_wp2_with fail
    all_goals go_ret
    all_goals exact ⟨rfl, B7.out⟩

end Go.Proofs.Ytnmejkgjkdgndaa
