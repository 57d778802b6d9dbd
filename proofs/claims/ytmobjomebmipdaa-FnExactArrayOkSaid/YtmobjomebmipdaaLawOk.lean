import Derived.Test.YtmobjomebmipdaaImplOk
import Derived.Deep.RegionWith
namespace Go.Proofs.Ytmobjomebmipdaa
open Go.RowKit
set_option linter.unusedVariables false

theorem szArray_rd (v0 v1 : Value) (sh da : List Int) (w w0 : World) (B : Nat) (m0 : sh.length ≤ 9223372036854775807) (m1 : da.length ≤ 9223372036854775807) (h0 : Rd B w0 v0 sh) (h1 : Rd B w0 v1 da) (l : Int) (hl0 : 0 ≤ l) (hl1 : l ≤ 1048576) :
    Calls Try.prog 11 #[.agg #[v0, v1], .int .i64 l] w fun e w' => ∃ r : Int, e = .returned (.int .i64 r) ∧ r ≤ 1048576 ∧ ((r = -1 ∧ l < sh.length + da.length) ∨ (r = l - sh.length - da.length ∧ 0 ≤ r)) ∧ Below w.heap.size w w' := by
  obtain ⟨a0, c0, rfl, _⟩ := h0
  obtain ⟨a1, c1, rfl, _⟩ := h1
  exact szArray_any a0 a1 _ c0 _ c1 w m0 m1 l hl0 hl1

/-- what was read, or lies in a block below, is still there -/
theorem box_keep {W w1 : World} {N : Nat} {v0 v1 : Value} (hb : Below W.heap.size W w1) (hN : N < W.heap.size) (c0 : W.cell? ⟨N, 0, none⟩ = some v0) (c1 : W.cell? ⟨N, 1, none⟩ = some v1) :
    w1.cell? ⟨N, 0, none⟩ = some v0 ∧ w1.cell? ⟨N, 1, none⟩ = some v1 :=
  ⟨(hb.cell (p := ⟨N, 0, none⟩) hN).trans c0, (hb.cell (p := ⟨N, 1, none⟩) hN).trans c1⟩

theorem hideP {p : Prop} (h : p) : Hid p := h

theorem eqArray_same (v0 v1 u0 u1 : Value) (sh da : List Int) (w : World) (hl0 : sh.length ≤ 1048576) (hl1 : da.length ≤ 1048576)
    (h0 : Rd w.heap.size w v0 sh) (h1 : Rd w.heap.size w v1 da) (h2 : Rd w.heap.size w u0 sh) (h3 : Rd w.heap.size w u1 da) :
    Calls Try.prog 15 #[.agg #[v0, v1], .agg #[u0, u1]] w fun e w' => e = .returned (.bool true) ∧ Below w.heap.size w w' := by
  have := eqArray_any v0 v1 u0 u1 sh da sh da w hl0 hl1 hl0 hl1 h0 h1 h2 h3
  simpa using this

set_option maxHeartbeats 2000000 in
/-- laws.FnExactArrayOk -/
theorem lawOk (v0 v1 : Value) (sh da : List Int) (w : World) (m0 : sh.length ≤ 9223372036854775807) (m1 : da.length ≤ 9223372036854775807)
    (h0 : Rd w.heap.size w v0 sh) (h1 : Rd w.heap.size w v1 da) :
    Calls Try.prog 3 #[.agg #[v0, v1]] w fun e w' => e = .returned (.bool true) ∧ Below w.heap.size w w' := by
  have H0 : Hid (Rd w.heap.size w v0 sh) := h0
  have H1 : Hid (Rd w.heap.size w v1 da) := h1
  clear h0 h1
  have B0 : Hid (∀ o, Below w.heap.size w (w.alloc o)) := fun o => (Below.refl _ _).alloc (Nat.le_refl _) _
  go_enter Try.func3, Try.ntmps3
  go_wp2_with fail
  refine (szArray_rd v0 v1 sh da _ w w.heap.size m0 m1 H0.out H1.out 1048576 (by omega) (by omega)).mono ?_
  rintro e w1 ⟨r, rfl, hr1, hr, hb1⟩
  have B1 : Hid (Below w.heap.size w w1) := (B0.out _).trans (hb1.mono (by simp))
  have sz1 : w.heap.size + 1 ≤ w1.heap.size := by have := hb1.size; simpa using this
  obtain ⟨c10, c11⟩ := box_keep hb1 (N := w.heap.size) (v0 := v0) (v1 := v1) (by simp) (by simp [go_sem]) (by simp [go_sem])
  clear hb1
  by_cases hneg : r < 0
  · go_wp2_with fail
    go_ret
    exact ⟨rfl, B1.out⟩
  · have L0 : sh.length ≤ 1048576 := by omega
    have L1 : da.length ≤ 1048576 := by omega
    clear hr hr1 m0 m1
    go_wp2_with fail
    refine (toArray_any v0 v1 sh da _ L0 L1 ((H0.out.keep B1.out).up (by omega)) ((H1.out.keep B1.out).up (by omega))).mono ?_
    rintro e w2 ⟨g0, g1, rfl, _, _, o0, o1, hb2⟩
    have B2 : Hid (Below w.heap.size w w2) := B1.out.trans (hb2.mono (by omega))
    have sz2 : w.heap.size + 1 ≤ w2.heap.size := by have := hb2.size; omega
    have O0 := hideP (rd_of_owns o0)
    have O1 := hideP (rd_of_owns o1)
    obtain ⟨c20, c21⟩ := box_keep hb2 (N := w.heap.size) (by omega) c10 c11
    clear hb2 o0 o1 c10 c11 sz1 B1
    go_wp2_with fail
    refine (specOk_any _ _ sh da _ L0 L1 O0.out O1.out).mono ?_
    rintro e w3 ⟨rfl, hb3⟩
    have B3 : Hid (Below w.heap.size w w3) := B2.out.trans (hb3.mono (by omega))
    have sz3 : w.heap.size + 1 ≤ w3.heap.size := by have := hb3.size; omega
    obtain ⟨c30, c31⟩ := box_keep hb3 (N := w.heap.size) (by omega) c20 c21
    clear hb3 c20 c21 sz2 O0 O1 B2
    go_wp2_with fail
    refine (toArray_any v0 v1 sh da _ L0 L1 ((H0.out.keep B3.out).up (by omega)) ((H1.out.keep B3.out).up (by omega))).mono ?_
    rintro e w4 ⟨g2, g3, rfl, _, _, o2, o3, hb4⟩
    have B4 : Hid (Below w.heap.size w w4) := B3.out.trans (hb4.mono (by omega))
    have sz4 : w.heap.size + 1 ≤ w4.heap.size := by have := hb4.size; omega
    have O2 := hideP (rd_of_owns o2)
    have O3 := hideP (rd_of_owns o3)
    obtain ⟨c40, c41⟩ := box_keep hb4 (N := w.heap.size) (by omega) c30 c31
    clear hb4 o2 o3 c30 c31 sz3 B3
    go_wp2_with fail
    have A4 : Hid (∀ o, Below w4.heap.size w4 (w4.alloc o)) := fun o => (Below.refl _ _).alloc (Nat.le_refl _) _
    refine (implOk_any _ _ sh da _ L0 L1 ((O2.out.keep (A4.out _)).up (by simp)) ((O3.out.keep (A4.out _)).up (by simp))).mono ?_
    rintro e w5 ⟨rfl, hb5⟩
    have hb5' : Below w4.heap.size w4 w5 := (A4.out _).trans (hb5.mono (by simp))
    have B5 : Hid (Below w.heap.size w w5) := B4.out.trans (hb5'.mono (by omega))
    have sz5 : w.heap.size + 1 ≤ w4.heap.size ∧ w4.heap.size + 1 ≤ w5.heap.size := ⟨sz4, by have := hb5.size; simpa using this⟩
    obtain ⟨sz5a, sz5b⟩ := sz5
    obtain ⟨c50, c51⟩ := box_keep hb5' (N := w.heap.size) (by omega) c40 c41
    obtain ⟨x50, x51⟩ := box_keep hb5 (N := w4.heap.size) (v0 := sl g2 sh.length) (v1 := sl g3 da.length) (by simp) (by simp [go_sem]) (by simp [go_sem])
    have P2 := hideP ((O2.out.keep hb5').up (Nat.le_of_succ_le sz5b))
    have P3 := hideP ((O3.out.keep hb5').up (Nat.le_of_succ_le sz5b))
    clear hb5 hb5' c40 c41 sz4 O2 O3 B4 A4
    generalize Pl.okB sh da = q at *
    go_wp2_with fail
    have D0 : Hid (Rd w5.drew.heap.size w5.drew v0 sh) := (H0.out.keep B5.out.drew).up (by show _ ≤ w5.heap.size; omega)
    have D1 : Hid (Rd w5.drew.heap.size w5.drew v1 da) := (H1.out.keep B5.out.drew).up (by show _ ≤ w5.heap.size; omega)
    have D2 : Hid (Rd w5.drew.heap.size w5.drew (sl g2 sh.length) sh) := P2.out.keep (Below.refl _ _).drew
    have D3 : Hid (Rd w5.drew.heap.size w5.drew (sl g3 da.length) da) := P3.out.keep (Below.refl _ _).drew
    have BD : Hid (Below w.heap.size w w5.drew) := B5.out.drew
    have sz6 : w.heap.size + 1 ≤ w5.drew.heap.size := by show _ ≤ w5.heap.size; omega
    have sz7 : w4.heap.size < w5.drew.heap.size := by show _ < w5.heap.size; omega
    have y50 : w5.drew.cell? ⟨w4.heap.size, 0, none⟩ = some (sl g2 sh.length) := x50
    have y51 : w5.drew.cell? ⟨w4.heap.size, 1, none⟩ = some (sl g3 da.length) := x51
    have Y : Hid (w5.drew.cell? ⟨w4.heap.size, 0, none⟩ = some (sl g2 sh.length) ∧ w5.drew.cell? ⟨w4.heap.size, 1, none⟩ = some (sl g3 da.length)) := ⟨x50, x51⟩
    have S6 := hideP sz6
    have S7 := hideP sz7
    clear y50 y51 sz6 sz7 P2 P3 B5 H0 H1
    go_region_with (first
      | (go_at_call 13; refine (toArray_any v0 v1 sh da _ L0 L1 ?_ ?_).mono ?_; exact D0.out; exact D1.out; rintro e w6 ⟨g4, g5, rfl, _, _, o4, o5, hb6⟩; obtain ⟨x60, x61⟩ := box_keep hb6 S7.out Y.out.1 Y.out.2; have E4 := hideP (rd_of_owns o4); have E5 := hideP (rd_of_owns o5); have E2 := hideP ((D2.out.keep hb6).up hb6.size); have E3 := hideP ((D3.out.keep hb6).up hb6.size); have B6 := hideP (BD.out.trans (hb6.mono (Nat.le_of_succ_le S6.out))); have S8 := hideP (Nat.le_trans S6.out hb6.size); clear hb6 o4 o5)
      | (go_at_call 15; refine (eqArray_same _ _ _ _ sh da _ L0 L1 ?_ ?_ ?_ ?_).mono ?_; exact E2.out; exact E3.out; exact E4.out; exact E5.out; rintro e w7 ⟨rfl, hb7⟩; have B7 := hideP (B6.out.trans (hb7.mono (Nat.le_of_succ_le S8.out))); clear hb7))
    all_goals go_wp2_with fail
    all_goals go_ret
    all_goals exact ⟨rfl, B7.out⟩

end Go.Proofs.Ytmobjomebmipdaa
