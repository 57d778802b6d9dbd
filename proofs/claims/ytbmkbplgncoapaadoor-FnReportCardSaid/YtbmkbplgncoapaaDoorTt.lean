import Derived.Test.YtbmkbplgncoapaaDoorPt
namespace Go.Proofs.YtbmkbplgncoapaaDoor
open Go.RowKit
set_option linter.unusedVariables false

/-- strings.Cut at an arrow -/
theorem cut_arw (s : ByteArray) (w : World) (hl : s.size ≤ 1048576) (he : Ev w) :
    Calls Tryd.prog 50 #[.string s, .string ⟨#[32, 61, 62, 32]⟩] w fun e w' => ∃ (p q : ByteArray) (f : Bool), e = .returned (.tuple #[.string p, .string q, .bool f]) ∧ Pl.tst (bl s) = Pl.tst2 (bl p) (bl q) ∧ p.size ≤ s.size ∧ q.size ≤ s.size ∧ Below w.heap.size w w' := by
  obtain ⟨_, ⟨m, hm⟩, _⟩ := he
  refine (Tryd.strings_Cut s ⟨#[32, 61, 62, 32]⟩ m w (by omega) hm).mono ?_
  rintro e w' ⟨rfl, n, rfl⟩
  refine ⟨_, _, _, rfl, (Pl.tst_cut (bl s)).symm, ?_, ?_, below_drewN (Below.refl _ _) _⟩
  · show (Lib.cut s.data.toList [32, 61, 62, 32]).1.toArray.size ≤ s.size
    rw [List.size_toArray, ← bl_len]
    unfold Lib.cut
    split
    · exact List.length_take_le' _ _
    · exact Nat.le_refl _
  · show (Lib.cut s.data.toList [32, 61, 62, 32]).2.1.toArray.size ≤ s.size
    rw [List.size_toArray, ← bl_len]
    unfold Lib.cut
    split
    · rw [List.length_drop]; exact Nat.sub_le _ _
    · simp

/-- the answer is put into its variable -/
theorem filled4 {N : Nat} {w : World} {u0 u1 u2 u3 : Value} {L : List (Value × List Int)} (h : Fl (N + 1) w L) : Fl N ((((w.setCell ⟨N, 0, none⟩ u0).setCell ⟨N, 1, none⟩ u1).setCell ⟨N, 2, none⟩ u2).setCell ⟨N, 3, none⟩ u3) L :=
  ((((h.store (by omega) _).store (by omega) _).store (by omega) _).store (by omega) _).base (by omega)
theorem below4 {N : Nat} {w w' : World} (h : Below N w w') (u0 u1 u2 u3 : Value) : Below N w ((((w'.setCell ⟨N, 0, none⟩ u0).setCell ⟨N, 1, none⟩ u1).setCell ⟨N, 2, none⟩ u2).setCell ⟨N, 3, none⟩ u3) :=
  (((h.setCell (Nat.le_refl _) _).setCell (Nat.le_refl _) _).setCell (Nat.le_refl _) _).setCell (Nat.le_refl _) _

theorem tst2_yes {b a : List UInt8} (h0 : Pl.parC b = 0) (h1 : Pl.parC a = 0) : Pl.tst2 b a = some (Pl.parS b, Pl.parD b, Pl.parS a, Pl.parD a) := by unfold Pl.tst2; rw [if_pos ⟨h0, h1⟩]
theorem tst2_no {b a : List UInt8} (h : ¬ (Pl.parC b = 0 ∧ Pl.parC a = 0)) : Pl.tst2 b a = none := by unfold Pl.tst2; rw [if_neg h]

set_option maxRecDepth 100000 in
set_option maxHeartbeats 4000000 in
/-- impl.readTest -/
theorem readTest_any (s : ByteArray) (w : World) (hl : s.size ≤ 1048576) (hev : Ev w) : Calls Tryd.prog 79 #[.string s] w (TPost w (bl s)) := by
  have BA : Hid (Below w.heap.size w (w.alloc (.cells #[.slice none 0 0, .slice none 0 0, .slice none 0 0, .slice none 0 0] 104))) := (Below.refl _ _).alloc (Nat.le_refl _) _
  have SA := hideP (Sl4.new w 104)
  have HE := hideP hev
  clear hev
  go_enter Tryd.func79, Tryd.ntmps79
  go_wp2_with fail
  refine (cut_arw s _ hl (HE.out.keep BA.out)).mono ?_
  rintro e w1 ⟨p, q, f, rfl, htst, hp, hq, hb1⟩
  have B1 := hideP (BA.out.trans (hb1.mono (by simp)))
  have S1 := hideP (SA.out.keep hb1)
  have HT := hideP htst
  clear hb1 htst BA SA
  go_wp2_with fail
  refine (implParse_any p _ (by omega) (HE.out.keep B1.out)).mono ?_
  rintro e w2 ⟨hb2, u0, u1, rfl, res2⟩
  have AL2 : Hid (Below w2.heap.size w2 (w2.alloc (.cells #[u0, u1] 28))) := (Below.refl _ _).alloc (Nat.le_refl _) _
  have B2 := hideP ((B1.out.trans (hb2.mono B1.out.size)).trans (AL2.out.mono (Nat.le_trans B1.out.size hb2.size)))
  have S2 := hideP ((S1.out.keep hb2).keep AL2.out)
  have F2 := hideP ((res2.fl.base (show w.heap.size + 1 ≤ w1.heap.size from S1.out.1)).keep AL2.out)
  have X2 := hideP (Box.new w2 u0 u1 28)
  obtain ⟨a0, d0, a1, d1, e0, e1⟩ := res2.forms
  subst e0
  subst e1
  clear hb2 res2 AL2 S1 B1
  go_wp2_with fail
  refine (implParse_any q _ (by omega) (HE.out.keep B2.out)).mono ?_
  rintro e w3 ⟨hb3, u2, u3, rfl, res3⟩
  have AL3 : Hid (Below w3.heap.size w3 (w3.alloc (.cells #[u2, u3] 28))) := (Below.refl _ _).alloc (Nat.le_refl _) _
  have B3 := hideP ((B2.out.trans (hb3.mono B2.out.size)).trans (AL3.out.mono (Nat.le_trans B2.out.size hb3.size)))
  have S3 := hideP ((S2.out.keep hb3).keep AL3.out)
  have F3 := hideP ((F2.out.app hb3 res3.fl S2.out.1).keep AL3.out)
  have X2' := hideP ((X2.out.keep hb3).keep AL3.out)
  have X3 := hideP (Box.new w3 u2 u3 28)
  obtain ⟨a2, d2, a3, d3, e2, e3⟩ := res3.forms
  subst e2
  subst e3
  clear hb3 res3 AL3 S2 B2 F2 X2
  have FR := hideP (filled4 (u0 := .slice a0 (Pl.parS (bl p)).length d0) (u1 := .slice a1 (Pl.parD (bl p)).length d1) (u2 := .slice a2 (Pl.parS (bl q)).length d2) (u3 := .slice a3 (Pl.parD (bl q)).length d3) F3.out)
  have BR := hideP (below4 B3.out (.slice a0 (Pl.parS (bl p)).length d0) (.slice a1 (Pl.parD (bl p)).length d1) (.slice a2 (Pl.parS (bl q)).length d2) (.slice a3 (Pl.parD (bl q)).length d3))
  have s0 := S3.out.2.1 0 (by omega)
  have s1 := S3.out.2.1 1 (by omega)
  have s2 := S3.out.2.1 2 (by omega)
  have s3 := S3.out.2.1 3 (by omega)
  have sf := S3.out.2.2
  obtain ⟨_, x0, x1⟩ := X2'.out
  obtain ⟨_, y0, y1⟩ := X3.out
  by_cases h0 : Pl.parC (bl p) = 0
  · have h0' : (Pl.parC (bl p) == 0) = true := by rw [beq_iff_eq]; exact h0
    by_cases h1 : Pl.parC (bl q) = 0
    · have h1' : (Pl.parC (bl q) == 0) = true := by rw [beq_iff_eq]; exact h1
      have HY := hideP (HT.out.trans (tst2_yes h0 h1))
      clear h0 h1
      generalize Pl.parC (bl p) = c0 at *
      generalize Pl.parC (bl q) = c1 at *
      go_wp2_with fail
      refine bodyPost_ret (v := .tuple #[.agg #[.slice a0 (Pl.parS (bl p)).length d0, .slice a1 (Pl.parD (bl p)).length d1, .slice a2 (Pl.parS (bl q)).length d2, .slice a3 (Pl.parD (bl q)).length d3], .bool true]) (by simp [results, Tryd.results79, go_sem, s0, s1, s2, s3]) rfl (tp_yes BR.out FR.out HY.out)
    · have h1' : (Pl.parC (bl q) == 0) = false := by rw [beq_eq_false_iff_ne]; exact h1
      have HY := hideP (HT.out.trans (tst2_no (fun h => h1 h.2)))
      clear h0 h1
      generalize Pl.parC (bl p) = c0 at *
      generalize Pl.parC (bl q) = c1 at *
      go_wp2_with fail
      refine bodyPost_ret (v := .tuple #[.agg #[.slice a0 (Pl.parS (bl p)).length d0, .slice a1 (Pl.parD (bl p)).length d1, .slice a2 (Pl.parS (bl q)).length d2, .slice a3 (Pl.parD (bl q)).length d3], .bool false]) (by simp [results, Tryd.results79, go_sem, s0, s1, s2, s3]) rfl (tp_no BR.out FR.out HY.out)
  · have h0' : (Pl.parC (bl p) == 0) = false := by rw [beq_eq_false_iff_ne]; exact h0
    have HY := hideP (HT.out.trans (tst2_no (fun h => h0 h.1)))
    clear h0
    generalize Pl.parC (bl p) = c0 at *
    generalize Pl.parC (bl q) = c1 at *
    go_wp2_with fail
    refine bodyPost_ret (v := .tuple #[.agg #[.slice a0 (Pl.parS (bl p)).length d0, .slice a1 (Pl.parD (bl p)).length d1, .slice a2 (Pl.parS (bl q)).length d2, .slice a3 (Pl.parD (bl q)).length d3], .bool false]) (by simp [results, Tryd.results79, go_sem, s0, s1, s2, s3]) rfl (tp_no BR.out FR.out HY.out)

end Go.Proofs.YtbmkbplgncoapaaDoor
