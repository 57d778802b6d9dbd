import Derived.Test.YtbmkbplgncoapaaDoorTt
namespace Go.Proofs.YtbmkbplgncoapaaDoor
open Go.RowKit
set_option linter.unusedVariables false

theorem bl_take (s : ByteArray) (k : Nat) : bl (s.extract 0 k) = (bl s).take k := by rw [bl_extract]; simp
theorem bl_drop (s : ByteArray) (k : Nat) : bl (s.extract k s.size) = (bl s).drop k := by
  rw [bl_extract]
  exact List.take_of_length_le (by rw [List.length_drop, bl_len]; exact Nat.le_refl _)

set_option maxRecDepth 100000 in
set_option maxHeartbeats 4000000 in
/-- spec.l5Test -/
theorem l5Test_any (s : ByteArray) (w : World) (hl : s.size ≤ 1048576) : Calls Tryd.prog 78 #[.string s] w (TPost w (bl s)) := by
  have BA : Hid (Below w.heap.size w (w.alloc (.cells #[.slice none 0 0, .slice none 0 0, .slice none 0 0, .slice none 0 0] 104))) := (Below.refl _ _).alloc (Nat.le_refl _) _
  have SA := hideP (Sl4.new w 104)
  go_enter Tryd.func78, Tryd.ntmps78
  go_wp2_with fail
  go_loop [4] (fun i => ∃ k : Nat, k ≤ s.size ∧ i = .int .i64 (k : Int) ∧ Hid (∀ j, j < k → Lib.occAt (bl s) Pl.arw j = false)) (fun i => s.size - (intOf i).toNat)
  case atStart => exact ⟨0, Nat.zero_le _, rfl, fun j hj => by omega⟩
  case round =>
    obtain ⟨k, hk, rfl, hno⟩ := hrel
    by_cases hlt : k + 4 ≤ s.size
    · have hlt' : (k : Int) + 4 ≤ (s.size : Int) := by omega
      have hk' : (k : Int) ≤ (s.size : Int) := by omega
      have HO := hideP (Pl.occ_iff (bl s) k (by rw [bl_len]; exact hlt))
      have HX : Hid (bl (s.extract k (k + 4)) = ((bl s).drop k).take 4) := by
        show _ = _
        rw [bl_extract, show k + 4 - k = 4 by omega]
      by_cases hq : bl (s.extract k (k + 4)) = Pl.arw
      · have hq' : ((s.extract k (k + 4)).toList == [32, 61, 62, 32]) = true := by rw [beq_iff_eq, ByteArray.toList_eq]; exact hq
        have HT : Hid (Pl.tst (bl s) = Pl.tst2 (bl (s.extract 0 k)) (bl (s.extract (k + 4) s.size))) := by
          show _ = _
          rw [bl_take, bl_drop]
          exact Pl.tst_hit (by rw [bl_len]; exact hk) (HO.out.2 (HX.out.symm.trans hq)) hno.out
        have zp : (s.extract 0 k).size ≤ 1048576 := by rw [ByteArray.size_extract]; omega
        have zq : (s.extract (k + 4) s.size).size ≤ 1048576 := by rw [ByteArray.size_extract]; omega
        clear HO HX hq hno
        go_wp2_with fail
        generalize s.extract 0 k = p at *
        refine (specParse_any p _ zp).mono ?_
        rintro e w2 ⟨hb2, u0, u1, rfl, res2⟩
        have B1 := BA
        have S1 := SA
        have AL2 : Hid (Below w2.heap.size w2 (w2.alloc (.cells #[u0, u1] 28))) := (Below.refl _ _).alloc (Nat.le_refl _) _
        have B2 := hideP ((B1.out.trans (hb2.mono B1.out.size)).trans (AL2.out.mono (Nat.le_trans B1.out.size hb2.size)))
        have S2 := hideP ((S1.out.keep hb2).keep AL2.out)
        have F2 := hideP ((res2.fl.base S1.out.1).keep AL2.out)
        have X2 := hideP (Box.new w2 u0 u1 28)
        obtain ⟨a0, d0, a1, d1, e0, e1⟩ := res2.forms
        subst e0
        subst e1
        clear hb2 res2 AL2 S1 B1 BA SA
        go_wp2_with fail
        generalize s.extract (k + 4) s.size = q at *
        refine (specParse_any q _ zq).mono ?_
        rintro e w3 ⟨hb3, u2, u3, rfl, res3⟩
        have AL3 : Hid (Below w3.heap.size w3 (w3.alloc (.cells #[u2, u3] 28))) := (Below.refl _ _).alloc (Nat.le_refl _) _
        have B3 := hideP ((B2.out.trans (hb3.mono B2.out.size)).trans (AL3.out.mono (Nat.le_trans B2.out.size hb3.size)))
        have S3 := hideP ((S2.out.keep hb3).keep AL3.out)
        have F3 := hideP ((F2.out.app hb3 res3.fl S2.out.1).keep AL3.out)
        have X2' := hideP ((X2.out.keep hb3).keep AL3.out)
        have X3 := hideP (Box.new w3 u2 u3 28)
        obtain ⟨a2, d2, a3, d3, e2, e3⟩ := res3.forms
        subst e2
        subst e3
        clear hb3 res3 AL3 S2 B2 F2 X2
        have FR := hideP (filled4 (u0 := .slice a0 (Pl.parS (bl p)).length d0) (u1 := .slice a1 (Pl.parD (bl p)).length d1) (u2 := .slice a2 (Pl.parS (bl q)).length d2) (u3 := .slice a3 (Pl.parD (bl q)).length d3) F3.out)
        have BR := hideP (below4 B3.out (.slice a0 (Pl.parS (bl p)).length d0) (.slice a1 (Pl.parD (bl p)).length d1) (.slice a2 (Pl.parS (bl q)).length d2) (.slice a3 (Pl.parD (bl q)).length d3))
        have s0 := S3.out.2.1 0 (by omega)
        have s1 := S3.out.2.1 1 (by omega)
        have s2 := S3.out.2.1 2 (by omega)
        have s3 := S3.out.2.1 3 (by omega)
        have sf := S3.out.2.2
        obtain ⟨_, x0, x1⟩ := X2'.out
        obtain ⟨_, y0, y1⟩ := X3.out
        by_cases h0 : Pl.parC (bl p) = 0
        · have h0' : (Pl.parC (bl p) == 0) = true := by rw [beq_iff_eq]; exact h0
          by_cases h1 : Pl.parC (bl q) = 0
          · have h1' : (Pl.parC (bl q) == 0) = true := by rw [beq_iff_eq]; exact h1
            have HY := hideP (HT.out.trans (tst2_yes h0 h1))
            clear h0 h1
            generalize Pl.parC (bl p) = c0 at *
            generalize Pl.parC (bl q) = c1 at *
            go_wp2_with fail
            refine bodyPost_ret (v := .tuple #[.agg #[.slice a0 (Pl.parS (bl p)).length d0, .slice a1 (Pl.parD (bl p)).length d1, .slice a2 (Pl.parS (bl q)).length d2, .slice a3 (Pl.parD (bl q)).length d3], .bool true]) (by simp [results, Tryd.results78, go_sem, s0, s1, s2, s3]) rfl (tp_yes BR.out FR.out HY.out)
          · have h1' : (Pl.parC (bl q) == 0) = false := by rw [beq_eq_false_iff_ne]; exact h1
            have HY := hideP (HT.out.trans (tst2_no (fun h => h1 h.2)))
            clear h0 h1
            generalize Pl.parC (bl p) = c0 at *
            generalize Pl.parC (bl q) = c1 at *
            go_wp2_with fail
            refine bodyPost_ret (v := .tuple #[.agg #[.slice a0 (Pl.parS (bl p)).length d0, .slice a1 (Pl.parD (bl p)).length d1, .slice a2 (Pl.parS (bl q)).length d2, .slice a3 (Pl.parD (bl q)).length d3], .bool false]) (by simp [results, Tryd.results78, go_sem, s0, s1, s2, s3]) rfl (tp_no BR.out FR.out HY.out)
        · have h0' : (Pl.parC (bl p) == 0) = false := by rw [beq_eq_false_iff_ne]; exact h0
          have HY := hideP (HT.out.trans (tst2_no (fun h => h0 h.1)))
          clear h0
          generalize Pl.parC (bl p) = c0 at *
          generalize Pl.parC (bl q) = c1 at *
          go_wp2_with fail
          refine bodyPost_ret (v := .tuple #[.agg #[.slice a0 (Pl.parS (bl p)).length d0, .slice a1 (Pl.parD (bl p)).length d1, .slice a2 (Pl.parS (bl q)).length d2, .slice a3 (Pl.parD (bl q)).length d3], .bool false]) (by simp [results, Tryd.results78, go_sem, s0, s1, s2, s3]) rfl (tp_no BR.out FR.out HY.out)
      · have hq' : ((s.extract k (k + 4)).toList == [32, 61, 62, 32]) = false := by rw [beq_eq_false_iff_ne, ByteArray.toList_eq]; exact hq
        have HN : Hid (∀ j, j < k + 1 → Lib.occAt (bl s) Pl.arw j = false) := fun j hj => by
          by_cases h : j < k
          · exact hno.out j h
          · obtain rfl : j = k := by omega
            cases h2 : Lib.occAt (bl s) Pl.arw j with
            | false => rfl
            | true => exact absurd (HX.out.trans (HO.out.1 h2)) hq
        clear HO HX hq hno
        go_wp2_with fail
        go_round
        case rel => exact ⟨k + 1, by omega, by go_num, HN⟩
        case measure => simp [intOf]; omega
    · have hlt' : ¬ (k : Int) + 4 ≤ (s.size : Int) := by omega
      have HY : Hid (Pl.tst (bl s) = none) := Pl.tst_miss (k := k) (by rw [bl_len]; omega) hno.out
      have s0 := SA.out.2.1 0 (by omega)
      have s1 := SA.out.2.1 1 (by omega)
      have s2 := SA.out.2.1 2 (by omega)
      have s3 := SA.out.2.1 3 (by omega)
      have sf := SA.out.2.2
      have FR : Hid (Fl w.heap.size (w.alloc (.cells #[.slice none 0 0, .slice none 0 0, .slice none 0 0, .slice none 0 0] 104)) [(.slice none 0 0, []), (.slice none 0 0, []), (.slice none 0 0, []), (.slice none 0 0, [])]) := ⟨(fun p hp => by
          have e : p = (.slice none 0 0, []) := by simpa using hp
          rw [e]; exact Own.nil _ _), by simp [Apart]⟩
      clear hno
      go_wp2_with fail
      refine bodyPost_ret (v := .tuple #[.agg #[.slice none 0 0, .slice none 0 0, .slice none 0 0, .slice none 0 0], .bool false]) (by simp [results, Tryd.results78, go_sem]) rfl (tp_no BA.out FR.out HY.out)

end Go.Proofs.YtbmkbplgncoapaaDoor
