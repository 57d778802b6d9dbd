import Derived.Test.YtmobjomebmipdaaVec
namespace Go.Proofs.Ytmobjomebmipdaa
open Go.RowKit
set_option linter.unusedVariables false

set_option maxRecDepth 100000 in
set_option maxHeartbeats 2000000 in
/-- impl.withAxes, and where the lists lie -/
theorem withAxes_sl (b2 b3 : Nat) (sh da : List Int) (w : World) (h0 : Rd w.heap.size w (.slice (some ⟨b2, 0, none⟩) sh.length sh.length) sh) (h1 : Rd w.heap.size w (.slice (some ⟨b3, 0, none⟩) da.length da.length) da) :
    Calls Try.prog 147 #[.agg #[.slice (some ⟨b2, 0, none⟩) sh.length sh.length, .slice (some ⟨b3, 0, none⟩) da.length da.length]] w fun e w' => ∃ g, e = .returned (.agg #[.slice (some ⟨g, 0, none⟩) (Pl.axesS sh da).length (Pl.axesS sh da).length, .slice (some ⟨b3, 0, none⟩) da.length da.length]) ∧ Rd w'.heap.size w' (.slice (some ⟨g, 0, none⟩) (Pl.axesS sh da).length (Pl.axesS sh da).length) (Pl.axesS sh da) ∧ Below w.heap.size w w' ∧ ((g = b2 ∧ ¬ sh.length = 0) ∨ w.heap.size ≤ g) := by
  have H0 := hideP h0
  have H1 := hideP h1
  have KS : Hid (∀ w', Calls Try.prog 91 #[.agg #[.slice (some ⟨b2, 0, none⟩) sh.length sh.length, .slice (some ⟨b3, 0, none⟩) da.length da.length]] w' fun e w'' => e = .returned (.bool (decide (sh.length = 0))) ∧ Below w'.heap.size w' w'') := fun w' => isScalar_any _ _ sh w.heap.size w' w h0
  have PB : Hid (∀ W, Below (w.heap.size + 1 + 1) ((w.alloc (.cells #[.slice (some ⟨b2, 0, none⟩) sh.length sh.length, .slice (some ⟨b3, 0, none⟩) da.length da.length] 27)).alloc (.cells #[.slice none 0 0, .slice none 0 0] 27)) W → (W.cell? ⟨w.heap.size, 0, none⟩ = some (.slice (some ⟨b2, 0, none⟩) sh.length sh.length) ∧ W.cell? ⟨w.heap.size, 1, none⟩ = some (.slice (some ⟨b3, 0, none⟩) da.length da.length)) ∧ (W.cell? ⟨w.heap.size + 1, 0, none⟩ = some (.slice none 0 0) ∧ W.cell? ⟨w.heap.size + 1, 1, none⟩ = some (.slice none 0 0) ∧ ∀ o, W.frozen? ⟨w.heap.size + 1, o, none⟩ = false) ∧ Below w.heap.size w W) := fun W hb => boxes2 hb
  unfold Pl.axesS
  by_cases hsl : sh.length = 0
  · have KS' : Hid (∀ w', Calls Try.prog 91 #[.agg #[.slice (some ⟨b2, 0, none⟩) sh.length sh.length, .slice (some ⟨b3, 0, none⟩) da.length da.length]] w' fun e w'' => e = .returned (.bool true) ∧ Below w'.heap.size w' w'') := fun w' => by have := KS.out w'; rw [decide_eq_true hsl] at this; exact this
    rw [if_pos hsl]
    clear h0 h1 KS hsl
    go_enter Try.func147, Try.ntmps147
    go_wp2_with fail
    refine (KS'.out _).mono ?_
    rintro e w1 ⟨rfl, hb1⟩
    have B1 := hideP (show Below (w.heap.size + 1 + 1) _ w1 from hb1.mono (by simp))
    have hs1 : w.heap.size + 1 + 1 ≤ w1.heap.size := by have := hb1.size; simpa using this
    have c11 := (PB.out _ B1.out).1.2
    clear hb1
    go_wp2_with fail
    refine (vector_any (some ⟨b3, 0, none⟩) da.length da.length w1).mono ?_
    rintro e w2 ⟨g, rfl, ho2, hb2⟩
    have B2 := hideP (B1.out.trans (hb2.mono hs1))
    have X2 := hideP (PB.out _ B2.out)
    have OS := hideP ho2
    have hs2 := hb2.size
    clear ho2 hb2 c11
    have r0 := X2.out.2.1.1
    have r1 := X2.out.2.1.2.1
    have f2 := X2.out.2.1.2.2
    have BW : Hid (∀ x y, Below w.heap.size w ((w2.setCell ⟨w.heap.size + 1, 0, none⟩ x).setCell ⟨w.heap.size + 1, 1, none⟩ y)) := fun x y => (X2.out.2.2.setCell (by simp) _).setCell (by simp) _
    go_wp2_with fail
    refine bodyPost_ret (v := .agg #[.slice (some ⟨g, 0, none⟩) 1 1, .slice (some ⟨b3, 0, none⟩) da.length da.length]) (by simp [results, Try.results147, go_sem, r0, r1]) rfl ⟨_, rfl, ?_, BW.out _ _, .inr ?_⟩
    · exact (Own.store (Own.store OS.out (by omega) _) (by omega) _).rd
    · obtain ⟨ao, cap, e, h⟩ := OS.out
      rcases h with h | ⟨g', off, hB, _, e', _⟩
      · simp at h
      · simp only [Value.slice.injEq] at e
        have e2 := e.1.trans e'
        simp only [Option.some.injEq, Addr.mk.injEq] at e2
        omega
  · have KS' : Hid (∀ w', Calls Try.prog 91 #[.agg #[.slice (some ⟨b2, 0, none⟩) sh.length sh.length, .slice (some ⟨b3, 0, none⟩) da.length da.length]] w' fun e w'' => e = .returned (.bool false) ∧ Below w'.heap.size w' w'') := fun w' => by have := KS.out w'; rw [decide_eq_false hsl] at this; exact this
    rw [if_neg hsl]
    have HSL := hideP hsl
    clear h0 h1 KS hsl
    go_enter Try.func147, Try.ntmps147
    go_wp2_with fail
    refine (KS'.out _).mono ?_
    rintro e w1 ⟨rfl, hb1⟩
    have X1 := hideP (PB.out _ (show Below (w.heap.size + 1 + 1) _ w1 from hb1.mono (by simp)))
    have hs1 : w.heap.size + 1 + 1 ≤ w1.heap.size := by have := hb1.size; simpa using this
    clear hb1
    have c10 := X1.out.1.1
    have c11 := X1.out.1.2
    have r0 := X1.out.2.1.1
    have r1 := X1.out.2.1.2.1
    have f2 := X1.out.2.1.2.2
    have BW : Hid (∀ x y, Below w.heap.size w ((w1.setCell ⟨w.heap.size + 1, 0, none⟩ x).setCell ⟨w.heap.size + 1, 1, none⟩ y)) := fun x y => (X1.out.2.2.setCell (by simp) _).setCell (by simp) _
    go_wp2_with fail
    refine bodyPost_ret (v := .agg #[.slice (some ⟨b2, 0, none⟩) sh.length sh.length, .slice (some ⟨b3, 0, none⟩) da.length da.length]) (by simp [results, Try.results147, go_sem, r0, r1]) rfl ⟨_, rfl, ?_, BW.out _ _, .inl ⟨rfl, HSL.out⟩⟩
    · exact (H0.out.keep (BW.out _ _)).up (BW.out _ _).size

set_option maxRecDepth 100000 in
set_option maxHeartbeats 2000000 in
/-- spec.l2Axes, and where the lists lie -/
theorem l2Axes_sl (b2 b3 : Nat) (sh da : List Int) (w : World) (hl : da.length ≤ 1048576) (h0 : Rd w.heap.size w (.slice (some ⟨b2, 0, none⟩) sh.length sh.length) sh) (h1 : Rd w.heap.size w (.slice (some ⟨b3, 0, none⟩) da.length da.length) da) :
    Calls Try.prog 118 #[.agg #[.slice (some ⟨b2, 0, none⟩) sh.length sh.length, .slice (some ⟨b3, 0, none⟩) da.length da.length]] w fun e w' => ∃ g g1 cap, e = .returned (.agg #[.slice (some ⟨g, 0, none⟩) (Pl.axesS sh da).length (Pl.axesS sh da).length, .slice (some ⟨g1, 0, none⟩) da.length cap]) ∧ da.length ≤ cap ∧ cap ≤ 9223372036854775807 ∧ Rd w'.heap.size w' (.slice (some ⟨g, 0, none⟩) (Pl.axesS sh da).length (Pl.axesS sh da).length) (Pl.axesS sh da) ∧ Rd w'.heap.size w' (.slice (some ⟨g1, 0, none⟩) da.length cap) da ∧ Below w.heap.size w w' := by
  have H0 := hideP h0
  have H1 := hideP h1
  have PB : Hid (∀ W, Below (w.heap.size + 1 + 1) ((w.alloc (.cells #[.slice (some ⟨b2, 0, none⟩) sh.length sh.length, .slice (some ⟨b3, 0, none⟩) da.length da.length] 27)).alloc (.cells #[.slice none 0 0, .slice none 0 0] 27)) W → (W.cell? ⟨w.heap.size, 0, none⟩ = some (.slice (some ⟨b2, 0, none⟩) sh.length sh.length) ∧ W.cell? ⟨w.heap.size, 1, none⟩ = some (.slice (some ⟨b3, 0, none⟩) da.length da.length)) ∧ (W.cell? ⟨w.heap.size + 1, 0, none⟩ = some (.slice none 0 0) ∧ W.cell? ⟨w.heap.size + 1, 1, none⟩ = some (.slice none 0 0) ∧ ∀ o, W.frozen? ⟨w.heap.size + 1, o, none⟩ = false) ∧ Below w.heap.size w W) := fun W hb => boxes2 hb
  have B : Hid (∀ o o', Below w.heap.size w ((w.alloc o).alloc o')) := fun o o' => ((Below.refl _ _).alloc (Nat.le_refl _) _).alloc (by simp) _
  unfold Pl.axesS
  by_cases hsl : sh.length = 0
  · rw [if_pos hsl]
    have test : ((sh.length : Int) == 0) = true := by rw [hsl]; rfl
    have KV : Hid (∀ w', Below w.heap.size w w' → Calls Try.prog 55 #[.slice (some ⟨b3, 0, none⟩) da.length da.length] w' fun e w'' => ∃ g0 g1 cap, e = .returned (.agg #[.slice (some ⟨g0, 0, none⟩) 1 1, .slice (some ⟨g1, 0, none⟩) da.length cap]) ∧ da.length ≤ cap ∧ cap ≤ 9223372036854775807 ∧ Res w'.heap.size w'' (.slice (some ⟨g0, 0, none⟩) 1 1) (.slice (some ⟨g1, 0, none⟩) da.length cap) [(da.length : Int)] da ∧ Below w'.heap.size w' w'') := fun w' h => l2Vector_any _ da w' hl ((H1.out.keep h).up h.size)
    clear h0 h1 hsl H0
    generalize sh.length = L at *
    go_enter Try.func118, Try.ntmps118
    go_wp2_with fail
    refine (KV.out _ (B.out _ _)).mono ?_
    rintro e w2 ⟨g0, g1, cap, rfl, hc0, hc1, res, hb2⟩
    have B2 := hideP (show Below (w.heap.size + 1 + 1) _ w2 from hb2.mono (by simp))
    have X2 := hideP (PB.out _ B2.out)
    have R2 := hideP res
    have hs2 : w.heap.size + 1 + 1 ≤ w2.heap.size := by have := hb2.size; simpa using this
    clear res hb2
    have r0 := X2.out.2.1.1
    have r1 := X2.out.2.1.2.1
    have f2 := X2.out.2.1.2.2
    have BW : Hid (∀ x y, Below w.heap.size w ((w2.setCell ⟨w.heap.size + 1, 0, none⟩ x).setCell ⟨w.heap.size + 1, 1, none⟩ y)) := fun x y => (X2.out.2.2.setCell (by simp) _).setCell (by simp) _
    go_wp2_with fail
    refine bodyPost_ret (v := .agg #[.slice (some ⟨g0, 0, none⟩) 1 1, .slice (some ⟨g1, 0, none⟩) da.length cap]) (by simp [results, Try.results118, go_sem, r0, r1]) rfl ⟨_, _, _, rfl, hc0, hc1, ?_, ?_, BW.out _ _⟩
    · exact (Own.store (Own.store R2.out.1 (by simp) _) (by simp) _).rd
    · exact (Own.store (Own.store R2.out.2.1 (by simp) _) (by simp) _).rd
  · rw [if_neg hsl]
    have test : ((sh.length : Int) == 0) = false := by rw [beq_eq_false_iff_ne]; omega
    clear h0 h1 hsl
    have hlc : da.length ≤ 9223372036854775807 := by omega
    go_enter Try.func118, Try.ntmps118
    go_wp2_with fail
    refine bodyPost_ret (v := .agg #[.slice (some ⟨b2, 0, none⟩) sh.length sh.length, .slice (some ⟨b3, 0, none⟩) da.length da.length]) (by simp [results, Try.results118, go_sem]) rfl ⟨_, _, _, rfl, Nat.le_refl _, hlc, ?_, ?_, B.out _ _⟩
    · exact (H0.out.keep (B.out _ _)).up (B.out _ _).size
    · exact (H1.out.keep (B.out _ _)).up (B.out _ _).size

end Go.Proofs.Ytmobjomebmipdaa
