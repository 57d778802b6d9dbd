import Derived.Test.YtmobjomebmipdaaFl8
import Derived.Test.YtmobjomebmipdaaMonC
namespace Go.Proofs.Ytmobjomebmipdaa
open Go.RowKit
set_option linter.unusedVariables false

namespace Pl
/-- the seven monads -/
def monM (op : Int) (sh da : List Int) : Int × List Int × List Int := if op = 1 then iotaM sh da else if op = 2 then (0, [(sh.length : Int)], sh) else if op = 3 then (0, [(da.length : Int)], da) else if op = 4 then revM sh da else if op = 5 then flipM sh da else if op = 6 then gradeM sh da else countM sh da
end Pl

set_option maxRecDepth 100000 in
set_option maxHeartbeats 4000000 in
/-- spec.Monad: another number, or an array that is not valid -/
theorem specM_bad (op : Int) (b0 b1 : Nat) (sh da : List Int) (w : World) (hl0 : sh.length ≤ 1048576) (hl1 : da.length ≤ 1048576) (h0 : Rd w.heap.size w (.slice (some ⟨b0, 0, none⟩) sh.length sh.length) sh) (h1 : Rd w.heap.size w (.slice (some ⟨b1, 0, none⟩) da.length da.length) da) (hbad : ¬ (1 ≤ op ∧ op < 8 ∧ Pl.okB sh da = true)) :
    Calls Try.prog 22 #[.int .i64 op, .agg #[.slice (some ⟨b0, 0, none⟩) sh.length sh.length, .slice (some ⟨b1, 0, none⟩) da.length da.length]] w (FPost w 9 [] []) := by
  have H0 := hideP h0
  have H1 := hideP h1
  obtain ⟨wb, hwb⟩ : ∃ wb, wb = (w.alloc (.cells #[.slice (some ⟨b0, 0, none⟩) sh.length sh.length, .slice (some ⟨b1, 0, none⟩) da.length da.length] 27)).alloc (.cells #[.slice none 0 0, .slice none 0 0] 27) := ⟨_, rfl⟩
  have WS : wb.heap.size = w.heap.size + 1 + 1 := by rw [hwb]; simp
  have PB : Hid (∀ W, Below wb.heap.size wb W → (W.cell? ⟨w.heap.size, 0, none⟩ = some (.slice (some ⟨b0, 0, none⟩) sh.length sh.length) ∧ W.cell? ⟨w.heap.size, 1, none⟩ = some (.slice (some ⟨b1, 0, none⟩) da.length da.length)) ∧ (W.cell? ⟨w.heap.size + 1, 0, none⟩ = some (.slice none 0 0) ∧ W.cell? ⟨w.heap.size + 1, 1, none⟩ = some (.slice none 0 0) ∧ ∀ o, W.frozen? ⟨w.heap.size + 1, o, none⟩ = false) ∧ Below w.heap.size w W) := fun W hb => by
    subst hwb
    exact boxes2 (hb.mono (by simp))
  have KA : Hid (Calls Try.prog 12 #[.agg #[.slice (some ⟨b0, 0, none⟩) sh.length sh.length, .slice (some ⟨b1, 0, none⟩) da.length da.length]] wb fun e w' => e = .returned (.bool (Pl.okB sh da)) ∧ Below wb.heap.size wb w') := by
    have k := (PB.out wb (Below.refl _ _)).2.2
    exact specOk_any _ _ sh da wb hl0 hl1 ((H0.out.keep k).up k.size) ((H1.out.keep k).up k.size)
  have X0 := hideP (PB.out wb (Below.refl _ _))
  by_cases g1 : op < 1
  · clear hbad H0 H1 KA h0 h1
    generalize sh.length = ls at *
    generalize da.length = ld at *
    go_enter Try.func22, Try.ntmps22
    go_wp2_with fail
    refine bodyPost_ret (v := .tuple #[.agg #[.slice none 0 0, .slice none 0 0], .int .i64 9]) (by simp [results, Try.results22, go_sem]) rfl ⟨by rw [hwb] at X0; exact X0.out.2.2, _, _, rfl, Own.nil _ _, Own.nil _ _, .inl rfl⟩
  · have g1' : decide (op < 1) = false := decide_eq_false g1
    by_cases g7 : 7 < op
    · clear hbad H0 H1 KA h0 h1
      generalize sh.length = ls at *
      generalize da.length = ld at *
      go_enter Try.func22, Try.ntmps22
      go_wp2_with fail
      refine bodyPost_ret (v := .tuple #[.agg #[.slice none 0 0, .slice none 0 0], .int .i64 9]) (by simp [results, Try.results22, go_sem]) rfl ⟨by rw [hwb] at X0; exact X0.out.2.2, _, _, rfl, Own.nil _ _, Own.nil _ _, .inl rfl⟩
    · have g7' : decide (7 < op) = false := decide_eq_false g7
      have hq : Pl.okB sh da = false := by
        cases e : Pl.okB sh da
        · rfl
        · exact absurd ⟨by omega, by omega, e⟩ hbad
      rw [hq] at KA
      have c0 := X0.out.1.1
      have c1 := X0.out.1.2
      clear hbad H0 H1 h0 h1 hq X0
      generalize sh.length = ls at *
      generalize da.length = ld at *
      go_enter Try.func22, Try.ntmps22
      go_wp2_with fail
      rw [← hwb]
      refine KA.out.mono ?_
      rintro e w1 ⟨rfl, hb1⟩
      have X1 := hideP (PB.out w1 hb1)
      have hs1 := hb1.size
      clear hb1 c0 c1 KA
      have r0 := X1.out.2.1.1
      have r1 := X1.out.2.1.2.1
      have f2 := X1.out.2.1.2.2
      go_wp2_with fail
      refine bodyPost_ret (v := .tuple #[.agg #[.slice none 0 0, .slice none 0 0], .int .i64 9]) (by simp [results, Try.results22, go_sem, r0, r1]) rfl ⟨(X1.out.2.2.setCell (by simp) _).setCell (by simp) _, _, _, rfl, Own.nil _ _, Own.nil _ _, .inl rfl⟩

set_option maxRecDepth 100000 in
set_option maxHeartbeats 4000000 in
/-- spec.Monad, number 2 -/
theorem specM_2 (b0 b1 : Nat) (sh da : List Int) (w : World) (hl0 : sh.length ≤ 1048576) (hl1 : da.length ≤ 1048576) (h0 : Rd w.heap.size w (.slice (some ⟨b0, 0, none⟩) sh.length sh.length) sh) (h1 : Rd w.heap.size w (.slice (some ⟨b1, 0, none⟩) da.length da.length) da) (hok : Pl.okB sh da = true) (S D : List Int) (hS : [(sh.length : Int)] = S) (hD : sh = D) :
    Calls Try.prog 22 #[.int .i64 2, .agg #[.slice (some ⟨b0, 0, none⟩) sh.length sh.length, .slice (some ⟨b1, 0, none⟩) da.length da.length]] w (FPost w 0 S D) := by
  have H0 := hideP h0
  have H1 := hideP h1
  obtain ⟨wb, hwb⟩ : ∃ wb, wb = (w.alloc (.cells #[.slice (some ⟨b0, 0, none⟩) sh.length sh.length, .slice (some ⟨b1, 0, none⟩) da.length da.length] 27)).alloc (.cells #[.slice none 0 0, .slice none 0 0] 27) := ⟨_, rfl⟩
  have WS : wb.heap.size = w.heap.size + 1 + 1 := by rw [hwb]; simp
  have PB : Hid (∀ W, Below wb.heap.size wb W → (W.cell? ⟨w.heap.size, 0, none⟩ = some (.slice (some ⟨b0, 0, none⟩) sh.length sh.length) ∧ W.cell? ⟨w.heap.size, 1, none⟩ = some (.slice (some ⟨b1, 0, none⟩) da.length da.length)) ∧ (W.cell? ⟨w.heap.size + 1, 0, none⟩ = some (.slice none 0 0) ∧ W.cell? ⟨w.heap.size + 1, 1, none⟩ = some (.slice none 0 0) ∧ ∀ o, W.frozen? ⟨w.heap.size + 1, o, none⟩ = false) ∧ Below w.heap.size w W) := fun W hb => by
    subst hwb
    exact boxes2 (hb.mono (by simp))
  have KA : Hid (Calls Try.prog 12 #[.agg #[.slice (some ⟨b0, 0, none⟩) sh.length sh.length, .slice (some ⟨b1, 0, none⟩) da.length da.length]] wb fun e w' => e = .returned (.bool (Pl.okB sh da)) ∧ Below wb.heap.size wb w') := by
    have k := (PB.out wb (Below.refl _ _)).2.2
    exact specOk_any _ _ sh da wb hl0 hl1 ((H0.out.keep k).up k.size) ((H1.out.keep k).up k.size)
  have KC : Hid (∀ W, Below w.heap.size w W → Calls Try.prog 55 #[.slice (some ⟨b0, 0, none⟩) sh.length sh.length] W fun e w' => ∃ u0 u1, e = .returned (.agg #[u0, u1]) ∧ Res W.heap.size w' u0 u1 S D ∧ Below W.heap.size W w') := fun W hb => by
    subst hS hD
    refine (l2Vector_any _ sh W hl0 ((H0.out.keep hb).up hb.size)).mono ?_
    rintro e w' ⟨g0, g1, cp, rfl, _, _, hr, hb'⟩
    exact ⟨_, _, rfl, hr, hb'⟩
  have hq := hok
  rw [hq] at KA
  have c0 := (PB.out wb (Below.refl _ _)).1.1
  have c1 := (PB.out wb (Below.refl _ _)).1.2
  clear H0 H1 h0 h1 hq hok
  generalize sh.length = ls at *
  generalize da.length = ld at *
  go_enter Try.func22, Try.ntmps22
  go_wp2_with fail
  rw [← hwb]
  refine KA.out.mono ?_
  rintro e w1 ⟨rfl, hb1⟩
  have X1 := hideP (PB.out w1 hb1)
  have B1 := hideP hb1
  have hs1 := hb1.size
  have KD := hideP (KC.out w1 X1.out.2.2)
  clear hb1 c0 c1 KA KC
  have c0 := X1.out.1.1
  have c1 := X1.out.1.2
  go_wp2_with fail
  refine KD.out.mono ?_
  rintro e w2 ⟨u0, u1, rfl, res2, hb2⟩
  have X2 := hideP (PB.out w2 (B1.out.trans (hb2.mono hs1)))
  have R2 := hideP res2
  have hs2 := hb2.size
  obtain ⟨x0, y0, x1, y1, e0, e1⟩ := res2.forms
  subst e0
  subst e1
  clear hb2 res2 c0 c1 KD
  have r0 := X2.out.2.1.1
  have r1 := X2.out.2.1.2.1
  have f2 := X2.out.2.1.2.2
  go_wp2_with fail
  refine bodyPost_ret (v := .tuple #[.agg #[.slice x0 S.length y0, .slice x1 D.length y1], .int .i64 0]) (by simp [results, Try.results22, go_sem, r0, r1]) rfl ⟨(X2.out.2.2.setCell (by simp) _).setCell (by simp) _, _, _, rfl, ?_, ?_, R2.out.2.2⟩
  · exact Own.base (Own.store (Own.store R2.out.1 (by omega) _) (by omega) _) (by omega)
  · exact Own.base (Own.store (Own.store R2.out.2.1 (by omega) _) (by omega) _) (by omega)

set_option maxRecDepth 100000 in
set_option maxHeartbeats 4000000 in
/-- spec.Monad, number 3 -/
theorem specM_3 (b0 b1 : Nat) (sh da : List Int) (w : World) (hl0 : sh.length ≤ 1048576) (hl1 : da.length ≤ 1048576) (h0 : Rd w.heap.size w (.slice (some ⟨b0, 0, none⟩) sh.length sh.length) sh) (h1 : Rd w.heap.size w (.slice (some ⟨b1, 0, none⟩) da.length da.length) da) (hok : Pl.okB sh da = true) (S D : List Int) (hS : [(da.length : Int)] = S) (hD : da = D) :
    Calls Try.prog 22 #[.int .i64 3, .agg #[.slice (some ⟨b0, 0, none⟩) sh.length sh.length, .slice (some ⟨b1, 0, none⟩) da.length da.length]] w (FPost w 0 S D) := by
  have H0 := hideP h0
  have H1 := hideP h1
  obtain ⟨wb, hwb⟩ : ∃ wb, wb = (w.alloc (.cells #[.slice (some ⟨b0, 0, none⟩) sh.length sh.length, .slice (some ⟨b1, 0, none⟩) da.length da.length] 27)).alloc (.cells #[.slice none 0 0, .slice none 0 0] 27) := ⟨_, rfl⟩
  have WS : wb.heap.size = w.heap.size + 1 + 1 := by rw [hwb]; simp
  have PB : Hid (∀ W, Below wb.heap.size wb W → (W.cell? ⟨w.heap.size, 0, none⟩ = some (.slice (some ⟨b0, 0, none⟩) sh.length sh.length) ∧ W.cell? ⟨w.heap.size, 1, none⟩ = some (.slice (some ⟨b1, 0, none⟩) da.length da.length)) ∧ (W.cell? ⟨w.heap.size + 1, 0, none⟩ = some (.slice none 0 0) ∧ W.cell? ⟨w.heap.size + 1, 1, none⟩ = some (.slice none 0 0) ∧ ∀ o, W.frozen? ⟨w.heap.size + 1, o, none⟩ = false) ∧ Below w.heap.size w W) := fun W hb => by
    subst hwb
    exact boxes2 (hb.mono (by simp))
  have KA : Hid (Calls Try.prog 12 #[.agg #[.slice (some ⟨b0, 0, none⟩) sh.length sh.length, .slice (some ⟨b1, 0, none⟩) da.length da.length]] wb fun e w' => e = .returned (.bool (Pl.okB sh da)) ∧ Below wb.heap.size wb w') := by
    have k := (PB.out wb (Below.refl _ _)).2.2
    exact specOk_any _ _ sh da wb hl0 hl1 ((H0.out.keep k).up k.size) ((H1.out.keep k).up k.size)
  have KC : Hid (∀ W, Below w.heap.size w W → Calls Try.prog 55 #[.slice (some ⟨b1, 0, none⟩) da.length da.length] W fun e w' => ∃ u0 u1, e = .returned (.agg #[u0, u1]) ∧ Res W.heap.size w' u0 u1 S D ∧ Below W.heap.size W w') := fun W hb => by
    subst hS hD
    refine (l2Vector_any _ da W hl1 ((H1.out.keep hb).up hb.size)).mono ?_
    rintro e w' ⟨g0, g1, cp, rfl, _, _, hr, hb'⟩
    exact ⟨_, _, rfl, hr, hb'⟩
  have hq := hok
  rw [hq] at KA
  have c0 := (PB.out wb (Below.refl _ _)).1.1
  have c1 := (PB.out wb (Below.refl _ _)).1.2
  clear H0 H1 h0 h1 hq hok
  generalize sh.length = ls at *
  generalize da.length = ld at *
  go_enter Try.func22, Try.ntmps22
  go_wp2_with fail
  rw [← hwb]
  refine KA.out.mono ?_
  rintro e w1 ⟨rfl, hb1⟩
  have X1 := hideP (PB.out w1 hb1)
  have B1 := hideP hb1
  have hs1 := hb1.size
  have KD := hideP (KC.out w1 X1.out.2.2)
  clear hb1 c0 c1 KA KC
  have c0 := X1.out.1.1
  have c1 := X1.out.1.2
  go_wp2_with fail
  refine KD.out.mono ?_
  rintro e w2 ⟨u0, u1, rfl, res2, hb2⟩
  have X2 := hideP (PB.out w2 (B1.out.trans (hb2.mono hs1)))
  have R2 := hideP res2
  have hs2 := hb2.size
  obtain ⟨x0, y0, x1, y1, e0, e1⟩ := res2.forms
  subst e0
  subst e1
  clear hb2 res2 c0 c1 KD
  have r0 := X2.out.2.1.1
  have r1 := X2.out.2.1.2.1
  have f2 := X2.out.2.1.2.2
  go_wp2_with fail
  refine bodyPost_ret (v := .tuple #[.agg #[.slice x0 S.length y0, .slice x1 D.length y1], .int .i64 0]) (by simp [results, Try.results22, go_sem, r0, r1]) rfl ⟨(X2.out.2.2.setCell (by simp) _).setCell (by simp) _, _, _, rfl, ?_, ?_, R2.out.2.2⟩
  · exact Own.base (Own.store (Own.store R2.out.1 (by omega) _) (by omega) _) (by omega)
  · exact Own.base (Own.store (Own.store R2.out.2.1 (by omega) _) (by omega) _) (by omega)

set_option maxRecDepth 100000 in
set_option maxHeartbeats 4000000 in
/-- spec.Monad, number 4 -/
theorem specM_4 (b0 b1 : Nat) (sh da : List Int) (w : World) (hl0 : sh.length ≤ 1048576) (hl1 : da.length ≤ 1048576) (h0 : Rd w.heap.size w (.slice (some ⟨b0, 0, none⟩) sh.length sh.length) sh) (h1 : Rd w.heap.size w (.slice (some ⟨b1, 0, none⟩) da.length da.length) da) (hok : Pl.okB sh da = true) (S D : List Int) (hres : Pl.revM sh da = (0, S, D)) :
    Calls Try.prog 22 #[.int .i64 4, .agg #[.slice (some ⟨b0, 0, none⟩) sh.length sh.length, .slice (some ⟨b1, 0, none⟩) da.length da.length]] w (FPost w 0 S D) := by
  have H0 := hideP h0
  have H1 := hideP h1
  obtain ⟨wb, hwb⟩ : ∃ wb, wb = (w.alloc (.cells #[.slice (some ⟨b0, 0, none⟩) sh.length sh.length, .slice (some ⟨b1, 0, none⟩) da.length da.length] 27)).alloc (.cells #[.slice none 0 0, .slice none 0 0] 27) := ⟨_, rfl⟩
  have WS : wb.heap.size = w.heap.size + 1 + 1 := by rw [hwb]; simp
  have PB : Hid (∀ W, Below wb.heap.size wb W → (W.cell? ⟨w.heap.size, 0, none⟩ = some (.slice (some ⟨b0, 0, none⟩) sh.length sh.length) ∧ W.cell? ⟨w.heap.size, 1, none⟩ = some (.slice (some ⟨b1, 0, none⟩) da.length da.length)) ∧ (W.cell? ⟨w.heap.size + 1, 0, none⟩ = some (.slice none 0 0) ∧ W.cell? ⟨w.heap.size + 1, 1, none⟩ = some (.slice none 0 0) ∧ ∀ o, W.frozen? ⟨w.heap.size + 1, o, none⟩ = false) ∧ Below w.heap.size w W) := fun W hb => by
    subst hwb
    exact boxes2 (hb.mono (by simp))
  have KA : Hid (Calls Try.prog 12 #[.agg #[.slice (some ⟨b0, 0, none⟩) sh.length sh.length, .slice (some ⟨b1, 0, none⟩) da.length da.length]] wb fun e w' => e = .returned (.bool (Pl.okB sh da)) ∧ Below wb.heap.size wb w') := by
    have k := (PB.out wb (Below.refl _ _)).2.2
    exact specOk_any _ _ sh da wb hl0 hl1 ((H0.out.keep k).up k.size) ((H1.out.keep k).up k.size)
  have KC : Hid (∀ W, Below w.heap.size w W → Calls Try.prog 56 #[.agg #[.slice (some ⟨b0, 0, none⟩) sh.length sh.length, .slice (some ⟨b1, 0, none⟩) da.length da.length]] W fun e w' => ∃ u0 u1, e = .returned (.agg #[u0, u1]) ∧ Res W.heap.size w' u0 u1 S D ∧ Below W.heap.size W w') := fun W hb => l2Rev_any b0 0 sh.length b1 0 da.length sh da W ((H0.out.keep hb).up hb.size) ((H1.out.keep hb).up hb.size) (Nat.le_refl _) (by omega) (Nat.le_refl _) (by omega) hok S D hres
  have hq := hok
  rw [hq] at KA
  have c0 := (PB.out wb (Below.refl _ _)).1.1
  have c1 := (PB.out wb (Below.refl _ _)).1.2
  clear H0 H1 h0 h1 hq hok
  generalize sh.length = ls at *
  generalize da.length = ld at *
  go_enter Try.func22, Try.ntmps22
  go_wp2_with fail
  rw [← hwb]
  refine KA.out.mono ?_
  rintro e w1 ⟨rfl, hb1⟩
  have X1 := hideP (PB.out w1 hb1)
  have B1 := hideP hb1
  have hs1 := hb1.size
  have KD := hideP (KC.out w1 X1.out.2.2)
  clear hb1 c0 c1 KA KC
  have c0 := X1.out.1.1
  have c1 := X1.out.1.2
  go_wp2_with fail
  refine KD.out.mono ?_
  rintro e w2 ⟨u0, u1, rfl, res2, hb2⟩
  have X2 := hideP (PB.out w2 (B1.out.trans (hb2.mono hs1)))
  have R2 := hideP res2
  have hs2 := hb2.size
  obtain ⟨x0, y0, x1, y1, e0, e1⟩ := res2.forms
  subst e0
  subst e1
  clear hb2 res2 c0 c1 KD
  have r0 := X2.out.2.1.1
  have r1 := X2.out.2.1.2.1
  have f2 := X2.out.2.1.2.2
  go_wp2_with fail
  refine bodyPost_ret (v := .tuple #[.agg #[.slice x0 S.length y0, .slice x1 D.length y1], .int .i64 0]) (by simp [results, Try.results22, go_sem, r0, r1]) rfl ⟨(X2.out.2.2.setCell (by simp) _).setCell (by simp) _, _, _, rfl, ?_, ?_, R2.out.2.2⟩
  · exact Own.base (Own.store (Own.store R2.out.1 (by omega) _) (by omega) _) (by omega)
  · exact Own.base (Own.store (Own.store R2.out.2.1 (by omega) _) (by omega) _) (by omega)

set_option maxRecDepth 100000 in
set_option maxHeartbeats 4000000 in
/-- spec.Monad, number 5 -/
theorem specM_5 (b0 b1 : Nat) (sh da : List Int) (w : World) (hl0 : sh.length ≤ 1048576) (hl1 : da.length ≤ 1048576) (h0 : Rd w.heap.size w (.slice (some ⟨b0, 0, none⟩) sh.length sh.length) sh) (h1 : Rd w.heap.size w (.slice (some ⟨b1, 0, none⟩) da.length da.length) da) (hok : Pl.okB sh da = true) (S D : List Int) (hres : Pl.flipM sh da = (0, S, D)) :
    Calls Try.prog 22 #[.int .i64 5, .agg #[.slice (some ⟨b0, 0, none⟩) sh.length sh.length, .slice (some ⟨b1, 0, none⟩) da.length da.length]] w (FPost w 0 S D) := by
  have H0 := hideP h0
  have H1 := hideP h1
  obtain ⟨wb, hwb⟩ : ∃ wb, wb = (w.alloc (.cells #[.slice (some ⟨b0, 0, none⟩) sh.length sh.length, .slice (some ⟨b1, 0, none⟩) da.length da.length] 27)).alloc (.cells #[.slice none 0 0, .slice none 0 0] 27) := ⟨_, rfl⟩
  have WS : wb.heap.size = w.heap.size + 1 + 1 := by rw [hwb]; simp
  have PB : Hid (∀ W, Below wb.heap.size wb W → (W.cell? ⟨w.heap.size, 0, none⟩ = some (.slice (some ⟨b0, 0, none⟩) sh.length sh.length) ∧ W.cell? ⟨w.heap.size, 1, none⟩ = some (.slice (some ⟨b1, 0, none⟩) da.length da.length)) ∧ (W.cell? ⟨w.heap.size + 1, 0, none⟩ = some (.slice none 0 0) ∧ W.cell? ⟨w.heap.size + 1, 1, none⟩ = some (.slice none 0 0) ∧ ∀ o, W.frozen? ⟨w.heap.size + 1, o, none⟩ = false) ∧ Below w.heap.size w W) := fun W hb => by
    subst hwb
    exact boxes2 (hb.mono (by simp))
  have KA : Hid (Calls Try.prog 12 #[.agg #[.slice (some ⟨b0, 0, none⟩) sh.length sh.length, .slice (some ⟨b1, 0, none⟩) da.length da.length]] wb fun e w' => e = .returned (.bool (Pl.okB sh da)) ∧ Below wb.heap.size wb w') := by
    have k := (PB.out wb (Below.refl _ _)).2.2
    exact specOk_any _ _ sh da wb hl0 hl1 ((H0.out.keep k).up k.size) ((H1.out.keep k).up k.size)
  have KC : Hid (∀ W, Below w.heap.size w W → Calls Try.prog 57 #[.agg #[.slice (some ⟨b0, 0, none⟩) sh.length sh.length, .slice (some ⟨b1, 0, none⟩) da.length da.length]] W fun e w' => ∃ u0 u1, e = .returned (.agg #[u0, u1]) ∧ Res W.heap.size w' u0 u1 S D ∧ Below W.heap.size W w') := fun W hb => l2Flip_any b0 0 sh.length b1 0 da.length sh da W ((H0.out.keep hb).up hb.size) ((H1.out.keep hb).up hb.size) hok S D hres
  have hq := hok
  rw [hq] at KA
  have c0 := (PB.out wb (Below.refl _ _)).1.1
  have c1 := (PB.out wb (Below.refl _ _)).1.2
  clear H0 H1 h0 h1 hq hok
  generalize sh.length = ls at *
  generalize da.length = ld at *
  go_enter Try.func22, Try.ntmps22
  go_wp2_with fail
  rw [← hwb]
  refine KA.out.mono ?_
  rintro e w1 ⟨rfl, hb1⟩
  have X1 := hideP (PB.out w1 hb1)
  have B1 := hideP hb1
  have hs1 := hb1.size
  have KD := hideP (KC.out w1 X1.out.2.2)
  clear hb1 c0 c1 KA KC
  have c0 := X1.out.1.1
  have c1 := X1.out.1.2
  go_wp2_with fail
  refine KD.out.mono ?_
  rintro e w2 ⟨u0, u1, rfl, res2, hb2⟩
  have X2 := hideP (PB.out w2 (B1.out.trans (hb2.mono hs1)))
  have R2 := hideP res2
  have hs2 := hb2.size
  obtain ⟨x0, y0, x1, y1, e0, e1⟩ := res2.forms
  subst e0
  subst e1
  clear hb2 res2 c0 c1 KD
  have r0 := X2.out.2.1.1
  have r1 := X2.out.2.1.2.1
  have f2 := X2.out.2.1.2.2
  go_wp2_with fail
  refine bodyPost_ret (v := .tuple #[.agg #[.slice x0 S.length y0, .slice x1 D.length y1], .int .i64 0]) (by simp [results, Try.results22, go_sem, r0, r1]) rfl ⟨(X2.out.2.2.setCell (by simp) _).setCell (by simp) _, _, _, rfl, ?_, ?_, R2.out.2.2⟩
  · exact Own.base (Own.store (Own.store R2.out.1 (by omega) _) (by omega) _) (by omega)
  · exact Own.base (Own.store (Own.store R2.out.2.1 (by omega) _) (by omega) _) (by omega)

set_option maxRecDepth 100000 in
set_option maxHeartbeats 4000000 in
/-- spec.Monad, number 6 -/
theorem specM_6 (b0 b1 : Nat) (sh da : List Int) (w : World) (hl0 : sh.length ≤ 1048576) (hl1 : da.length ≤ 1048576) (h0 : Rd w.heap.size w (.slice (some ⟨b0, 0, none⟩) sh.length sh.length) sh) (h1 : Rd w.heap.size w (.slice (some ⟨b1, 0, none⟩) da.length da.length) da) (hok : Pl.okB sh da = true) (hsl : sh.length = 1) (S D : List Int) (hS : [(da.length : Int)] = S) (hD : Pl.grd (Pl.key da) 0 da.length = D) :
    Calls Try.prog 22 #[.int .i64 6, .agg #[.slice (some ⟨b0, 0, none⟩) sh.length sh.length, .slice (some ⟨b1, 0, none⟩) da.length da.length]] w (FPost w 0 S D) := by
  have H0 := hideP h0
  have H1 := hideP h1
  obtain ⟨wb, hwb⟩ : ∃ wb, wb = (w.alloc (.cells #[.slice (some ⟨b0, 0, none⟩) sh.length sh.length, .slice (some ⟨b1, 0, none⟩) da.length da.length] 27)).alloc (.cells #[.slice none 0 0, .slice none 0 0] 27) := ⟨_, rfl⟩
  have WS : wb.heap.size = w.heap.size + 1 + 1 := by rw [hwb]; simp
  have PB : Hid (∀ W, Below wb.heap.size wb W → (W.cell? ⟨w.heap.size, 0, none⟩ = some (.slice (some ⟨b0, 0, none⟩) sh.length sh.length) ∧ W.cell? ⟨w.heap.size, 1, none⟩ = some (.slice (some ⟨b1, 0, none⟩) da.length da.length)) ∧ (W.cell? ⟨w.heap.size + 1, 0, none⟩ = some (.slice none 0 0) ∧ W.cell? ⟨w.heap.size + 1, 1, none⟩ = some (.slice none 0 0) ∧ ∀ o, W.frozen? ⟨w.heap.size + 1, o, none⟩ = false) ∧ Below w.heap.size w W) := fun W hb => by
    subst hwb
    exact boxes2 (hb.mono (by simp))
  have KA : Hid (Calls Try.prog 12 #[.agg #[.slice (some ⟨b0, 0, none⟩) sh.length sh.length, .slice (some ⟨b1, 0, none⟩) da.length da.length]] wb fun e w' => e = .returned (.bool (Pl.okB sh da)) ∧ Below wb.heap.size wb w') := by
    have k := (PB.out wb (Below.refl _ _)).2.2
    exact specOk_any _ _ sh da wb hl0 hl1 ((H0.out.keep k).up k.size) ((H1.out.keep k).up k.size)
  have KC : Hid (∀ W, Below w.heap.size w W → Calls Try.prog 59 #[.agg #[.slice (some ⟨b0, 0, none⟩) sh.length sh.length, .slice (some ⟨b1, 0, none⟩) da.length da.length]] W fun e w' => ∃ u0 u1, e = .returned (.agg #[u0, u1]) ∧ Res W.heap.size w' u0 u1 S D ∧ Below W.heap.size W w') := fun W hb => by
    subst hS hD
    exact l2Grade_any b0 0 sh.length b1 0 da.length sh da W ((H1.out.keep hb).up hb.size) (by have := (Pl.ok_max hok).2; omega)
  have hne : ((sh.length : Int) != 1) = false := by rw [bne_eq_false_iff_eq]; omega
  have hq := hok
  rw [hq] at KA
  have c0 := (PB.out wb (Below.refl _ _)).1.1
  have c1 := (PB.out wb (Below.refl _ _)).1.2
  clear H0 H1 h0 h1 hq hok hsl
  generalize sh.length = ls at *
  generalize da.length = ld at *
  go_enter Try.func22, Try.ntmps22
  go_wp2_with fail
  rw [← hwb]
  refine KA.out.mono ?_
  rintro e w1 ⟨rfl, hb1⟩
  have X1 := hideP (PB.out w1 hb1)
  have B1 := hideP hb1
  have hs1 := hb1.size
  have KD := hideP (KC.out w1 X1.out.2.2)
  clear hb1 c0 c1 KA KC
  have c0 := X1.out.1.1
  have c1 := X1.out.1.2
  go_wp2_with fail
  refine KD.out.mono ?_
  rintro e w2 ⟨u0, u1, rfl, res2, hb2⟩
  have X2 := hideP (PB.out w2 (B1.out.trans (hb2.mono hs1)))
  have R2 := hideP res2
  have hs2 := hb2.size
  obtain ⟨x0, y0, x1, y1, e0, e1⟩ := res2.forms
  subst e0
  subst e1
  clear hb2 res2 c0 c1 KD
  have r0 := X2.out.2.1.1
  have r1 := X2.out.2.1.2.1
  have f2 := X2.out.2.1.2.2
  go_wp2_with fail
  refine bodyPost_ret (v := .tuple #[.agg #[.slice x0 S.length y0, .slice x1 D.length y1], .int .i64 0]) (by simp [results, Try.results22, go_sem, r0, r1]) rfl ⟨(X2.out.2.2.setCell (by simp) _).setCell (by simp) _, _, _, rfl, ?_, ?_, R2.out.2.2⟩
  · exact Own.base (Own.store (Own.store R2.out.1 (by omega) _) (by omega) _) (by omega)
  · exact Own.base (Own.store (Own.store R2.out.2.1 (by omega) _) (by omega) _) (by omega)

end Go.Proofs.Ytmobjomebmipdaa
