import Derived.Test.YtmobjomebmipdaaMo1
import Derived.Test.YtmobjomebmipdaaFl6
namespace Go.Proofs.Ytmobjomebmipdaa
open Go.RowKit
set_option linter.unusedVariables false

set_option maxRecDepth 100000 in
set_option maxHeartbeats 4000000 in
theorem specM_1 (b0 b1 : Nat) (sh da : List Int) (w : World) (hl0 : sh.length ≤ 1048576) (hl1 : da.length ≤ 1048576) (h0 : Rd w.heap.size w (.slice (some ⟨b0, 0, none⟩) sh.length sh.length) sh) (h1 : Rd w.heap.size w (.slice (some ⟨b1, 0, none⟩) da.length da.length) da) (hok : Pl.okB sh da = true) (c : Int) (S D : List Int) (hres : Pl.iotaM sh da = (c, S, D)) :
    Calls Try.prog 22 #[.int .i64 1, .agg #[.slice (some ⟨b0, 0, none⟩) sh.length sh.length, .slice (some ⟨b1, 0, none⟩) da.length da.length]] w (FPost w c S D) := by
  have H0 := hideP h0
  have H1 := hideP h1
  obtain ⟨wb, hwb⟩ : ∃ wb, wb = (w.alloc (.cells #[.slice (some ⟨b0, 0, none⟩) sh.length sh.length, .slice (some ⟨b1, 0, none⟩) da.length da.length] 27)).alloc (.cells #[.slice none 0 0, .slice none 0 0] 27) := ⟨_, rfl⟩
  have WS : wb.heap.size = w.heap.size + 1 + 1 := by rw [hwb]; simp
  have PB : Hid (∀ W, Below wb.heap.size wb W → (W.cell? ⟨w.heap.size, 0, none⟩ = some (.slice (some ⟨b0, 0, none⟩) sh.length sh.length) ∧ W.cell? ⟨w.heap.size, 1, none⟩ = some (.slice (some ⟨b1, 0, none⟩) da.length da.length)) ∧ (W.cell? ⟨w.heap.size + 1, 0, none⟩ = some (.slice none 0 0) ∧ W.cell? ⟨w.heap.size + 1, 1, none⟩ = some (.slice none 0 0) ∧ ∀ o, W.frozen? ⟨w.heap.size + 1, o, none⟩ = false) ∧ Below w.heap.size w W) := fun W hb => by
    subst hwb
    exact boxes2 (hb.mono (by simp))
  have KA : Hid (Calls Try.prog 12 #[.agg #[.slice (some ⟨b0, 0, none⟩) sh.length sh.length, .slice (some ⟨b1, 0, none⟩) da.length da.length]] wb fun e w' => e = .returned (.bool (Pl.okB sh da)) ∧ Below wb.heap.size wb w') := by
    have k := (PB.out wb (Below.refl _ _)).2.2
    exact specOk_any _ _ sh da wb hl0 hl1 ((H0.out.keep k).up k.size) ((H1.out.keep k).up k.size)
  have KC : Hid (∀ W, Below w.heap.size w W → Calls Try.prog 54 #[.agg #[.slice (some ⟨b0, 0, none⟩) sh.length sh.length, .slice (some ⟨b1, 0, none⟩) da.length da.length]] W (FPost W c S D)) := fun W hb => l2Iota_any _ _ sh da W hok ((H0.out.keep hb).up hb.size) ((H1.out.keep hb).up hb.size) c S D hres
  rw [hok] at KA
  have c0 := (PB.out wb (Below.refl _ _)).1.1
  have c1 := (PB.out wb (Below.refl _ _)).1.2
  clear H0 H1 h0 h1 hok hres
  generalize sh.length = ls at *
  generalize da.length = ld at *
  go_enter Try.func22, Try.ntmps22
  go_wp2_with fail
  rw [← hwb]
  refine KA.out.mono ?_
  rintro e w1 ⟨rfl, hb1⟩
  have X1 := hideP (PB.out w1 hb1)
  have B1 := hideP hb1
  have hs1 := hb1.size
  have KD := hideP (KC.out w1 X1.out.2.2)
  clear hb1 c0 c1 KA KC
  have c0 := X1.out.1.1
  have c1 := X1.out.1.2
  go_wp2_with fail
  refine KD.out.mono ?_
  rintro e w2 ⟨hb2, u0, u1, rfl, res2⟩
  have X2 := hideP (PB.out w2 (B1.out.trans (hb2.mono hs1)))
  have R2 := hideP res2
  have hs2 := hb2.size
  obtain ⟨x0, y0, x1, y1, e0, e1⟩ := res2.forms
  subst e0
  subst e1
  clear hb2 res2 c0 c1 KD
  have r0 := X2.out.2.1.1
  have r1 := X2.out.2.1.2.1
  have f2 := X2.out.2.1.2.2
  go_wp2_with fail
  refine bodyPost_ret (v := .tuple #[.agg #[.slice x0 S.length y0, .slice x1 D.length y1], .int .i64 c]) (by simp [results, Try.results22, go_sem, r0, r1]) rfl ⟨(X2.out.2.2.setCell (by simp) _).setCell (by simp) _, _, _, rfl, ?_, ?_, R2.out.2.2⟩
  · exact Own.base (Own.store (Own.store R2.out.1 (by omega) _) (by omega) _) (by omega)
  · exact Own.base (Own.store (Own.store R2.out.2.1 (by omega) _) (by omega) _) (by omega)

set_option maxRecDepth 100000 in
set_option maxHeartbeats 4000000 in
theorem specM_6n (b0 b1 : Nat) (sh da : List Int) (w : World) (hl0 : sh.length ≤ 1048576) (hl1 : da.length ≤ 1048576) (h0 : Rd w.heap.size w (.slice (some ⟨b0, 0, none⟩) sh.length sh.length) sh) (h1 : Rd w.heap.size w (.slice (some ⟨b1, 0, none⟩) da.length da.length) da) (hok : Pl.okB sh da = true) (hsl : ¬ sh.length = 1) :
    Calls Try.prog 22 #[.int .i64 6, .agg #[.slice (some ⟨b0, 0, none⟩) sh.length sh.length, .slice (some ⟨b1, 0, none⟩) da.length da.length]] w (FPost w 2 [] []) := by
  have H0 := hideP h0
  have H1 := hideP h1
  obtain ⟨wb, hwb⟩ : ∃ wb, wb = (w.alloc (.cells #[.slice (some ⟨b0, 0, none⟩) sh.length sh.length, .slice (some ⟨b1, 0, none⟩) da.length da.length] 27)).alloc (.cells #[.slice none 0 0, .slice none 0 0] 27) := ⟨_, rfl⟩
  have WS : wb.heap.size = w.heap.size + 1 + 1 := by rw [hwb]; simp
  have PB : Hid (∀ W, Below wb.heap.size wb W → (W.cell? ⟨w.heap.size, 0, none⟩ = some (.slice (some ⟨b0, 0, none⟩) sh.length sh.length) ∧ W.cell? ⟨w.heap.size, 1, none⟩ = some (.slice (some ⟨b1, 0, none⟩) da.length da.length)) ∧ (W.cell? ⟨w.heap.size + 1, 0, none⟩ = some (.slice none 0 0) ∧ W.cell? ⟨w.heap.size + 1, 1, none⟩ = some (.slice none 0 0) ∧ ∀ o, W.frozen? ⟨w.heap.size + 1, o, none⟩ = false) ∧ Below w.heap.size w W) := fun W hb => by
    subst hwb
    exact boxes2 (hb.mono (by simp))
  have KA : Hid (Calls Try.prog 12 #[.agg #[.slice (some ⟨b0, 0, none⟩) sh.length sh.length, .slice (some ⟨b1, 0, none⟩) da.length da.length]] wb fun e w' => e = .returned (.bool (Pl.okB sh da)) ∧ Below wb.heap.size wb w') := by
    have k := (PB.out wb (Below.refl _ _)).2.2
    exact specOk_any _ _ sh da wb hl0 hl1 ((H0.out.keep k).up k.size) ((H1.out.keep k).up k.size)
  have hne : ((sh.length : Int) != 1) = true := by rw [bne_iff_ne]; omega
  rw [hok] at KA
  have c0 := (PB.out wb (Below.refl _ _)).1.1
  have c1 := (PB.out wb (Below.refl _ _)).1.2
  clear H0 H1 h0 h1 hok hsl
  generalize sh.length = ls at *
  generalize da.length = ld at *
  go_enter Try.func22, Try.ntmps22
  go_wp2_with fail
  rw [← hwb]
  refine KA.out.mono ?_
  rintro e w1 ⟨rfl, hb1⟩
  have X1 := hideP (PB.out w1 hb1)
  have B1 := hideP hb1
  have hs1 := hb1.size
  clear hb1 c0 c1 KA
  have c0 := X1.out.1.1
  have r0 := X1.out.2.1.1
  have r1 := X1.out.2.1.2.1
  have f2 := X1.out.2.1.2.2
  go_wp2_with fail
  refine bodyPost_ret (v := .tuple #[.agg #[.slice none 0 0, .slice none 0 0], .int .i64 2]) (by simp [results, Try.results22, go_sem, r0, r1]) rfl ⟨(X1.out.2.2.setCell (by simp) _).setCell (by simp) _, _, _, rfl, Own.nil _ _, Own.nil _ _, .inl rfl⟩

set_option maxRecDepth 100000 in
set_option maxHeartbeats 4000000 in
theorem specM_7 (b0 b1 : Nat) (sh da : List Int) (w : World) (hl0 : sh.length ≤ 1048576) (hl1 : da.length ≤ 1048576) (h0 : Rd w.heap.size w (.slice (some ⟨b0, 0, none⟩) sh.length sh.length) sh) (h1 : Rd w.heap.size w (.slice (some ⟨b1, 0, none⟩) da.length da.length) da) (hok : Pl.okB sh da = true) :
    Calls Try.prog 22 #[.int .i64 7, .agg #[.slice (some ⟨b0, 0, none⟩) sh.length sh.length, .slice (some ⟨b1, 0, none⟩) da.length da.length]] w (FPost w 0 [] [if sh.length = 0 then 1 else sh.getD 0 0]) := by
  have H0 := hideP h0
  have H1 := hideP h1
  obtain ⟨wb, hwb⟩ : ∃ wb, wb = (w.alloc (.cells #[.slice (some ⟨b0, 0, none⟩) sh.length sh.length, .slice (some ⟨b1, 0, none⟩) da.length da.length] 27)).alloc (.cells #[.slice none 0 0, .slice none 0 0] 27) := ⟨_, rfl⟩
  have WS : wb.heap.size = w.heap.size + 1 + 1 := by rw [hwb]; simp
  have PB : Hid (∀ W, Below wb.heap.size wb W → (W.cell? ⟨w.heap.size, 0, none⟩ = some (.slice (some ⟨b0, 0, none⟩) sh.length sh.length) ∧ W.cell? ⟨w.heap.size, 1, none⟩ = some (.slice (some ⟨b1, 0, none⟩) da.length da.length)) ∧ (W.cell? ⟨w.heap.size + 1, 0, none⟩ = some (.slice none 0 0) ∧ W.cell? ⟨w.heap.size + 1, 1, none⟩ = some (.slice none 0 0) ∧ ∀ o, W.frozen? ⟨w.heap.size + 1, o, none⟩ = false) ∧ Below w.heap.size w W) := fun W hb => by
    subst hwb
    exact boxes2 (hb.mono (by simp))
  have KA : Hid (Calls Try.prog 12 #[.agg #[.slice (some ⟨b0, 0, none⟩) sh.length sh.length, .slice (some ⟨b1, 0, none⟩) da.length da.length]] wb fun e w' => e = .returned (.bool (Pl.okB sh da)) ∧ Below wb.heap.size wb w') := by
    have k := (PB.out wb (Below.refl _ _)).2.2
    exact specOk_any _ _ sh da wb hl0 hl1 ((H0.out.keep k).up k.size) ((H1.out.keep k).up k.size)
  have KC : Hid (∀ W, Below w.heap.size w W → Calls Try.prog 58 #[.agg #[.slice (some ⟨b0, 0, none⟩) sh.length sh.length, .slice (some ⟨b1, 0, none⟩) da.length da.length]] W fun e w' => e = .returned (.int .i64 (if sh.length = 0 then 1 else sh.getD 0 0)) ∧ Below W.heap.size W w') := fun W hb => l2Count_any _ _ sh W.heap.size W ((H0.out.keep hb).up hb.size) (Nat.le_refl _) ⟨_, _, _, rfl⟩
  obtain ⟨x, hx⟩ : ∃ x, (if sh.length = 0 then 1 else sh.getD 0 0) = x := ⟨_, rfl⟩
  rw [hx] at KC ⊢
  clear hx
  rw [hok] at KA
  have c0 := (PB.out wb (Below.refl _ _)).1.1
  have c1 := (PB.out wb (Below.refl _ _)).1.2
  clear H0 H1 h0 h1 hok
  generalize sh.length = ls at *
  generalize da.length = ld at *
  go_enter Try.func22, Try.ntmps22
  go_wp2_with fail
  rw [← hwb]
  refine KA.out.mono ?_
  rintro e w1 ⟨rfl, hb1⟩
  have X1 := hideP (PB.out w1 hb1)
  have B1 := hideP hb1
  have hs1 := hb1.size
  have AL : Hid (Below w1.heap.size w1 (w1.alloc (.cells #[] 3))) := (Below.refl _ _).alloc (Nat.le_refl _) _
  have KD := hideP (KC.out (w1.alloc (.cells #[] 3)) (X1.out.2.2.alloc X1.out.2.2.size _))
  have XA := hideP (PB.out (w1.alloc (.cells #[] 3)) (hb1.trans (AL.out.mono hs1)))
  clear hb1 c0 c1 KA KC
  have c0 := X1.out.1.1
  have c1 := X1.out.1.2
  have d0 := XA.out.1.1
  have d1 := XA.out.1.2
  go_wp2_with fail
  refine KD.out.mono ?_
  rintro e w2 ⟨rfl, hb2⟩
  have BA : Hid (Below w1.heap.size w1 w2) := AL.out.trans (hb2.mono (by simp))
  have A2 : Hid (Below w2.heap.size w2 (w2.alloc (.cells #[.int .i64 x] 3))) := (Below.refl _ _).alloc (Nat.le_refl _) _
  have X3 := hideP (PB.out _ ((B1.out.trans (BA.out.mono hs1)).trans (A2.out.mono (Nat.le_trans hs1 BA.out.size))))
  have O3 : Hid (Own w2.heap.size (w2.alloc (.cells #[.int .i64 x] 3)) (.slice (some ⟨w2.heap.size, 0, none⟩) 1 1) [x]) := own_lit w2 _ x (Below.refl _ _)
  have hs2 := BA.out.size
  clear hb2 c0 c1 d0 d1 KD AL
  have r0 := X3.out.2.1.1
  have r1 := X3.out.2.1.2.1
  have f2 := X3.out.2.1.2.2
  go_wp2_with fail
  refine bodyPost_ret (v := .tuple #[.agg #[.slice (some ⟨w1.heap.size, 0, none⟩) 0 0, .slice (some ⟨w2.heap.size, 0, none⟩) 1 1], .int .i64 0]) (by simp [results, Try.results22, go_sem, r0, r1]) rfl ⟨(X3.out.2.2.setCell (by simp) _).setCell (by simp) _, _, _, rfl, ⟨_, _, rfl, .inl rfl⟩, ?_, .inl rfl⟩
  exact Own.base (Own.store (Own.store O3.out (by omega) _) (by omega) _) (by omega)

/-- spec.Monad -/
theorem specM_face (op : Int) (b0 b1 : Nat) (sh da : List Int) (w : World) (hl0 : sh.length ≤ 1048576) (hl1 : da.length ≤ 1048576) (h0 : Rd w.heap.size w (.slice (some ⟨b0, 0, none⟩) sh.length sh.length) sh) (h1 : Rd w.heap.size w (.slice (some ⟨b1, 0, none⟩) da.length da.length) da) (c : Int) (S D : List Int) (hres : Pl.mo8 (Pl.monM op) op sh da = (c, S, D)) :
    Calls Try.prog 22 #[.int .i64 op, .agg #[.slice (some ⟨b0, 0, none⟩) sh.length sh.length, .slice (some ⟨b1, 0, none⟩) da.length da.length]] w (FPost w c S D) := by
  by_cases h : 1 ≤ op ∧ op < 8 ∧ Pl.okB sh da = true
  · have e := hres
    rw [Pl.mo8_yes h] at e
    obtain ⟨k0, k1, hok⟩ := h
    have hk : op = 1 ∨ op = 2 ∨ op = 3 ∨ op = 4 ∨ op = 5 ∨ op = 6 ∨ op = 7 := by omega
    rcases hk with rfl | rfl | rfl | rfl | rfl | rfl | rfl
    · exact specM_1 b0 b1 sh da w hl0 hl1 h0 h1 hok c S D e
    · have e' : ((0 : Int), [(sh.length : Int)], sh) = (c, S, D) := e
      simp only [Prod.mk.injEq] at e'
      obtain ⟨rfl, hS, hD⟩ := e'
      exact specM_2 b0 b1 sh da w hl0 hl1 h0 h1 hok S D hS hD
    · have e' : ((0 : Int), [(da.length : Int)], da) = (c, S, D) := e
      simp only [Prod.mk.injEq] at e'
      obtain ⟨rfl, hS, hD⟩ := e'
      exact specM_3 b0 b1 sh da w hl0 hl1 h0 h1 hok S D hS hD
    · have e' : Pl.revM sh da = (c, S, D) := e
      have c0 : c = 0 := by
        unfold Pl.revM at e'
        split at e' <;> (simp only [Prod.mk.injEq] at e'; exact e'.1.symm)
      subst c0
      exact specM_4 b0 b1 sh da w hl0 hl1 h0 h1 hok S D e'
    · have e' : Pl.flipM sh da = (c, S, D) := e
      have c0 : c = 0 := by
        unfold Pl.flipM at e'
        simp only [Prod.mk.injEq] at e'
        exact e'.1.symm
      subst c0
      exact specM_5 b0 b1 sh da w hl0 hl1 h0 h1 hok S D e'
    · have e' : Pl.gradeM sh da = (c, S, D) := e
      unfold Pl.gradeM at e'
      by_cases hsl : sh.length = 1
      · rw [if_pos hsl] at e'
        simp only [Prod.mk.injEq] at e'
        obtain ⟨rfl, hS, hD⟩ := e'
        exact specM_6 b0 b1 sh da w hl0 hl1 h0 h1 hok hsl S D hS hD
      · rw [if_neg hsl] at e'
        simp only [Prod.mk.injEq] at e'
        obtain ⟨rfl, rfl, rfl⟩ := e'
        exact specM_6n b0 b1 sh da w hl0 hl1 h0 h1 hok hsl
    · have e' : Pl.countM sh da = (c, S, D) := e
      unfold Pl.countM at e'
      simp only [Prod.mk.injEq] at e'
      obtain ⟨rfl, rfl, hD⟩ := e'
      have hx : (Pl.axesS sh da).getD 0 0 = if sh.length = 0 then 1 else sh.getD 0 0 := by
        unfold Pl.axesS
        by_cases hz : sh.length = 0
        · rw [if_pos hz, if_pos hz]
          have := Pl.ok_one hok hz
          simp [this]
        · rw [if_neg hz, if_neg hz]
      rw [← hD, hx]
      exact specM_7 b0 b1 sh da w hl0 hl1 h0 h1 hok
  · have e := hres
    rw [Pl.mo8_no h] at e
    simp only [Prod.mk.injEq] at e
    obtain ⟨rfl, rfl, rfl⟩ := e
    exact specM_bad op b0 b1 sh da w hl0 hl1 h0 h1 h

set_option maxRecDepth 100000 in
set_option maxHeartbeats 1000000 in
/-- impl.Monad -/
theorem monad_face (op : Int) (b0 b1 : Nat) (sh da : List Int) (w : World) (hl0 : sh.length ≤ 1048576) (hl1 : da.length ≤ 1048576) (h0 : Rd w.heap.size w (.slice (some ⟨b0, 0, none⟩) sh.length sh.length) sh) (h1 : Rd w.heap.size w (.slice (some ⟨b1, 0, none⟩) da.length da.length) da) (c : Int) (S D : List Int) (hres : Pl.mo8 (Pl.monM op) op sh da = (c, S, D)) :
    Calls Try.prog 23 #[.int .i64 op, .agg #[.slice (some ⟨b0, 0, none⟩) sh.length sh.length, .slice (some ⟨b1, 0, none⟩) da.length da.length]] w (FPost w c S D) := by
  have hmf : ∀ (fn : Fn) (first cap : Array Value) (w : World), (Instr.makeFunc fn first cap).run Try.prog w = .ok (.func fn first cap) w := fun _ _ _ _ => rfl
  have K : Hid (∀ pa po w', Below w.heap.size w w' → w'.cell? ⟨pa, 0, none⟩ = some (.slice (some ⟨b0, 0, none⟩) sh.length sh.length) → w'.cell? ⟨pa, 1, none⟩ = some (.slice (some ⟨b1, 0, none⟩) da.length da.length) → w'.cell? ⟨po, 0, none⟩ = some (.int .i64 op) → Calls Try.prog 60 #[.pointer (some ⟨pa, 0, none⟩), .pointer (some ⟨po, 0, none⟩)] w' (KPost w' c S D)) :=
    fun pa po w' hb g0 g1 g4 => mc_all pa po op _ _ sh da w' hl0 hl1 ((h0.keep hb).up hb.size) ((h1.keep hb).up hb.size) g0 g1 g4 _ c S D hres
      (fun k hk k0 k1 ok e w'' hb' => by
        have hb2 := hb.trans (hb'.mono hb.size)
        have q0 := (h0.keep hb2).up hb2.size
        have q1 := (h1.keep hb2).up hb2.size
        have hk' : k = 1 ∨ k = 2 ∨ k = 3 ∨ k = 4 ∨ k = 5 ∨ k = 6 ∨ k = 7 := by omega
        rcases hk' with rfl | rfl | rfl | rfl | rfl | rfl | rfl
        all_goals
          subst hk
        · exact countUp_any _ _ sh da w'' ok q0 q1 c S D e
        · have e' : ((0 : Int), [(sh.length : Int)], sh) = (c, S, D) := e
          simp only [Prod.mk.injEq] at e'
          obtain ⟨rfl, rfl, rfl⟩ := e'
          exact shapeOf_any _ _ sh da w'' hl0 hl1 q0 q1
        · have e' : ((0 : Int), [(da.length : Int)], da) = (c, S, D) := e
          simp only [Prod.mk.injEq] at e'
          obtain ⟨rfl, rfl, rfl⟩ := e'
          exact ravel_any _ _ sh da w'' hl0 hl1 q0 q1
        · exact rev_any b0 0 sh.length b1 0 da.length sh da w'' q0 q1 (Nat.le_refl _) (by omega) (Nat.le_refl _) (by omega) ok c S D e
        · exact flip_any b0 0 sh.length b1 0 da.length sh da w'' q0 q1 (Nat.le_refl _) (by omega) ok c S D e
        · exact grade_any _ _ sh da w'' ok q0 q1 c S D e
        · have e' : ((0 : Int), ([] : List Int), [(Pl.axesS sh da).getD 0 0]) = (c, S, D) := e
          simp only [Prod.mk.injEq] at e'
          obtain ⟨rfl, rfl, rfl⟩ := e'
          exact count_any _ _ sh da w'' q0 q1)
  clear h0 h1 hres
  generalize sh.length = L0 at *
  generalize da.length = L1 at *
  go_enter Try.func23, Try.ntmps23
  go_wp2_with fail
  refine (answer_any 60 _ c S D _ (callF60 _) ?_).mono ?_
  · refine K.out (w.heap.size + 1) w.heap.size _ ?_ ?_ ?_ ?_
    · exact (((((Below.refl _ _).alloc (Nat.le_refl _) _).alloc (by simp) _).alloc (by simp; omega) _).alloc (by simp; omega) _).alloc (by simp; omega) _
    · simp [go_sem]
    · simp [go_sem]
    · simp [go_sem]
  rintro e w1 ⟨hb1, u0, u1, rfl, hres⟩
  have B0 : Hid (Below w.heap.size w w1) := ((((Below.refl _ _).alloc (Nat.le_refl _) _).alloc (by simp) _).alloc (by simp; omega) _).trans (hb1.mono (by simp; omega))
  have hs := hb1.size
  simp at hs
  obtain ⟨hc, hf⟩ := bcell hb1
  have r0 : w1.cell? ⟨w.heap.size + 1 + 1, 0, none⟩ = some (.slice none 0 0) := by rw [hc (w.heap.size + 1 + 1) 0 (by simp)]; simp [go_sem]
  have r1 : w1.cell? ⟨w.heap.size + 1 + 1, 1, none⟩ = some (.slice none 0 0) := by rw [hc (w.heap.size + 1 + 1) 1 (by simp)]; simp [go_sem]
  have f3 : ∀ o, w1.frozen? ⟨w.heap.size + 1 + 1, o, none⟩ = false := fun o => by rw [hf (w.heap.size + 1 + 1) o (by simp)]; simp [go_sem]
  have R : Hid (Res (w.heap.size + 1 + 1 + 1) w1 u0 u1 S D) := by
    have := hres
    show Res _ _ _ _ _ _
    simpa using this
  obtain ⟨x0, y0, e0⟩ := hres.1.form
  obtain ⟨x1, y1, e1⟩ := hres.2.1.form
  subst e0
  subst e1
  clear hc hf hb1 hres K
  go_wp2_with fail
  refine bodyPost_ret (v := .tuple #[.agg #[.slice x0 S.length y0, .slice x1 D.length y1], .int .i64 c]) (by simp [results, Try.results23, go_sem, r0, r1]) rfl ⟨(B0.out.setCell (by simp; omega) _).setCell (by simp; omega) _, _, _, rfl, ?_, ?_, R.out.2.2⟩
  · exact Own.base (Own.store (Own.store R.out.1 (by omega) _) (by omega) _) (by omega)
  · exact Own.base (Own.store (Own.store R.out.2.1 (by omega) _) (by omega) _) (by omega)

end Go.Proofs.Ytmobjomebmipdaa
