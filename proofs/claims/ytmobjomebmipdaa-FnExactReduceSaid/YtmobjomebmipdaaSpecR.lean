import Derived.Test.YtmobjomebmipdaaRed2
namespace Go.Proofs.Ytmobjomebmipdaa
open Go.RowKit
set_option linter.unusedVariables false

set_option maxRecDepth 100000 in
set_option maxHeartbeats 4000000 in
theorem specR_face (op : Int) (b0 b1 : Nat) (sh da : List Int) (w : World) (hl0 : sh.length ≤ 1048576) (hl1 : da.length ≤ 1048576)
    (h0 : Rd w.heap.size w (.slice (some ⟨b0, 0, none⟩) sh.length sh.length) sh) (h1 : Rd w.heap.size w (.slice (some ⟨b1, 0, none⟩) da.length da.length) da) (c : Int) (S D : List Int) (hres : Pl.redM op sh da = (c, S, D)) :
    Calls Try.prog 26 #[.int .i64 op, .agg #[.slice (some ⟨b0, 0, none⟩) sh.length sh.length, .slice (some ⟨b1, 0, none⟩) da.length da.length]] w (FPost w c S D) := by
  have B : Hid (∀ o o', Below w.heap.size w ((w.alloc o).alloc o')) := fun o o' => ((Below.refl _ _).alloc (Nat.le_refl _) _).alloc (by simp) _
  have H0 := hideP h0
  have H1 := hideP h1
  have KO := hideP (fun w => opOk_any op w)
  have KA : Hid (∀ w', Below w.heap.size w w' → Calls Try.prog 12 #[.agg #[.slice (some ⟨b0, 0, none⟩) sh.length sh.length, .slice (some ⟨b1, 0, none⟩) da.length da.length]] w' fun e w'' => e = .returned (.bool (Pl.okB sh da)) ∧ Below w'.heap.size w' w'') := fun w' h => specOk_any _ _ sh da w' hl0 hl1 ((H0.out.keep h).up h.size) ((H1.out.keep h).up h.size)
  have HR := hideP hres
  clear h0 h1 hres
  by_cases hop : 1 ≤ op ∧ op < 11
  · have KO' : Hid (∀ w, Calls Try.prog 49 #[.int .i64 op] w fun e w' => e = .returned (.bool true) ∧ w' = w) := fun w => by have := KO.out w; rw [decide_eq_true hop] at this; exact this
    go_enter Try.func26, Try.ntmps26
    by_cases ok : Pl.okB sh da = true
    · rw [ok] at KA
      have e := HR.out
      unfold Pl.redM at e
      rw [Pl.moM_yes ⟨hop.1, hop.2, ok⟩] at e
      have KL : Hid (∀ w', Below w.heap.size w w' → Calls Try.prog 71 #[.int .i64 op, .agg #[.slice (some ⟨b0, 0, none⟩) sh.length sh.length, .slice (some ⟨b1, 0, none⟩) da.length da.length]] w' (FPost w' c S D)) := fun w' h => by
        obtain ⟨k, rfl⟩ := Int.eq_ofNat_of_zero_le (show 0 ≤ op by omega)
        exact l2Reduce_any k (by omega) (by omega) b0 0 sh.length b1 0 da.length sh da w' ((H0.out.keep h).up h.size) ((H1.out.keep h).up h.size) (Nat.le_refl _) (by omega) (Nat.le_refl _) (by omega) ok c S D e
      clear e ok hop KO HR H0 H1
      generalize sh.length = L0 at *
      generalize da.length = L1 at *
      go_wp2_with (go_at_call 49; refine (KO'.out _).mono ?_; rintro e w' ⟨rfl, rfl⟩)
      refine (KA.out _ (B.out _ _)).mono ?_
      rintro e w1 ⟨rfl, hb1⟩
      have k1 : Below (w.heap.size + 1 + 1) _ w1 := hb1.mono (by simp)
      have X1 := hideP (boxes2 k1)
      have K1 := hideP k1
      have hs1 : w.heap.size + 1 + 1 ≤ w1.heap.size := by have := hb1.size; simpa using this
      clear hb1 k1
      have c0 := X1.out.1.1
      have c1 := X1.out.1.2
      go_wp2_with fail
      clear c0 c1
      refine (KL.out _ X1.out.2.2).mono ?_
      rintro e w2 ⟨hb2, u0, u1, rfl, hres⟩
      have k2 := K1.out.trans (hb2.mono hs1)
      have X2 := hideP (boxes2 k2)
      have R2 := hideP hres
      have hs2 := hb2.size
      obtain ⟨x0, y0, x1, y1, e0, e1⟩ := hres.forms
      subst e0
      subst e1
      clear hb2 hres k2 K1
      have r0 := X2.out.2.1.1
      have r1 := X2.out.2.1.2.1
      have f2 := X2.out.2.1.2.2
      go_wp2_with fail
      refine bodyPost_ret (v := .tuple #[.agg #[.slice x0 S.length y0, .slice x1 D.length y1], .int .i64 c]) (by simp [results, Try.results26, go_sem, r0, r1]) rfl ⟨(X2.out.2.2.setCell (by simp) _).setCell (by simp) _, _, _, rfl, ?_, ?_, R2.out.2.2⟩
      · exact Own.base (Own.store (Own.store R2.out.1 (by omega) _) (by omega) _) (by omega)
      · exact Own.base (Own.store (Own.store R2.out.2.1 (by omega) _) (by omega) _) (by omega)
    · have ok' : Pl.okB sh da = false := by simpa using ok
      rw [ok'] at KA
      have e := HR.out
      unfold Pl.redM at e
      rw [Pl.moM_no (by intro h; exact ok h.2.2)] at e
      simp only [Prod.mk.injEq] at e
      obtain ⟨rfl, rfl, rfl⟩ := e
      clear ok ok' hop
      go_wp2_with (go_at_call 49; refine (KO'.out _).mono ?_; rintro e w' ⟨rfl, rfl⟩)
      refine (KA.out _ (B.out _ _)).mono ?_
      rintro e w1 ⟨rfl, hb1⟩
      have X1 := hideP (boxes2 (show Below (w.heap.size + 1 + 1) _ w1 from hb1.mono (by simp)))
      have hs1 : w.heap.size + 1 + 1 ≤ w1.heap.size := by have := hb1.size; simpa using this
      clear hb1
      have r0 := X1.out.2.1.1
      have r1 := X1.out.2.1.2.1
      have f2 := X1.out.2.1.2.2
      go_wp2_with fail
      refine bodyPost_ret (v := .tuple #[.agg #[.slice none 0 0, .slice none 0 0], .int .i64 9]) (by simp [results, Try.results26, go_sem, r0, r1]) rfl ⟨(X1.out.2.2.setCell (by simp) _).setCell (by simp) _, _, _, rfl, Own.nil _ _, Own.nil _ _, .inl rfl⟩
  · have KO' : Hid (∀ w, Calls Try.prog 49 #[.int .i64 op] w fun e w' => e = .returned (.bool false) ∧ w' = w) := fun w => by have := KO.out w; rw [decide_eq_false hop] at this; exact this
    go_enter Try.func26, Try.ntmps26
    have e := HR.out
    unfold Pl.redM at e
    rw [Pl.moM_no (by intro h; exact hop ⟨h.1, h.2.1⟩)] at e
    simp only [Prod.mk.injEq] at e
    obtain ⟨rfl, rfl, rfl⟩ := e
    clear hop
    go_wp2_with (go_at_call 49; refine (KO'.out _).mono ?_; rintro e w' ⟨rfl, rfl⟩)
    refine bodyPost_ret (v := .tuple #[.agg #[.slice none 0 0, .slice none 0 0], .int .i64 9]) (by simp [results, Try.results26, go_sem]) rfl ⟨B.out _ _, _, _, rfl, Own.nil _ _, Own.nil _ _, .inl rfl⟩

end Go.Proofs.Ytmobjomebmipdaa
