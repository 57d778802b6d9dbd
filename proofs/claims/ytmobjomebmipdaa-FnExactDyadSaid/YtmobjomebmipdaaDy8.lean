import Derived.Test.YtmobjomebmipdaaDy7
import Derived.Test.YtmobjomebmipdaaDy6
namespace Go.Proofs.Ytmobjomebmipdaa
open Go.RowKit
set_option linter.unusedVariables false

set_option maxRecDepth 100000 in
set_option maxHeartbeats 4000000 in
/-- spec.Dyad: another number, or arrays that are not valid -/
theorem specD_bad (op : Int) (b0 b1 b2 b3 : Nat) (sa da sb db : List Int) (w : World) (hl0 : sa.length ≤ 1048576) (hl1 : da.length ≤ 1048576) (hl2 : sb.length ≤ 1048576) (hl3 : db.length ≤ 1048576) (h0 : Rd w.heap.size w (.slice (some ⟨b0, 0, none⟩) sa.length sa.length) sa) (h1 : Rd w.heap.size w (.slice (some ⟨b1, 0, none⟩) da.length da.length) da) (h2 : Rd w.heap.size w (.slice (some ⟨b2, 0, none⟩) sb.length sb.length) sb) (h3 : Rd w.heap.size w (.slice (some ⟨b3, 0, none⟩) db.length db.length) db) (hbad : ¬ (1 ≤ op ∧ op < 8 ∧ Pl.okB sa da = true ∧ Pl.okB sb db = true)) :
    Calls Try.prog 24 #[.int .i64 op, .agg #[.slice (some ⟨b0, 0, none⟩) sa.length sa.length, .slice (some ⟨b1, 0, none⟩) da.length da.length], .agg #[.slice (some ⟨b2, 0, none⟩) sb.length sb.length, .slice (some ⟨b3, 0, none⟩) db.length db.length]] w (FPost w 9 [] []) := by
  have B : Hid (∀ o o' o'', Below w.heap.size w (((w.alloc o).alloc o').alloc o'')) := fun o o' o'' => below3 w o o' o''
  have H0 := hideP h0
  have H1 := hideP h1
  have H2 := hideP h2
  have H3 := hideP h3
  have KA : Hid (∀ w', Below w.heap.size w w' → Calls Try.prog 12 #[.agg #[.slice (some ⟨b0, 0, none⟩) sa.length sa.length, .slice (some ⟨b1, 0, none⟩) da.length da.length]] w' fun e w'' => e = .returned (.bool (Pl.okB sa da)) ∧ Below w'.heap.size w' w'') := fun w' h => specOk_any _ _ sa da w' hl0 hl1 ((H0.out.keep h).up h.size) ((H1.out.keep h).up h.size)
  have KB : Hid (∀ w', Below w.heap.size w w' → Calls Try.prog 12 #[.agg #[.slice (some ⟨b2, 0, none⟩) sb.length sb.length, .slice (some ⟨b3, 0, none⟩) db.length db.length]] w' fun e w'' => e = .returned (.bool (Pl.okB sb db)) ∧ Below w'.heap.size w' w'') := fun w' h => specOk_any _ _ sb db w' hl2 hl3 ((H2.out.keep h).up h.size) ((H3.out.keep h).up h.size)
  have W0 := hideP (wid_new w h0 h1 h2 h3 27 27 27)
  clear h0 h1 h2 h3
  by_cases h1' : op < 1
  · clear hbad H0 H1 H2 H3 KA KB
    generalize sa.length = lsa at *
    generalize da.length = lda at *
    generalize sb.length = lsb at *
    generalize db.length = ldb at *
    go_enter Try.func24, Try.ntmps24
    go_wp2_with fail
    refine bodyPost_ret (v := .tuple #[.agg #[.slice none 0 0, .slice none 0 0], .int .i64 9]) (by simp [results, Try.results24, go_sem]) rfl ⟨B.out _ _ _, _, _, rfl, Own.nil _ _, Own.nil _ _, .inl rfl⟩
  · have g1 : decide (op < 1) = false := by rw [decide_eq_false_iff_not]; exact h1'
    by_cases h7 : 7 < op
    · clear hbad H0 H1 H2 H3 KA KB h1'
      generalize sa.length = lsa at *
      generalize da.length = lda at *
      generalize sb.length = lsb at *
      generalize db.length = ldb at *
      go_enter Try.func24, Try.ntmps24
      go_wp2_with fail
      refine bodyPost_ret (v := .tuple #[.agg #[.slice none 0 0, .slice none 0 0], .int .i64 9]) (by simp [results, Try.results24, go_sem]) rfl ⟨B.out _ _ _, _, _, rfl, Own.nil _ _, Own.nil _ _, .inl rfl⟩
    · have g7 : decide (7 < op) = false := by rw [decide_eq_false_iff_not]; exact h7
      by_cases oka : Pl.okB sa da = true
      · rw [oka] at KA
        have okb : Pl.okB sb db = false := by
          cases e : Pl.okB sb db
          · rfl
          · exact absurd ⟨by omega, by omega, oka, e⟩ hbad
        rw [okb] at KB
        clear hbad H0 H1 H2 H3 h1' h7 oka okb
        generalize sa.length = lsa at *
        generalize da.length = lda at *
        generalize sb.length = lsb at *
        generalize db.length = ldb at *
        go_enter Try.func24, Try.ntmps24
        go_wp2_with fail
        refine (KA.out _ (B.out _ _ _)).mono ?_
        rintro e w1 ⟨rfl, hb1⟩
        have W1 := hideP (W0.out.keep hb1)
        clear hb1
        have c2 := W1.out.2.2.1.2.2.1
        have c3 := W1.out.2.2.1.2.2.2
        go_wp2_with fail
        clear c2 c3
        refine (KB.out _ W1.out.1).mono ?_
        rintro e w2 ⟨rfl, hb2⟩
        have W2 := hideP (W1.out.keep hb2)
        clear hb2
        have hsq := W2.out.2.1
        have r0 := W2.out.2.2.2.1.1
        have r1 := W2.out.2.2.2.1.2.1
        have f2 := W2.out.2.2.2.1.2.2
        go_wp2_with fail
        refine bodyPost_ret (v := .tuple #[.agg #[.slice none 0 0, .slice none 0 0], .int .i64 9]) (by simp [results, Try.results24, go_sem, r0, r1]) rfl ⟨(W2.out.1.setCell (by simp; omega) _).setCell (by simp; omega) _, _, _, rfl, Own.nil _ _, Own.nil _ _, .inl rfl⟩
      · have oka' : Pl.okB sa da = false := by simpa using oka
        rw [oka'] at KA
        clear hbad H0 H1 H2 H3 h1' h7 oka oka' KB
        generalize sa.length = lsa at *
        generalize da.length = lda at *
        generalize sb.length = lsb at *
        generalize db.length = ldb at *
        go_enter Try.func24, Try.ntmps24
        go_wp2_with fail
        refine (KA.out _ (B.out _ _ _)).mono ?_
        rintro e w1 ⟨rfl, hb1⟩
        have W1 := hideP (W0.out.keep hb1)
        clear hb1
        have hsq := W1.out.2.1
        have r0 := W1.out.2.2.2.1.1
        have r1 := W1.out.2.2.2.1.2.1
        have f2 := W1.out.2.2.2.1.2.2
        go_wp2_with fail
        refine bodyPost_ret (v := .tuple #[.agg #[.slice none 0 0, .slice none 0 0], .int .i64 9]) (by simp [results, Try.results24, go_sem, r0, r1]) rfl ⟨(W1.out.1.setCell (by simp; omega) _).setCell (by simp; omega) _, _, _, rfl, Own.nil _ _, Own.nil _ _, .inl rfl⟩

set_option maxRecDepth 100000 in
set_option maxHeartbeats 4000000 in
/-- spec.Dyad with the number 1 -/
theorem specD_1 (b0 b1 b2 b3 : Nat) (sa da sb db : List Int) (w : World) (hl0 : sa.length ≤ 1048576) (hl1 : da.length ≤ 1048576) (hl2 : sb.length ≤ 1048576) (hl3 : db.length ≤ 1048576) (h0 : Rd w.heap.size w (.slice (some ⟨b0, 0, none⟩) sa.length sa.length) sa) (h1 : Rd w.heap.size w (.slice (some ⟨b1, 0, none⟩) da.length da.length) da) (h2 : Rd w.heap.size w (.slice (some ⟨b2, 0, none⟩) sb.length sb.length) sb) (h3 : Rd w.heap.size w (.slice (some ⟨b3, 0, none⟩) db.length db.length) db) (oka : Pl.okB sa da = true) (okb : Pl.okB sb db = true) (c : Int) (S D : List Int)
    (hk : ∀ w', Rd w'.heap.size w' (.slice (some ⟨b0, 0, none⟩) sa.length sa.length) sa → Rd w'.heap.size w' (.slice (some ⟨b1, 0, none⟩) da.length da.length) da → Rd w'.heap.size w' (.slice (some ⟨b2, 0, none⟩) sb.length sb.length) sb → Rd w'.heap.size w' (.slice (some ⟨b3, 0, none⟩) db.length db.length) db → Calls Try.prog 62 #[.agg #[.slice (some ⟨b0, 0, none⟩) sa.length sa.length, .slice (some ⟨b1, 0, none⟩) da.length da.length], .agg #[.slice (some ⟨b2, 0, none⟩) sb.length sb.length, .slice (some ⟨b3, 0, none⟩) db.length db.length]] w' (FPost w' c S D)) :
    Calls Try.prog 24 #[.int .i64 1, .agg #[.slice (some ⟨b0, 0, none⟩) sa.length sa.length, .slice (some ⟨b1, 0, none⟩) da.length da.length], .agg #[.slice (some ⟨b2, 0, none⟩) sb.length sb.length, .slice (some ⟨b3, 0, none⟩) db.length db.length]] w (FPost w c S D) := by
  have B : Hid (∀ o o' o'', Below w.heap.size w (((w.alloc o).alloc o').alloc o'')) := fun o o' o'' => below3 w o o' o''
  have H0 := hideP h0
  have H1 := hideP h1
  have H2 := hideP h2
  have H3 := hideP h3
  have KA : Hid (∀ w', Below w.heap.size w w' → Calls Try.prog 12 #[.agg #[.slice (some ⟨b0, 0, none⟩) sa.length sa.length, .slice (some ⟨b1, 0, none⟩) da.length da.length]] w' fun e w'' => e = .returned (.bool (Pl.okB sa da)) ∧ Below w'.heap.size w' w'') := fun w' h => specOk_any _ _ sa da w' hl0 hl1 ((H0.out.keep h).up h.size) ((H1.out.keep h).up h.size)
  have KB : Hid (∀ w', Below w.heap.size w w' → Calls Try.prog 12 #[.agg #[.slice (some ⟨b2, 0, none⟩) sb.length sb.length, .slice (some ⟨b3, 0, none⟩) db.length db.length]] w' fun e w'' => e = .returned (.bool (Pl.okB sb db)) ∧ Below w'.heap.size w' w'') := fun w' h => specOk_any _ _ sb db w' hl2 hl3 ((H2.out.keep h).up h.size) ((H3.out.keep h).up h.size)
  have W0 := hideP (wid_new w h0 h1 h2 h3 27 27 27)
  have HK := hideP hk
  rw [oka] at KA
  rw [okb] at KB
  clear h0 h1 h2 h3 hk oka okb
  generalize sa.length = lsa at *
  generalize da.length = lda at *
  generalize sb.length = lsb at *
  generalize db.length = ldb at *
  go_enter Try.func24, Try.ntmps24
  go_wp2_with fail
  refine (KA.out _ (B.out _ _ _)).mono ?_
  rintro e w1 ⟨rfl, hb1⟩
  have W1 := hideP (W0.out.keep hb1)
  clear hb1
  have c2 := W1.out.2.2.1.2.2.1
  have c3 := W1.out.2.2.1.2.2.2
  go_wp2_with fail
  clear c2 c3
  refine (KB.out _ W1.out.1).mono ?_
  rintro e w2 ⟨rfl, hb2⟩
  have W2 := hideP (W1.out.keep hb2)
  clear hb2
  have c0 := W2.out.2.2.1.1
  have c1 := W2.out.2.2.1.2.1
  have c2 := W2.out.2.2.1.2.2.1
  have c3 := W2.out.2.2.1.2.2.2
  have KW := W2.out.1
  have HC := hideP (HK.out w2 ((H0.out.keep KW).up KW.size) ((H1.out.keep KW).up KW.size) ((H2.out.keep KW).up KW.size) ((H3.out.keep KW).up KW.size))
  have BW := hideP KW
  clear KW
  go_wp2_with fail
  refine HC.out.mono ?_
  rintro e w3 ⟨hb3, u0, u1, rfl, res⟩
  have W3 := hideP (W2.out.keep hb3)
  have hs2 := W2.out.2.1
  have hs3 := W3.out.2.1
  have R3 := hideP res
  obtain ⟨x0, y0, e0⟩ := res.1.form
  obtain ⟨x1, y1, e1⟩ := res.2.1.form
  subst e0
  subst e1
  clear res hb3 c0 c1 c2 c3
  have r0 := W3.out.2.2.2.1.1
  have r1 := W3.out.2.2.2.1.2.1
  have f2 := W3.out.2.2.2.1.2.2
  go_wp2_with fail
  refine bodyPost_ret (v := .tuple #[.agg #[.slice x0 S.length y0, .slice x1 D.length y1], .int .i64 c]) (by simp [results, Try.results24, go_sem, r0, r1]) rfl ⟨(W3.out.1.setCell (by simp; omega) _).setCell (by simp; omega) _, _, _, rfl, ?_, ?_, R3.out.2.2⟩
  · exact Own.base (Own.store (Own.store R3.out.1 (by omega) _) (by omega) _) (by omega)
  · exact Own.base (Own.store (Own.store R3.out.2.1 (by omega) _) (by omega) _) (by omega)

set_option maxRecDepth 100000 in
set_option maxHeartbeats 4000000 in
/-- spec.Dyad with the number 2 -/
theorem specD_2 (b0 b1 b2 b3 : Nat) (sa da sb db : List Int) (w : World) (hl0 : sa.length ≤ 1048576) (hl1 : da.length ≤ 1048576) (hl2 : sb.length ≤ 1048576) (hl3 : db.length ≤ 1048576) (h0 : Rd w.heap.size w (.slice (some ⟨b0, 0, none⟩) sa.length sa.length) sa) (h1 : Rd w.heap.size w (.slice (some ⟨b1, 0, none⟩) da.length da.length) da) (h2 : Rd w.heap.size w (.slice (some ⟨b2, 0, none⟩) sb.length sb.length) sb) (h3 : Rd w.heap.size w (.slice (some ⟨b3, 0, none⟩) db.length db.length) db) (oka : Pl.okB sa da = true) (okb : Pl.okB sb db = true) (c : Int) (S D : List Int)
    (hk : ∀ w', Rd w'.heap.size w' (.slice (some ⟨b0, 0, none⟩) sa.length sa.length) sa → Rd w'.heap.size w' (.slice (some ⟨b1, 0, none⟩) da.length da.length) da → Rd w'.heap.size w' (.slice (some ⟨b2, 0, none⟩) sb.length sb.length) sb → Rd w'.heap.size w' (.slice (some ⟨b3, 0, none⟩) db.length db.length) db → Calls Try.prog 63 #[.int .i64 2, .agg #[.slice (some ⟨b0, 0, none⟩) sa.length sa.length, .slice (some ⟨b1, 0, none⟩) da.length da.length], .agg #[.slice (some ⟨b2, 0, none⟩) sb.length sb.length, .slice (some ⟨b3, 0, none⟩) db.length db.length]] w' (FPost w' c S D)) :
    Calls Try.prog 24 #[.int .i64 2, .agg #[.slice (some ⟨b0, 0, none⟩) sa.length sa.length, .slice (some ⟨b1, 0, none⟩) da.length da.length], .agg #[.slice (some ⟨b2, 0, none⟩) sb.length sb.length, .slice (some ⟨b3, 0, none⟩) db.length db.length]] w (FPost w c S D) := by
  have B : Hid (∀ o o' o'', Below w.heap.size w (((w.alloc o).alloc o').alloc o'')) := fun o o' o'' => below3 w o o' o''
  have H0 := hideP h0
  have H1 := hideP h1
  have H2 := hideP h2
  have H3 := hideP h3
  have KA : Hid (∀ w', Below w.heap.size w w' → Calls Try.prog 12 #[.agg #[.slice (some ⟨b0, 0, none⟩) sa.length sa.length, .slice (some ⟨b1, 0, none⟩) da.length da.length]] w' fun e w'' => e = .returned (.bool (Pl.okB sa da)) ∧ Below w'.heap.size w' w'') := fun w' h => specOk_any _ _ sa da w' hl0 hl1 ((H0.out.keep h).up h.size) ((H1.out.keep h).up h.size)
  have KB : Hid (∀ w', Below w.heap.size w w' → Calls Try.prog 12 #[.agg #[.slice (some ⟨b2, 0, none⟩) sb.length sb.length, .slice (some ⟨b3, 0, none⟩) db.length db.length]] w' fun e w'' => e = .returned (.bool (Pl.okB sb db)) ∧ Below w'.heap.size w' w'') := fun w' h => specOk_any _ _ sb db w' hl2 hl3 ((H2.out.keep h).up h.size) ((H3.out.keep h).up h.size)
  have W0 := hideP (wid_new w h0 h1 h2 h3 27 27 27)
  have HK := hideP hk
  rw [oka] at KA
  rw [okb] at KB
  clear h0 h1 h2 h3 hk oka okb
  generalize sa.length = lsa at *
  generalize da.length = lda at *
  generalize sb.length = lsb at *
  generalize db.length = ldb at *
  go_enter Try.func24, Try.ntmps24
  go_wp2_with fail
  refine (KA.out _ (B.out _ _ _)).mono ?_
  rintro e w1 ⟨rfl, hb1⟩
  have W1 := hideP (W0.out.keep hb1)
  clear hb1
  have c2 := W1.out.2.2.1.2.2.1
  have c3 := W1.out.2.2.1.2.2.2
  go_wp2_with fail
  clear c2 c3
  refine (KB.out _ W1.out.1).mono ?_
  rintro e w2 ⟨rfl, hb2⟩
  have W2 := hideP (W1.out.keep hb2)
  clear hb2
  have c0 := W2.out.2.2.1.1
  have c1 := W2.out.2.2.1.2.1
  have c2 := W2.out.2.2.1.2.2.1
  have c3 := W2.out.2.2.1.2.2.2
  have KW := W2.out.1
  have HC := hideP (HK.out w2 ((H0.out.keep KW).up KW.size) ((H1.out.keep KW).up KW.size) ((H2.out.keep KW).up KW.size) ((H3.out.keep KW).up KW.size))
  have BW := hideP KW
  clear KW
  go_wp2_with fail
  refine HC.out.mono ?_
  rintro e w3 ⟨hb3, u0, u1, rfl, res⟩
  have W3 := hideP (W2.out.keep hb3)
  have hs2 := W2.out.2.1
  have hs3 := W3.out.2.1
  have R3 := hideP res
  obtain ⟨x0, y0, e0⟩ := res.1.form
  obtain ⟨x1, y1, e1⟩ := res.2.1.form
  subst e0
  subst e1
  clear res hb3 c0 c1 c2 c3
  have r0 := W3.out.2.2.2.1.1
  have r1 := W3.out.2.2.2.1.2.1
  have f2 := W3.out.2.2.2.1.2.2
  go_wp2_with fail
  refine bodyPost_ret (v := .tuple #[.agg #[.slice x0 S.length y0, .slice x1 D.length y1], .int .i64 c]) (by simp [results, Try.results24, go_sem, r0, r1]) rfl ⟨(W3.out.1.setCell (by simp; omega) _).setCell (by simp; omega) _, _, _, rfl, ?_, ?_, R3.out.2.2⟩
  · exact Own.base (Own.store (Own.store R3.out.1 (by omega) _) (by omega) _) (by omega)
  · exact Own.base (Own.store (Own.store R3.out.2.1 (by omega) _) (by omega) _) (by omega)

set_option maxRecDepth 100000 in
set_option maxHeartbeats 4000000 in
/-- spec.Dyad with the number 3 -/
theorem specD_3 (b0 b1 b2 b3 : Nat) (sa da sb db : List Int) (w : World) (hl0 : sa.length ≤ 1048576) (hl1 : da.length ≤ 1048576) (hl2 : sb.length ≤ 1048576) (hl3 : db.length ≤ 1048576) (h0 : Rd w.heap.size w (.slice (some ⟨b0, 0, none⟩) sa.length sa.length) sa) (h1 : Rd w.heap.size w (.slice (some ⟨b1, 0, none⟩) da.length da.length) da) (h2 : Rd w.heap.size w (.slice (some ⟨b2, 0, none⟩) sb.length sb.length) sb) (h3 : Rd w.heap.size w (.slice (some ⟨b3, 0, none⟩) db.length db.length) db) (oka : Pl.okB sa da = true) (okb : Pl.okB sb db = true) (c : Int) (S D : List Int)
    (hk : ∀ w', Rd w'.heap.size w' (.slice (some ⟨b0, 0, none⟩) sa.length sa.length) sa → Rd w'.heap.size w' (.slice (some ⟨b1, 0, none⟩) da.length da.length) da → Rd w'.heap.size w' (.slice (some ⟨b2, 0, none⟩) sb.length sb.length) sb → Rd w'.heap.size w' (.slice (some ⟨b3, 0, none⟩) db.length db.length) db → Calls Try.prog 63 #[.int .i64 3, .agg #[.slice (some ⟨b0, 0, none⟩) sa.length sa.length, .slice (some ⟨b1, 0, none⟩) da.length da.length], .agg #[.slice (some ⟨b2, 0, none⟩) sb.length sb.length, .slice (some ⟨b3, 0, none⟩) db.length db.length]] w' (FPost w' c S D)) :
    Calls Try.prog 24 #[.int .i64 3, .agg #[.slice (some ⟨b0, 0, none⟩) sa.length sa.length, .slice (some ⟨b1, 0, none⟩) da.length da.length], .agg #[.slice (some ⟨b2, 0, none⟩) sb.length sb.length, .slice (some ⟨b3, 0, none⟩) db.length db.length]] w (FPost w c S D) := by
  have B : Hid (∀ o o' o'', Below w.heap.size w (((w.alloc o).alloc o').alloc o'')) := fun o o' o'' => below3 w o o' o''
  have H0 := hideP h0
  have H1 := hideP h1
  have H2 := hideP h2
  have H3 := hideP h3
  have KA : Hid (∀ w', Below w.heap.size w w' → Calls Try.prog 12 #[.agg #[.slice (some ⟨b0, 0, none⟩) sa.length sa.length, .slice (some ⟨b1, 0, none⟩) da.length da.length]] w' fun e w'' => e = .returned (.bool (Pl.okB sa da)) ∧ Below w'.heap.size w' w'') := fun w' h => specOk_any _ _ sa da w' hl0 hl1 ((H0.out.keep h).up h.size) ((H1.out.keep h).up h.size)
  have KB : Hid (∀ w', Below w.heap.size w w' → Calls Try.prog 12 #[.agg #[.slice (some ⟨b2, 0, none⟩) sb.length sb.length, .slice (some ⟨b3, 0, none⟩) db.length db.length]] w' fun e w'' => e = .returned (.bool (Pl.okB sb db)) ∧ Below w'.heap.size w' w'') := fun w' h => specOk_any _ _ sb db w' hl2 hl3 ((H2.out.keep h).up h.size) ((H3.out.keep h).up h.size)
  have W0 := hideP (wid_new w h0 h1 h2 h3 27 27 27)
  have HK := hideP hk
  rw [oka] at KA
  rw [okb] at KB
  clear h0 h1 h2 h3 hk oka okb
  generalize sa.length = lsa at *
  generalize da.length = lda at *
  generalize sb.length = lsb at *
  generalize db.length = ldb at *
  go_enter Try.func24, Try.ntmps24
  go_wp2_with fail
  refine (KA.out _ (B.out _ _ _)).mono ?_
  rintro e w1 ⟨rfl, hb1⟩
  have W1 := hideP (W0.out.keep hb1)
  clear hb1
  have c2 := W1.out.2.2.1.2.2.1
  have c3 := W1.out.2.2.1.2.2.2
  go_wp2_with fail
  clear c2 c3
  refine (KB.out _ W1.out.1).mono ?_
  rintro e w2 ⟨rfl, hb2⟩
  have W2 := hideP (W1.out.keep hb2)
  clear hb2
  have c0 := W2.out.2.2.1.1
  have c1 := W2.out.2.2.1.2.1
  have c2 := W2.out.2.2.1.2.2.1
  have c3 := W2.out.2.2.1.2.2.2
  have KW := W2.out.1
  have HC := hideP (HK.out w2 ((H0.out.keep KW).up KW.size) ((H1.out.keep KW).up KW.size) ((H2.out.keep KW).up KW.size) ((H3.out.keep KW).up KW.size))
  have BW := hideP KW
  clear KW
  go_wp2_with fail
  refine HC.out.mono ?_
  rintro e w3 ⟨hb3, u0, u1, rfl, res⟩
  have W3 := hideP (W2.out.keep hb3)
  have hs2 := W2.out.2.1
  have hs3 := W3.out.2.1
  have R3 := hideP res
  obtain ⟨x0, y0, e0⟩ := res.1.form
  obtain ⟨x1, y1, e1⟩ := res.2.1.form
  subst e0
  subst e1
  clear res hb3 c0 c1 c2 c3
  have r0 := W3.out.2.2.2.1.1
  have r1 := W3.out.2.2.2.1.2.1
  have f2 := W3.out.2.2.2.1.2.2
  go_wp2_with fail
  refine bodyPost_ret (v := .tuple #[.agg #[.slice x0 S.length y0, .slice x1 D.length y1], .int .i64 c]) (by simp [results, Try.results24, go_sem, r0, r1]) rfl ⟨(W3.out.1.setCell (by simp; omega) _).setCell (by simp; omega) _, _, _, rfl, ?_, ?_, R3.out.2.2⟩
  · exact Own.base (Own.store (Own.store R3.out.1 (by omega) _) (by omega) _) (by omega)
  · exact Own.base (Own.store (Own.store R3.out.2.1 (by omega) _) (by omega) _) (by omega)

set_option maxRecDepth 100000 in
set_option maxHeartbeats 4000000 in
/-- spec.Dyad with the number 4 -/
theorem specD_4 (b0 b1 b2 b3 : Nat) (sa da sb db : List Int) (w : World) (hl0 : sa.length ≤ 1048576) (hl1 : da.length ≤ 1048576) (hl2 : sb.length ≤ 1048576) (hl3 : db.length ≤ 1048576) (h0 : Rd w.heap.size w (.slice (some ⟨b0, 0, none⟩) sa.length sa.length) sa) (h1 : Rd w.heap.size w (.slice (some ⟨b1, 0, none⟩) da.length da.length) da) (h2 : Rd w.heap.size w (.slice (some ⟨b2, 0, none⟩) sb.length sb.length) sb) (h3 : Rd w.heap.size w (.slice (some ⟨b3, 0, none⟩) db.length db.length) db) (oka : Pl.okB sa da = true) (okb : Pl.okB sb db = true) (c : Int) (S D : List Int)
    (hk : ∀ w', Rd w'.heap.size w' (.slice (some ⟨b0, 0, none⟩) sa.length sa.length) sa → Rd w'.heap.size w' (.slice (some ⟨b1, 0, none⟩) da.length da.length) da → Rd w'.heap.size w' (.slice (some ⟨b2, 0, none⟩) sb.length sb.length) sb → Rd w'.heap.size w' (.slice (some ⟨b3, 0, none⟩) db.length db.length) db → Calls Try.prog 64 #[.agg #[.slice (some ⟨b0, 0, none⟩) sa.length sa.length, .slice (some ⟨b1, 0, none⟩) da.length da.length], .agg #[.slice (some ⟨b2, 0, none⟩) sb.length sb.length, .slice (some ⟨b3, 0, none⟩) db.length db.length]] w' (FPost w' c S D)) :
    Calls Try.prog 24 #[.int .i64 4, .agg #[.slice (some ⟨b0, 0, none⟩) sa.length sa.length, .slice (some ⟨b1, 0, none⟩) da.length da.length], .agg #[.slice (some ⟨b2, 0, none⟩) sb.length sb.length, .slice (some ⟨b3, 0, none⟩) db.length db.length]] w (FPost w c S D) := by
  have B : Hid (∀ o o' o'', Below w.heap.size w (((w.alloc o).alloc o').alloc o'')) := fun o o' o'' => below3 w o o' o''
  have H0 := hideP h0
  have H1 := hideP h1
  have H2 := hideP h2
  have H3 := hideP h3
  have KA : Hid (∀ w', Below w.heap.size w w' → Calls Try.prog 12 #[.agg #[.slice (some ⟨b0, 0, none⟩) sa.length sa.length, .slice (some ⟨b1, 0, none⟩) da.length da.length]] w' fun e w'' => e = .returned (.bool (Pl.okB sa da)) ∧ Below w'.heap.size w' w'') := fun w' h => specOk_any _ _ sa da w' hl0 hl1 ((H0.out.keep h).up h.size) ((H1.out.keep h).up h.size)
  have KB : Hid (∀ w', Below w.heap.size w w' → Calls Try.prog 12 #[.agg #[.slice (some ⟨b2, 0, none⟩) sb.length sb.length, .slice (some ⟨b3, 0, none⟩) db.length db.length]] w' fun e w'' => e = .returned (.bool (Pl.okB sb db)) ∧ Below w'.heap.size w' w'') := fun w' h => specOk_any _ _ sb db w' hl2 hl3 ((H2.out.keep h).up h.size) ((H3.out.keep h).up h.size)
  have W0 := hideP (wid_new w h0 h1 h2 h3 27 27 27)
  have HK := hideP hk
  rw [oka] at KA
  rw [okb] at KB
  clear h0 h1 h2 h3 hk oka okb
  generalize sa.length = lsa at *
  generalize da.length = lda at *
  generalize sb.length = lsb at *
  generalize db.length = ldb at *
  go_enter Try.func24, Try.ntmps24
  go_wp2_with fail
  refine (KA.out _ (B.out _ _ _)).mono ?_
  rintro e w1 ⟨rfl, hb1⟩
  have W1 := hideP (W0.out.keep hb1)
  clear hb1
  have c2 := W1.out.2.2.1.2.2.1
  have c3 := W1.out.2.2.1.2.2.2
  go_wp2_with fail
  clear c2 c3
  refine (KB.out _ W1.out.1).mono ?_
  rintro e w2 ⟨rfl, hb2⟩
  have W2 := hideP (W1.out.keep hb2)
  clear hb2
  have c0 := W2.out.2.2.1.1
  have c1 := W2.out.2.2.1.2.1
  have c2 := W2.out.2.2.1.2.2.1
  have c3 := W2.out.2.2.1.2.2.2
  have KW := W2.out.1
  have HC := hideP (HK.out w2 ((H0.out.keep KW).up KW.size) ((H1.out.keep KW).up KW.size) ((H2.out.keep KW).up KW.size) ((H3.out.keep KW).up KW.size))
  have BW := hideP KW
  clear KW
  go_wp2_with fail
  refine HC.out.mono ?_
  rintro e w3 ⟨hb3, u0, u1, rfl, res⟩
  have W3 := hideP (W2.out.keep hb3)
  have hs2 := W2.out.2.1
  have hs3 := W3.out.2.1
  have R3 := hideP res
  obtain ⟨x0, y0, e0⟩ := res.1.form
  obtain ⟨x1, y1, e1⟩ := res.2.1.form
  subst e0
  subst e1
  clear res hb3 c0 c1 c2 c3
  have r0 := W3.out.2.2.2.1.1
  have r1 := W3.out.2.2.2.1.2.1
  have f2 := W3.out.2.2.2.1.2.2
  go_wp2_with fail
  refine bodyPost_ret (v := .tuple #[.agg #[.slice x0 S.length y0, .slice x1 D.length y1], .int .i64 c]) (by simp [results, Try.results24, go_sem, r0, r1]) rfl ⟨(W3.out.1.setCell (by simp; omega) _).setCell (by simp; omega) _, _, _, rfl, ?_, ?_, R3.out.2.2⟩
  · exact Own.base (Own.store (Own.store R3.out.1 (by omega) _) (by omega) _) (by omega)
  · exact Own.base (Own.store (Own.store R3.out.2.1 (by omega) _) (by omega) _) (by omega)

set_option maxRecDepth 100000 in
set_option maxHeartbeats 4000000 in
/-- spec.Dyad with the number 5 -/
theorem specD_5 (b0 b1 b2 b3 : Nat) (sa da sb db : List Int) (w : World) (hl0 : sa.length ≤ 1048576) (hl1 : da.length ≤ 1048576) (hl2 : sb.length ≤ 1048576) (hl3 : db.length ≤ 1048576) (h0 : Rd w.heap.size w (.slice (some ⟨b0, 0, none⟩) sa.length sa.length) sa) (h1 : Rd w.heap.size w (.slice (some ⟨b1, 0, none⟩) da.length da.length) da) (h2 : Rd w.heap.size w (.slice (some ⟨b2, 0, none⟩) sb.length sb.length) sb) (h3 : Rd w.heap.size w (.slice (some ⟨b3, 0, none⟩) db.length db.length) db) (oka : Pl.okB sa da = true) (okb : Pl.okB sb db = true) (c : Int) (S D : List Int)
    (hk : ∀ w', Rd w'.heap.size w' (.slice (some ⟨b0, 0, none⟩) sa.length sa.length) sa → Rd w'.heap.size w' (.slice (some ⟨b1, 0, none⟩) da.length da.length) da → Rd w'.heap.size w' (.slice (some ⟨b2, 0, none⟩) sb.length sb.length) sb → Rd w'.heap.size w' (.slice (some ⟨b3, 0, none⟩) db.length db.length) db → Calls Try.prog 65 #[.agg #[.slice (some ⟨b0, 0, none⟩) sa.length sa.length, .slice (some ⟨b1, 0, none⟩) da.length da.length], .agg #[.slice (some ⟨b2, 0, none⟩) sb.length sb.length, .slice (some ⟨b3, 0, none⟩) db.length db.length]] w' (FPost w' c S D)) :
    Calls Try.prog 24 #[.int .i64 5, .agg #[.slice (some ⟨b0, 0, none⟩) sa.length sa.length, .slice (some ⟨b1, 0, none⟩) da.length da.length], .agg #[.slice (some ⟨b2, 0, none⟩) sb.length sb.length, .slice (some ⟨b3, 0, none⟩) db.length db.length]] w (FPost w c S D) := by
  have B : Hid (∀ o o' o'', Below w.heap.size w (((w.alloc o).alloc o').alloc o'')) := fun o o' o'' => below3 w o o' o''
  have H0 := hideP h0
  have H1 := hideP h1
  have H2 := hideP h2
  have H3 := hideP h3
  have KA : Hid (∀ w', Below w.heap.size w w' → Calls Try.prog 12 #[.agg #[.slice (some ⟨b0, 0, none⟩) sa.length sa.length, .slice (some ⟨b1, 0, none⟩) da.length da.length]] w' fun e w'' => e = .returned (.bool (Pl.okB sa da)) ∧ Below w'.heap.size w' w'') := fun w' h => specOk_any _ _ sa da w' hl0 hl1 ((H0.out.keep h).up h.size) ((H1.out.keep h).up h.size)
  have KB : Hid (∀ w', Below w.heap.size w w' → Calls Try.prog 12 #[.agg #[.slice (some ⟨b2, 0, none⟩) sb.length sb.length, .slice (some ⟨b3, 0, none⟩) db.length db.length]] w' fun e w'' => e = .returned (.bool (Pl.okB sb db)) ∧ Below w'.heap.size w' w'') := fun w' h => specOk_any _ _ sb db w' hl2 hl3 ((H2.out.keep h).up h.size) ((H3.out.keep h).up h.size)
  have W0 := hideP (wid_new w h0 h1 h2 h3 27 27 27)
  have HK := hideP hk
  rw [oka] at KA
  rw [okb] at KB
  clear h0 h1 h2 h3 hk oka okb
  generalize sa.length = lsa at *
  generalize da.length = lda at *
  generalize sb.length = lsb at *
  generalize db.length = ldb at *
  go_enter Try.func24, Try.ntmps24
  go_wp2_with fail
  refine (KA.out _ (B.out _ _ _)).mono ?_
  rintro e w1 ⟨rfl, hb1⟩
  have W1 := hideP (W0.out.keep hb1)
  clear hb1
  have c2 := W1.out.2.2.1.2.2.1
  have c3 := W1.out.2.2.1.2.2.2
  go_wp2_with fail
  clear c2 c3
  refine (KB.out _ W1.out.1).mono ?_
  rintro e w2 ⟨rfl, hb2⟩
  have W2 := hideP (W1.out.keep hb2)
  clear hb2
  have c0 := W2.out.2.2.1.1
  have c1 := W2.out.2.2.1.2.1
  have c2 := W2.out.2.2.1.2.2.1
  have c3 := W2.out.2.2.1.2.2.2
  have KW := W2.out.1
  have HC := hideP (HK.out w2 ((H0.out.keep KW).up KW.size) ((H1.out.keep KW).up KW.size) ((H2.out.keep KW).up KW.size) ((H3.out.keep KW).up KW.size))
  have BW := hideP KW
  clear KW
  go_wp2_with fail
  refine HC.out.mono ?_
  rintro e w3 ⟨hb3, u0, u1, rfl, res⟩
  have W3 := hideP (W2.out.keep hb3)
  have hs2 := W2.out.2.1
  have hs3 := W3.out.2.1
  have R3 := hideP res
  obtain ⟨x0, y0, e0⟩ := res.1.form
  obtain ⟨x1, y1, e1⟩ := res.2.1.form
  subst e0
  subst e1
  clear res hb3 c0 c1 c2 c3
  have r0 := W3.out.2.2.2.1.1
  have r1 := W3.out.2.2.2.1.2.1
  have f2 := W3.out.2.2.2.1.2.2
  go_wp2_with fail
  refine bodyPost_ret (v := .tuple #[.agg #[.slice x0 S.length y0, .slice x1 D.length y1], .int .i64 c]) (by simp [results, Try.results24, go_sem, r0, r1]) rfl ⟨(W3.out.1.setCell (by simp; omega) _).setCell (by simp; omega) _, _, _, rfl, ?_, ?_, R3.out.2.2⟩
  · exact Own.base (Own.store (Own.store R3.out.1 (by omega) _) (by omega) _) (by omega)
  · exact Own.base (Own.store (Own.store R3.out.2.1 (by omega) _) (by omega) _) (by omega)

end Go.Proofs.Ytmobjomebmipdaa
