import Derived.Test.YtmobjomebmipdaaEach2
namespace Go.Proofs.Ytmobjomebmipdaa
open Go.RowKit
set_option linter.unusedVariables false

namespace Pl
/-- the number of an operation, two valid arrays; else BadArray -/
def dyM (M : List Int → List Int → List Int → List Int → Int × List Int × List Int) (op : Int) (sa da sb db : List Int) : Int × List Int × List Int :=
  if 1 ≤ op ∧ op < 11 ∧ okB sa da = true ∧ okB sb db = true then M sa da sb db else (9, [], [])
theorem dyM_no {M : List Int → List Int → List Int → List Int → Int × List Int × List Int} {op : Int} {sa da sb db : List Int} (h : ¬ (1 ≤ op ∧ op < 11 ∧ okB sa da = true ∧ okB sb db = true)) : dyM M op sa da sb db = (9, [], []) := by unfold dyM; rw [if_neg h]
theorem dyM_yes {M : List Int → List Int → List Int → List Int → Int × List Int × List Int} {op : Int} {sa da sb db : List Int} (h : 1 ≤ op ∧ op < 11 ∧ okB sa da = true ∧ okB sb db = true) : dyM M op sa da sb db = M sa da sb db := by unfold dyM; rw [if_pos h]
end Pl

theorem wid_new (w : World) {v0 v1 v2 v3 : Value} {sa da sb db : List Int} (h0 : Rd w.heap.size w v0 sa) (h1 : Rd w.heap.size w v1 da) (h2 : Rd w.heap.size w v2 sb) (h3 : Rd w.heap.size w v3 db) (t0 t1 t2 : TypeId) :
    Wid w sa da sb db v0 v1 v2 v3 (((w.alloc (.cells #[v0, v1] t0)).alloc (.cells #[v2, v3] t1)).alloc (.cells #[.slice none 0 0, .slice none 0 0] t2)) := by
  refine ⟨below3 _ _ _ _, by simp, by simp [go_sem], by simp [go_sem], ?_, ?_, ?_, ?_⟩
  · exact (h0.keep (below3 _ _ _ _)).up (by simp; omega)
  · exact (h1.keep (below3 _ _ _ _)).up (by simp; omega)
  · exact (h2.keep (below3 _ _ _ _)).up (by simp; omega)
  · exact (h3.keep (below3 _ _ _ _)).up (by simp; omega)

set_option maxRecDepth 100000 in
set_option maxHeartbeats 4000000 in
/-- spec.Each2 -/
theorem spec2_face (op : Int) (v0 v1 v2 v3 : Value) (sa da sb db : List Int) (w : World) (hl0 : sa.length ≤ 1048576) (hl1 : da.length ≤ 1048576) (hl2 : sb.length ≤ 1048576) (hl3 : db.length ≤ 1048576)
    (h0 : Rd w.heap.size w v0 sa) (h1 : Rd w.heap.size w v1 da) (h2 : Rd w.heap.size w v2 sb) (h3 : Rd w.heap.size w v3 db) (c : Int) (S D : List Int) (hres : Pl.dyM (Pl.each2M (Pl.twoM op)) op sa da sb db = (c, S, D)) :
    Calls Try.prog 20 #[.int .i64 op, .agg #[v0, v1], .agg #[v2, v3]] w (FPost w c S D) := by
  have B : Hid (∀ o o' o'', Below w.heap.size w (((w.alloc o).alloc o').alloc o'')) := fun o o' o'' => below3 w o o' o''
  have H0 := hideP h0
  have H1 := hideP h1
  have H2 := hideP h2
  have H3 := hideP h3
  have KO := hideP (fun w => opOk_any op w)
  have KA : Hid (∀ w', Below w.heap.size w w' → Calls Try.prog 12 #[.agg #[v0, v1]] w' fun e w'' => e = .returned (.bool (Pl.okB sa da)) ∧ Below w'.heap.size w' w'') := fun w' h => specOk_any v0 v1 sa da w' hl0 hl1 ((H0.out.keep h).up h.size) ((H1.out.keep h).up h.size)
  have KB : Hid (∀ w', Below w.heap.size w w' → Calls Try.prog 12 #[.agg #[v2, v3]] w' fun e w'' => e = .returned (.bool (Pl.okB sb db)) ∧ Below w'.heap.size w' w'') := fun w' h => specOk_any v2 v3 sb db w' hl2 hl3 ((H2.out.keep h).up h.size) ((H3.out.keep h).up h.size)
  have W0 := hideP (wid_new w h0 h1 h2 h3)
  obtain ⟨a0, d0, e0⟩ := h0.form
  obtain ⟨a1, d1, e1⟩ := h1.form
  obtain ⟨a2, d2, e2⟩ := h2.form
  obtain ⟨a3, d3, e3⟩ := h3.form
  subst e0
  subst e1
  subst e2
  subst e3
  have HR := hideP hres
  clear h0 h1 h2 h3 hres
  by_cases hop : 1 ≤ op ∧ op < 11
  · have KO' : Hid (∀ w, Calls Try.prog 49 #[.int .i64 op] w fun e w' => e = .returned (.bool true) ∧ w' = w) := fun w => by have := KO.out w; rw [decide_eq_true hop] at this; exact this
    go_enter Try.func20, Try.ntmps20
    by_cases oka : Pl.okB sa da = true
    · rw [oka] at KA
      by_cases okb : Pl.okB sb db = true
      · rw [okb] at KB
        have e := HR.out
        rw [Pl.dyM_yes ⟨hop.1, hop.2, oka, okb⟩] at e
        have HE := hideP e
        obtain ⟨k, rfl⟩ := Int.eq_ofNat_of_zero_le (show 0 ≤ op by omega)
        have KL : Hid (∀ w', Below w.heap.size w w' → Calls Try.prog 50 #[.int .i64 (k : Int), .agg #[.slice a0 sa.length d0, .slice a1 da.length d1], .agg #[.slice a2 sb.length d2, .slice a3 db.length d3]] w' (FPost w' c S D)) := fun w' h =>
          l2Each_any (k : Int) (Pl.twoM (k : Int)) _ _ _ _ sa da sb db w' (fun x y w'' g0 g1 g2 g3 => l2Two_any k x y w'' (by omega) (by omega) g0 g1 g2 g3) ((H0.out.keep h).up h.size) ((H1.out.keep h).up h.size) ((H2.out.keep h).up h.size) ((H3.out.keep h).up h.size) oka okb c S D HE.out
        clear e oka okb hop KO HE HR H0 H1 H2 H3
        go_wp2_with (go_at_call 49; refine (KO'.out _).mono ?_; rintro e w' ⟨rfl, rfl⟩)
        refine (KA.out _ (B.out _ _ _)).mono ?_
        rintro e w1 ⟨rfl, hb1⟩
        have W1 := hideP ((W0.out _ _ _).keep hb1)
        clear hb1
        have c2 := W1.out.2.2.1.2.2.1
        have c3 := W1.out.2.2.1.2.2.2
        go_wp2_with fail
        clear c2 c3
        refine (KB.out _ W1.out.1).mono ?_
        rintro e w2 ⟨rfl, hb2⟩
        have W2 := hideP (W1.out.keep hb2)
        clear hb2
        have c0 := W2.out.2.2.1.1
        have c1 := W2.out.2.2.1.2.1
        have c2 := W2.out.2.2.1.2.2.1
        have c3 := W2.out.2.2.1.2.2.2
        go_wp2_with fail
        clear c0 c1 c2 c3
        refine (KL.out _ W2.out.1).mono ?_
        rintro e w3 ⟨hb3, u0, u1, rfl, hres⟩
        have W3 := hideP (W2.out.keep hb3)
        have R3 := hideP hres
        have hs2 := W2.out.2.1
        obtain ⟨x0, y0, e0⟩ := hres.1.form
        obtain ⟨x1, y1, e1⟩ := hres.2.1.form
        subst e0
        subst e1
        clear hb3 hres
        have r0 := W3.out.2.2.2.1.1
        have r1 := W3.out.2.2.2.1.2.1
        have f2 := W3.out.2.2.2.1.2.2
        go_wp2_with fail
        refine bodyPost_ret (v := .tuple #[.agg #[.slice x0 S.length y0, .slice x1 D.length y1], .int .i64 c]) (by simp [results, Try.results20, go_sem, r0, r1]) rfl ⟨(W3.out.1.setCell (by simp; omega) _).setCell (by simp; omega) _, _, _, rfl, ?_, ?_, R3.out.2.2⟩
        · exact Own.base (Own.store (Own.store R3.out.1 (by omega) _) (by omega) _) (by omega)
        · exact Own.base (Own.store (Own.store R3.out.2.1 (by omega) _) (by omega) _) (by omega)
      · have okb' : Pl.okB sb db = false := by simpa using okb
        rw [okb'] at KB
        clear okb'
        go_wp2_with (go_at_call 49; refine (KO'.out _).mono ?_; rintro e w' ⟨rfl, rfl⟩)
        refine (KA.out _ (B.out _ _ _)).mono ?_
        rintro e w1 ⟨rfl, hb1⟩
        have W1 := hideP ((W0.out _ _ _).keep hb1)
        clear hb1
        have c2 := W1.out.2.2.1.2.2.1
        have c3 := W1.out.2.2.1.2.2.2
        go_wp2_with fail
        clear c2 c3
        refine (KB.out _ W1.out.1).mono ?_
        rintro e w2 ⟨rfl, hb2⟩
        have W2 := hideP (W1.out.keep hb2)
        clear hb2
        have hs := W2.out.2.1
        have r0 := W2.out.2.2.2.1.1
        have r1 := W2.out.2.2.2.1.2.1
        have f2 := W2.out.2.2.2.1.2.2
        have e := HR.out
        rw [Pl.dyM_no (by intro h; exact okb h.2.2.2)] at e
        simp only [Prod.mk.injEq] at e
        obtain ⟨rfl, rfl, rfl⟩ := e
        clear oka okb
        go_wp2_with fail
        refine bodyPost_ret (v := .tuple #[.agg #[.slice none 0 0, .slice none 0 0], .int .i64 9]) (by simp [results, Try.results20, go_sem, r0, r1]) rfl ⟨(W2.out.1.setCell (by simp; omega) _).setCell (by simp; omega) _, _, _, rfl, Own.nil _ _, Own.nil _ _, .inl rfl⟩
    · have oka' : Pl.okB sa da = false := by simpa using oka
      rw [oka'] at KA
      clear oka'
      go_wp2_with (go_at_call 49; refine (KO'.out _).mono ?_; rintro e w' ⟨rfl, rfl⟩)
      refine (KA.out _ (B.out _ _ _)).mono ?_
      rintro e w1 ⟨rfl, hb1⟩
      have W1 := hideP ((W0.out _ _ _).keep hb1)
      clear hb1
      have hs := W1.out.2.1
      have r0 := W1.out.2.2.2.1.1
      have r1 := W1.out.2.2.2.1.2.1
      have f2 := W1.out.2.2.2.1.2.2
      have e := HR.out
      rw [Pl.dyM_no (by intro h; exact oka h.2.2.1)] at e
      simp only [Prod.mk.injEq] at e
      obtain ⟨rfl, rfl, rfl⟩ := e
      clear oka
      go_wp2_with fail
      refine bodyPost_ret (v := .tuple #[.agg #[.slice none 0 0, .slice none 0 0], .int .i64 9]) (by simp [results, Try.results20, go_sem, r0, r1]) rfl ⟨(W1.out.1.setCell (by simp; omega) _).setCell (by simp; omega) _, _, _, rfl, Own.nil _ _, Own.nil _ _, .inl rfl⟩
  · have KO' : Hid (∀ w, Calls Try.prog 49 #[.int .i64 op] w fun e w' => e = .returned (.bool false) ∧ w' = w) := fun w => by have := KO.out w; rw [decide_eq_false hop] at this; exact this
    go_enter Try.func20, Try.ntmps20
    have W1 := hideP (W0.out 27 27 27)
    have e := HR.out
    rw [Pl.dyM_no (by intro h; exact hop ⟨h.1, h.2.1⟩)] at e
    simp only [Prod.mk.injEq] at e
    obtain ⟨rfl, rfl, rfl⟩ := e
    clear hop
    go_wp2_with (go_at_call 49; refine (KO'.out _).mono ?_; rintro e w' ⟨rfl, rfl⟩)
    refine bodyPost_ret (v := .tuple #[.agg #[.slice none 0 0, .slice none 0 0], .int .i64 9]) (by simp [results, Try.results20, go_sem]) rfl ⟨B.out _ _ _, _, _, rfl, Own.nil _ _, Own.nil _ _, .inl rfl⟩

end Go.Proofs.Ytmobjomebmipdaa
