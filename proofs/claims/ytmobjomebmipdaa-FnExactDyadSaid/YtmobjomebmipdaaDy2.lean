import Derived.Test.YtmobjomebmipdaaDy1
namespace Go.Proofs.Ytmobjomebmipdaa
open Go.RowKit
set_option linter.unusedVariables false


set_option maxRecDepth 100000 in
set_option maxHeartbeats 2000000 in
/-- impl.sameArrays -/
theorem sameArrays_any (v0 v1 v2 v3 : Value) (sa da sb db : List Int) (w : World) (hl0 : sa.length ≤ 1048576) (hl1 : da.length ≤ 1048576) (hl2 : sb.length ≤ 1048576) (hl3 : db.length ≤ 1048576) (h0 : Rd w.heap.size w v0 sa) (h1 : Rd w.heap.size w v1 da) (h2 : Rd w.heap.size w v2 sb) (h3 : Rd w.heap.size w v3 db) :
    Calls Try.prog 149 #[.agg #[v0, v1], .agg #[v2, v3]] w fun e w' => e = .returned (.bool (decide (sa = sb) && decide (da = db))) ∧ Below w.heap.size w w' := by
  have A0 : Hid (∀ W', Below (w.heap.size + 1 + 1) ((w.alloc (.cells #[v0, v1] 27)).alloc (.cells #[v2, v3] 27)) W' → (W'.cell? ⟨w.heap.size, 1, none⟩ = some v1 ∧ W'.cell? ⟨w.heap.size + 1, 1, none⟩ = some v3) ∧ Below w.heap.size w W') := fun W' hb => by
    refine ⟨⟨(hb.cell (p := ⟨w.heap.size, 1, none⟩) (by show w.heap.size < _; omega)).trans (by simp [go_sem]), (hb.cell (p := ⟨w.heap.size + 1, 1, none⟩) (by show w.heap.size + 1 < _; omega)).trans (by simp [go_sem])⟩, ?_⟩
    exact (((Below.refl _ _).alloc (Nat.le_refl _) _).alloc (by simp) _).trans (hb.mono (by omega))
  have A1 : Hid (Below w.heap.size w ((w.alloc (.cells #[v0, v1] 27)).alloc (.cells #[v2, v3] 27))) := ((Below.refl _ _).alloc (Nat.le_refl _) _).alloc (by simp) _
  have KS : Hid (∀ W, Below w.heap.size w W → Calls Try.prog 94 #[v0, v2] W fun e w' => e = .returned (.bool (decide (sa = sb))) ∧ Below W.heap.size W w') := fun W hb => slEq_any _ _ sa sb W hl0 hl2 ((h0.keep hb).up hb.size) ((h2.keep hb).up hb.size)
  have KD : Hid (∀ W, Below w.heap.size w W → Calls Try.prog 94 #[v1, v3] W fun e w' => e = .returned (.bool (decide (da = db))) ∧ Below W.heap.size W w') := fun W hb => slEq_any _ _ da db W hl1 hl3 ((h1.keep hb).up hb.size) ((h3.keep hb).up hb.size)
  obtain ⟨a0, d0, e0⟩ := h0.form
  obtain ⟨a1, d1, e1⟩ := h1.form
  obtain ⟨a2, d2, e2⟩ := h2.form
  obtain ⟨a3, d3, e3⟩ := h3.form
  subst e0
  subst e1
  subst e2
  subst e3
  clear h0 h1 h2 h3
  generalize hq : (decide (sa = sb) && decide (da = db)) = q
  have HQ := hideP hq
  clear hq
  go_enter Try.func149, Try.ntmps149
  go_wp2_with fail
  refine (KS.out _ A1.out).mono ?_
  rintro e w1 ⟨rfl, hb1⟩
  have K1 := hideP (A0.out w1 (hb1.mono (by simp)))
  clear hb1
  by_cases hs : sa = sb
  · have es : decide (sa = sb) = true := decide_eq_true hs
    have e1 : decide (da = db) = q := by rw [← HQ.out, es, Bool.true_and]
    rw [e1] at KD
    rw [es]
    clear hs es e1
    have c1 := K1.out.1.1
    have c3 := K1.out.1.2
    go_wp2_with fail
    refine (KD.out _ K1.out.2).mono ?_
    rintro e w2 ⟨rfl, hb2⟩
    have K2 := hideP (K1.out.2.trans (hb2.mono K1.out.2.size))
    clear hb2 c1 c3
    go_wp2_with fail
    go_ret
    exact ⟨rfl, K2.out⟩
  · have es : decide (sa = sb) = false := decide_eq_false hs
    have e1 : q = false := by rw [← HQ.out, es, Bool.false_and]
    subst e1
    rw [es]
    clear hs es
    go_wp2_with fail
    go_ret
    exact ⟨rfl, K1.out.2⟩

set_option maxRecDepth 100000 in
set_option maxHeartbeats 2000000 in
/-- impl.match -/
theorem match_any (v0 v1 v2 v3 : Value) (sa da sb db : List Int) (w : World) (hl0 : sa.length ≤ 1048576) (hl1 : da.length ≤ 1048576) (hl2 : sb.length ≤ 1048576) (hl3 : db.length ≤ 1048576) (h0 : Rd w.heap.size w v0 sa) (h1 : Rd w.heap.size w v1 da) (h2 : Rd w.heap.size w v2 sb) (h3 : Rd w.heap.size w v3 db) :
    Calls Try.prog 127 #[.agg #[v0, v1], .agg #[v2, v3]] w (KPost w 0 [] [Pl.boolM (decide (sa = sb) && decide (da = db))]) := by
  have W0 := hideP (wid_new w h0 h1 h2 h3)
  have TAIL : Hid (∀ q : Bool, ∀ W, Calls Try.prog 139 #[.bool q] W fun e w' => e = .returned (.int .i64 (Pl.boolM q)) ∧ w' = W) := fun q W => truth_any q W
  have KS : Hid (∀ W, Wid w sa da sb db v0 v1 v2 v3 W → Calls Try.prog 149 #[.agg #[v0, v1], .agg #[v2, v3]] W fun e w' => e = .returned (.bool (decide (sa = sb) && decide (da = db))) ∧ Below W.heap.size W w') := fun W h => sameArrays_any v0 v1 v2 v3 sa da sb db W hl0 hl1 hl2 hl3 h.2.2.2.2.1 h.2.2.2.2.2.1 h.2.2.2.2.2.2.1 h.2.2.2.2.2.2.2
  obtain ⟨a0, d0, e0⟩ := h0.form
  obtain ⟨a1, d1, e1⟩ := h1.form
  obtain ⟨a2, d2, e2⟩ := h2.form
  obtain ⟨a3, d3, e3⟩ := h3.form
  subst e0
  subst e1
  subst e2
  subst e3
  clear h0 h1 h2 h3
  generalize (decide (sa = sb) && decide (da = db)) = q at *
  go_enter Try.func127, Try.ntmps127
  go_wp2_with fail
  refine (KS.out _ (W0.out 27 27 27)).mono ?_
  rintro e w2 ⟨rfl, hb1⟩
  have W2 := hideP ((W0.out 27 27 27).keep hb1)
  clear hb1 W0
  go_wp2_with (go_at_call 139; refine (TAIL.out q _).mono ?_; rintro e w2 ⟨rfl, rfl⟩)
  refine (scalar_any (Pl.boolM q) w2).mono ?_
  rintro e w3 ⟨g, rfl, ho3, hb3⟩
  have W3 := hideP (W2.out.keep hb3)
  have OS := hideP ho3
  have hs2 := W2.out.2.1
  have hs3 := hb3.size
  clear ho3 hb3
  have r0 := W3.out.2.2.2.1.1
  have r1 := W3.out.2.2.2.1.2.1
  have f2 := W3.out.2.2.2.1.2.2
  go_wp2_with fail
  refine bodyPost_ret (v := .agg #[.slice none 0 0, .slice (some ⟨g, 0, none⟩) 1 1]) (by simp [results, Try.results127, go_sem, r0, r1]) rfl ⟨(W3.out.1.setCell (by simp; omega) _).setCell (by simp; omega) _, .inl ⟨rfl, _, _, rfl, Own.nil _ _, ?_, .inl rfl⟩⟩
  refine Own.base (B := w2.heap.size) (Own.store (Own.store OS.out ?_ _) ?_ _) ?_ <;> omega

end Go.Proofs.Ytmobjomebmipdaa
