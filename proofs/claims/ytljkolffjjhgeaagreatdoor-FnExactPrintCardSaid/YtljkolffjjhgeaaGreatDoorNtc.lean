import Derived.Test.YtljkolffjjhgeaaGreatDoorNta
namespace Go.Proofs.YtljkolffjjhgeaaGreatDoor
open Go.RowKit
set_option linter.unusedVariables false
set_option maxRecDepth 100000
set_option maxHeartbeats 4000000 in
/-- impl.operandTokens -/
theorem operandTokens_any (w0 : World) (t : Pl.Nd Pl.Sv) (v : Value) (hn : Nsk t v) (hc : TkC w0 t v) (w : World) (base : Nat) (v0 : Value) (l0 : List (List UInt8)) (h : Tk w0 w base v0 l0) (hl : l0.length + (opT t).length ≤ 100000000) :
    Calls Tryz.prog 75 #[v0, v] w (TokPost base l0 (opT t) w) := by
  obtain ⟨T, p, fn, fb, rfl, m1, m2, e1, e2, k1, k2⟩ := hn
  have KB := hideP k2
  have HT := hideP h
  have HC : Hid (∀ (w : World) (base : Nat) (v0 : Value) (l0 : List (List UInt8)), Tk w0 w base v0 l0 → l0.length + (Pl.toks (Pl.fa Pl.nt) Pl.ff t).length ≤ 100000000 → Calls Tryz.prog 60 #[v0, .iface T p] w (TokPost base l0 (Pl.toks (Pl.fa Pl.nt) Pl.ff t) w)) := hc
  obtain ⟨xo, yo, rfl, hyo⟩ := owns_form h.ow
  clear k1 k2 m1 e1 hc
  cases hb : Pl.bareN t
  · have HO : Hid (opT t = [40] :: (Pl.toks (Pl.fa Pl.nt) Pl.ff t ++ [[41]])) := by show _ = _; unfold opT; rw [hb]
    rw [HO.out] at hl ⊢
    rw [hb] at KB
    have HA : Hid (∀ (w1 : World), Below w.heap.size w w1 → ∀ ob, (w1.alloc ob).ownsRow base 9 1 (.slice xo l0.length yo) l0.length (l0.map tv) ∧ base ≤ (w1.alloc ob).heap.size ∧ Below w.heap.size w (w1.alloc ob)) := fun w1 hw1 ob => ⟨((HT.out.keep hw1).keep ((Below.refl _ _).alloc (Nat.le_refl _) ob)).ow, ((HT.out.keep hw1).keep ((Below.refl _ _).alloc (Nat.le_refl _) ob)).b1, hw1.alloc hw1.size ob⟩
    have HCX : Hid (∀ (c : UInt8) (w2 : World) (j : Nat) (t : List UInt8), ([[c]] : List (List UInt8))[j]? = some t → (w2.alloc (.cells #[.string ⟨#[c]⟩] 9)).cell? ⟨w2.heap.size, j, none⟩ = some (.string (Pl.ba t))) := fun c w2 j t hj => by
      match j, hj with
      | 0, hj => simp at hj; subst hj; simp [go_sem]; rfl
      | j + 1, hj => simp at hj
    simp only [List.length_cons, List.length_append, List.length_nil] at hl
    have L1 : Hid (l0.length + ([[40]] : List (List UInt8)).length ≤ 4000000000) := by show _ ≤ _; simp; omega
    have L2 : Hid ((l0 ++ [[40]]).length + (Pl.toks (Pl.fa Pl.nt) Pl.ff t).length ≤ 100000000 ∧ (l0 ++ [[40]]).length ≤ 100000000) := by refine ⟨?_, ?_⟩ <;> simp <;> omega
    have L3 : Hid (((l0 ++ [[40]]) ++ Pl.toks (Pl.fa Pl.nt) Pl.ff t).length + ([[41]] : List (List UInt8)).length ≤ 4000000000) := by show _ ≤ _; simp; omega
    have HEND : Hid (∀ w3 e w', Below base w w3 → Ok9 w w3 → TokPost base ((l0 ++ [[40]]) ++ Pl.toks (Pl.fa Pl.nt) Pl.ff t) [[41]] w3 e w' → TokPost base l0 ([40] :: (Pl.toks (Pl.fa Pl.nt) Pl.ff t ++ [[41]])) w e w') := fun w3 e w' h1 h2 h3 => by
      rw [List.append_assoc] at h3
      have := h3.after h1 h2
      simpa using this
    clear hb hl HO h
    generalize Pl.toks (Pl.fa Pl.nt) Pl.ff t = L at *
    go_enter Tryz.func75, Tryz.ntmps75
    go_wp2_with fail
    refine (KB.out _).mono ?_
    rintro e w1 ⟨rfl, hb1⟩
    have H1 := hideP hb1
    clear hb1
    go_wp2_with (at_builtin; refine wpList_append9 (base := base) _ rfl (.tmp 10) (.tmp 11) rfl (.slice xo l0.length yo) (.slice (some ⟨w1.heap.size, 0, none⟩) 1 1) rfl rfl l0 [[40]] 1 w1.heap.size 1 rfl rfl (HA.out _ H1.out _).1 (HCX.out 40 _) L1.out (HA.out _ H1.out _).2.1 ?_)
    intro v1 w2 h1 h2 h3
    have o1 : w2.ownsRow base 9 1 v1 (l0 ++ [[40]]).length ((l0 ++ [[40]]).map tv) := by simpa using h1
    have B2 : Hid (Below base w w2) := ((HA.out _ H1.out _).2.2.mono HT.out.b1).trans h2
    have Q2 : Hid (Ok9 w w2) := (Ok9.of_below (HA.out _ H1.out _).2.2).trans h3
    have T2 := hideP (HT.out.next o1 B2.out L2.out.2)
    obtain ⟨x2, y2, eo, hy2⟩ := owns_form o1
    subst eo
    have K := hideP (HC.out w2 base _ _ T2.out L2.out.1)
    clear h1 h2 h3 o1 HA H1 T2 L2
    generalize l0 ++ [[40]] = M1 at *
    go_wp2_with fail
    refine K.out.mono ?_
    rintro e w3 ⟨v3, rfl, o3, b3, q3⟩
    obtain ⟨x3, y3, eo, hy3⟩ := owns_form o3
    subst eo
    have B3 := hideP (B2.out.trans b3)
    have Q3 := hideP (Q2.out.trans q3)
    have hz3 : base ≤ w3.heap.size := Nat.le_trans HT.out.b1 B3.out.size
    have AL : Hid (∀ ob, Below w3.heap.size w3 (w3.alloc ob)) := fun ob => (Below.refl _ _).alloc (Nat.le_refl _) ob
    have O3 : Hid (∀ ob, (w3.alloc ob).ownsRow base 9 1 (.slice x3 (M1 ++ L).length y3) (M1 ++ L).length ((M1 ++ L).map tv) ∧ base ≤ (w3.alloc ob).heap.size) := fun ob => ⟨owns_keep o3 (AL.out ob), by simp; omega⟩
    have HE := hideP (fun e w' => HEND.out w3 e w' B3.out Q3.out)
    clear o3 b3 q3 HEND B2 Q2 K
    generalize M1 ++ L = M at *
    go_wp2_with (at_builtin; refine wpList_append9 (base := base) _ rfl (.tmp 14) (.tmp 15) rfl (.slice x3 M.length y3) (.slice (some ⟨w3.heap.size, 0, none⟩) 1 1) rfl rfl M [[41]] 1 w3.heap.size 1 rfl rfl (O3.out _).1 (HCX.out 41 _) L3.out (O3.out _).2 ?_)
    intro v4 w4 h1 h2 h3
    have H := hideP (HE.out (.returned v4) w4 ⟨v4, rfl, by simpa using h1, ((AL.out _).mono hz3).trans h2, (Ok9.of_below (AL.out _)).trans h3⟩)
    clear h1 h2 h3
    go_wp2_with fail
    go_ret
    exact H.out
  · have HO : Hid (opT t = Pl.toks (Pl.fa Pl.nt) Pl.ff t) := by show _ = _; unfold opT; rw [hb]
    rw [HO.out] at hl ⊢
    rw [hb] at KB
    have K : Hid (∀ w1, Below w.heap.size w w1 → Calls Tryz.prog 60 #[.slice xo l0.length yo, .iface T p] w1 (TokPost base l0 (Pl.toks (Pl.fa Pl.nt) Pl.ff t) w1)) := fun w1 hw1 => HC.out w1 base _ l0 (HT.out.keep hw1) hl
    have HEND : Hid (∀ w1 e w', Below w.heap.size w w1 → TokPost base l0 (Pl.toks (Pl.fa Pl.nt) Pl.ff t) w1 e w' → TokPost base l0 (Pl.toks (Pl.fa Pl.nt) Pl.ff t) w e w') := fun w1 e w' hw1 h2 => by
      have := TokPost.after (a := []) (by rw [List.append_nil]; exact h2) (hw1.mono HT.out.b1) (Ok9.of_below hw1)
      exact this
    clear hb hl HO h HC
    generalize Pl.toks (Pl.fa Pl.nt) Pl.ff t = L at *
    go_enter Tryz.func75, Tryz.ntmps75
    go_wp2_with fail
    refine (KB.out _).mono ?_
    rintro e w1 ⟨rfl, hb1⟩
    have H1 := hideP hb1
    clear hb1
    go_wp2_with fail
    refine (K.out _ H1.out).mono ?_
    rintro e w2 h2
    have H := hideP (HEND.out _ _ _ H1.out h2)
    obtain ⟨v', rfl, _⟩ := h2
    go_wp2_with fail
    go_ret
    exact H.out
end Go.Proofs.YtljkolffjjhgeaaGreatDoor
