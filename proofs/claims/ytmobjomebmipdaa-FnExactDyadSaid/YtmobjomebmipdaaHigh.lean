import Derived.Test.YtmobjomebmipdaaMid
namespace Go.Proofs.Ytmobjomebmipdaa
open Go.RowKit
set_option linter.unusedVariables false

theorem bcell {W w1 : World} (hb : Below W.heap.size W w1) : (∀ b o, b < W.heap.size → w1.cell? ⟨b, o, none⟩ = W.cell? ⟨b, o, none⟩) ∧ (∀ b o, b < W.heap.size → w1.frozen? ⟨b, o, none⟩ = W.frozen? ⟨b, o, none⟩) :=
  ⟨fun b o h => hb.cell (p := ⟨b, o, none⟩) h, fun b o h => hb.frozen (p := ⟨b, o, none⟩) h⟩

theorem grown_of_below {w w' : World} (hb : Below w.heap.size w w') : w.grownBy w' none := ⟨hb.os, hb.tape, hb.output, hb.size, fun k hk _ => hb.block k hk⟩

theorem owns_keep {w w' : World} {base : Nat} {e : TypeId} {size : Nat} {v : Value} {n : Nat} {xs : List Value} (h : w.ownsRow base e size v n xs) (hb : Below w.heap.size w w') : w'.ownsRow base e size v n xs :=
  h.kept (grown_of_below hb) (by cases v.ownBlock <;> simp)

theorem owns_base {w : World} {base base' : Nat} {e : TypeId} {size : Nat} {v : Value} {n : Nat} {xs : List Value} (h : w.ownsRow base e size v n xs) (hb : base' ≤ base) : w.ownsRow base' e size v n xs := by
  obtain ⟨h1, h2⟩ := h
  refine ⟨h1, ?_⟩
  rcases h2 with h2 | ⟨g, cap, cur, hv, hg, r⟩
  · exact .inl h2
  · exact .inr ⟨g, cap, cur, hv, Nat.le_trans hb hg, r⟩

/-- The slice value at the head of block g. -/
abbrev sl (g n : Nat) : Value := .slice (some ⟨g, 0, none⟩) n n

theorem below3 (w : World) (o1 o2 o3 : Obj) : Below w.heap.size w (((w.alloc o1).alloc o2).alloc o3) :=
  (((Below.refl _ _).alloc (Nat.le_refl _) _).alloc (by simp) _).alloc (by simp; omega) _

/-- laws.toArray -/
theorem toArray_any (v0 v1 : Value) (sh da : List Int) (w : World) (hl0 : sh.length ≤ 1048576) (hl1 : da.length ≤ 1048576) (h0 : Rd w.heap.size w v0 sh) (h1 : Rd w.heap.size w v1 da) :
    Calls Try.prog 13 #[.agg #[v0, v1]] w fun e w' => ∃ g0 g1 : Nat, e = .returned (.agg #[sl g0 sh.length, sl g1 da.length]) ∧ w.heap.size ≤ g0 ∧ g0 < g1 ∧
      w'.ownsRow w.heap.size 3 1 (sl g0 sh.length) sh.length (sh.map (Value.int .i64)) ∧ w'.ownsRow w.heap.size 3 1 (sl g1 da.length) da.length (da.map (Value.int .i64)) ∧ Below w.heap.size w w' := by
  have H0 : Hid (Rd w.heap.size w v0 sh) := h0
  have H1 : Hid (Rd w.heap.size w v1 da) := h1
  clear h0 h1
  go_enter Try.func13, Try.ntmps13
  go_wp2_with fail
  refine (toIntS_any v0 sh _ hl0 ((H0.out.keep (below3 _ _ _ _)).up (by simp; omega))).mono ?_
  rintro e w1 ⟨rfl, hown0, hb1⟩
  have Hb1 : Hid _ := hb1
  have Hown0 : Hid _ := hown0
  have sz1 : w.heap.size + 1 + 1 + 1 < w1.heap.size := by
    have := (hown0.lt _ rfl).2
    simpa using this
  obtain ⟨hc, hf⟩ := bcell hb1
  have c0 : w1.cell? ⟨w.heap.size, 1, none⟩ = some v1 := by rw [hc w.heap.size 1 (by simp; omega)]; simp [go_sem]
  have c1 : w1.cell? ⟨w.heap.size + 1 + 1, 0, none⟩ = some (.slice none 0 0) := by rw [hc (w.heap.size + 1 + 1) 0 (by simp)]; simp [go_sem]
  have c2 : w1.cell? ⟨w.heap.size + 1 + 1, 1, none⟩ = some (.slice none 0 0) := by rw [hc (w.heap.size + 1 + 1) 1 (by simp)]; simp [go_sem]
  have c3 : w1.cell? ⟨w.heap.size + 1, 0, none⟩ = some (.slice none 0 0) := by rw [hc (w.heap.size + 1) 0 (by simp)]; simp [go_sem]
  have c4 : w1.cell? ⟨w.heap.size + 1, 1, none⟩ = some (.slice none 0 0) := by rw [hc (w.heap.size + 1) 1 (by simp)]; simp [go_sem]
  have f1 : ∀ o, w1.frozen? ⟨w.heap.size + 1 + 1, o, none⟩ = false := fun o => by rw [hf (w.heap.size + 1 + 1) o (by simp)]; simp [go_sem]
  have f2 : ∀ o, w1.frozen? ⟨w.heap.size + 1, o, none⟩ = false := fun o => by rw [hf (w.heap.size + 1) o (by simp)]; simp [go_sem]
  clear hc hf hb1 hown0
  go_wp2_with fail
  have Hb2 : Hid (Below w.heap.size w (w1.setCell ⟨w.heap.size + 1 + 1, 0, none⟩ (sl (w.heap.size + 1 + 1 + 1) sh.length))) :=
    ((below3 _ _ _ _).trans (Hb1.out.mono (by simp; omega))).setCell (by simp; omega) _
  refine (toIntS_any v1 da _ hl1 ((H1.out.keep Hb2.out).up (by simp; omega))).mono ?_
  rintro e w2 ⟨rfl, hown1, hb3⟩
  have Hb3 : Hid _ := hb3
  have Hown1 : Hid _ := hown1
  have sz2 : w1.heap.size < w2.heap.size := by
    have := (hown1.lt _ rfl).2
    simpa using this
  obtain ⟨hc, hf⟩ := bcell hb3
  have d1 : w2.cell? ⟨w.heap.size + 1 + 1, 0, none⟩ = some (sl (w.heap.size + 1 + 1 + 1) sh.length) := by rw [hc (w.heap.size + 1 + 1) 0 (by simp; omega)]; simp [go_sem, c1]
  have d2 : w2.cell? ⟨w.heap.size + 1 + 1, 1, none⟩ = some (.slice none 0 0) := by rw [hc (w.heap.size + 1 + 1) 1 (by simp; omega)]; simp [go_sem, c2]
  have d3 : w2.cell? ⟨w.heap.size + 1, 0, none⟩ = some (.slice none 0 0) := by rw [hc (w.heap.size + 1) 0 (by simp; omega)]; simp [go_sem, c3]
  have d4 : w2.cell? ⟨w.heap.size + 1, 1, none⟩ = some (.slice none 0 0) := by rw [hc (w.heap.size + 1) 1 (by simp; omega)]; simp [go_sem, c4]
  have e1 : ∀ o, w2.frozen? ⟨w.heap.size + 1 + 1, o, none⟩ = false := fun o => by rw [hf (w.heap.size + 1 + 1) o (by simp; omega)]; simp [go_sem, f1]
  have e2 : ∀ o, w2.frozen? ⟨w.heap.size + 1, o, none⟩ = false := fun o => by rw [hf (w.heap.size + 1) o (by simp; omega)]; simp [go_sem, f2]
  clear hc hf hb3 hown1 c0 c1 c2 c3 c4 f1 f2
  go_wp2_with fail
  refine bodyPost_ret (v := .agg #[sl (w.heap.size + 1 + 1 + 1) sh.length, sl w1.heap.size da.length]) (by simp [results, Try.results13, go_sem, d3, d4]) rfl ⟨w.heap.size + 1 + 1 + 1, w1.heap.size, rfl, by omega, sz1, ?_, ?_, ?_⟩
  · refine ownsRow_setCell_below (base := w.heap.size + 1 + 1 + 1) (ownsRow_setCell_below (ownsRow_setCell_below ?_ (by simp) _) (by simp) _) (by simp) _ |> fun h => owns_base h (by omega)
    refine owns_keep ?_ Hb3.out
    have h := ownsRow_setCell_below Hown0.out (a := ⟨w.heap.size + 1 + 1, 0, none⟩) (by simp) (sl (w.heap.size + 1 + 1 + 1) sh.length)
    simpa using h
  · refine ownsRow_setCell_below (base := w1.heap.size) (ownsRow_setCell_below (ownsRow_setCell_below ?_ (by simp; omega) _) (by simp; omega) _) (by simp; omega) _ |> fun h => owns_base h (by omega)
    have h := Hown1.out
    have es : (w1.setCell ⟨w.heap.size + 1 + 1, 0, none⟩ (sl (w.heap.size + 1 + 1 + 1) sh.length)).heap.size = w1.heap.size := by simp
    rw [es] at h
    exact h
  · exact (((Hb2.out.trans (Hb3.out.mono (by simp; omega))).setCell (by simp; omega) _).setCell (by simp) _).setCell (by simp) _


/-- laws.eqArray -/
theorem eqArray_any (v0 v1 u0 u1 : Value) (sh da sh' da' : List Int) (w : World) (hl0 : sh.length ≤ 1048576) (hl1 : da.length ≤ 1048576) (hl2 : sh'.length ≤ 1048576) (hl3 : da'.length ≤ 1048576)
    (h0 : Rd w.heap.size w v0 sh) (h1 : Rd w.heap.size w v1 da) (h2 : Rd w.heap.size w u0 sh') (h3 : Rd w.heap.size w u1 da') :
    Calls Try.prog 15 #[.agg #[v0, v1], .agg #[u0, u1]] w fun e w' => e = .returned (.bool (decide (sh = sh') && decide (da = da'))) ∧ Below w.heap.size w w' := by
  have H0 : Hid (Rd w.heap.size w v0 sh) := h0
  have H1 : Hid (Rd w.heap.size w v1 da) := h1
  have H2 : Hid (Rd w.heap.size w u0 sh') := h2
  have H3 : Hid (Rd w.heap.size w u1 da') := h3
  clear h0 h1 h2 h3
  have HB : Hid (∀ o1 o2 : Obj, Below w.heap.size w ((w.alloc o1).alloc o2)) := fun o1 o2 => ((Below.refl _ _).alloc (Nat.le_refl _) _).alloc (by simp) _
  by_cases hs : sh = sh'
  · go_enter Try.func15, Try.ntmps15
    go_wp2_with fail
    refine (eqIntS_any v0 u0 sh sh' _ hl0 hl2 ((H0.out.keep (HB.out _ _)).up (by simp; omega)) ((H2.out.keep (HB.out _ _)).up (by simp; omega))).mono ?_
    rintro e w1 ⟨rfl, hb1⟩
    have Hb1 : Hid _ := hb1
    have hd : decide (sh = sh') = true := by simp [hs]
    rw [hd]
    have Hd : Hid (decide (sh = sh') = true) := hd
    clear hd hs
    obtain ⟨hc, hf⟩ := bcell hb1
    have sz1 : w.heap.size + 1 + 1 ≤ w1.heap.size := by have := hb1.size; simpa using this
    have c0 : w1.cell? ⟨w.heap.size, 1, none⟩ = some v1 := by rw [hc w.heap.size 1 (by simp; omega)]; simp [go_sem]
    have c1 : w1.cell? ⟨w.heap.size + 1, 1, none⟩ = some u1 := by rw [hc (w.heap.size + 1) 1 (by simp)]; simp [go_sem]
    have HB1 : Hid (Below w.heap.size w w1) := (HB.out _ _).trans (hb1.mono (by simp; omega))
    clear hc hf hb1
    go_wp2_with fail
    refine (eqIntS_any v1 u1 da da' _ hl1 hl3 ((H1.out.keep HB1.out).up (by omega)) ((H3.out.keep HB1.out).up (by omega))).mono ?_
    rintro e w2 ⟨rfl, hb2⟩
    have Hb2 : Hid _ := hb2
    clear hb2
    by_cases hda : da = da'
    · have hd : decide (da = da') = true := by simp [hda]
      rw [hd]
      have Hd2 : Hid (decide (da = da') = true) := hd
      clear hd hda
      go_wp2_with fail
      go_ret
      exact ⟨ret_bool (by rw [Hd.out, Hd2.out]; rfl), HB1.out.trans (Hb2.out.mono (by omega))⟩
    · have hd : decide (da = da') = false := by simp [hda]
      rw [hd]
      have Hd2 : Hid (decide (da = da') = false) := hd
      clear hd hda
      go_wp2_with fail
      go_ret
      exact ⟨ret_bool (by rw [Hd.out, Hd2.out]; rfl), HB1.out.trans (Hb2.out.mono (by omega))⟩
  · go_enter Try.func15, Try.ntmps15
    go_wp2_with fail
    refine (eqIntS_any v0 u0 sh sh' _ hl0 hl2 ((H0.out.keep (HB.out _ _)).up (by simp; omega)) ((H2.out.keep (HB.out _ _)).up (by simp; omega))).mono ?_
    rintro e w1 ⟨rfl, hb1⟩
    have Hb1 : Hid _ := hb1
    have hd : decide (sh = sh') = false := by simp [hs]
    rw [hd]
    have Hd : Hid (decide (sh = sh') = false) := hd
    clear hd hs hb1
    go_wp2_with fail
    go_ret
    exact ⟨ret_bool (by rw [Hd.out]; rfl), (HB.out _ _).trans (Hb1.out.mono (by simp; omega))⟩

end Go.Proofs.Ytmobjomebmipdaa
