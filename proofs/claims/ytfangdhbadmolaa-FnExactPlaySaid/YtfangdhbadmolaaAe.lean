import Derived.Test.YtfangdhbadmolaaAs
namespace Go.Proofs.Ytfangdhbadmolaa
open Go.RowKit
set_option linter.unusedVariables false

/-- laws.eqAct of the same act -/
theorem eqAct_same (kd : Int) (a b c : ByteArray) (w : World) :
    Calls Try.prog 27 #[.agg #[.int .i64 kd, .string a, .string b, .string c], .agg #[.int .i64 kd, .string a, .string b, .string c]] w fun e w' => e = .returned (.bool true) ∧ Below w.heap.size w w' := by
  have HB : Hid (∀ o1 o2 : Obj, Below w.heap.size w ((w.alloc o1).alloc o2)) := fun o1 o2 => ((Below.refl _ _).alloc (Nat.le_refl _) _).alloc (by simp) _
  have e0 : (kd != kd) = false := by simp
  have e1 : (a.toList == a.toList) = true := by simp
  have e2 : (b.toList == b.toList) = true := by simp
  have e3 : (c.toList == c.toList) = true := by simp
  go_enter Try.func27, Try.ntmps27
  go_wp2
  go_ret
  exact ⟨rfl, HB.out _ _⟩

set_option maxHeartbeats 1000000 in
/-- laws.eqActS of the same acts -/
theorem eqActS_core (b1 o1 c1 b2 o2 c2 : Nat) (qs : List Pl.Ac) (w : World) (hl : qs.length ≤ 1048576) (hb1 : b1 < w.heap.size) (hb2 : b2 < w.heap.size)
    (hc1 : ∀ i, i < qs.length → ActAt w b1 (o1 + i * 4) (Pl.aa qs i)) (hc2 : ∀ i, i < qs.length → ActAt w b2 (o2 + i * 4) (Pl.aa qs i)) :
    Calls Try.prog 11 #[.slice (some ⟨b1, o1, none⟩) qs.length c1, .slice (some ⟨b2, o2, none⟩) qs.length c2] w fun e w' => e = .returned (.bool true) ∧ Below w.heap.size w w' := by
  have H1 := hideP hc1
  have H2 := hideP hc2
  clear hc1 hc2
  generalize hn : qs.length = n at *
  clear hn
  go_enter Try.func11, Try.ntmps11
  go_wp2
  go_loopw [5] (fun i wr => ∃ k : Nat, k ≤ n ∧ i = .int .i64 k ∧ Hid (Below w.heap.size w wr)) (fun i _ => n - (intOf i).toNat)
  case atStart => exact ⟨0, Nat.zero_le _, rfl, Below.refl _ _⟩
  case round =>
    obtain ⟨k, hk, rfl, hbel⟩ := hrel
    by_cases hlt : k < n
    · obtain ⟨x0, x1, x2, x3⟩ := (H1.out k hlt).keep hbel.out hb1
      obtain ⟨y0, y1, y2, y3⟩ := (H2.out k hlt).keep hbel.out hb2
      generalize Pl.aa qs k = f at *
      obtain ⟨kd, fa, fb, fc⟩ := f
      simp only at x0 x1 x2 x3 y0 y1 y2 y3
      have K := hideP (eqAct_same kd fa fb fc)
      go_wp2
      go_region_with (go_at_call 27; refine (K.out _).mono ?_; rintro e w2 ⟨rfl, hb3⟩; have HB2 := hideP (hbel.out.drew.trans (hb3.mono hbel.out.drew.size)); clear hb3)
      all_goals go_wp2_with fail
      all_goals go_roundw
      all_goals first
        | exact ⟨k + 1, by omega, by go_num, HB2⟩
        | (simp [intOf]; omega)
    · go_wp2
      go_ret
      exact ⟨rfl, hbel.out⟩

theorem eqActS_nil (a1 a2 : Option Addr) (c1 c2 : Nat) (w : World) :
    Calls Try.prog 11 #[.slice a1 0 c1, .slice a2 0 c2] w fun e w' => e = .returned (.bool true) ∧ w' = w := by
  go_enter Try.func11, Try.ntmps11
  go_wp2
  go_loopw [5] (fun i wr => i = .int .i64 0 ∧ wr = w) (fun _ _ => 0)
  case atStart => exact ⟨rfl, rfl⟩
  case round =>
    obtain ⟨rfl, rfl⟩ := hrel
    go_wp2
    go_ret
    exact ⟨rfl, rfl⟩

theorem eqActS_same (v1 v2 : Value) (qs : List Pl.Ac) (w : World) (hl : qs.length ≤ 1048576) (h1 : RdA w.heap.size w v1 qs) (h2 : RdA w.heap.size w v2 qs) :
    Calls Try.prog 11 #[v1, v2] w fun e w' => e = .returned (.bool true) ∧ Below w.heap.size w w' := by
  obtain ⟨a1, c1, rfl, h1⟩ := h1
  obtain ⟨a2, c2, rfl, h2⟩ := h2
  by_cases hz : qs.length = 0
  · rw [hz]
    refine (eqActS_nil a1 a2 c1 c2 w).mono ?_
    rintro e w' ⟨rfl, rfl⟩
    exact ⟨rfl, Below.refl _ _⟩
  · rcases h1 with h1 | ⟨b1, o1, hb1, rfl, hc1⟩
    · exact absurd h1 hz
    · rcases h2 with h2 | ⟨b2, o2, hb2, rfl, hc2⟩
      · exact absurd h2 hz
      · exact eqActS_core b1 o1 c1 b2 o2 c2 qs w hl hb1 hb2 hc1 hc2

/-- a row of n acts that may be written -/
def Wr (w : World) (g off n : Nat) : Prop := ∀ j, j < n * 4 → (∃ v, w.cell? ⟨g, off + j, none⟩ = some v) ∧ w.frozen? ⟨g, off + j, none⟩ = false
theorem Wr.keep {w w' : World} {g off n : Nat} (h : Wr w g off n) (hg : g < w.heap.size) (hb : Below w.heap.size w w') : Wr w' g off n := fun j hj => by
  obtain ⟨⟨v, hv⟩, hf⟩ := h j hj
  exact ⟨⟨v, (hb.cell (p := ⟨g, off + j, none⟩) hg).trans hv⟩, (hb.frozen (p := ⟨g, off + j, none⟩) hg).trans hf⟩
theorem Wr.store {w : World} {g off n o : Nat} {u : Value} (h : Wr w g off n) : Wr (w.setCell ⟨g, o, none⟩ u) g off n := fun j hj => by
  obtain ⟨⟨v, hv⟩, hf⟩ := h j hj
  refine ⟨?_, by simp [go_sem, hf]⟩
  by_cases e : o = off + j
  · subst e
    exact ⟨u, World.cell?_setCell_same _ _ _ hv⟩
  · exact ⟨v, by rw [World.cell?_setCell_other _ _ _ _ (by intro e1; injection e1 with _ e2 _; exact e e2)]; exact hv⟩

/-- what marking leaves: the row may still be written, and all other blocks are as they were -/
structure Mk (w : World) (g off n : Nat) (W : World) : Prop where
  gr : w.grownBy W (some g)
  lt : g < W.heap.size
  wr : Wr W g off n
theorem Mk.keep {w W W' : World} {g off n : Nat} (h : Mk w g off n W) (hb : Below W.heap.size W W') : Mk w g off n W' :=
  ⟨⟨hb.os.trans h.gr.os, hb.tape.trans h.gr.tape, hb.output.trans h.gr.output, Nat.le_trans h.gr.size hb.size, fun k hk hne => (hb.block k (Nat.lt_of_lt_of_le hk h.gr.size)).trans (h.gr.block k hk hne)⟩, Nat.lt_of_lt_of_le h.lt hb.size, h.wr.keep h.lt hb⟩
theorem Mk.store {w W : World} {g off n o : Nat} {u : Value} (h : Mk w g off n W) : Mk w g off n (W.setCell ⟨g, o, none⟩ u) :=
  ⟨⟨h.gr.os, h.gr.tape, h.gr.output, by simpa using h.gr.size, fun k hk hne => by rw [Below.heap_setCell _ _ _ _ (fun e => hne (by rw [e]))]; exact h.gr.block k hk hne⟩, by simpa using h.lt, h.wr.store⟩

set_option maxRecDepth 100000 in
set_option maxHeartbeats 2000000 in
/-- laws.markActS -/
theorem markActS_core (g off cap n m : Nat) (w : World) (hl : n ≤ 1048576) (h0 : 1 ≤ m) (h1 : m ≤ 4194304) (hg : g < w.heap.size) (hc : Wr w g off n) :
    Calls Try.prog 13 #[.slice (some ⟨g, off, none⟩) n cap, .int .i64 (m : Int)] w fun e w' => e = .returned (.int .i64 ((m + 4 * n : Nat) : Int)) ∧ w.grownBy w' (some g) := by
  have M0 : Hid (Mk w g off n w) := ⟨World.grownBy.refl _ _, hg, hc⟩
  clear hc
  go_enter Try.func13, Try.ntmps13
  go_wp2_with fail
  go_loopw [1, 5] (fun k i wr => ∃ j : Nat, j ≤ n ∧ i = .int .i64 j ∧ k = .int .i64 ((m + 4 * j : Nat) : Int) ∧ Hid (Mk w g off n wr)) (fun _ i _ => n - (intOf i).toNat)
  case atStart => exact ⟨0, Nat.zero_le _, rfl, by go_num, M0⟩
  case round =>
    clear M0
    obtain ⟨j, hj, rfl, rfl, M0⟩ := hrel
    by_cases hlt : j < n
    · generalize ht : m + 4 * j = t at *
      have ht2 : m + 4 * (j + 1) = t + 1 + 1 + 1 + 1 := by omega
      have hT : t ≤ 8388608 := by omega
      have K1 := hideP (fun w => markText_succ t w (by omega))
      have K2 : Hid (∀ w, Calls Try.prog 29 #[.int .i64 ((t : Int) + 1 + 1)] w fun e w' => e = .returned (.string (Pl.mkT (t + 1 + 1))) ∧ Below w.heap.size w w') := fun w => by have := markText_succ (t + 1) w (by omega); simpa using this
      have K3 : Hid (∀ w, Calls Try.prog 29 #[.int .i64 ((t : Int) + 1 + 1 + 1)] w fun e w' => e = .returned (.string (Pl.mkT (t + 1 + 1 + 1))) ∧ Below w.heap.size w w') := fun w => by have := markText_succ (t + 1 + 1) w (by omega); simpa using this
      obtain ⟨⟨v0, c0⟩, f0⟩ := M0.out.wr (j * 4) (by omega)
      have M1 := hideP (M0.out.store (o := off + j * 4) (u := .int .i64 (t : Int)))
      clear ht
      go_wp2_with fail
      clear c0 f0
      refine (K1.out _).mono ?_
      rintro e w1 ⟨rfl, hb1⟩
      have N1 := hideP (M1.out.keep hb1)
      clear hb1
      obtain ⟨⟨v1, c1⟩, f1⟩ := N1.out.wr (j * 4 + 1) (by omega)
      rw [← Nat.add_assoc] at c1 f1
      have M2 := hideP (N1.out.store (o := off + j * 4 + 1) (u := .string (Pl.mkT (t + 1))))
      go_wp2_with fail
      clear c1 f1
      refine (K2.out _).mono ?_
      rintro e w2 ⟨rfl, hb2⟩
      have N2 := hideP (M2.out.keep hb2)
      clear hb2
      obtain ⟨⟨v2, c2⟩, f2⟩ := N2.out.wr (j * 4 + 2) (by omega)
      rw [← Nat.add_assoc] at c2 f2
      have M3 := hideP (N2.out.store (o := off + j * 4 + 2) (u := .string (Pl.mkT (t + 1 + 1))))
      go_wp2_with fail
      clear c2 f2
      refine (K3.out _).mono ?_
      rintro e w3 ⟨rfl, hb3⟩
      have N3 := hideP (M3.out.keep hb3)
      clear hb3
      obtain ⟨⟨v3, c3⟩, f3⟩ := N3.out.wr (j * 4 + 3) (by omega)
      rw [← Nat.add_assoc] at c3 f3
      have M4 := hideP (N3.out.store (o := off + j * 4 + 3) (u := .string (Pl.mkT (t + 1 + 1 + 1))))
      go_wp2_with fail
      clear c3 f3
      go_roundw
      case rel => exact ⟨j + 1, by omega, by go_num, by rw [ht2]; go_num, M4⟩
      case measure => simp [intOf]; omega
    · have jn : j = n := by omega
      subst jn
      go_wp2_with fail
      go_ret
      exact ⟨rfl, M0.out.gr⟩

theorem markActS_nil (ao : Option Addr) (cap m : Nat) (w : World) (h1 : m ≤ 4194304) :
    Calls Try.prog 13 #[.slice ao 0 cap, .int .i64 (m : Int)] w fun e w' => e = .returned (.int .i64 (m : Int)) ∧ w' = w := by
  go_enter Try.func13, Try.ntmps13
  go_wp2_with fail
  go_loopw [1, 5] (fun k i wr => i = .int .i64 0 ∧ k = .int .i64 (m : Int) ∧ wr = w) (fun _ _ _ => 0)
  case atStart => exact ⟨rfl, rfl, rfl⟩
  case round =>
    obtain ⟨rfl, rfl, rfl⟩ := hrel
    go_wp2_with fail
    go_ret
    exact ⟨rfl, rfl⟩

/-- marking a row of one's own -/
theorem markActS_any (B g : Nat) (m : Nat) (qs : List Pl.Ac) (w : World) (hl : qs.length ≤ 1048576) (h0 : 1 ≤ m) (h1 : m ≤ 4194304) (h : OwnA B w (sl g qs.length) qs) :
    Calls Try.prog 13 #[sl g qs.length, .int .i64 (m : Int)] w fun e w' => e = .returned (.int .i64 ((m + 4 * qs.length : Nat) : Int)) ∧ w.grownBy w' (some g) := by
  by_cases hz : qs.length = 0
  · rw [hz]
    refine (markActS_nil _ _ m w h1).mono ?_
    rintro e w' ⟨rfl, rfl⟩
    exact ⟨by simp, World.grownBy.refl _ _⟩
  · refine markActS_core g 0 qs.length qs.length m w hl h0 h1 (h.lt g rfl).2 (fun j hj => ?_)
    rw [Nat.zero_add]
    refine ⟨?_, h.frozenAt j⟩
    rw [h.cellAt j (by omega)]
    have : j < (cellsA qs).length := by rw [cellsA_len]; exact hj
    exact ⟨(cellsA qs)[j], by simp [this]⟩

end Go.Proofs.Ytfangdhbadmolaa
