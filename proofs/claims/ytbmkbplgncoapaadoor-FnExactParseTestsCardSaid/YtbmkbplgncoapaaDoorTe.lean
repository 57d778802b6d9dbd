import Derived.Test.YtbmkbplgncoapaaDoorTi
import Derived.Lib.QuietBelow
namespace Go.Proofs.YtbmkbplgncoapaaDoor
open Go.RowKit Go.Sort
set_option linter.unusedVariables false

namespace Pl
theorem flat_at {ts : List TT} {k : Nat} {t : TT} (h : ts[k]? = some t) : (flat ts)[k * 4]? = some t.1 ∧ (flat ts)[k * 4 + 1]? = some t.2.1 ∧ (flat ts)[k * 4 + 2]? = some t.2.2.1 ∧ (flat ts)[k * 4 + 3]? = some t.2.2.2 := by
  induction ts generalizing k with
  | nil => simp at h
  | cons t0 ts ih =>
    have e : flat (t0 :: ts) = [t0.1, t0.2.1, t0.2.2.1, t0.2.2.2] ++ flat ts := rfl
    cases k with
    | zero =>
      simp at h
      subst h
      rw [e]
      simp
    | succ k =>
      have := ih (k := k) (by simpa using h)
      rw [e, show (k + 1) * 4 = k * 4 + 4 by omega]
      refine ⟨?_, ?_, ?_, ?_⟩
      · rw [List.getElem?_append_right (by simp)]; exact this.1
      · rw [List.getElem?_append_right (by simp)]; simpa using this.2.1
      · rw [List.getElem?_append_right (by simp)]; simpa using this.2.2.1
      · rw [List.getElem?_append_right (by simp)]; simpa using this.2.2.2
end Pl

theorem L_at {L : List (Value × List Int)} {zss : List (List Int)} {i : Nat} {z : List Int} (h : L.map (·.2) = zss) (hz : zss[i]? = some z) : ∃ u, L[i]? = some (u, z) := by
  rw [← h, List.getElem?_map] at hz
  obtain ⟨p, hp, rfl⟩ := Option.map_eq_some_iff.1 hz
  exact ⟨p.1, hp⟩

/-- a slice of tests that is read -/
def RdT (B : Nat) (w : World) (v : Value) (ts : List Pl.TT) : Prop :=
  ∃ ao cap, v = .slice ao ts.length cap ∧ (ts.length = 0 ∨ ∃ (g : Nat) (L : List (Value × List Int)), g < B ∧ ao = some ⟨g, 0, none⟩ ∧ L.map (·.2) = Pl.flat ts ∧ (∀ i u, (L.map (·.1))[i]? = some u → w.cell? ⟨g, i, none⟩ = some u) ∧ ∀ p ∈ L, Rd B w p.1 p.2)
theorem RdT.keep {B : Nat} {w w' : World} {v : Value} {ts : List Pl.TT} (h : RdT B w v ts) (hb : Below B w w') : RdT B w' v ts := by
  obtain ⟨ao, cap, rfl, h⟩ := h
  refine ⟨ao, cap, rfl, ?_⟩
  rcases h with h | ⟨g, L, h1, h2, h3, h4, h5⟩
  · exact .inl h
  · exact .inr ⟨g, L, h1, h2, h3, fun i u hu => (hb.cell (p := ⟨g, i, none⟩) h1).trans (h4 i u hu), fun p hp => (h5 p hp).keep hb⟩
theorem RdT.up {B B' : Nat} {w : World} {v : Value} {ts : List Pl.TT} (h : RdT B w v ts) (hb : B ≤ B') : RdT B' w v ts := by
  obtain ⟨ao, cap, rfl, h⟩ := h
  refine ⟨ao, cap, rfl, ?_⟩
  rcases h with h | ⟨g, L, h1, h2, h3, h4, h5⟩
  · exact .inl h
  · exact .inr ⟨g, L, by omega, h2, h3, h4, fun p hp => (h5 p hp).up hb⟩

theorem rows_cell {B n g cap : Nat} {w : World} {xs : List Value} (h : w.ownsRow B 104 4 (.slice (some ⟨g, 0, none⟩) n cap) n xs) : ∀ i u, xs[i]? = some u → w.cell? ⟨g, i, none⟩ = some u := by
  intro i u hu
  have hlt := (List.getElem?_eq_some_iff.1 hu).1
  have hl := h.1
  rw [h.cellAt i (by omega), hu]

theorem Rw.rd {B : Nat} {w : World} {v : Value} {ts : List Pl.TT} (h : Rw B w v ts) : RdT w.heap.size w v ts := by
  obtain ⟨L, h1, h2, h3, h4⟩ := h
  rw [List.append_nil] at h3
  rcases hh : h2.2 with ⟨e, h0⟩ | ⟨g, cp, cur, e, _⟩
  · exact ⟨none, 0, by rw [h0]; exact e, .inl h0⟩
  · subst e
    exact ⟨_, _, rfl, .inr ⟨g, L, (h2.lt g rfl).2, rfl, h1, rows_cell h2, fun p hp => (h3.1 p hp).rd⟩⟩
theorem OwT.rd {B : Nat} {w : World} {v : Value} {ts : List Pl.TT} (h : OwT B w v ts) : RdT w.heap.size w v ts := by
  rcases h with ⟨rfl, ao, cap, rfl⟩ | h
  · exact ⟨ao, cap, rfl, .inl rfl⟩
  · exact h.rd

/-- one test of those that are read -/
theorem rdT_at {B g : Nat} {w : World} {ts : List Pl.TT} {L : List (Value × List Int)} (h3 : L.map (·.2) = Pl.flat ts) (h4 : ∀ i u, (L.map (·.1))[i]? = some u → w.cell? ⟨g, i, none⟩ = some u) (h5 : ∀ p ∈ L, Rd B w p.1 p.2) {k : Nat} {t : Pl.TT} (hk : ts[k]? = some t) :
    ∃ u0 u1 u2 u3, (w.cell? ⟨g, k * 4, none⟩ = some u0 ∧ w.cell? ⟨g, k * 4 + 1, none⟩ = some u1 ∧ w.cell? ⟨g, k * 4 + 2, none⟩ = some u2 ∧ w.cell? ⟨g, k * 4 + 3, none⟩ = some u3) ∧ (Rd B w u0 t.1 ∧ Rd B w u1 t.2.1 ∧ Rd B w u2 t.2.2.1 ∧ Rd B w u3 t.2.2.2) := by
  obtain ⟨f0, f1, f2, f3⟩ := Pl.flat_at hk
  obtain ⟨u0, e0⟩ := L_at h3 f0
  obtain ⟨u1, e1⟩ := L_at h3 f1
  obtain ⟨u2, e2⟩ := L_at h3 f2
  obtain ⟨u3, e3⟩ := L_at h3 f3
  have c : ∀ i u z, L[i]? = some (u, z) → w.cell? ⟨g, i, none⟩ = some u := fun i u z h => h4 i u (by rw [List.getElem?_map, h]; rfl)
  exact ⟨u0, u1, u2, u3, ⟨c _ _ _ e0, c _ _ _ e1, c _ _ _ e2, c _ _ _ e3⟩, h5 _ (List.mem_of_getElem? e0), h5 _ (List.mem_of_getElem? e1), h5 _ (List.mem_of_getElem? e2), h5 _ (List.mem_of_getElem? e3)⟩

set_option maxRecDepth 100000 in
set_option maxHeartbeats 2000000 in
/-- laws.eqTest, at the same rows -/
theorem eqTest_same (u0 u1 u2 u3 x0 x1 x2 x3 : Value) (a b c d : List Int) (w : World) (la : a.length ≤ 1048576) (lb : b.length ≤ 1048576) (lc : c.length ≤ 1048576) (ld : d.length ≤ 1048576)
    (h : Rd w.heap.size w u0 a ∧ Rd w.heap.size w u1 b ∧ Rd w.heap.size w u2 c ∧ Rd w.heap.size w u3 d) (h' : Rd w.heap.size w x0 a ∧ Rd w.heap.size w x1 b ∧ Rd w.heap.size w x2 c ∧ Rd w.heap.size w x3 d) :
    Calls Tryd.prog 80 #[.agg #[u0, u1, u2, u3], .agg #[x0, x1, x2, x3]] w fun e w' => e = .returned (.bool true) ∧ Below w.heap.size w w' := by
  have H := hideP h
  have H' := hideP h'
  clear h h'
  have A2 : Hid (∀ o1 o2 : Obj, Below w.heap.size w ((w.alloc o1).alloc o2)) := fun o1 o2 => ((Below.refl _ _).alloc (Nat.le_refl _) _).alloc (by simp) _
  have K : Hid (∀ W, Below w.heap.size w W → ∀ u x z, Rd w.heap.size w u z → Rd w.heap.size w x z → Rd W.heap.size W u z ∧ Rd W.heap.size W x z) := fun W hW u x z h1 h2 => ⟨(h1.keep hW).up hW.size, (h2.keep hW).up hW.size⟩
  go_enter Tryd.func80, Tryd.ntmps80
  go_wp2_with fail
  refine (eqArray_same u0 u1 x0 x1 a b _ la lb (K.out _ (A2.out _ _) _ _ _ H.out.1 H'.out.1).1 (K.out _ (A2.out _ _) _ _ _ H.out.2.1 H'.out.2.1).1 (K.out _ (A2.out _ _) _ _ _ H.out.1 H'.out.1).2 (K.out _ (A2.out _ _) _ _ _ H.out.2.1 H'.out.2.1).2).mono ?_
  rintro e w1 ⟨rfl, hb1⟩
  have B1 := hideP ((A2.out _ _).trans (hb1.mono (A2.out _ _).size))
  obtain ⟨hc, _⟩ := bcell hb1
  have c2 : w1.cell? ⟨w.heap.size, 2, none⟩ = some u2 := by rw [hc w.heap.size 2 (by simp; omega)]; simp [go_sem]
  have c3 : w1.cell? ⟨w.heap.size, 3, none⟩ = some u3 := by rw [hc w.heap.size 3 (by simp; omega)]; simp [go_sem]
  have y2 : w1.cell? ⟨w.heap.size + 1, 2, none⟩ = some x2 := by rw [hc (w.heap.size + 1) 2 (by simp)]; simp [go_sem]
  have y3 : w1.cell? ⟨w.heap.size + 1, 3, none⟩ = some x3 := by rw [hc (w.heap.size + 1) 3 (by simp)]; simp [go_sem]
  clear hb1 hc
  go_wp2_with fail
  refine (eqArray_same u2 u3 x2 x3 c d _ lc ld (K.out _ B1.out _ _ _ H.out.2.2.1 H'.out.2.2.1).1 (K.out _ B1.out _ _ _ H.out.2.2.2 H'.out.2.2.2).1 (K.out _ B1.out _ _ _ H.out.2.2.1 H'.out.2.2.1).2 (K.out _ B1.out _ _ _ H.out.2.2.2 H'.out.2.2.2).2).mono ?_
  rintro e w2 ⟨rfl, hb2⟩
  have B2 := hideP (B1.out.trans (hb2.mono B1.out.size))
  clear hb2
  go_wp2_with fail
  go_ret
  exact ⟨rfl, B2.out⟩

/-- all rows are short -/
def Bd (ts : List Pl.TT) : Prop := ts.length ≤ 20 ∧ ∀ z ∈ Pl.flat ts, z.length ≤ 1000
theorem Bd.at {ts : List Pl.TT} (h : Bd ts) {k : Nat} {t : Pl.TT} (hk : ts[k]? = some t) : t.1.length ≤ 1000 ∧ t.2.1.length ≤ 1000 ∧ t.2.2.1.length ≤ 1000 ∧ t.2.2.2.length ≤ 1000 := by
  obtain ⟨f0, f1, f2, f3⟩ := Pl.flat_at hk
  exact ⟨h.2 _ (List.mem_of_getElem? f0), h.2 _ (List.mem_of_getElem? f1), h.2 _ (List.mem_of_getElem? f2), h.2 _ (List.mem_of_getElem? f3)⟩

set_option maxRecDepth 100000 in
set_option maxHeartbeats 2000000 in
theorem eqTestS_core (g1 c1 g2 c2 : Nat) (ts : List Pl.TT) (L1 L2 : List (Value × List Int)) (w : World) (hbd : Bd ts) (hg1 : g1 < w.heap.size) (hg2 : g2 < w.heap.size)
    (a3 : L1.map (·.2) = Pl.flat ts) (a4 : ∀ i u, (L1.map (·.1))[i]? = some u → w.cell? ⟨g1, i, none⟩ = some u) (a5 : ∀ p ∈ L1, Rd w.heap.size w p.1 p.2)
    (b3 : L2.map (·.2) = Pl.flat ts) (b4 : ∀ i u, (L2.map (·.1))[i]? = some u → w.cell? ⟨g2, i, none⟩ = some u) (b5 : ∀ p ∈ L2, Rd w.heap.size w p.1 p.2) :
    Calls Tryd.prog 35 #[.slice (some ⟨g1, 0, none⟩) ts.length c1, .slice (some ⟨g2, 0, none⟩) ts.length c2] w fun e w' => e = .returned (.bool true) ∧ Below w.heap.size w w' := by
  have P1 := hideP (fun k t (hk : ts[k]? = some t) => rdT_at a3 a4 a5 hk)
  have P2 := hideP (fun k t (hk : ts[k]? = some t) => rdT_at b3 b4 b5 hk)
  have HB := hideP hbd
  have hn20 := hbd.1
  clear a3 a4 a5 b3 b4 b5 hbd
  obtain ⟨n, hn⟩ : ∃ n, ts.length = n := ⟨_, rfl⟩
  have Hn := hideP hn
  rw [hn] at hn20 ⊢
  clear hn
  go_enter Tryd.func35, Tryd.ntmps35
  go_wp2_with fail
  go_loopw [5] (fun i wr => ∃ k : Nat, k ≤ n ∧ i = .int .i64 (k : Int) ∧ Hid (Below w.heap.size w wr)) (fun i _ => n - (intOf i).toNat)
  case atStart => exact ⟨0, Nat.zero_le _, rfl, Below.refl _ _⟩
  case round =>
    obtain ⟨k, hk, rfl, BB⟩ := hrel
    by_cases hlt : k < n
    · have hlt' : (k : Int) < (n : Int) := by omega
      obtain ⟨t, ht⟩ : ∃ t, ts[k]? = some t := ⟨_, List.getElem?_eq_getElem (by rw [Hn.out]; exact hlt)⟩
      obtain ⟨u0, u1, u2, u3, ⟨q0, q1, q2, q3⟩, rr⟩ := P1.out k t ht
      obtain ⟨x0, x1, x2, x3, ⟨r0, r1, r2, r3⟩, ss⟩ := P2.out k t ht
      obtain ⟨l0, l1, l2, l3⟩ := HB.out.at ht
      have RR := hideP rr
      have SS := hideP ss
      clear rr ss ht
      have cl : ∀ g i u, g < w.heap.size → w.cell? ⟨g, i, none⟩ = some u → wr.cell? ⟨g, i, none⟩ = some u := fun g i u hg h => (BB.out.cell (p := ⟨g, i, none⟩) hg).trans h
      have k0 := cell_regrown (cl _ _ _ hg1 q0)
      have k1 := cell_regrown (cl _ _ _ hg1 q1)
      have k2 := cell_regrown (cl _ _ _ hg1 q2)
      have k3 := cell_regrown (cl _ _ _ hg1 q3)
      have m0 := cell_regrown (cl _ _ _ hg2 r0)
      have m1 := cell_regrown (cl _ _ _ hg2 r1)
      have m2 := cell_regrown (cl _ _ _ hg2 r2)
      have m3 := cell_regrown (cl _ _ _ hg2 r3)
      have c0 : ∀ dd os, Calls Tryd.prog 80 #[.agg #[u0, u1, u2, u3], .agg #[x0, x1, x2, x3]] (grow (redrawn wr dd) os) fun e w'' => e = .returned (.bool true) ∧ ∃ p : Regrown, w'' = grow (redrawn wr p.d) p.os := fun dd os => by
        have hW := BB.out.trans ((below_regrown wr dd os).mono BB.out.size)
        have up : ∀ u z, Rd w.heap.size w u z → Rd (grow (redrawn wr dd) os).heap.size (grow (redrawn wr dd) os) u z := fun u z h => (h.keep hW).up hW.size
        exact Calls.regrown_of (eqTest_same u0 u1 u2 u3 x0 x1 x2 x3 t.1 t.2.1 t.2.2.1 t.2.2.2 _ (by omega) (by omega) (by omega) (by omega)
          ⟨up _ _ RR.out.1, up _ _ RR.out.2.1, up _ _ RR.out.2.2.1, up _ _ RR.out.2.2.2⟩ ⟨up _ _ SS.out.1, up _ _ SS.out.2.1, up _ _ SS.out.2.2.1, up _ _ SS.out.2.2.2⟩)
      clear cl q0 q1 q2 q3 r0 r1 r2 r3 l0 l1 l2 l3
      go_wp2_with fail
      refine wp_region_quiet_below (by kernel_rfl) (by kernel_rfl) ?_
      repeat (quiet_step (exact c0 _ _))
      refine wpQuiet_nil ?_
      intro _ hw'
      obtain ⟨⟨dq, osq⟩, hw''⟩ := hw'
      subst hw''
      have B2 : Hid (Below w.heap.size w (grow (redrawn wr dq) osq)) := BB.out.trans ((below_regrown wr dq osq).mono BB.out.size)
      clear c0 k0 k1 k2 k3 m0 m1 m2 m3
      generalize grow (redrawn wr dq) osq = w2 at *
      go_wp2_with fail
      go_roundw
      case rel => exact ⟨k + 1, by omega, by go_num, B2⟩
      case measure => simp [intOf]; omega
    · have hlt' : ¬ (k : Int) < (n : Int) := by omega
      go_wp2_with fail
      go_ret
      exact ⟨rfl, BB.out⟩

theorem eqTestS_nil (a1 a2 : Option Addr) (c1 c2 : Nat) (w : World) :
    Calls Tryd.prog 35 #[.slice a1 0 c1, .slice a2 0 c2] w fun e w' => e = .returned (.bool true) ∧ w' = w := by
  go_enter Tryd.func35, Tryd.ntmps35
  go_wp2
  go_loop [5] (fun i => i = .int .i64 0) (fun _ => 0)
  case atStart => rfl
  case round =>
    obtain rfl := hrel
    go_wp2
    go_ret
    exact ⟨rfl, rfl⟩

/-- laws.eqTestS, at the same tests -/
theorem eqTestS_same (v1 v2 : Value) (ts : List Pl.TT) (w : World) (hbd : Bd ts) (h1 : RdT w.heap.size w v1 ts) (h2 : RdT w.heap.size w v2 ts) :
    Calls Tryd.prog 35 #[v1, v2] w fun e w' => e = .returned (.bool true) ∧ Below w.heap.size w w' := by
  obtain ⟨ao, c1, rfl, h1⟩ := h1
  obtain ⟨bo, c2, rfl, h2⟩ := h2
  by_cases h0 : ts.length = 0
  · rw [h0]
    exact (eqTestS_nil ao bo c1 c2 w).mono fun e w' ⟨he, hw⟩ => ⟨he, hw ▸ Below.refl _ _⟩
  · rcases h1 with h1 | ⟨g1, L1, a1, rfl, a3, a4, a5⟩
    · exact absurd h1 h0
    · rcases h2 with h2 | ⟨g2, L2, b1, rfl, b3, b4, b5⟩
      · exact absurd h2 h0
      · exact eqTestS_core g1 c1 g2 c2 ts L1 L2 w hbd a1 b1 a3 a4 a5 b3 b4 b5

end Go.Proofs.YtbmkbplgncoapaaDoor
