import Derived.Test.YtbmkbplgncoapaaDoorO2
namespace Go.Proofs.YtbmkbplgncoapaaDoor
open Go.RowKit Go.Sort
set_option linter.unusedVariables false

set_option maxRecDepth 100000 in
set_option maxHeartbeats 2000000 in
/-- laws.eqOutcome, at the same rows -/
theorem eqOutcome_same (k c fu ce : Int) (u0 u1 x0 x1 : Value) (a b : List Int) (w : World) (la : a.length ≤ 1048576) (lb : b.length ≤ 1048576)
    (h : Rd w.heap.size w u0 a ∧ Rd w.heap.size w u1 b) (h' : Rd w.heap.size w x0 a ∧ Rd w.heap.size w x1 b) :
    Calls Tryd.prog 77 #[.agg #[.int .i64 k, .int .i64 c, u0, u1, .int .i64 fu, .int .i64 ce], .agg #[.int .i64 k, .int .i64 c, x0, x1, .int .i64 fu, .int .i64 ce]] w fun e w' => e = .returned (.bool true) ∧ Below w.heap.size w w' := by
  have H := hideP h
  have H' := hideP h'
  clear h h'
  have A2 : Hid (∀ o1 o2 : Obj, Below w.heap.size w ((w.alloc o1).alloc o2)) := fun o1 o2 => ((Below.refl _ _).alloc (Nat.le_refl _) _).alloc (by simp) _
  have K : Hid (∀ W, Below w.heap.size w W → ∀ u z, Rd w.heap.size w u z → Rd W.heap.size W u z) := fun W hW u z h1 => (h1.keep hW).up hW.size
  have q0 : (k != k) = false := by simp
  have q1 : (c != c) = false := by simp
  have q2 : (fu != fu) = false := by simp
  have q3 : (ce != ce) = false := by simp
  go_enter Tryd.func77, Tryd.ntmps77
  go_wp2_with fail
  refine (eqArray_same u0 u1 x0 x1 a b _ la lb (K.out _ (A2.out _ _) _ _ H.out.1) (K.out _ (A2.out _ _) _ _ H.out.2) (K.out _ (A2.out _ _) _ _ H'.out.1) (K.out _ (A2.out _ _) _ _ H'.out.2)).mono ?_
  rintro e w1 ⟨rfl, hb1⟩
  have B1 := hideP ((A2.out _ _).trans (hb1.mono (A2.out _ _).size))
  obtain ⟨hc, _⟩ := bcell hb1
  have c4 : w1.cell? ⟨w.heap.size, 4, none⟩ = some (.int .i64 fu) := by rw [hc w.heap.size 4 (by simp; omega)]; simp [go_sem]
  have c5 : w1.cell? ⟨w.heap.size, 5, none⟩ = some (.int .i64 ce) := by rw [hc w.heap.size 5 (by simp; omega)]; simp [go_sem]
  have y4 : w1.cell? ⟨w.heap.size + 1, 4, none⟩ = some (.int .i64 fu) := by rw [hc (w.heap.size + 1) 4 (by simp)]; simp [go_sem]
  have y5 : w1.cell? ⟨w.heap.size + 1, 5, none⟩ = some (.int .i64 ce) := by rw [hc (w.heap.size + 1) 5 (by simp)]; simp [go_sem]
  clear hb1 hc
  go_wp2_with fail
  go_ret
  exact ⟨rfl, B1.out⟩

set_option maxRecDepth 100000 in
set_option maxHeartbeats 2000000 in
theorem eqOutcomeS_core (b1 o1 c1 b2 o2 c2 : Nat) (os : List Pl.Ot) (w : World) (hl : os.length ≤ 1048576) (hbd : ∀ o ∈ os, o.bd) (hg1 : b1 < w.heap.size) (hg2 : b2 < w.heap.size)
    (hc1 : ∀ i o, os[i]? = some o → ∃ v0 v1, OtAt w.heap.size w b1 (o1 + i * 6) o v0 v1) (hc2 : ∀ i o, os[i]? = some o → ∃ v0 v1, OtAt w.heap.size w b2 (o2 + i * 6) o v0 v1) :
    Calls Tryd.prog 32 #[.slice (some ⟨b1, o1, none⟩) os.length c1, .slice (some ⟨b2, o2, none⟩) os.length c2] w fun e w' => e = .returned (.bool true) ∧ Below w.heap.size w w' := by
  have P1 := hideP hc1
  have P2 := hideP hc2
  have HB := hideP hbd
  clear hc1 hc2 hbd
  obtain ⟨n, hn⟩ : ∃ n, os.length = n := ⟨_, rfl⟩
  have Hn := hideP hn
  rw [hn] at hl ⊢
  clear hn
  go_enter Tryd.func32, Tryd.ntmps32
  go_wp2_with fail
  go_loopw [5] (fun i wr => ∃ k : Nat, k ≤ n ∧ i = .int .i64 (k : Int) ∧ Hid (Below w.heap.size w wr)) (fun i _ => n - (intOf i).toNat)
  case atStart => exact ⟨0, Nat.zero_le _, rfl, Below.refl _ _⟩
  case round =>
    obtain ⟨k, hk, rfl, BB⟩ := hrel
    by_cases hlt : k < n
    · have hlt' : (k : Int) < (n : Int) := by omega
      obtain ⟨o, ho⟩ : ∃ o, os[k]? = some o := ⟨_, List.getElem?_eq_getElem (by rw [Hn.out]; exact hlt)⟩
      obtain ⟨u0, u1, ha⟩ := P1.out k o ho
      obtain ⟨x0, x1, hb⟩ := P2.out k o ho
      have hbo := HB.out o (List.mem_of_getElem? ho)
      obtain ⟨q0, q1, q2, q3, q4, q5, rr0, rr1⟩ := ha.keep BB.out hg1
      obtain ⟨s0, s1, s2, s3, s4, s5, tt0, tt1⟩ := hb.keep BB.out hg2
      have RR := hideP (And.intro (And.intro (ha.r0) (ha.r1)) (And.intro (hb.r0) (hb.r1)))
      clear ha hb rr0 rr1 tt0 tt1 ho
      have k0 := cell_regrown q0
      have k1 := cell_regrown q1
      have k2 := cell_regrown q2
      have k3 := cell_regrown q3
      have k4 := cell_regrown q4
      have k5 := cell_regrown q5
      have m0 := cell_regrown s0
      have m1 := cell_regrown s1
      have m2 := cell_regrown s2
      have m3 := cell_regrown s3
      have m4 := cell_regrown s4
      have m5 := cell_regrown s5
      obtain ⟨ok, oc, osh, oda, ofu, oce⟩ := o
      simp only at k0 k1 k4 k5 m0 m1 m4 m5
      have c0 : ∀ dd os, Calls Tryd.prog 77 #[.agg #[.int .i64 ok, .int .i64 oc, u0, u1, .int .i64 ofu, .int .i64 oce], .agg #[.int .i64 ok, .int .i64 oc, x0, x1, .int .i64 ofu, .int .i64 oce]] (grow (redrawn wr dd) os) fun e w'' => e = .returned (.bool true) ∧ ∃ p : Regrown, w'' = grow (redrawn wr p.d) p.os := fun dd os => by
        have hW := BB.out.trans ((below_regrown wr dd os).mono BB.out.size)
        have up : ∀ u z, Rd w.heap.size w u z → Rd (grow (redrawn wr dd) os).heap.size (grow (redrawn wr dd) os) u z := fun u z h => (h.keep hW).up hW.size
        exact Calls.regrown_of (eqOutcome_same ok oc ofu oce u0 u1 x0 x1 osh oda _ hbo.1 hbo.2 ⟨up _ _ RR.out.1.1, up _ _ RR.out.1.2⟩ ⟨up _ _ RR.out.2.1, up _ _ RR.out.2.2⟩)
      clear q0 q1 q2 q3 q4 q5 s0 s1 s2 s3 s4 s5 hbo
      go_wp2_with fail
      refine wp_region_quiet_below (by kernel_rfl) (by kernel_rfl) ?_
      repeat (quiet_step (exact c0 _ _))
      refine wpQuiet_nil ?_
      intro _ hw'
      obtain ⟨⟨dq, osq⟩, hw''⟩ := hw'
      subst hw''
      have B2 : Hid (Below w.heap.size w (grow (redrawn wr dq) osq)) := BB.out.trans ((below_regrown wr dq osq).mono BB.out.size)
      clear c0 k0 k1 k2 k3 k4 k5 m0 m1 m2 m3 m4 m5
      generalize grow (redrawn wr dq) osq = w2 at *
      go_wp2_with fail
      go_roundw
      case rel => exact ⟨k + 1, by omega, by go_num, B2⟩
      case measure => simp [intOf]; omega
    · have hlt' : ¬ (k : Int) < (n : Int) := by omega
      go_wp2_with fail
      go_ret
      exact ⟨rfl, BB.out⟩

theorem eqOutcomeS_nil (a1 a2 : Option Addr) (c1 c2 : Nat) (w : World) :
    Calls Tryd.prog 32 #[.slice a1 0 c1, .slice a2 0 c2] w fun e w' => e = .returned (.bool true) ∧ w' = w := by
  go_enter Tryd.func32, Tryd.ntmps32
  go_wp2
  go_loop [5] (fun i => i = .int .i64 0) (fun _ => 0)
  case atStart => rfl
  case round =>
    obtain rfl := hrel
    go_wp2
    go_ret
    exact ⟨rfl, rfl⟩

/-- laws.eqOutcomeS, at the same outcomes -/
theorem eqOutcomeS_same (v1 v2 : Value) (os : List Pl.Ot) (w : World) (hl : os.length ≤ 1048576) (hbd : ∀ o ∈ os, o.bd) (h1 : RdO w.heap.size w v1 os) (h2 : RdO w.heap.size w v2 os) :
    Calls Tryd.prog 32 #[v1, v2] w fun e w' => e = .returned (.bool true) ∧ Below w.heap.size w w' := by
  obtain ⟨ao, c1, rfl, h1⟩ := h1
  obtain ⟨bo, c2, rfl, h2⟩ := h2
  by_cases h0 : os.length = 0
  · rw [h0]
    exact (eqOutcomeS_nil ao bo c1 c2 w).mono fun e w' ⟨he, hw⟩ => ⟨he, hw ▸ Below.refl _ _⟩
  · rcases h1 with h1 | ⟨b1, o1, a1, rfl, a2⟩
    · exact absurd h1 h0
    · rcases h2 with h2 | ⟨b2, o2, e1, rfl, e2⟩
      · exact absurd h2 h0
      · exact eqOutcomeS_core b1 o1 c1 b2 o2 c2 os w hl hbd a1 e1 a2 e2

end Go.Proofs.YtbmkbplgncoapaaDoor
