import Derived.Test.YthhfpcdbgndioaaGreatDoorItf
namespace Go.Proofs.YthhfpcdbgndioaaGreatDoor
open Go.RowKit
set_option linter.unusedVariables false
set_option maxRecDepth 100000
namespace Pl
theorem call_iff (f : Fnv) : decide (f = ⟨10, 0, 0, f.nm⟩) = (decide (f.k = 10) && decide (f.a = 0) && decide (f.b = 0) && decide (ba f.nm = ba f.nm)) := by
  obtain ⟨k, a, b, nm⟩ := f
  rw [Bool.eq_iff_iff]
  simp only [Fnv.mk.injEq, decide_eq_true_eq, Bool.and_eq_true]
  exact ⟨fun ⟨a, b, c, d⟩ => ⟨⟨⟨a, b⟩, c⟩, trivial⟩, fun ⟨⟨⟨a, b⟩, c⟩, d⟩ => ⟨a, b, c, trivial⟩⟩
theorem der_iff (f : Fnv) : decide (f = ⟨f.k, f.a, 0, []⟩) = (decide (f.k = f.k) && decide (f.a = f.a) && decide (f.b = 0) && decide (ba f.nm = ⟨#[]⟩)) := by
  obtain ⟨k, a, b, nm⟩ := f
  rw [Bool.eq_iff_iff]
  have : ba nm = ⟨#[]⟩ ↔ nm = [] := by rw [ba_iff]; exact Iff.rfl
  simp only [Fnv.mk.injEq, decide_eq_true_eq, Bool.and_eq_true, this]
  exact ⟨fun ⟨a, b, c, d⟩ => ⟨⟨⟨a, b⟩, c⟩, d⟩, fun ⟨⟨⟨a, b⟩, c⟩, d⟩ => ⟨a, b, c, d⟩⟩
end Pl
/-- impl.numsOk -/
theorem numsOk_any (l : List Int) (ao : Option Addr) (cap B : Nat) (w : World) (hr : RdI B w ao l) (hl : l.length ≤ 1048576) :
    Calls Tryz.prog 96 #[.slice ao l.length cap] w fun e w' => e = .returned (.bool (Pl.numsB l)) ∧ w' = w := by
  have HP : Hid (∀ k x, l[k]? = some x → Pl.pre l (k + 1) = (Pl.pre l k && Pl.inB x)) := fun k x => Pl.pre_succ
  have HQ : Hid (∀ k x, l[k]? = some x → Pl.inB x = false → Pl.numsB l = false) := fun k x => Pl.pre_bad
  have HA : Hid (∀ k, k = l.length → Pl.pre l k = true → Pl.numsB l = (decide (1 ≤ l.length) && decide (l.length ≤ 1000))) := fun k => Pl.pre_all
  have HI : Hid (∀ k, k < l.length → ∃ x, l[k]? = some x ∧ l ≠ []) := fun k hk => ⟨l[k], List.getElem?_eq_getElem hk, fun e => by rw [e] at hk; cases hk⟩
  have HRd := hideP hr
  clear hr
  generalize Pl.numsB l = r at *
  generalize hL : l.length = L at *
  clear hL
  go_enter Tryz.func96, Tryz.ntmps96
  go_wp2
  go_loop [7] (fun v => ∃ k : Nat, k ≤ L ∧ v = .int .i64 k ∧ Hid (Pl.pre l k = true)) (fun v => L - (intOf v).toNat)
  case atStart => exact ⟨0, Nat.zero_le _, rfl, rfl⟩
  case round =>
    obtain ⟨j, hj, rfl, hst⟩ := hrel
    by_cases hlt : j < L
    · obtain ⟨x, hx, hne⟩ := HI.out j hlt
      have S := hideP (HP.out j x hx)
      have Q := hideP (HQ.out j x hx)
      obtain ⟨b, off, hb, rfl, hc⟩ := HRd.out.resolve_left hne
      have hcell := hc j x hx
      have K : Hid (∀ w, Calls Tryz.prog 79 #[.int .i64 x] w fun e w' => e = .returned (.bool (Pl.inB x)) ∧ w' = w) := valueFits_any x
      clear hc HRd HI HP HQ HA hx hne
      cases hq : Pl.inB x
      · rw [hq] at K
        have HR := hideP (Q.out hq)
        clear hq
        go_wp2_with (go_at_call 79; refine (K.out _).mono ?_; rintro e w' ⟨rfl, rfl⟩)
        go_ret
        exact ⟨ret_bool HR.out.symm, rfl⟩
      · rw [hq] at K S
        have HR := hideP (show Pl.pre l (j + 1) = true by rw [S.out, hst.out]; rfl)
        clear hq
        go_wp2_with (go_at_call 79; refine (K.out _).mono ?_; rintro e w' ⟨rfl, rfl⟩)
        go_round
        case rel => exact ⟨j + 1, by omega, by go_num, HR.out⟩
        case measure => simp [intOf]; omega
    · obtain rfl : j = L := by omega
      have HF := hideP (show r = (decide (1 ≤ j) && decide (j ≤ 1000)) by rw [HA.out j rfl hst.out])
      clear HRd HI HP HQ HA
      by_cases g1 : 1 ≤ j
      · have HR := hideP (show r = decide (j ≤ 1000) by rw [HF.out]; simp [g1])
        go_wp2
        go_ret
        exact ⟨ret_bool (by rw [HR.out, Bool.eq_iff_iff]; simp only [decide_eq_true_eq]; omega), rfl⟩
      · have HR := hideP (show r = false by rw [HF.out]; simp [g1])
        go_wp2
        go_ret
        exact ⟨ret_bool HR.out.symm, rfl⟩
set_option maxHeartbeats 4000000 in
/-- impl.callOk -/
theorem callOk_any (f : Pl.Fnv) (mb mo cp : Nat) (w : World) (hm : Mt w mb mo cp) (hl : f.nm.length ≤ 1048576) :
    Calls Tryz.prog 110 #[.agg #[.int .i64 f.k, .int .i64 f.a, .int .i64 f.b, .string (Pl.ba f.nm)]] w fun e w' => e = .returned (.bool (Pl.callB f)) ∧ Below w.heap.size w w' := by
  have HB : Hid (∀ o, Below w.heap.size w (w.alloc o)) := fun o => (Below.refl _ _).alloc (Nat.le_refl _) _
  have K : Hid (∀ o, Calls Tryz.prog 47 #[.string (Pl.ba f.nm)] (w.alloc o) fun e w' => e = .returned (.int .i64 (Pl.wk f.nm)) ∧ Below (w.alloc o).heap.size (w.alloc o) w') := fun o => wordKind_any (Pl.ba f.nm) mb mo cp (w.alloc o) (hm.keep (HB.out o)) (by rw [Pl.ba_size]; omega)
  have heq := eq78 f.k f.a f.b 10 0 0 (Pl.ba f.nm) (Pl.ba f.nm)
  rw [← Pl.call_iff] at heq
  have HF : Hid (Pl.callB f = (decide (Pl.wk f.nm = 3) && decide (f = ⟨10, 0, 0, f.nm⟩))) := rfl
  have C : Hid (∀ (w1 w' : World) (j : Nat) (v : Value), Below w1.heap.size w1 w' → w.heap.size < w1.heap.size → w1.cell? ⟨w.heap.size, j, none⟩ = some v → w'.cell? ⟨w.heap.size, j, none⟩ = some v) := fun w1 w' j v hb h1 h => (hb.cell (p := ⟨w.heap.size, j, none⟩) h1).trans h
  clear hm
  generalize decide (f = ⟨10, 0, 0, f.nm⟩) = q at *
  generalize Pl.callB f = r at *
  generalize Pl.wk f.nm = z at *
  generalize Pl.ba f.nm = nm at *
  generalize f.k = fk at *
  generalize f.a = fa at *
  generalize f.b = fb at *
  by_cases hz : z = 3
  · subst hz
    have HR := hideP (show r = q by rw [HF.out]; simp)
    go_enter Tryz.func110, Tryz.ntmps110
    go_wp2_with fail
    refine (K.out _).mono ?_
    rintro e w2 ⟨rfl, hb2⟩
    have d0 := C.out _ _ 0 _ hb2 (by simp) (by simp [go_sem]; rfl)
    have d1 := C.out _ _ 1 _ hb2 (by simp) (by simp [go_sem]; rfl)
    have d2 := C.out _ _ 2 _ hb2 (by simp) (by simp [go_sem]; rfl)
    have d3 := C.out _ _ 3 _ hb2 (by simp) (by simp [go_sem]; rfl)
    have HBB := hideP ((HB.out _).trans (hb2.mono (by simp)))
    clear hb2
    go_wp2_with fail
    go_ret
    exact ret_below HR.out HBB.out
  · have hzb : (z == 3) = false := by simp [hz]
    have HR := hideP (show r = false by rw [HF.out]; simp [hz])
    clear hz
    go_enter Tryz.func110, Tryz.ntmps110
    go_wp2_with (go_at_call 47; refine (K.out _).mono ?_; rintro e w2 ⟨rfl, hb2⟩)
    go_ret
    exact ret_below HR.out ((HB.out _).trans (hb2.mono (by simp)))
set_option maxHeartbeats 8000000 in
/-- impl.oneOk -/
theorem oneOk_any (f : Pl.Fnv) (mb mo cp : Nat) (w : World) (hm : Mt w mb mo cp) (hl : f.nm.length ≤ 1048576) :
    Calls Tryz.prog 97 #[.agg #[.int .i64 f.k, .int .i64 f.a, .int .i64 f.b, .string (Pl.ba f.nm)]] w fun e w' => e = .returned (.bool (Pl.oneB f)) ∧ Below w.heap.size w w' := by
  have HB : Hid (∀ o, Below w.heap.size w (w.alloc o)) := fun o => (Below.refl _ _).alloc (Nat.le_refl _) _
  have KC : Hid (∀ o, Calls Tryz.prog 110 #[.agg #[.int .i64 f.k, .int .i64 f.a, .int .i64 f.b, .string (Pl.ba f.nm)]] (w.alloc o) fun e w' => e = .returned (.bool (Pl.callB f)) ∧ Below (w.alloc o).heap.size (w.alloc o) w') := fun o => callOk_any f mb mo cp (w.alloc o) (hm.keep (HB.out o)) hl
  have KS : Hid (∀ o, Calls Tryz.prog 103 #[.agg #[.int .i64 f.k, .int .i64 f.a, .int .i64 f.b, .string (Pl.ba f.nm)]] (w.alloc o) fun e w' => e = .returned (.string (Pl.ba (Pl.sgn f))) ∧ Below (w.alloc o).heap.size (w.alloc o) w') := fun o => signOf_any f mb mo cp (w.alloc o) (hm.keep (HB.out o))
  have KO : Hid (∀ o, Calls Tryz.prog 102 #[.int .i64 f.a] (w.alloc o) fun e w' => e = .returned (.string (Pl.ba (Pl.osg f.a))) ∧ Below (w.alloc o).heap.size (w.alloc o) w') := fun o => operationSign_any f.a mb mo cp (w.alloc o) (hm.keep (HB.out o))
  have KO2 : Hid (∀ w', Below w.heap.size w w' → Calls Tryz.prog 102 #[.int .i64 f.b] w' fun e w2 => e = .returned (.string (Pl.ba (Pl.osg f.b))) ∧ Below w'.heap.size w' w2) := fun w' h => operationSign_any f.b mb mo cp w' (hm.keep h)
  have hqs := ba_beq (Pl.sgn f)
  have hqo := ba_beq (Pl.osg f.a)
  have hqo2 := ba_beq (Pl.osg f.b)
  have hqn := ba_beq f.nm
  have heq := eq78 f.k f.a f.b f.k f.a 0 (Pl.ba f.nm) ⟨#[]⟩
  rw [← Pl.der_iff] at heq
  have C : Hid (∀ (w1 w' : World) (j : Nat) (v : Value), Below w1.heap.size w1 w' → w.heap.size < w1.heap.size → w1.cell? ⟨w.heap.size, j, none⟩ = some v → w'.cell? ⟨w.heap.size, j, none⟩ = some v) := fun w1 w' j v hb h1 h => (hb.cell (p := ⟨w.heap.size, j, none⟩) h1).trans h
  have HF : Hid (Pl.oneB f = if f.k = 1 ∨ f.k = 2 ∨ f.k = 9 then !(decide (Pl.sgn f = [])) else if f.k = 3 ∨ f.k = 4 then !(decide (Pl.osg f.a = [])) && decide (f = ⟨f.k, f.a, 0, []⟩) else Pl.callB f) := by
    show _ = _
    unfold Pl.oneB
    simp
  clear hm
  generalize Pl.oneB f = r at *
  generalize Pl.callB f = cb at *
  generalize decide (f = ⟨f.k, f.a, 0, []⟩) = q at *
  generalize decide (Pl.sgn f = []) = ns at *
  generalize decide (Pl.osg f.a = []) = no at *
  generalize decide (Pl.osg f.b = []) = no2 at *
  generalize decide (f.nm = []) = nn at *
  generalize Pl.ba (Pl.sgn f) = ss at *
  generalize Pl.ba (Pl.osg f.a) = so at *
  generalize Pl.ba (Pl.osg f.b) = so2 at *
  generalize Pl.ba f.nm = nm at *
  generalize f.k = fk at *
  generalize f.a = fa at *
  generalize f.b = fb at *
  by_cases k1 : fk = 1
  · subst k1
    have HR := hideP (show r = !ns by rw [HF.out]; simp)
    cases ns
    all_goals
      go_enter Tryz.func97, Tryz.ntmps97
      go_wp2_with (go_at_call 103; refine (KS.out _).mono ?_; rintro e w2 ⟨rfl, hb2⟩)
      go_ret
      exact ret_below HR.out ((HB.out _).trans (hb2.mono (by simp)))
  have f1 : (fk == 1) = false := by simp [k1]
  by_cases k2 : fk = 2
  · subst k2
    clear f1 k1
    have HR := hideP (show r = !ns by rw [HF.out]; simp)
    cases ns
    all_goals
      go_enter Tryz.func97, Tryz.ntmps97
      go_wp2_with (go_at_call 103; refine (KS.out _).mono ?_; rintro e w2 ⟨rfl, hb2⟩)
      go_ret
      exact ret_below HR.out ((HB.out _).trans (hb2.mono (by simp)))
  have f2 : (fk == 2) = false := by simp [k2]
  by_cases k9 : fk = 9
  · subst k9
    clear f1 k1 f2 k2
    have HR := hideP (show r = !ns by rw [HF.out]; simp)
    cases ns
    all_goals
      go_enter Tryz.func97, Tryz.ntmps97
      go_wp2_with (go_at_call 103; refine (KS.out _).mono ?_; rintro e w2 ⟨rfl, hb2⟩)
      go_ret
      exact ret_below HR.out ((HB.out _).trans (hb2.mono (by simp)))
  have f9 : (fk == 9) = false := by simp [k9]
  by_cases k3 : fk = 3
  · subst k3
    clear f1 k1 f2 k2 f9 k9
    have HR := hideP (show r = (!no && q) by rw [HF.out]; simp)
    cases no
    · go_enter Tryz.func97, Tryz.ntmps97
      go_wp2_with fail
      refine (KO.out _).mono ?_
      rintro e w2 ⟨rfl, hb2⟩
      have d0 := C.out _ _ 0 _ hb2 (by simp) (by simp [go_sem]; rfl)
      have d1 := C.out _ _ 1 _ hb2 (by simp) (by simp [go_sem]; rfl)
      have d2 := C.out _ _ 2 _ hb2 (by simp) (by simp [go_sem]; rfl)
      have d3 := C.out _ _ 3 _ hb2 (by simp) (by simp [go_sem]; rfl)
      have HBB := hideP ((HB.out _).trans (hb2.mono (by simp)))
      clear hb2
      go_wp2_with fail
      go_ret
      exact ret_below (HR.out.trans (by simp)) HBB.out
    · go_enter Tryz.func97, Tryz.ntmps97
      go_wp2_with (go_at_call 102; refine (KO.out _).mono ?_; rintro e w2 ⟨rfl, hb2⟩)
      go_ret
      exact ret_below HR.out ((HB.out _).trans (hb2.mono (by simp)))
  have f3 : (fk == 3) = false := by simp [k3]
  by_cases k4 : fk = 4
  · subst k4
    clear f1 k1 f2 k2 f9 k9 f3 k3
    have HR := hideP (show r = (!no && q) by rw [HF.out]; simp)
    cases no
    · go_enter Tryz.func97, Tryz.ntmps97
      go_wp2_with fail
      refine (KO.out _).mono ?_
      rintro e w2 ⟨rfl, hb2⟩
      have d0 := C.out _ _ 0 _ hb2 (by simp) (by simp [go_sem]; rfl)
      have d1 := C.out _ _ 1 _ hb2 (by simp) (by simp [go_sem]; rfl)
      have d2 := C.out _ _ 2 _ hb2 (by simp) (by simp [go_sem]; rfl)
      have d3 := C.out _ _ 3 _ hb2 (by simp) (by simp [go_sem]; rfl)
      have HBB := hideP ((HB.out _).trans (hb2.mono (by simp)))
      clear hb2
      go_wp2_with fail
      go_ret
      exact ret_below (HR.out.trans (by simp)) HBB.out
    · go_enter Tryz.func97, Tryz.ntmps97
      go_wp2_with (go_at_call 102; refine (KO.out _).mono ?_; rintro e w2 ⟨rfl, hb2⟩)
      go_ret
      exact ret_below HR.out ((HB.out _).trans (hb2.mono (by simp)))
  have f4 : (fk == 4) = false := by simp [k4]
  have HR := hideP (show r = cb by rw [HF.out]; simp [k1, k2, k9, k3, k4])
  clear k1 k2 k9 k3 k4
  go_enter Tryz.func97, Tryz.ntmps97
  go_wp2_with (go_at_call 110; refine (KC.out _).mono ?_; rintro e w2 ⟨rfl, hb2⟩)
  go_ret
  exact ret_below HR.out ((HB.out _).trans (hb2.mono (by simp)))
set_option maxHeartbeats 8000000 in
/-- impl.twoOk -/
theorem twoOk_any (f : Pl.Fnv) (mb mo cp : Nat) (w : World) (hm : Mt w mb mo cp) (hl : f.nm.length ≤ 1048576) :
    Calls Tryz.prog 98 #[.agg #[.int .i64 f.k, .int .i64 f.a, .int .i64 f.b, .string (Pl.ba f.nm)]] w fun e w' => e = .returned (.bool (Pl.twoB f)) ∧ Below w.heap.size w w' := by
  have HB : Hid (∀ o, Below w.heap.size w (w.alloc o)) := fun o => (Below.refl _ _).alloc (Nat.le_refl _) _
  have KC : Hid (∀ o, Calls Tryz.prog 110 #[.agg #[.int .i64 f.k, .int .i64 f.a, .int .i64 f.b, .string (Pl.ba f.nm)]] (w.alloc o) fun e w' => e = .returned (.bool (Pl.callB f)) ∧ Below (w.alloc o).heap.size (w.alloc o) w') := fun o => callOk_any f mb mo cp (w.alloc o) (hm.keep (HB.out o)) hl
  have KS : Hid (∀ o, Calls Tryz.prog 103 #[.agg #[.int .i64 f.k, .int .i64 f.a, .int .i64 f.b, .string (Pl.ba f.nm)]] (w.alloc o) fun e w' => e = .returned (.string (Pl.ba (Pl.sgn f))) ∧ Below (w.alloc o).heap.size (w.alloc o) w') := fun o => signOf_any f mb mo cp (w.alloc o) (hm.keep (HB.out o))
  have KO : Hid (∀ o, Calls Tryz.prog 102 #[.int .i64 f.a] (w.alloc o) fun e w' => e = .returned (.string (Pl.ba (Pl.osg f.a))) ∧ Below (w.alloc o).heap.size (w.alloc o) w') := fun o => operationSign_any f.a mb mo cp (w.alloc o) (hm.keep (HB.out o))
  have KO2 : Hid (∀ w', Below w.heap.size w w' → Calls Tryz.prog 102 #[.int .i64 f.b] w' fun e w2 => e = .returned (.string (Pl.ba (Pl.osg f.b))) ∧ Below w'.heap.size w' w2) := fun w' h => operationSign_any f.b mb mo cp w' (hm.keep h)
  have hqs := ba_beq (Pl.sgn f)
  have hqo := ba_beq (Pl.osg f.a)
  have hqo2 := ba_beq (Pl.osg f.b)
  have hqn := ba_beq f.nm
  have heq := eq78 f.k f.a f.b f.k f.a 0 (Pl.ba f.nm) ⟨#[]⟩
  rw [← Pl.der_iff] at heq
  have C : Hid (∀ (w1 w' : World) (j : Nat) (v : Value), Below w1.heap.size w1 w' → w.heap.size < w1.heap.size → w1.cell? ⟨w.heap.size, j, none⟩ = some v → w'.cell? ⟨w.heap.size, j, none⟩ = some v) := fun w1 w' j v hb h1 h => (hb.cell (p := ⟨w.heap.size, j, none⟩) h1).trans h
  have HF : Hid (Pl.twoB f = if f.k = 5 ∨ f.k = 6 then !(decide (Pl.sgn f = [])) else if f.k = 7 then !(decide (Pl.osg f.a = [])) && decide (f = ⟨f.k, f.a, 0, []⟩) else if f.k = 8 then !(decide (Pl.osg f.a = [])) && !(decide (Pl.osg f.b = [])) && decide (f.nm = []) else Pl.callB f) := by
    show _ = _
    unfold Pl.twoB
    simp
  clear hm
  generalize Pl.twoB f = r at *
  generalize Pl.callB f = cb at *
  generalize decide (f = ⟨f.k, f.a, 0, []⟩) = q at *
  generalize decide (Pl.sgn f = []) = ns at *
  generalize decide (Pl.osg f.a = []) = no at *
  generalize decide (Pl.osg f.b = []) = no2 at *
  generalize decide (f.nm = []) = nn at *
  generalize Pl.ba (Pl.sgn f) = ss at *
  generalize Pl.ba (Pl.osg f.a) = so at *
  generalize Pl.ba (Pl.osg f.b) = so2 at *
  generalize Pl.ba f.nm = nm at *
  generalize f.k = fk at *
  generalize f.a = fa at *
  generalize f.b = fb at *
  by_cases k5 : fk = 5
  · subst k5
    have HR := hideP (show r = !ns by rw [HF.out]; simp)
    cases ns
    all_goals
      go_enter Tryz.func98, Tryz.ntmps98
      go_wp2_with (go_at_call 103; refine (KS.out _).mono ?_; rintro e w2 ⟨rfl, hb2⟩)
      go_ret
      exact ret_below HR.out ((HB.out _).trans (hb2.mono (by simp)))
  have f5 : (fk == 5) = false := by simp [k5]
  by_cases k6 : fk = 6
  · subst k6
    clear f5 k5
    have HR := hideP (show r = !ns by rw [HF.out]; simp)
    cases ns
    all_goals
      go_enter Tryz.func98, Tryz.ntmps98
      go_wp2_with (go_at_call 103; refine (KS.out _).mono ?_; rintro e w2 ⟨rfl, hb2⟩)
      go_ret
      exact ret_below HR.out ((HB.out _).trans (hb2.mono (by simp)))
  have f6 : (fk == 6) = false := by simp [k6]
  by_cases k7 : fk = 7
  · subst k7
    clear f5 k5 f6 k6
    have HR := hideP (show r = (!no && q) by rw [HF.out]; simp)
    cases no
    · go_enter Tryz.func98, Tryz.ntmps98
      go_wp2_with fail
      refine (KO.out _).mono ?_
      rintro e w2 ⟨rfl, hb2⟩
      have d0 := C.out _ _ 0 _ hb2 (by simp) (by simp [go_sem]; rfl)
      have d1 := C.out _ _ 1 _ hb2 (by simp) (by simp [go_sem]; rfl)
      have d2 := C.out _ _ 2 _ hb2 (by simp) (by simp [go_sem]; rfl)
      have d3 := C.out _ _ 3 _ hb2 (by simp) (by simp [go_sem]; rfl)
      have HBB := hideP ((HB.out _).trans (hb2.mono (by simp)))
      clear hb2
      go_wp2_with fail
      go_ret
      exact ret_below (HR.out.trans (by simp)) HBB.out
    · go_enter Tryz.func98, Tryz.ntmps98
      go_wp2_with (go_at_call 102; refine (KO.out _).mono ?_; rintro e w2 ⟨rfl, hb2⟩)
      go_ret
      exact ret_below HR.out ((HB.out _).trans (hb2.mono (by simp)))
  have f7 : (fk == 7) = false := by simp [k7]
  by_cases k8 : fk = 8
  · subst k8
    clear f5 k5 f6 k6 f7 k7
    have HR := hideP (show r = (!no && !no2 && nn) by rw [HF.out]; simp)
    cases no
    · cases no2
      · go_enter Tryz.func98, Tryz.ntmps98
        go_wp2_with fail
        refine (KO.out _).mono ?_
        rintro e w2 ⟨rfl, hb2⟩
        have d2 := C.out _ _ 2 _ hb2 (by simp) (by simp [go_sem]; rfl)
        have d3 := C.out _ _ 3 _ hb2 (by simp) (by simp [go_sem]; rfl)
        have hs2 : w.heap.size < w2.heap.size := Nat.lt_of_lt_of_le (by simp) hb2.size
        have HBB := hideP ((HB.out _).trans (hb2.mono (by simp)))
        clear hb2
        go_wp2_with fail
        refine (KO2.out _ HBB.out).mono ?_
        rintro e w3 ⟨rfl, hb3⟩
        have e3 := C.out _ _ 3 _ hb3 hs2 d3
        have HBC := hideP (HBB.out.trans (hb3.mono HBB.out.size))
        clear hb3
        go_wp2_with fail
        go_ret
        exact ret_below (HR.out.trans (by simp)) HBC.out
      · go_enter Tryz.func98, Tryz.ntmps98
        go_wp2_with fail
        refine (KO.out _).mono ?_
        rintro e w2 ⟨rfl, hb2⟩
        have d2 := C.out _ _ 2 _ hb2 (by simp) (by simp [go_sem]; rfl)
        have HBB := hideP ((HB.out _).trans (hb2.mono (by simp)))
        clear hb2
        go_wp2_with (go_at_call 102; refine (KO2.out _ HBB.out).mono ?_; rintro e w3 ⟨rfl, hb3⟩)
        go_ret
        exact ret_below (HR.out.trans (by simp)) (HBB.out.trans (hb3.mono HBB.out.size))
    · go_enter Tryz.func98, Tryz.ntmps98
      go_wp2_with (go_at_call 102; refine (KO.out _).mono ?_; rintro e w2 ⟨rfl, hb2⟩)
      go_ret
      exact ret_below (HR.out.trans (by simp)) ((HB.out _).trans (hb2.mono (by simp)))
  have f8 : (fk == 8) = false := by simp [k8]
  have HR := hideP (show r = cb by rw [HF.out]; simp [k5, k6, k7, k8])
  clear k5 k6 k7 k8
  go_enter Tryz.func98, Tryz.ntmps98
  go_wp2_with (go_at_call 110; refine (KC.out _).mono ?_; rintro e w2 ⟨rfl, hb2⟩)
  go_ret
  exact ret_below HR.out ((HB.out _).trans (hb2.mono (by simp)))
set_option maxHeartbeats 8000000 in
/-- impl.stepOk -/
theorem stepOk_any (s : Pl.Sv) (ao : Option Addr) (cap mb mo cp : Nat) (w : World) (hm : Mt w mb mo cp) (hr : RdI w.heap.size w ao s.nums) (hl : s.nums.length ≤ 1048576) (hn1 : s.nm.length ≤ 1048576) (hn2 : s.fn.nm.length ≤ 1048576) :
    Calls Tryz.prog 85 #[.agg #[.int .i64 s.k, .slice ao s.nums.length cap, .string (Pl.ba s.nm), .int .i64 s.fn.k, .int .i64 s.fn.a, .int .i64 s.fn.b, .string (Pl.ba s.fn.nm)]] w fun e w' => e = .returned (.bool (Pl.sok s)) ∧ Below w.heap.size w w' := by
  have HB : Hid (∀ o, Below w.heap.size w (w.alloc o)) := fun o => (Below.refl _ _).alloc (Nat.le_refl _) _
  have KN : Hid (∀ o, Calls Tryz.prog 96 #[.slice ao s.nums.length cap] (w.alloc o) fun e w' => e = .returned (.bool (Pl.numsB s.nums)) ∧ w' = w.alloc o) := fun o => numsOk_any s.nums ao cap w.heap.size (w.alloc o) (hr.keep (HB.out o)) hl
  have KW : Hid (∀ o, Calls Tryz.prog 47 #[.string (Pl.ba s.nm)] (w.alloc o) fun e w' => e = .returned (.int .i64 (Pl.wk s.nm)) ∧ Below (w.alloc o).heap.size (w.alloc o) w') := fun o => wordKind_any (Pl.ba s.nm) mb mo cp (w.alloc o) (hm.keep (HB.out o)) (by rw [Pl.ba_size]; omega)
  have K1 : Hid (∀ o, Calls Tryz.prog 97 #[.agg #[.int .i64 s.fn.k, .int .i64 s.fn.a, .int .i64 s.fn.b, .string (Pl.ba s.fn.nm)]] (w.alloc o) fun e w' => e = .returned (.bool (Pl.oneB s.fn)) ∧ Below (w.alloc o).heap.size (w.alloc o) w') := fun o => oneOk_any s.fn mb mo cp (w.alloc o) (hm.keep (HB.out o)) hn2
  have K2 : Hid (∀ o, Calls Tryz.prog 98 #[.agg #[.int .i64 s.fn.k, .int .i64 s.fn.a, .int .i64 s.fn.b, .string (Pl.ba s.fn.nm)]] (w.alloc o) fun e w' => e = .returned (.bool (Pl.twoB s.fn)) ∧ Below (w.alloc o).heap.size (w.alloc o) w') := fun o => twoOk_any s.fn mb mo cp (w.alloc o) (hm.keep (HB.out o)) hn2
  have hqn := ba_beq s.nm
  have heq := eq78 s.fn.k s.fn.a s.fn.b 0 0 0 (Pl.ba s.fn.nm) ⟨#[]⟩
  rw [← Pl.f0_iff] at heq
  have C : Hid (∀ (w1 w' : World) (j : Nat) (v : Value), Below w1.heap.size w1 w' → w.heap.size < w1.heap.size → w1.cell? ⟨w.heap.size, j, none⟩ = some v → w'.cell? ⟨w.heap.size, j, none⟩ = some v) := fun w1 w' j v hb h1 h => (hb.cell (p := ⟨w.heap.size, j, none⟩) h1).trans h
  have HF : Hid (Pl.sok s = if s.k = 1 then Pl.numsB s.nums && decide (s.nm = []) && decide (s.fn = Pl.f0) else if s.k = 2 then decide (Pl.wk s.nm = 2) && decide (s.nums.length = 0) && decide (s.fn = Pl.f0) else if s.k = 3 then Pl.oneB s.fn && decide (s.nums.length = 0) && decide (s.nm = []) else if s.k = 4 then Pl.twoB s.fn && decide (s.nums.length = 0) && decide (s.nm = []) else false) := by
    show _ = _
    have e : decide (s.nums = []) = decide (s.nums.length = 0) := by rw [Bool.eq_iff_iff]; simp
    unfold Pl.sok
    rw [e]
  clear hm hr
  generalize Pl.sok s = r at *
  generalize Pl.numsB s.nums = nb at *
  generalize Pl.oneB s.fn = ob at *
  generalize Pl.twoB s.fn = tb at *
  generalize Pl.wk s.nm = z at *
  generalize decide (s.fn = Pl.f0) = q at *
  generalize decide (s.nm = []) = nn at *
  generalize Pl.ba s.nm = nm at *
  generalize Pl.ba s.fn.nm = fnm at *
  generalize s.fn.k = fk at *
  generalize s.fn.a = fa at *
  generalize s.fn.b = fb at *
  generalize s.k = k at *
  generalize s.nums.length = L at *
  by_cases k1 : k = 1
  · subst k1
    have HR := hideP (show r = (nb && nn && q) by rw [HF.out]; simp)
    clear KW K1 K2
    cases nb <;> cases nn
    · skip
      go_enter Tryz.func85, Tryz.ntmps85
      go_wp2_with (go_at_call 96; refine (KN.out _).mono ?_; rintro e w2 ⟨rfl, rfl⟩)
      go_ret
      exact ret_below (HR.out.trans (by simp)) (HB.out _)
    · skip
      go_enter Tryz.func85, Tryz.ntmps85
      go_wp2_with (go_at_call 96; refine (KN.out _).mono ?_; rintro e w2 ⟨rfl, rfl⟩)
      go_ret
      exact ret_below (HR.out.trans (by simp)) (HB.out _)
    · skip
      go_enter Tryz.func85, Tryz.ntmps85
      go_wp2_with (go_at_call 96; refine (KN.out _).mono ?_; rintro e w2 ⟨rfl, rfl⟩)
      go_ret
      exact ret_below (HR.out.trans (by simp)) (HB.out _)
    · skip
      go_enter Tryz.func85, Tryz.ntmps85
      go_wp2_with (go_at_call 96; refine (KN.out _).mono ?_; rintro e w2 ⟨rfl, rfl⟩)
      go_ret
      exact ret_below (HR.out.trans (by simp)) (HB.out _)
  have f1 : (k == 1) = false := by simp [k1]
  by_cases k2 : k = 2
  · subst k2
    clear f1 k1 KN K1 K2
    have HR := hideP (show r = (decide (z = 2) && decide (L = 0) && q) by rw [HF.out]; simp)
    clear HF
    by_cases hz : z = 2
    · subst hz
      by_cases h0 : L = 0
      · subst h0
        go_enter Tryz.func85, Tryz.ntmps85
        go_wp2_with fail
        refine (KW.out _).mono ?_
        rintro e w2 ⟨rfl, hb2⟩
        have d1 := C.out _ _ 1 _ hb2 (by simp) (by simp [go_sem]; rfl)
        have d3 := C.out _ _ 3 _ hb2 (by simp) (by simp [go_sem]; rfl)
        have d4 := C.out _ _ 4 _ hb2 (by simp) (by simp [go_sem]; rfl)
        have d5 := C.out _ _ 5 _ hb2 (by simp) (by simp [go_sem]; rfl)
        have d6 := C.out _ _ 6 _ hb2 (by simp) (by simp [go_sem]; rfl)
        have HBB := hideP ((HB.out _).trans (hb2.mono (by simp)))
        clear hb2
        go_wp2_with fail
        go_ret
        exact ret_below (HR.out.trans (by simp)) HBB.out
      · have hb0 : ((L : Int) == 0) = false := by simp [h0]
        have HR2 := hideP (show r = false by rw [HR.out]; simp [h0])
        clear h0 HR
        have HR := HR2
        go_enter Tryz.func85, Tryz.ntmps85
        go_wp2_with fail
        refine (KW.out _).mono ?_
        rintro e w2 ⟨rfl, hb2⟩
        have d1 := C.out _ _ 1 _ hb2 (by simp) (by simp [go_sem]; rfl)
        have HBB := hideP ((HB.out _).trans (hb2.mono (by simp)))
        clear hb2
        go_wp2_with fail
        go_ret
        exact ret_below (HR.out.trans (by simp)) HBB.out
    · have hzb : (z == 2) = false := by simp [hz]
      have HR2 := hideP (show r = false by rw [HR.out]; simp [hz])
      clear hz HR
      have HR := HR2
      go_enter Tryz.func85, Tryz.ntmps85
      go_wp2_with (go_at_call 47; refine (KW.out _).mono ?_; rintro e w2 ⟨rfl, hb2⟩)
      go_ret
      exact ret_below (HR.out.trans (by simp)) ((HB.out _).trans (hb2.mono (by simp)))
  have f2 : (k == 2) = false := by simp [k2]
  by_cases k3 : k = 3
  · subst k3
    clear f1 k1 f2 k2 KN KW
    have HR := hideP (show r = (ob && decide (L = 0) && nn) by rw [HF.out]; simp)
    clear HF
    cases ob
    · skip
      go_enter Tryz.func85, Tryz.ntmps85
      go_wp2_with (go_at_call 97; refine (K1.out _).mono ?_; rintro e w2 ⟨rfl, hb2⟩)
      go_ret
      exact ret_below (HR.out.trans (by simp)) ((HB.out _).trans (hb2.mono (by simp)))
    · by_cases h0 : L = 0
      · subst h0
        go_enter Tryz.func85, Tryz.ntmps85
        go_wp2_with fail
        refine (K1.out _).mono ?_
        rintro e w2 ⟨rfl, hb2⟩
        have d1 := C.out _ _ 1 _ hb2 (by simp) (by simp [go_sem]; rfl)
        have d2 := C.out _ _ 2 _ hb2 (by simp) (by simp [go_sem]; rfl)
        have HBB := hideP ((HB.out _).trans (hb2.mono (by simp)))
        clear hb2
        go_wp2_with fail
        go_ret
        exact ret_below (HR.out.trans (by simp)) HBB.out
      · have hb0 : ((L : Int) == 0) = false := by simp [h0]
        have HR2 := hideP (show r = false by rw [HR.out]; simp [h0])
        clear h0 HR
        have HR := HR2
        go_enter Tryz.func85, Tryz.ntmps85
        go_wp2_with fail
        refine (K1.out _).mono ?_
        rintro e w2 ⟨rfl, hb2⟩
        have d1 := C.out _ _ 1 _ hb2 (by simp) (by simp [go_sem]; rfl)
        have HBB := hideP ((HB.out _).trans (hb2.mono (by simp)))
        clear hb2
        go_wp2_with fail
        go_ret
        exact ret_below (HR.out.trans (by simp)) HBB.out
  have f3 : (k == 3) = false := by simp [k3]
  by_cases k4 : k = 4
  · subst k4
    clear f1 k1 f2 k2 KN KW f3 k3
    have HR := hideP (show r = (tb && decide (L = 0) && nn) by rw [HF.out]; simp)
    clear HF
    cases tb
    · skip
      go_enter Tryz.func85, Tryz.ntmps85
      go_wp2_with (go_at_call 98; refine (K2.out _).mono ?_; rintro e w2 ⟨rfl, hb2⟩)
      go_ret
      exact ret_below (HR.out.trans (by simp)) ((HB.out _).trans (hb2.mono (by simp)))
    · by_cases h0 : L = 0
      · subst h0
        go_enter Tryz.func85, Tryz.ntmps85
        go_wp2_with fail
        refine (K2.out _).mono ?_
        rintro e w2 ⟨rfl, hb2⟩
        have d1 := C.out _ _ 1 _ hb2 (by simp) (by simp [go_sem]; rfl)
        have d2 := C.out _ _ 2 _ hb2 (by simp) (by simp [go_sem]; rfl)
        have HBB := hideP ((HB.out _).trans (hb2.mono (by simp)))
        clear hb2
        go_wp2_with fail
        go_ret
        exact ret_below (HR.out.trans (by simp)) HBB.out
      · have hb0 : ((L : Int) == 0) = false := by simp [h0]
        have HR2 := hideP (show r = false by rw [HR.out]; simp [h0])
        clear h0 HR
        have HR := HR2
        go_enter Tryz.func85, Tryz.ntmps85
        go_wp2_with fail
        refine (K2.out _).mono ?_
        rintro e w2 ⟨rfl, hb2⟩
        have d1 := C.out _ _ 1 _ hb2 (by simp) (by simp [go_sem]; rfl)
        have HBB := hideP ((HB.out _).trans (hb2.mono (by simp)))
        clear hb2
        go_wp2_with fail
        go_ret
        exact ret_below (HR.out.trans (by simp)) HBB.out
  have f4 : (k == 4) = false := by simp [k4]
  have HR := hideP (show r = false by rw [HF.out]; simp [k1, k2, k3, k4])
  clear k1 k2 k3 k4 HF
  go_enter Tryz.func85, Tryz.ntmps85
  go_wp2_with fail
  go_ret
  exact ret_below HR.out (HB.out _)
/-- a node as impl holds it -/
def NdV (B : Nat) (w : World) : Pl.Nd Pl.Sv → Value → Prop
  | .at s, v => (s.k = 1 ∧ ∃ an cn, v = .iface 131 (.agg #[.slice an s.nums.length cn]) ∧ RdI B w an s.nums) ∨ (s.k = 2 ∧ v = .iface 133 (.agg #[.string (Pl.ba s.nm)]))
  | .one s r, v => ∃ vr, v = .iface 135 (.agg #[.int .i64 s.fn.k, .int .i64 s.fn.a, .int .i64 s.fn.b, .string (Pl.ba s.fn.nm), vr]) ∧ NdV B w r vr
  | .two s l r, v => ∃ vl vr, v = .iface 138 (.agg #[vl, .int .i64 s.fn.k, .int .i64 s.fn.a, .int .i64 s.fn.b, .string (Pl.ba s.fn.nm), vr]) ∧ NdV B w l vl ∧ NdV B w r vr
theorem NdV.keep {B : Nat} {w w' : World} (hb : Below B w w') : ∀ {t : Pl.Nd Pl.Sv} {v : Value}, NdV B w t v → NdV B w' t v := by
  intro t
  induction t with
  | «at» s =>
    intro v h
    rcases h with ⟨h1, an, cn, h2, h3⟩ | h
    · exact .inl ⟨h1, an, cn, h2, h3.keep hb⟩
    · exact .inr h
  | one s r ih =>
    intro v h
    obtain ⟨vr, h1, h2⟩ := h
    exact ⟨vr, h1, ih h2⟩
  | two s l r il ir =>
    intro v h
    obtain ⟨vl, vr, h1, h2, h3⟩ := h
    exact ⟨vl, vr, h1, il h2, ir h3⟩
theorem NdV.iface {B : Nat} {w : World} {t : Pl.Nd Pl.Sv} {v : Value} (h : NdV B w t v) : ∃ T p, v = .iface T p := by
  cases t with
  | «at» s =>
    rcases h with ⟨_, an, cn, h2, _⟩ | ⟨_, h⟩
    · exact ⟨_, _, h2⟩
    · exact ⟨_, _, h⟩
  | one s r => obtain ⟨vr, h1, _⟩ := h; exact ⟨_, _, h1⟩
  | two s l r => obtain ⟨vl, vr, h1, _⟩ := h; exact ⟨_, _, h1⟩
/-- impl.stepNode at a step without arguments -/
theorem stepNode_at (s : Pl.Sv) (an : Option Addr) (cn : Nat) (ao : Option Addr) (n cp : Nat) (hk : s.k = 1 ∨ s.k = 2) (B : Nat) (w : World) (hB : B ≤ w.heap.size) (hr : RdI B w an s.nums) :
    Calls Tryz.prog 86 #[.agg #[.int .i64 s.k, .slice an s.nums.length cn, .string (Pl.ba s.nm), .int .i64 s.fn.k, .int .i64 s.fn.a, .int .i64 s.fn.b, .string (Pl.ba s.fn.nm)], .slice ao n cp] w fun e w' => (∃ v, e = .returned v ∧ NdV B w' (.at s) v) ∧ Below w.heap.size w w' := by
  have HB : Hid (∀ o, Below w.heap.size w (w.alloc o)) := fun o => (Below.refl _ _).alloc (Nat.le_refl _) _
  rcases hk with hk | hk
  · have HN : Hid (∀ w', Below w.heap.size w w' → NdV B w' (.at s) (.iface 131 (.agg #[.slice an s.nums.length cn]))) := fun w' h => .inl ⟨hk, an, cn, rfl, hr.keep (h.mono hB)⟩
    clear hr
    rw [hk]
    generalize s.nums.length = L at *
    generalize Pl.ba s.nm = nm at *
    generalize Pl.ba s.fn.nm = fnm at *
    generalize s.fn.k = fk at *
    generalize s.fn.a = fa at *
    generalize s.fn.b = fb at *
    clear hk
    go_enter Tryz.func86, Tryz.ntmps86
    go_wp2
    go_ret
    exact ⟨⟨_, rfl, HN.out _ (HB.out _)⟩, HB.out _⟩
  · have HN : Hid (∀ w', NdV B w' (.at s) (.iface 133 (.agg #[.string (Pl.ba s.nm)]))) := fun w' => .inr ⟨hk, rfl⟩
    clear hr
    rw [hk]
    generalize s.nums.length = L at *
    generalize Pl.ba s.nm = nm at *
    generalize Pl.ba s.fn.nm = fnm at *
    generalize s.fn.k = fk at *
    generalize s.fn.a = fa at *
    generalize s.fn.b = fb at *
    clear hk
    go_enter Tryz.func86, Tryz.ntmps86
    go_wp2
    go_ret
    exact ⟨⟨_, rfl, HN.out _⟩, HB.out _⟩
theorem stepNode_one (s : Pl.Sv) (t : Pl.Nd Pl.Sv) (an : Option Addr) (cn : Nat) (g o cp : Nat) (v0 : Value) (hk : s.k = 3) (B : Nat) (w : World) (hB : B ≤ w.heap.size) (hg : g < w.heap.size) (h0 : w.cell? ⟨g, o, none⟩ = some v0) (hv : NdV B w t v0) :
    Calls Tryz.prog 86 #[.agg #[.int .i64 s.k, .slice an s.nums.length cn, .string (Pl.ba s.nm), .int .i64 s.fn.k, .int .i64 s.fn.a, .int .i64 s.fn.b, .string (Pl.ba s.fn.nm)], .slice (some ⟨g, o, none⟩) 1 cp] w fun e w' => (∃ v, e = .returned v ∧ NdV B w' (.one s t) v) ∧ Below w.heap.size w w' := by
  have HB : Hid (∀ o, Below w.heap.size w (w.alloc o)) := fun o => (Below.refl _ _).alloc (Nat.le_refl _) _
  have HN : Hid (∀ w', Below w.heap.size w w' → NdV B w' (.one s t) (.iface 135 (.agg #[.int .i64 s.fn.k, .int .i64 s.fn.a, .int .i64 s.fn.b, .string (Pl.ba s.fn.nm), v0]))) := fun w' h => ⟨v0, rfl, NdV.keep (h.mono hB) hv⟩
  have hc : ∀ ob, (w.alloc ob).cell? ⟨g, o, none⟩ = some v0 := fun ob => ((HB.out ob).cell (p := ⟨g, o, none⟩) hg).trans h0
  obtain ⟨T0, p0, rfl⟩ := hv.iface
  clear hv h0
  rw [hk]
  generalize s.nums.length = L at *
  generalize Pl.ba s.nm = nm at *
  generalize Pl.ba s.fn.nm = fnm at *
  generalize s.fn.k = fk at *
  generalize s.fn.a = fa at *
  generalize s.fn.b = fb at *
  clear hk
  go_enter Tryz.func86, Tryz.ntmps86
  go_wp2
  go_quiet (fail)
  go_wp2
  go_ret
  exact ⟨⟨_, rfl, HN.out _ (below_drewN (HB.out _) _)⟩, below_drewN (HB.out _) _⟩
theorem stepNode_two (s : Pl.Sv) (tl tr : Pl.Nd Pl.Sv) (an : Option Addr) (cn : Nat) (g o cp : Nat) (v0 v1 : Value) (hk : s.k = 4) (B : Nat) (w : World) (hB : B ≤ w.heap.size) (hg : g < w.heap.size) (h0 : w.cell? ⟨g, o, none⟩ = some v0) (h1 : w.cell? ⟨g, o + 1, none⟩ = some v1) (hv0 : NdV B w tr v0) (hv1 : NdV B w tl v1) :
    Calls Tryz.prog 86 #[.agg #[.int .i64 s.k, .slice an s.nums.length cn, .string (Pl.ba s.nm), .int .i64 s.fn.k, .int .i64 s.fn.a, .int .i64 s.fn.b, .string (Pl.ba s.fn.nm)], .slice (some ⟨g, o, none⟩) 2 cp] w fun e w' => (∃ v, e = .returned v ∧ NdV B w' (.two s tl tr) v) ∧ Below w.heap.size w w' := by
  have HB : Hid (∀ o, Below w.heap.size w (w.alloc o)) := fun o => (Below.refl _ _).alloc (Nat.le_refl _) _
  have HN : Hid (∀ w', Below w.heap.size w w' → NdV B w' (.two s tl tr) (.iface 138 (.agg #[v1, .int .i64 s.fn.k, .int .i64 s.fn.a, .int .i64 s.fn.b, .string (Pl.ba s.fn.nm), v0]))) := fun w' h => ⟨v1, v0, rfl, NdV.keep (h.mono hB) hv1, NdV.keep (h.mono hB) hv0⟩
  have hc : ∀ ob, (w.alloc ob).cell? ⟨g, o, none⟩ = some v0 := fun ob => ((HB.out ob).cell (p := ⟨g, o, none⟩) hg).trans h0
  have hc1 : ∀ ob, (w.alloc ob).cell? ⟨g, o + 1, none⟩ = some v1 := fun ob => ((HB.out ob).cell (p := ⟨g, o + 1, none⟩) hg).trans h1
  obtain ⟨T0, p0, rfl⟩ := hv0.iface
  obtain ⟨T1, p1, rfl⟩ := hv1.iface
  clear hv0 hv1 h0 h1
  rw [hk]
  generalize s.nums.length = L at *
  generalize Pl.ba s.nm = nm at *
  generalize Pl.ba s.fn.nm = fnm at *
  generalize s.fn.k = fk at *
  generalize s.fn.a = fa at *
  generalize s.fn.b = fb at *
  clear hk
  go_enter Tryz.func86, Tryz.ntmps86
  go_wp2
  go_quiet (fail)
  go_wp2
  go_ret
  exact ⟨⟨_, rfl, HN.out _ (below_drewN (HB.out _) _)⟩, below_drewN (HB.out _) _⟩
end Go.Proofs.YthhfpcdbgndioaaGreatDoor
