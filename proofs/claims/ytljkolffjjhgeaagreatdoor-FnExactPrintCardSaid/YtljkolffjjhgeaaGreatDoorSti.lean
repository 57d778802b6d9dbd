import Derived.Test.YtljkolffjjhgeaaGreatDoorOks
namespace Go.Proofs.YtljkolffjjhgeaaGreatDoor
open Go.RowKit
set_option linter.unusedVariables false
set_option maxRecDepth 100000
set_option maxHeartbeats 8000000 in
/-- impl.stepOk -/
theorem stepOk_any (s : Pl.Sv) (ao : Option Addr) (cap mb mo cp : Nat) (w : World) (hm : Mt w mb mo cp) (hr : RdI w.heap.size w ao s.nums) (hl : s.nums.length ≤ 1048576) (hn1 : s.nm.length ≤ 1048576) (hn2 : s.fn.nm.length ≤ 1048576) :
    Calls Tryz.prog 70 #[.agg #[.int .i64 s.k, .slice ao s.nums.length cap, .string (Pl.ba s.nm), .int .i64 s.fn.k, .int .i64 s.fn.a, .int .i64 s.fn.b, .string (Pl.ba s.fn.nm)]] w fun e w' => e = .returned (.bool (Pl.sok s)) ∧ Below w.heap.size w w' := by
  have HB : Hid (∀ o, Below w.heap.size w (w.alloc o)) := fun o => (Below.refl _ _).alloc (Nat.le_refl _) _
  have KN : Hid (∀ o, Calls Tryz.prog 78 #[.slice ao s.nums.length cap] (w.alloc o) fun e w' => e = .returned (.bool (Pl.numsB s.nums)) ∧ w' = w.alloc o) := fun o => numsOk_any s.nums ao cap w.heap.size (w.alloc o) (hr.keep (HB.out o)) hl
  have KW : Hid (∀ o, Calls Tryz.prog 45 #[.string (Pl.ba s.nm)] (w.alloc o) fun e w' => e = .returned (.int .i64 (Pl.wk s.nm)) ∧ Below (w.alloc o).heap.size (w.alloc o) w') := fun o => wordKind_any (Pl.ba s.nm) mb mo cp (w.alloc o) (hm.keep (HB.out o)) (by rw [Pl.ba_size]; omega)
  have K1 : Hid (∀ o, Calls Tryz.prog 79 #[.agg #[.int .i64 s.fn.k, .int .i64 s.fn.a, .int .i64 s.fn.b, .string (Pl.ba s.fn.nm)]] (w.alloc o) fun e w' => e = .returned (.bool (Pl.oneB s.fn)) ∧ Below (w.alloc o).heap.size (w.alloc o) w') := fun o => oneOk_any s.fn mb mo cp (w.alloc o) (hm.keep (HB.out o)) hn2
  have K2 : Hid (∀ o, Calls Tryz.prog 80 #[.agg #[.int .i64 s.fn.k, .int .i64 s.fn.a, .int .i64 s.fn.b, .string (Pl.ba s.fn.nm)]] (w.alloc o) fun e w' => e = .returned (.bool (Pl.twoB s.fn)) ∧ Below (w.alloc o).heap.size (w.alloc o) w') := fun o => twoOk_any s.fn mb mo cp (w.alloc o) (hm.keep (HB.out o)) hn2
  have hqn := ba_beq s.nm
  have heq := eq78 s.fn.k s.fn.a s.fn.b 0 0 0 (Pl.ba s.fn.nm) ⟨#[]⟩
  rw [← Pl.f0_iff] at heq
  have C : Hid (∀ (w1 w' : World) (j : Nat) (v : Value), Below w1.heap.size w1 w' → w.heap.size < w1.heap.size → w1.cell? ⟨w.heap.size, j, none⟩ = some v → w'.cell? ⟨w.heap.size, j, none⟩ = some v) := fun w1 w' j v hb h1 h => (hb.cell (p := ⟨w.heap.size, j, none⟩) h1).trans h
  have HF : Hid (Pl.sok s = if s.k = 1 then Pl.numsB s.nums && decide (s.nm = []) && decide (s.fn = Pl.f0) else if s.k = 2 then decide (Pl.wk s.nm = 2) && decide (s.nums.length = 0) && decide (s.fn = Pl.f0) else if s.k = 3 then Pl.oneB s.fn && decide (s.nums.length = 0) && decide (s.nm = []) else if s.k = 4 then Pl.twoB s.fn && decide (s.nums.length = 0) && decide (s.nm = []) else false) := by
    show _ = _
    have e : decide (s.nums = []) = decide (s.nums.length = 0) := by rw [Bool.eq_iff_iff]; simp
    unfold Pl.sok
    rw [e]
  clear hm hr
  generalize Pl.sok s = r at *
  generalize Pl.numsB s.nums = nb at *
  generalize Pl.oneB s.fn = ob at *
  generalize Pl.twoB s.fn = tb at *
  generalize Pl.wk s.nm = z at *
  generalize decide (s.fn = Pl.f0) = q at *
  generalize decide (s.nm = []) = nn at *
  generalize Pl.ba s.nm = nm at *
  generalize Pl.ba s.fn.nm = fnm at *
  generalize s.fn.k = fk at *
  generalize s.fn.a = fa at *
  generalize s.fn.b = fb at *
  generalize s.k = k at *
  generalize s.nums.length = L at *
  by_cases k1 : k = 1
  · subst k1
    have HR := hideP (show r = (nb && nn && q) by rw [HF.out]; simp)
    clear KW K1 K2
    cases nb <;> cases nn
    · skip
      go_enter Tryz.func70, Tryz.ntmps70
      go_wp2_with (go_at_call 78; refine (KN.out _).mono ?_; rintro e w2 ⟨rfl, rfl⟩)
      go_ret
      exact ret_below (HR.out.trans (by simp)) (HB.out _)
    · skip
      go_enter Tryz.func70, Tryz.ntmps70
      go_wp2_with (go_at_call 78; refine (KN.out _).mono ?_; rintro e w2 ⟨rfl, rfl⟩)
      go_ret
      exact ret_below (HR.out.trans (by simp)) (HB.out _)
    · skip
      go_enter Tryz.func70, Tryz.ntmps70
      go_wp2_with (go_at_call 78; refine (KN.out _).mono ?_; rintro e w2 ⟨rfl, rfl⟩)
      go_ret
      exact ret_below (HR.out.trans (by simp)) (HB.out _)
    · skip
      go_enter Tryz.func70, Tryz.ntmps70
      go_wp2_with (go_at_call 78; refine (KN.out _).mono ?_; rintro e w2 ⟨rfl, rfl⟩)
      go_ret
      exact ret_below (HR.out.trans (by simp)) (HB.out _)
  have f1 : (k == 1) = false := by simp [k1]
  by_cases k2 : k = 2
  · subst k2
    clear f1 k1 KN K1 K2
    have HR := hideP (show r = (decide (z = 2) && decide (L = 0) && q) by rw [HF.out]; simp)
    clear HF
    by_cases hz : z = 2
    · subst hz
      by_cases h0 : L = 0
      · subst h0
        go_enter Tryz.func70, Tryz.ntmps70
        go_wp2_with fail
        refine (KW.out _).mono ?_
        rintro e w2 ⟨rfl, hb2⟩
        have d1 := C.out _ _ 1 _ hb2 (by simp) (by simp [go_sem]; rfl)
        have d3 := C.out _ _ 3 _ hb2 (by simp) (by simp [go_sem]; rfl)
        have d4 := C.out _ _ 4 _ hb2 (by simp) (by simp [go_sem]; rfl)
        have d5 := C.out _ _ 5 _ hb2 (by simp) (by simp [go_sem]; rfl)
        have d6 := C.out _ _ 6 _ hb2 (by simp) (by simp [go_sem]; rfl)
        have HBB := hideP ((HB.out _).trans (hb2.mono (by simp)))
        clear hb2
        go_wp2_with fail
        go_ret
        exact ret_below (HR.out.trans (by simp)) HBB.out
      · have hb0 : ((L : Int) == 0) = false := by simp [h0]
        have HR2 := hideP (show r = false by rw [HR.out]; simp [h0])
        clear h0 HR
        have HR := HR2
        go_enter Tryz.func70, Tryz.ntmps70
        go_wp2_with fail
        refine (KW.out _).mono ?_
        rintro e w2 ⟨rfl, hb2⟩
        have d1 := C.out _ _ 1 _ hb2 (by simp) (by simp [go_sem]; rfl)
        have HBB := hideP ((HB.out _).trans (hb2.mono (by simp)))
        clear hb2
        go_wp2_with fail
        go_ret
        exact ret_below (HR.out.trans (by simp)) HBB.out
    · have hzb : (z == 2) = false := by simp [hz]
      have HR2 := hideP (show r = false by rw [HR.out]; simp [hz])
      clear hz HR
      have HR := HR2
      go_enter Tryz.func70, Tryz.ntmps70
      go_wp2_with (go_at_call 45; refine (KW.out _).mono ?_; rintro e w2 ⟨rfl, hb2⟩)
      go_ret
      exact ret_below (HR.out.trans (by simp)) ((HB.out _).trans (hb2.mono (by simp)))
  have f2 : (k == 2) = false := by simp [k2]
  by_cases k3 : k = 3
  · subst k3
    clear f1 k1 f2 k2 KN KW
    have HR := hideP (show r = (ob && decide (L = 0) && nn) by rw [HF.out]; simp)
    clear HF
    cases ob
    · skip
      go_enter Tryz.func70, Tryz.ntmps70
      go_wp2_with (go_at_call 79; refine (K1.out _).mono ?_; rintro e w2 ⟨rfl, hb2⟩)
      go_ret
      exact ret_below (HR.out.trans (by simp)) ((HB.out _).trans (hb2.mono (by simp)))
    · by_cases h0 : L = 0
      · subst h0
        go_enter Tryz.func70, Tryz.ntmps70
        go_wp2_with fail
        refine (K1.out _).mono ?_
        rintro e w2 ⟨rfl, hb2⟩
        have d1 := C.out _ _ 1 _ hb2 (by simp) (by simp [go_sem]; rfl)
        have d2 := C.out _ _ 2 _ hb2 (by simp) (by simp [go_sem]; rfl)
        have HBB := hideP ((HB.out _).trans (hb2.mono (by simp)))
        clear hb2
        go_wp2_with fail
        go_ret
        exact ret_below (HR.out.trans (by simp)) HBB.out
      · have hb0 : ((L : Int) == 0) = false := by simp [h0]
        have HR2 := hideP (show r = false by rw [HR.out]; simp [h0])
        clear h0 HR
        have HR := HR2
        go_enter Tryz.func70, Tryz.ntmps70
        go_wp2_with fail
        refine (K1.out _).mono ?_
        rintro e w2 ⟨rfl, hb2⟩
        have d1 := C.out _ _ 1 _ hb2 (by simp) (by simp [go_sem]; rfl)
        have HBB := hideP ((HB.out _).trans (hb2.mono (by simp)))
        clear hb2
        go_wp2_with fail
        go_ret
        exact ret_below (HR.out.trans (by simp)) HBB.out
  have f3 : (k == 3) = false := by simp [k3]
  by_cases k4 : k = 4
  · subst k4
    clear f1 k1 f2 k2 KN KW f3 k3
    have HR := hideP (show r = (tb && decide (L = 0) && nn) by rw [HF.out]; simp)
    clear HF
    cases tb
    · skip
      go_enter Tryz.func70, Tryz.ntmps70
      go_wp2_with (go_at_call 80; refine (K2.out _).mono ?_; rintro e w2 ⟨rfl, hb2⟩)
      go_ret
      exact ret_below (HR.out.trans (by simp)) ((HB.out _).trans (hb2.mono (by simp)))
    · by_cases h0 : L = 0
      · subst h0
        go_enter Tryz.func70, Tryz.ntmps70
        go_wp2_with fail
        refine (K2.out _).mono ?_
        rintro e w2 ⟨rfl, hb2⟩
        have d1 := C.out _ _ 1 _ hb2 (by simp) (by simp [go_sem]; rfl)
        have d2 := C.out _ _ 2 _ hb2 (by simp) (by simp [go_sem]; rfl)
        have HBB := hideP ((HB.out _).trans (hb2.mono (by simp)))
        clear hb2
        go_wp2_with fail
        go_ret
        exact ret_below (HR.out.trans (by simp)) HBB.out
      · have hb0 : ((L : Int) == 0) = false := by simp [h0]
        have HR2 := hideP (show r = false by rw [HR.out]; simp [h0])
        clear h0 HR
        have HR := HR2
        go_enter Tryz.func70, Tryz.ntmps70
        go_wp2_with fail
        refine (K2.out _).mono ?_
        rintro e w2 ⟨rfl, hb2⟩
        have d1 := C.out _ _ 1 _ hb2 (by simp) (by simp [go_sem]; rfl)
        have HBB := hideP ((HB.out _).trans (hb2.mono (by simp)))
        clear hb2
        go_wp2_with fail
        go_ret
        exact ret_below (HR.out.trans (by simp)) HBB.out
  have f4 : (k == 4) = false := by simp [k4]
  have HR := hideP (show r = false by rw [HF.out]; simp [k1, k2, k3, k4])
  clear k1 k2 k3 k4 HF
  go_enter Tryz.func70, Tryz.ntmps70
  go_wp2_with fail
  go_ret
  exact ret_below HR.out (HB.out _)
end Go.Proofs.YtljkolffjjhgeaaGreatDoor
