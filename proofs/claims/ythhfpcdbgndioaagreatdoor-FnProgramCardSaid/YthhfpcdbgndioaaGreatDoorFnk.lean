import Derived.Test.YthhfpcdbgndioaaGreatDoorItf
namespace Go.Proofs.YthhfpcdbgndioaaGreatDoor
open Go.RowKit
set_option linter.unusedVariables false
set_option maxRecDepth 100000
/-- a fresh list of tokens -/
def FnkPost (l : List (List UInt8)) (w : World) (e : Ending) (w' : World) : Prop :=
  ∃ b, e = .returned (.slice (some ⟨b, 0, none⟩) l.length l.length) ∧ (∀ (j : Nat) (t : List UInt8), l[j]? = some t → w'.cell? ⟨b, j, none⟩ = some (.string (Pl.ba t))) ∧ Below w.heap.size w w' ∧ w.heap.size ≤ b ∧ b < w'.heap.size
theorem fnk1 {w w2 : World} (x : List UInt8) (hb : Below w.heap.size w w2) : FnkPost [x] w (.returned (.slice (some ⟨w2.heap.size, 0, none⟩) 1 1)) (w2.alloc (.cells #[.string (Pl.ba x)] 9)) := by
  refine ⟨w2.heap.size, rfl, fun j t hj => ?_, hb.alloc hb.size _, hb.size, by simp⟩
  match j, hj with
  | 0, hj => simp at hj; subst hj; simp [go_sem]
  | j + 1, hj => simp at hj
theorem fnk2 {w w2 : World} (x y : List UInt8) (hb : Below w.heap.size w w2) : FnkPost [x, y] w (.returned (.slice (some ⟨w2.heap.size, 0, none⟩) 2 2)) (w2.alloc (.cells #[.string (Pl.ba x), .string (Pl.ba y)] 9)) := by
  refine ⟨w2.heap.size, rfl, fun j t hj => ?_, hb.alloc hb.size _, hb.size, by simp⟩
  match j, hj with
  | 0, hj => simp at hj; subst hj; simp [go_sem]
  | 1, hj => simp at hj; subst hj; simp [go_sem]
  | j + 2, hj => simp at hj
theorem fnk3 {w w2 : World} (x y z : List UInt8) (hb : Below w.heap.size w w2) : FnkPost [x, y, z] w (.returned (.slice (some ⟨w2.heap.size, 0, none⟩) 3 3)) (w2.alloc (.cells #[.string (Pl.ba x), .string (Pl.ba y), .string (Pl.ba z)] 9)) := by
  refine ⟨w2.heap.size, rfl, fun j t hj => ?_, hb.alloc hb.size _, hb.size, by simp⟩
  match j, hj with
  | 0, hj => simp at hj; subst hj; simp [go_sem]
  | 1, hj => simp at hj; subst hj; simp [go_sem]
  | 2, hj => simp at hj; subst hj; simp [go_sem]
  | j + 3, hj => simp at hj
set_option maxHeartbeats 8000000 in
/-- impl.fnTokens -/
theorem fnTokens_any (f : Pl.Fnv) (mb mo cp : Nat) (w : World) (hm : Mt w mb mo cp) :
    Calls Tryz.prog 89 #[.agg #[.int .i64 f.k, .int .i64 f.a, .int .i64 f.b, .string (Pl.ba f.nm)]] w (FnkPost (Pl.ftk f) w) := by
  have HB : Hid (∀ o, Below w.heap.size w (w.alloc o)) := fun o => (Below.refl _ _).alloc (Nat.le_refl _) _
  have KS : Hid (∀ o, Calls Tryz.prog 103 #[.agg #[.int .i64 f.k, .int .i64 f.a, .int .i64 f.b, .string (Pl.ba f.nm)]] (w.alloc o) fun e w' => e = .returned (.string (Pl.ba (Pl.sgn f))) ∧ Below (w.alloc o).heap.size (w.alloc o) w') := fun o => signOf_any f mb mo cp (w.alloc o) (hm.keep (HB.out o))
  have KO : Hid (∀ w', Below w.heap.size w w' → Calls Tryz.prog 102 #[.int .i64 f.a] w' fun e w2 => e = .returned (.string (Pl.ba (Pl.osg f.a))) ∧ Below w'.heap.size w' w2) := fun w' h => operationSign_any f.a mb mo cp w' (hm.keep h)
  have KO2 : Hid (∀ w', Below w.heap.size w w' → Calls Tryz.prog 102 #[.int .i64 f.b] w' fun e w2 => e = .returned (.string (Pl.ba (Pl.osg f.b))) ∧ Below w'.heap.size w' w2) := fun w' h => operationSign_any f.b mb mo cp w' (hm.keep h)
  have HF : Hid (Pl.ftk f = if f.k = 3 then [Pl.osg f.a, [47]] else if f.k = 4 then [Pl.osg f.a, [92]] else if f.k = 7 then [[64], Pl.osg f.a] else if f.k = 8 then [Pl.osg f.a, [46], Pl.osg f.b] else if f.k = 10 then [f.nm] else [Pl.sgn f]) := rfl
  have C : Hid (∀ (w1 w' : World) (j : Nat) (v : Value), Below w1.heap.size w1 w' → w.heap.size < w1.heap.size → w1.cell? ⟨w.heap.size, j, none⟩ = some v → w'.cell? ⟨w.heap.size, j, none⟩ = some v) := fun w1 w' j v hb h1 h => (hb.cell (p := ⟨w.heap.size, j, none⟩) h1).trans h
  clear hm
  generalize hL : Pl.ftk f = L at *
  clear hL
  have F1 := hideP (fun (w2 : World) (hb : Below w.heap.size w w2) => fnk1 (w := w) f.nm hb)
  have F2 := hideP (fun (w2 : World) (hb : Below w.heap.size w w2) => fnk1 (w := w) (Pl.sgn f) hb)
  have F3 := hideP (fun (y : List UInt8) (w2 : World) (hb : Below w.heap.size w w2) => fnk2 (w := w) (Pl.osg f.a) y hb)
  have F4 := hideP (fun (y : List UInt8) (w2 : World) (hb : Below w.heap.size w w2) => fnk2 (w := w) y (Pl.osg f.a) hb)
  have F5 := hideP (fun (w2 : World) (hb : Below w.heap.size w w2) => fnk3 (w := w) (Pl.osg f.a) [46] (Pl.osg f.b) hb)
  have F1b : Hid (∀ o, FnkPost [f.nm] w (.returned (.slice (some ⟨w.heap.size + 1, 0, none⟩) 1 1)) ((w.alloc o).alloc (.cells #[.string (Pl.ba f.nm)] 9))) := fun o => by
    have := F1.out (w.alloc o) (HB.out o)
    rw [World.size_alloc] at this
    exact this
  generalize hs1 : Pl.osg f.a = xa at *
  generalize hs2 : Pl.osg f.b = xb at *
  generalize hs3 : Pl.sgn f = xs at *
  clear hs1 hs2 hs3
  generalize hkk : f.k = fk at *
  generalize f.a = fa at *
  generalize f.b = fb at *
  generalize f.nm = fn at *
  clear hkk
  generalize Pl.ba xa = sa at *
  generalize Pl.ba xb = sb at *
  generalize Pl.ba xs = ss at *
  generalize Pl.ba fn = nm at *
  by_cases k3 : fk = 3
  · subst k3
    have HR := hideP (show L = [xa, [47]] by rw [HF.out]; rfl)
    rw [HR.out]
    clear HF HR
    go_enter Tryz.func89, Tryz.ntmps89
    go_wp2_with fail
    refine (KO.out _ (HB.out _)).mono ?_
    rintro e w2 ⟨rfl, hb2⟩
    have H2 := hideP ((HB.out _).trans (hb2.mono (by simp)))
    clear hb2
    go_wp2_with fail
    go_ret
    exact F3.out [47] _ H2.out
  have f3 : (fk == 3) = false := by simp [k3]
  by_cases k4 : fk = 4
  · subst k4
    clear f3 k3
    have HR := hideP (show L = [xa, [92]] by rw [HF.out]; rfl)
    rw [HR.out]
    clear HF HR
    go_enter Tryz.func89, Tryz.ntmps89
    go_wp2_with fail
    refine (KO.out _ (HB.out _)).mono ?_
    rintro e w2 ⟨rfl, hb2⟩
    have H2 := hideP ((HB.out _).trans (hb2.mono (by simp)))
    clear hb2
    go_wp2_with fail
    go_ret
    exact F3.out [92] _ H2.out
  have f4 : (fk == 4) = false := by simp [k4]
  by_cases k7 : fk = 7
  · subst k7
    clear f3 k3 f4 k4
    have HR := hideP (show L = [[64], xa] by rw [HF.out]; rfl)
    rw [HR.out]
    clear HF HR
    go_enter Tryz.func89, Tryz.ntmps89
    go_wp2_with fail
    refine (KO.out _ (HB.out _)).mono ?_
    rintro e w2 ⟨rfl, hb2⟩
    have H2 := hideP ((HB.out _).trans (hb2.mono (by simp)))
    clear hb2
    go_wp2_with fail
    go_ret
    exact F4.out [64] _ H2.out
  have f7 : (fk == 7) = false := by simp [k7]
  by_cases k8 : fk = 8
  · subst k8
    clear f3 k3 f4 k4 f7 k7
    have HR := hideP (show L = [xa, [46], xb] by rw [HF.out]; rfl)
    rw [HR.out]
    clear HF HR
    go_enter Tryz.func89, Tryz.ntmps89
    go_wp2
    go_region_with (first | (go_at_call 102; with_reducible refine (KO.out _ ((HB.out _).drew)).mono ?_; rintro e w2 ⟨rfl, hb1⟩; have c2 := C.out _ _ 2 _ hb1 (by simp) (by simp [go_sem]; rfl); have HBA := hideP ((HB.out _).drew.trans (hb1.mono (by simp))); clear hb1) | (go_at_call 102; with_reducible refine (KO2.out _ HBA.out).mono ?_; rintro e w3 ⟨rfl, hb2⟩; have H3 := hideP (HBA.out.trans (hb2.mono HBA.out.size)); clear hb2))
    all_goals (go_wp2; go_ret; exact F5.out _ H3.out)
  have f8 : (fk == 8) = false := by simp [k8]
  by_cases k10 : fk = 10
  · subst k10
    clear f3 k3 f4 k4 f7 k7 f8 k8
    have HR := hideP (show L = [fn] by rw [HF.out]; rfl)
    rw [HR.out]
    clear HF HR
    go_enter Tryz.func89, Tryz.ntmps89
    go_wp2_with fail
    go_ret
    exact F1b.out _
  have f10 : (fk == 10) = false := by simp [k10]
  have HR := hideP (show L = [xs] by rw [HF.out]; simp [k3, k4, k7, k8, k10])
  rw [HR.out]
  clear k3 k4 k7 k8 k10 HF HR
  go_enter Tryz.func89, Tryz.ntmps89
  go_wp2_with fail
  refine (KS.out _).mono ?_
  rintro e w2 ⟨rfl, hb2⟩
  have H2 := hideP ((HB.out _).trans (hb2.mono (by simp)))
  clear hb2
  go_wp2_with fail
  go_ret
  exact F2.out _ H2.out
end Go.Proofs.YthhfpcdbgndioaaGreatDoor
