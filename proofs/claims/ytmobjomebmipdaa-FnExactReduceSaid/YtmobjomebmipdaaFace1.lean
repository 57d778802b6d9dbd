import Derived.Test.YtmobjomebmipdaaOne
import Derived.Deep.RegionHeld3
import Derived.Deep.RegionHeld2
namespace Go.Proofs.Ytmobjomebmipdaa
open Go.RowKit
set_option linter.unusedVariables false

/-- needValid of one array that was just laid -/
theorem valid_new (v0 v1 : Value) (sh da : List Int) (w : World) (hl0 : sh.length ≤ 1048576) (hl1 : da.length ≤ 1048576) (h0 : Rd w.heap.size w v0 sh) (h1 : Rd w.heap.size w v1 da) (t : TypeId) :
    Calls Try.prog 44 #[.slice (some ⟨w.heap.size, 0, none⟩) 1 1] (w.alloc (.cells #[v0, v1] t)) fun e w' => Below w.heap.size w w' ∧ ((Pl.okB sh da = true ∧ e = .returned (.tuple #[])) ∨ (Pl.okB sh da = false ∧ e = .panicked [thrown 9])) := by
  have A : Below w.heap.size w (w.alloc (.cells #[v0, v1] t)) := (Below.refl _ _).alloc (Nat.le_refl _) _
  refine (needValid1 w.heap.size v0 v1 sh da (w.alloc (.cells #[v0, v1] t)) hl0 hl1 (by simp) (by simp [go_sem]) (by simp [go_sem]) ((h0.keep A).up (by simp)) ((h1.keep A).up (by simp))).mono ?_
  rintro e w' ⟨hb, hor⟩
  exact ⟨A.trans (hb.mono (by simp)), hor⟩

/-- the same, behind the variable of the result -/
theorem valid_new' (v0 v1 : Value) (sh da : List Int) (w : World) (hl0 : sh.length ≤ 1048576) (hl1 : da.length ≤ 1048576) (h0 : Rd w.heap.size w v0 sh) (h1 : Rd w.heap.size w v1 da) (o : Obj) (t : TypeId) :
    Calls Try.prog 44 #[.slice (some ⟨w.heap.size + 1, 0, none⟩) 1 1] ((w.alloc o).alloc (.cells #[v0, v1] t)) fun e w' => Below (w.heap.size + 1) (w.alloc o) w' ∧ ((Pl.okB sh da = true ∧ e = .returned (.tuple #[])) ∨ (Pl.okB sh da = false ∧ e = .panicked [thrown 9])) := by
  have A : Below w.heap.size w (w.alloc o) := (Below.refl _ _).alloc (Nat.le_refl _) _
  have := valid_new v0 v1 sh da (w.alloc o) hl0 hl1 ((h0.keep A).up (by simp)) ((h1.keep A).up (by simp)) t
  rw [show (w.alloc o).heap.size = w.heap.size + 1 from by simp] at this
  exact this

set_option maxHeartbeats 2000000 in
/-- impl.Each1's closure: the array is not valid -/
theorem each1c_bad (pa po : Nat) (v0 v1 : Value) (sh da : List Int) (w : World) (hl0 : sh.length ≤ 1048576) (hl1 : da.length ≤ 1048576) (h0 : Rd w.heap.size w v0 sh) (h1 : Rd w.heap.size w v1 da)
    (ca0 : w.cell? ⟨pa, 0, none⟩ = some v0) (ca1 : w.cell? ⟨pa, 1, none⟩ = some v1) (hpa : pa < w.heap.size) (hok : Pl.okB sh da = false) :
    Calls Try.prog 43 #[.pointer (some ⟨pa, 0, none⟩), .pointer (some ⟨po, 0, none⟩)] w (KPost w 9 [] []) := by
  have A : Hid (∀ o, Below w.heap.size w (w.alloc o)) := fun o => (Below.refl _ _).alloc (Nat.le_refl _) _
  have K := hideP (valid_new' v0 v1 sh da w hl0 hl1 h0 h1)
  have HK := hideP hok
  obtain ⟨a0, d0, e0⟩ := h0.form
  obtain ⟨a1, d1, e1⟩ := h1.form
  subst e0
  subst e1
  clear h0 h1 hok
  have ne : ¬ pa = w.heap.size := by omega
  go_enter Try.func43, Try.ntmps43
  go_wp2_with fail
  refine (K.out _ _).mono ?_
  rintro e w1 ⟨hb, ⟨hq, rfl⟩ | ⟨_, rfl⟩⟩
  · rw [HK.out] at hq; cases hq
  · exact ⟨rfl, (A.out _).trans (hb.mono (by omega)), .inr ⟨by decide, rfl, rfl, rfl⟩⟩

set_option maxRecDepth 100000 in
set_option maxHeartbeats 4000000 in
/-- impl.Each1's closure: the array is valid, the number is none -/
theorem each1c_op (pa po : Nat) (op : Int) (v0 v1 : Value) (sh da : List Int) (w : World) (hl0 : sh.length ≤ 1048576) (hl1 : da.length ≤ 1048576) (h0 : Rd w.heap.size w v0 sh) (h1 : Rd w.heap.size w v1 da)
    (ca0 : w.cell? ⟨pa, 0, none⟩ = some v0) (ca1 : w.cell? ⟨pa, 1, none⟩ = some v1) (co : w.cell? ⟨po, 0, none⟩ = some (.int .i64 op)) (hpa : pa < w.heap.size) (hpo : po < w.heap.size) (hok : Pl.okB sh da = true) (hop : op < 1 ∨ 5 ≤ op) :
    Calls Try.prog 43 #[.pointer (some ⟨pa, 0, none⟩), .pointer (some ⟨po, 0, none⟩)] w (KPost w 9 [] []) := by
  have A : Hid (∀ o, Below w.heap.size w (w.alloc o)) := fun o => (Below.refl _ _).alloc (Nat.le_refl _) _
  have K := hideP (valid_new' v0 v1 sh da w hl0 hl1 h0 h1)
  have HK := hideP hok
  have O := hideP (fun w => oneOf_no op w hop)
  obtain ⟨a0, d0, e0⟩ := h0.form
  obtain ⟨a1, d1, e1⟩ := h1.form
  subst e0
  subst e1
  clear h0 h1 hok hop
  have ne : ¬ pa = w.heap.size := by omega
  go_enter Try.func43, Try.ntmps43
  go_wp2_with fail
  refine (K.out _ _).mono ?_
  rintro e w1 ⟨hb, ⟨_, rfl⟩ | ⟨hq, _⟩⟩
  · have hb' := (A.out (.cells #[.slice none 0 0, .slice none 0 0] 27)).trans (hb.mono (by omega))
    have hs := hb.size
    simp at hs
    have B1 := hideP hb'.drew
    have L0 : ∀ w', Below w.heap.size w w' → w'.cell? ⟨po, 0, none⟩ = some (.int .i64 op) := fun w' h => (h.cell (p := ⟨po, 0, none⟩) hpo).trans co
    have L1 : ∀ w', Below w.heap.size w w' → w'.cell? ⟨pa, 0, none⟩ = some (.slice a0 sh.length d0) := fun w' h => (h.cell (p := ⟨pa, 0, none⟩) hpa).trans ca0
    have L2 : ∀ w', Below w.heap.size w w' → w'.cell? ⟨pa, 1, none⟩ = some (.slice a1 da.length d1) := fun w' h => (h.cell (p := ⟨pa, 1, none⟩) hpa).trans ca1
    clear hb hb' ca0 ca1 co
    go_wp2_with fail
    refine wp_region_held (S := fun w' => Below w.heap.size w w') (by kernel_rfl) ?_
    change wpAnyH _ _ _ _ _ _ _ _ (World.drew _)
    refine wpAnyH_take (i := 0) (v := .int .i64 op) rfl (by kernel_rfl) (by kernel_rfl) (by kernel_rfl) (fun _ _ _ h => h) (Or.inl ⟨by rfl, ?_⟩) B1.out ?_
    · intro w' hS
      have := L0 w' hS
      clear L0 L1 L2 hS
      go_simp
    refine wpAnyH_take (i := 2) (v := .agg #[.slice a0 sh.length d0, .slice a1 da.length d1]) rfl (by kernel_rfl) (by kernel_rfl) (by kernel_rfl) (fun _ _ _ h => h) (Or.inl ⟨by rfl, ?_⟩) B1.out ?_
    · intro w' hS
      have := L1 w' hS
      have := L2 w' hS
      clear L0 L1 L2 hS
      go_simp
    refine wpAnyH_ready (rs := [1]) (by kernel_rfl) (by simp) ?_
    refine AllReadyH.cons rfl (fun K hK => ?_) AllReadyH.nil
    clear L0 L1 L2
    go_simp
    refine (O.out _).mono ?_
    rintro e w2 ⟨rfl, hb2⟩
    exact ⟨rfl, B1.out.trans (hb2.mono (by show _ ≤ w1.heap.size; omega)), .inr ⟨by decide, rfl, rfl, rfl⟩⟩
  · rw [HK.out] at hq; cases hq

set_option maxRecDepth 100000 in
set_option maxHeartbeats 4000000 in
/-- impl.Each1's closure: the array is valid, the number is one -/
theorem each1c_go (pa po : Nat) (op : Int) (v0 v1 : Value) (sh da : List Int) (w : World) (hl0 : sh.length ≤ 1048576) (hl1 : da.length ≤ 1048576) (h0 : Rd w.heap.size w v0 sh) (h1 : Rd w.heap.size w v1 da)
    (ca0 : w.cell? ⟨pa, 0, none⟩ = some v0) (ca1 : w.cell? ⟨pa, 1, none⟩ = some v1) (co : w.cell? ⟨po, 0, none⟩ = some (.int .i64 op)) (hpa : pa < w.heap.size) (hpo : po < w.heap.size) (hok : Pl.okB sh da = true) (FV : Value) (c : Int) (sh' da' : List Int)
    (hof : ∀ w', Calls Try.prog 46 #[.int .i64 op] w' fun e w'' => e = .returned FV ∧ Below w'.heap.size w' w'') (hk : ∀ w', Below w.heap.size w w' → Calls Try.prog 45 #[FV, .agg #[v0, v1]] w' (KPost w' c sh' da')) :
    Calls Try.prog 43 #[.pointer (some ⟨pa, 0, none⟩), .pointer (some ⟨po, 0, none⟩)] w (KPost w c sh' da') := by
  have A : Hid (∀ o, Below w.heap.size w (w.alloc o)) := fun o => (Below.refl _ _).alloc (Nat.le_refl _) _
  have K := hideP (valid_new' v0 v1 sh da w hl0 hl1 h0 h1)
  have HK := hideP hok
  have O := hideP hof
  have HKK := hideP hk
  obtain ⟨a0, d0, e0⟩ := h0.form
  obtain ⟨a1, d1, e1⟩ := h1.form
  subst e0
  subst e1
  clear h0 h1 hok hof hk
  have ne : ¬ pa = w.heap.size := by omega
  go_enter Try.func43, Try.ntmps43
  go_wp2_with fail
  refine (K.out _ _).mono ?_
  rintro e w1 ⟨hb, ⟨_, rfl⟩ | ⟨hq, _⟩⟩
  · have hb' := (A.out (.cells #[.slice none 0 0, .slice none 0 0] 27)).trans (hb.mono (by omega))
    have hs := hb.size
    simp at hs
    have B1 := hideP hb'.drew
    have CR : Hid (w1.drew.cell? ⟨w.heap.size, 0, none⟩ = some (.slice none 0 0) ∧ w1.drew.cell? ⟨w.heap.size, 1, none⟩ = some (.slice none 0 0) ∧ ∀ o, w1.drew.frozen? ⟨w.heap.size, o, none⟩ = false) :=
      ⟨(hb.cell (p := ⟨w.heap.size, 0, none⟩) (by show w.heap.size < _; omega)).trans (by simp [go_sem]), (hb.cell (p := ⟨w.heap.size, 1, none⟩) (by show w.heap.size < _; omega)).trans (by simp [go_sem]), fun o => (hb.frozen (p := ⟨w.heap.size, o, none⟩) (by show w.heap.size < _; omega)).trans (by simp [go_sem])⟩
    have L0 : ∀ w', Below w.heap.size w w' → w'.cell? ⟨po, 0, none⟩ = some (.int .i64 op) := fun w' h => (h.cell (p := ⟨po, 0, none⟩) hpo).trans co
    have L1 : ∀ w', Below w.heap.size w w' → w'.cell? ⟨pa, 0, none⟩ = some (.slice a0 sh.length d0) := fun w' h => (h.cell (p := ⟨pa, 0, none⟩) hpa).trans ca0
    have L2 : ∀ w', Below w.heap.size w w' → w'.cell? ⟨pa, 1, none⟩ = some (.slice a1 da.length d1) := fun w' h => (h.cell (p := ⟨pa, 1, none⟩) hpa).trans ca1
    clear hb hb' ca0 ca1 co
    go_wp2_with fail
    refine wp_region_held (S := fun w' => Below w.heap.size w w') (by kernel_rfl) ?_
    change wpAnyH _ _ _ _ _ _ _ _ (World.drew _)
    refine wpAnyH_take (i := 0) (v := .int .i64 op) rfl (by kernel_rfl) (by kernel_rfl) (by kernel_rfl) (fun _ _ _ h => h) (Or.inl ⟨by rfl, ?_⟩) B1.out ?_
    · intro w' hS
      have := L0 w' hS
      clear L0 L1 L2 hS
      go_simp
    refine wpAnyH_take (i := 2) (v := .agg #[.slice a0 sh.length d0, .slice a1 da.length d1]) rfl (by kernel_rfl) (by kernel_rfl) (by kernel_rfl) (fun _ _ _ h => h) (Or.inl ⟨by rfl, ?_⟩) B1.out ?_
    · intro w' hS
      have := L1 w' hS
      have := L2 w' hS
      clear L0 L1 L2 hS
      go_simp
    refine wpAnyH_ready (rs := [1]) (by kernel_rfl) (by simp) ?_
    refine AllReadyH.cons rfl (fun K hK => ?_) AllReadyH.nil
    clear L0 L1 L2
    go_simp
    refine (O.out _).mono ?_
    rintro e w2 ⟨rfl, hb2⟩
    have B2 := hideP (B1.out.trans (hb2.mono (by show _ ≤ w1.heap.size; omega)))
    have hs2 : w.heap.size + 1 ≤ w2.heap.size := by
      have := hb2.size
      have e : w1.drew.heap.size = w1.heap.size := rfl
      omega
    have C2 := hideP (And.intro ((hb2.cell (p := ⟨w.heap.size, 0, none⟩) hs).trans CR.out.1) (And.intro ((hb2.cell (p := ⟨w.heap.size, 1, none⟩) hs).trans CR.out.2.1) (fun o => (hb2.frozen (p := ⟨w.heap.size, o, none⟩) hs).trans (CR.out.2.2 o))))
    clear hb2
    refine hK.out _ _ B2.out (fun _ => ?_)
    clear hK
    refine wpAnyH_ready (rs := [3]) (by kernel_rfl) (by simp) ?_
    refine AllReadyH.cons rfl (fun K hK => ?_) AllReadyH.nil
    go_simp
    refine (HKK.out w2 B2.out).mono ?_
    rintro e w3 ⟨hb3, ⟨rfl, u0, u1, rfl, hres⟩ | ⟨hc, rfl, rfl, rfl⟩⟩
    · have B3 := hideP (B2.out.trans (hb3.mono (by omega)))
      have R3 := hideP hres
      obtain ⟨q0, q1, f2⟩ := C2.out
      have r0 : w3.cell? ⟨w.heap.size, 0, none⟩ = some (.slice none 0 0) := (hb3.cell (p := ⟨w.heap.size, 0, none⟩) (by show w.heap.size < _; omega)).trans q0
      have r1 : w3.cell? ⟨w.heap.size, 1, none⟩ = some (.slice none 0 0) := (hb3.cell (p := ⟨w.heap.size, 1, none⟩) (by show w.heap.size < _; omega)).trans q1
      have f3 : ∀ o, w3.frozen? ⟨w.heap.size, o, none⟩ = false := fun o => (hb3.frozen (p := ⟨w.heap.size, o, none⟩) (by show w.heap.size < _; omega)).trans (f2 o)
      obtain ⟨x0, y0, e0⟩ := hres.1.form
      obtain ⟨x1, y1, e1⟩ := hres.2.1.form
      subst e0
      subst e1
      clear hres hb3 q0 q1 f2
      refine hK.out _ _ B3.out (fun _ => ?_)
      clear hK
      refine wpAnyH_ready (rs := [4]) (by kernel_rfl) (by simp) ?_
      refine AllReadyH.cons rfl (fun K hK => ?_) AllReadyH.nil
      go_simp
      refine hK.out _ _ ((B3.out.setCell (by simp) _).setCell (by simp) _) (fun _ => ?_)
      clear hK
      refine wpAnyH_done (by kernel_rfl) ?_ _
      go_wp2_with fail
      refine bodyPost_ret (v := .agg #[.slice x0 sh'.length y0, .slice x1 da'.length y1]) (by simp [results, Try.results43, go_sem, r0, r1]) rfl ⟨(B3.out.setCell (by simp) _).setCell (by simp) _, .inl ⟨rfl, _, _, rfl, ?_, ?_, R3.out.2.2⟩⟩
      · exact Own.base (Own.store (Own.store R3.out.1 (by omega) _) (by omega) _) (by omega)
      · exact Own.base (Own.store (Own.store R3.out.2.1 (by omega) _) (by omega) _) (by omega)
    · exact ⟨rfl, B2.out.trans (hb3.mono (by omega)), .inr ⟨hc, rfl, rfl, rfl⟩⟩
  · rw [HK.out] at hq; cases hq

end Go.Proofs.Ytmobjomebmipdaa
