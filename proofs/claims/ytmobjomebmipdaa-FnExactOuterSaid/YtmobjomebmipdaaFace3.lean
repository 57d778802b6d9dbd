import Derived.Test.YtmobjomebmipdaaOuter
namespace Go.Proofs.Ytmobjomebmipdaa
open Go.RowKit
set_option linter.unusedVariables false

theorem callF80 (args : Array Value) (w : World) : (callFunc 80 args).run Try.prog w = .ok (.enter 80 args) w := by kernel_rfl

set_option maxRecDepth 100000 in
set_option maxHeartbeats 4000000 in
/-- impl.Outer's closure -/
theorem oc_all (pa pb po : Nat) (op : Int) (v0 v1 v2 v3 : Value) (sa da sb db : List Int) (w : World) (hl0 : sa.length ≤ 1048576) (hl1 : da.length ≤ 1048576) (hl2 : sb.length ≤ 1048576) (hl3 : db.length ≤ 1048576) (h0 : Rd w.heap.size w v0 sa) (h1 : Rd w.heap.size w v1 da) (h2 : Rd w.heap.size w v2 sb) (h3 : Rd w.heap.size w v3 db)
    (ca0 : w.cell? ⟨pa, 0, none⟩ = some v0) (ca1 : w.cell? ⟨pa, 1, none⟩ = some v1) (cb0 : w.cell? ⟨pb, 0, none⟩ = some v2) (cb1 : w.cell? ⟨pb, 1, none⟩ = some v3) (co : w.cell? ⟨po, 0, none⟩ = some (.int .i64 op)) (M : List Int → List Int → List Int → List Int → Int × List Int × List Int) (c : Int) (S D : List Int) (hres : Pl.dyM M op sa da sb db = (c, S, D))
    (hk : ∀ k : Nat, op = k → 1 ≤ k → k < 11 → Pl.okB sa da = true → Pl.okB sb db = true → M sa da sb db = (c, S, D) → ∀ w', Below w.heap.size w w' → Calls Try.prog 81 #[opV k, .agg #[v0, v1], .agg #[v2, v3]] w' (KPost w' c S D)) :
    Calls Try.prog 80 #[.pointer (some ⟨pa, 0, none⟩), .pointer (some ⟨pb, 0, none⟩), .pointer (some ⟨po, 0, none⟩)] w (KPost w c S D) := by
  have hpa := World.block_lt_of_cell? w ⟨pa, 0, none⟩ ca0
  have hpb := World.block_lt_of_cell? w ⟨pb, 0, none⟩ cb0
  have hpo := World.block_lt_of_cell? w ⟨po, 0, none⟩ co
  simp only at hpa hpb hpo
  have A : Hid (∀ o, Below w.heap.size w (w.alloc o)) := fun o => (Below.refl _ _).alloc (Nat.le_refl _) _
  have K := hideP (valid2_new v0 v1 v2 v3 sa da sb db w hl0 hl1 hl2 hl3 h0 h1 h2 h3)
  have HKK := hideP hk
  have HR := hideP hres
  obtain ⟨a0, d0, e0⟩ := h0.form
  obtain ⟨a1, d1, e1⟩ := h1.form
  obtain ⟨a2, d2, e2⟩ := h2.form
  obtain ⟨a3, d3, e3⟩ := h3.form
  subst e0
  subst e1
  subst e2
  subst e3
  clear h0 h1 h2 h3 hk hres
  have ne : ¬ pa = w.heap.size := by omega
  have ne2 : ¬ pb = w.heap.size := by omega
  go_enter Try.func80, Try.ntmps80
  go_wp2_with fail
  refine (K.out _ _).mono ?_
  rintro e w1 ⟨hb, ⟨hq, rfl⟩ | ⟨hq, rfl⟩⟩
  · have hb' := (A.out (.cells #[.slice none 0 0, .slice none 0 0] 27)).trans (hb.mono (by omega))
    have hs := hb.size
    simp at hs
    have B1 := hideP hb'.drew
    have HQ := hideP hq
    have CR : Hid (w1.drew.cell? ⟨w.heap.size, 0, none⟩ = some (.slice none 0 0) ∧ w1.drew.cell? ⟨w.heap.size, 1, none⟩ = some (.slice none 0 0) ∧ ∀ o, w1.drew.frozen? ⟨w.heap.size, o, none⟩ = false) :=
      ⟨(hb.cell (p := ⟨w.heap.size, 0, none⟩) (by show w.heap.size < _; omega)).trans (by simp [go_sem]), (hb.cell (p := ⟨w.heap.size, 1, none⟩) (by show w.heap.size < _; omega)).trans (by simp [go_sem]), fun o => (hb.frozen (p := ⟨w.heap.size, o, none⟩) (by show w.heap.size < _; omega)).trans (by simp [go_sem])⟩
    have L0 : ∀ w', Below w.heap.size w w' → w'.cell? ⟨po, 0, none⟩ = some (.int .i64 op) := fun w' h => (h.cell (p := ⟨po, 0, none⟩) hpo).trans co
    have L1 : ∀ w', Below w.heap.size w w' → w'.cell? ⟨pa, 0, none⟩ = some (.slice a0 sa.length d0) := fun w' h => (h.cell (p := ⟨pa, 0, none⟩) hpa).trans ca0
    have L2 : ∀ w', Below w.heap.size w w' → w'.cell? ⟨pa, 1, none⟩ = some (.slice a1 da.length d1) := fun w' h => (h.cell (p := ⟨pa, 1, none⟩) hpa).trans ca1
    have L3 : ∀ w', Below w.heap.size w w' → w'.cell? ⟨pb, 0, none⟩ = some (.slice a2 sb.length d2) := fun w' h => (h.cell (p := ⟨pb, 0, none⟩) hpb).trans cb0
    have L4 : ∀ w', Below w.heap.size w w' → w'.cell? ⟨pb, 1, none⟩ = some (.slice a3 db.length d3) := fun w' h => (h.cell (p := ⟨pb, 1, none⟩) hpb).trans cb1
    clear hb hb' ca0 ca1 cb0 cb1 co hq K
    go_wp2_with fail
    refine wp_region_held (S := fun w' => Below w.heap.size w w') (by kernel_rfl) ?_
    change wpAnyH _ _ _ _ _ _ _ _ (World.drew _)
    refine wpAnyH_take (i := 0) (v := .int .i64 op) rfl (by kernel_rfl) (by kernel_rfl) (by kernel_rfl) (fun _ _ _ h => h) (Or.inl ⟨by rfl, ?_⟩) B1.out ?_
    · intro w' hS
      have := L0 w' hS
      clear L0 L1 L2 L3 L4 hS
      go_simp
    refine wpAnyH_take (i := 2) (v := .agg #[.slice a0 sa.length d0, .slice a1 da.length d1]) rfl (by kernel_rfl) (by kernel_rfl) (by kernel_rfl) (fun _ _ _ h => h) (Or.inl ⟨by rfl, ?_⟩) B1.out ?_
    · intro w' hS
      have := L1 w' hS
      have := L2 w' hS
      clear L0 L1 L2 L3 L4 hS
      go_simp
    refine wpAnyH_take (i := 3) (v := .agg #[.slice a2 sb.length d2, .slice a3 db.length d3]) rfl (by kernel_rfl) (by kernel_rfl) (by kernel_rfl) (fun _ _ _ h => h) (Or.inl ⟨by rfl, ?_⟩) B1.out ?_
    · intro w' hS
      have := L3 w' hS
      have := L4 w' hS
      clear L0 L1 L2 L3 L4 hS
      go_simp
    clear L0 L1 L2 L3 L4
    refine wpAnyH_ready (rs := [1]) (by kernel_rfl) (by simp) ?_
    refine AllReadyH.cons rfl (fun K hK => ?_) AllReadyH.nil
    go_simp
    by_cases hop : 1 ≤ op ∧ op < 11
    · obtain ⟨k, rfl⟩ := Int.eq_ofNat_of_zero_le (show 0 ≤ op by omega)
      have e := HR.out
      rw [Pl.dyM_yes ⟨hop.1, hop.2, HQ.out.1, HQ.out.2⟩] at e
      have HK2 := hideP (HKK.out k rfl (by omega) (by omega) HQ.out.1 HQ.out.2 e)
      have hk0 : 1 ≤ k := by omega
      have hk1 : k < 11 := by omega
      clear HKK HR e hop
      refine (opOf_yes k _ hk0 hk1).mono ?_
      rintro e w2 ⟨rfl, hb2⟩
      have B2 := hideP (B1.out.trans (hb2.mono (by show _ ≤ w1.heap.size; omega)))
      have hs2 : w.heap.size + 1 ≤ w2.heap.size := by
        have := hb2.size
        have e : w1.drew.heap.size = w1.heap.size := rfl
        omega
      have C2 := hideP (And.intro ((hb2.cell (p := ⟨w.heap.size, 0, none⟩) hs).trans CR.out.1) (And.intro ((hb2.cell (p := ⟨w.heap.size, 1, none⟩) hs).trans CR.out.2.1) (fun o => (hb2.frozen (p := ⟨w.heap.size, o, none⟩) hs).trans (CR.out.2.2 o))))
      clear hb2
      refine hK.out _ _ B2.out (fun _ => ?_)
      clear hK
      refine wpAnyH_ready (rs := [4]) (by kernel_rfl) (by simp) ?_
      refine AllReadyH.cons rfl (fun K hK => ?_) AllReadyH.nil
      go_simp
      refine (HK2.out w2 B2.out).mono ?_
      rintro e w3 ⟨hb3, ⟨rfl, u0, u1, rfl, hres⟩ | ⟨hc, rfl, rfl, rfl⟩⟩
      · have B3 := hideP (B2.out.trans (hb3.mono (by omega)))
        have R3 := hideP hres
        obtain ⟨q0, q1, f2⟩ := C2.out
        have r0 : w3.cell? ⟨w.heap.size, 0, none⟩ = some (.slice none 0 0) := (hb3.cell (p := ⟨w.heap.size, 0, none⟩) (by show w.heap.size < _; omega)).trans q0
        have r1 : w3.cell? ⟨w.heap.size, 1, none⟩ = some (.slice none 0 0) := (hb3.cell (p := ⟨w.heap.size, 1, none⟩) (by show w.heap.size < _; omega)).trans q1
        have f3 : ∀ o, w3.frozen? ⟨w.heap.size, o, none⟩ = false := fun o => (hb3.frozen (p := ⟨w.heap.size, o, none⟩) (by show w.heap.size < _; omega)).trans (f2 o)
        obtain ⟨x0, y0, e0⟩ := hres.1.form
        obtain ⟨x1, y1, e1⟩ := hres.2.1.form
        subst e0
        subst e1
        clear hres hb3 q0 q1 f2
        refine hK.out _ _ B3.out (fun _ => ?_)
        clear hK
        refine wpAnyH_ready (rs := [5]) (by kernel_rfl) (by simp) ?_
        refine AllReadyH.cons rfl (fun K hK => ?_) AllReadyH.nil
        go_simp
        refine hK.out _ _ ((B3.out.setCell (by simp) _).setCell (by simp) _) (fun _ => ?_)
        clear hK
        refine wpAnyH_done (by kernel_rfl) ?_ _
        go_wp2_with fail
        refine bodyPost_ret (v := .agg #[.slice x0 S.length y0, .slice x1 D.length y1]) (by simp [results, Try.results80, go_sem, r0, r1]) rfl ⟨(B3.out.setCell (by simp) _).setCell (by simp) _, .inl ⟨rfl, _, _, rfl, ?_, ?_, R3.out.2.2⟩⟩
        · exact Own.base (Own.store (Own.store R3.out.1 (by omega) _) (by omega) _) (by omega)
        · exact Own.base (Own.store (Own.store R3.out.2.1 (by omega) _) (by omega) _) (by omega)
      · exact ⟨rfl, B2.out.trans (hb3.mono (by omega)), .inr ⟨hc, rfl, rfl, rfl⟩⟩
    · have e := HR.out
      rw [Pl.dyM_no (by intro h; exact hop ⟨h.1, h.2.1⟩)] at e
      simp only [Prod.mk.injEq] at e
      obtain ⟨rfl, rfl, rfl⟩ := e
      refine (opOf_no op _ (by omega)).mono ?_
      rintro e w2 ⟨rfl, hb2⟩
      exact ⟨rfl, B1.out.trans (hb2.mono (by show _ ≤ w1.heap.size; omega)), .inr ⟨by decide, rfl, rfl, rfl⟩⟩
  · have e := HR.out
    rw [Pl.dyM_no (by intro h; exact hq ⟨h.2.2.1, h.2.2.2⟩)] at e
    simp only [Prod.mk.injEq] at e
    obtain ⟨rfl, rfl, rfl⟩ := e
    exact ⟨rfl, (A.out _).trans (hb.mono (by omega)), .inr ⟨by decide, rfl, rfl, rfl⟩⟩

set_option maxRecDepth 100000 in
set_option maxHeartbeats 1000000 in
/-- impl.Outer -/
theorem outer_face (op : Int) (v0 v1 v2 v3 : Value) (sa da sb db : List Int) (w : World) (hl0 : sa.length ≤ 1048576) (hl1 : da.length ≤ 1048576) (hl2 : sb.length ≤ 1048576) (hl3 : db.length ≤ 1048576) (h0 : Rd w.heap.size w v0 sa) (h1 : Rd w.heap.size w v1 da) (h2 : Rd w.heap.size w v2 sb) (h3 : Rd w.heap.size w v3 db)
    (c : Int) (S D : List Int) (hres : Pl.dyM (Pl.outerM (Pl.twoM op)) op sa da sb db = (c, S, D)) :
    Calls Try.prog 31 #[.int .i64 op, .agg #[v0, v1], .agg #[v2, v3]] w (FPost w c S D) := by
  have hmf : ∀ (fn : Fn) (first cap : Array Value) (w : World), (Instr.makeFunc fn first cap).run Try.prog w = .ok (.func fn first cap) w := fun _ _ _ _ => rfl
  have K : Hid (∀ pa pb po w', Below w.heap.size w w' → w'.cell? ⟨pa, 0, none⟩ = some v0 → w'.cell? ⟨pa, 1, none⟩ = some v1 → w'.cell? ⟨pb, 0, none⟩ = some v2 → w'.cell? ⟨pb, 1, none⟩ = some v3 → w'.cell? ⟨po, 0, none⟩ = some (.int .i64 op) → Calls Try.prog 80 #[.pointer (some ⟨pa, 0, none⟩), .pointer (some ⟨pb, 0, none⟩), .pointer (some ⟨po, 0, none⟩)] w' (KPost w' c S D)) :=
    fun pa pb po w' hb g0 g1 g2 g3 g4 => oc_all pa pb po op v0 v1 v2 v3 sa da sb db w' hl0 hl1 hl2 hl3 ((h0.keep hb).up hb.size) ((h1.keep hb).up hb.size) ((h2.keep hb).up hb.size) ((h3.keep hb).up hb.size) g0 g1 g2 g3 g4 _ c S D hres
      (fun k hk k0 k1 oka okb e w'' hb' => by
        subst hk
        have hb2 := hb.trans (hb'.mono hb.size)
        exact outer_impl (95 + k) (Pl.noneV k) (Pl.noneB k) (Pl.twoM k) v0 v1 v2 v3 sa da sb db w'' (callF2 k k0 k1) (fun x y w3 g0 g1 g2 g3 => cell2_any k x y w3 k0 k1 g0 g1 g2 g3) ((h0.keep hb2).up hb2.size) ((h1.keep hb2).up hb2.size) ((h2.keep hb2).up hb2.size) ((h3.keep hb2).up hb2.size) oka okb c S D e)
  obtain ⟨a0, d0, e0⟩ := h0.form
  obtain ⟨a1, d1, e1⟩ := h1.form
  obtain ⟨a2, d2, e2⟩ := h2.form
  obtain ⟨a3, d3, e3⟩ := h3.form
  subst e0
  subst e1
  subst e2
  subst e3
  clear h0 h1 h2 h3 hres
  go_enter Try.func31, Try.ntmps31
  go_wp2_with fail
  refine (answer_any 80 _ c S D _ (callF80 _) ?_).mono ?_
  · refine K.out (w.heap.size + 1) (w.heap.size + 1 + 1) w.heap.size _ ?_ ?_ ?_ ?_ ?_ ?_
    · exact ((((((Below.refl _ _).alloc (Nat.le_refl _) _).alloc (by simp) _).alloc (by simp; omega) _).alloc (by simp; omega) _).alloc (by simp; omega) _).alloc (by simp; omega) _
    · simp [go_sem]
    · simp [go_sem]
    · simp [go_sem]
    · simp [go_sem]
    · simp [go_sem]
  rintro e w1 ⟨hb1, u0, u1, rfl, hres⟩
  have B0 : Hid (Below w.heap.size w w1) := (((((Below.refl _ _).alloc (Nat.le_refl _) _).alloc (by simp) _).alloc (by simp; omega) _).alloc (by simp; omega) _).trans (hb1.mono (by simp; omega))
  have hs := hb1.size
  simp at hs
  obtain ⟨hc, hf⟩ := bcell hb1
  have r0 : w1.cell? ⟨w.heap.size + 1 + 1 + 1, 0, none⟩ = some (.slice none 0 0) := by rw [hc (w.heap.size + 1 + 1 + 1) 0 (by simp)]; simp [go_sem]
  have r1 : w1.cell? ⟨w.heap.size + 1 + 1 + 1, 1, none⟩ = some (.slice none 0 0) := by rw [hc (w.heap.size + 1 + 1 + 1) 1 (by simp)]; simp [go_sem]
  have f3 : ∀ o, w1.frozen? ⟨w.heap.size + 1 + 1 + 1, o, none⟩ = false := fun o => by rw [hf (w.heap.size + 1 + 1 + 1) o (by simp)]; simp [go_sem]
  have R : Hid (Res (w.heap.size + 1 + 1 + 1 + 1) w1 u0 u1 S D) := by
    have := hres
    show Res _ _ _ _ _ _
    simpa using this
  obtain ⟨x0, y0, e0⟩ := hres.1.form
  obtain ⟨x1, y1, e1⟩ := hres.2.1.form
  subst e0
  subst e1
  clear hc hf hb1 hres K
  go_wp2_with fail
  refine bodyPost_ret (v := .tuple #[.agg #[.slice x0 S.length y0, .slice x1 D.length y1], .int .i64 c]) (by simp [results, Try.results31, go_sem, r0, r1]) rfl ⟨(B0.out.setCell (by simp; omega) _).setCell (by simp; omega) _, _, _, rfl, ?_, ?_, R.out.2.2⟩
  · exact Own.base (Own.store (Own.store R.out.1 (by omega) _) (by omega) _) (by omega)
  · exact Own.base (Own.store (Own.store R.out.2.1 (by omega) _) (by omega) _) (by omega)

end Go.Proofs.Ytmobjomebmipdaa
