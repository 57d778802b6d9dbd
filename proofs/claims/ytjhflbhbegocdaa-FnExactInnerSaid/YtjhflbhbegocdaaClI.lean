import Derived.Test.YtjhflbhbegocdaaFaI
namespace Go.Proofs.Ytjhflbhbegocdaa
open Go.RowKit
set_option linter.unusedVariables false

theorem callF32 (args : Array Value) (w : World) : (callFunc 26 args).run Try.prog w = .ok (.enter 26 args) w := by kernel_rfl

set_option maxRecDepth 100000 in
set_option maxHeartbeats 4000000 in
/-- impl.Inner's closure -/
theorem ic_all (pa pb pf pg : Nat) (f g : Int) (b0 b1 b2 b3 : Nat) (sa da sb db : List Int) (w : World) (hl0 : sa.length ≤ 1048576) (hl1 : da.length ≤ 1048576) (hl2 : sb.length ≤ 1048576) (hl3 : db.length ≤ 1048576) (h0 : Rd w.heap.size w (.slice (some ⟨b0, 0, none⟩) sa.length sa.length) sa) (h1 : Rd w.heap.size w (.slice (some ⟨b1, 0, none⟩) da.length da.length) da) (h2 : Rd w.heap.size w (.slice (some ⟨b2, 0, none⟩) sb.length sb.length) sb) (h3 : Rd w.heap.size w (.slice (some ⟨b3, 0, none⟩) db.length db.length) db)
    (ca0 : w.cell? ⟨pa, 0, none⟩ = some (.slice (some ⟨b0, 0, none⟩) sa.length sa.length)) (ca1 : w.cell? ⟨pa, 1, none⟩ = some (.slice (some ⟨b1, 0, none⟩) da.length da.length)) (cb0 : w.cell? ⟨pb, 0, none⟩ = some (.slice (some ⟨b2, 0, none⟩) sb.length sb.length)) (cb1 : w.cell? ⟨pb, 1, none⟩ = some (.slice (some ⟨b3, 0, none⟩) db.length db.length)) (co : w.cell? ⟨pf, 0, none⟩ = some (.int .i64 f)) (co' : w.cell? ⟨pg, 0, none⟩ = some (.int .i64 g)) (c : Int) (S D : List Int) (hres : Pl.innD f g sa da sb db = (c, S, D))
    (hk : ∀ kf kg : Nat, f = kf → g = kg → 1 ≤ kf → kf < 11 → 1 ≤ kg → kg < 11 → Pl.okB sa da = true → Pl.okB sb db = true → Pl.innM (Pl.twoM kf) (Pl.noneV kf) (Pl.noneB kf) (Pl.twoM kg) sa da sb db = (c, S, D) → ∀ w', Below w.heap.size w w' → Calls Try.prog 28 #[opV kf, opV kg, .agg #[.slice (some ⟨b0, 0, none⟩) sa.length sa.length, .slice (some ⟨b1, 0, none⟩) da.length da.length], .agg #[.slice (some ⟨b2, 0, none⟩) sb.length sb.length, .slice (some ⟨b3, 0, none⟩) db.length db.length]] w' (KPost w' c S D)) :
    Calls Try.prog 26 #[.pointer (some ⟨pa, 0, none⟩), .pointer (some ⟨pb, 0, none⟩), .pointer (some ⟨pf, 0, none⟩), .pointer (some ⟨pg, 0, none⟩)] w (KPost w c S D) := by
  have hpa := World.block_lt_of_cell? w ⟨pa, 0, none⟩ ca0
  have hpb := World.block_lt_of_cell? w ⟨pb, 0, none⟩ cb0
  have hpf := World.block_lt_of_cell? w ⟨pf, 0, none⟩ co
  have hpg := World.block_lt_of_cell? w ⟨pg, 0, none⟩ co'
  simp only at hpa hpb hpf hpg
  have A : Hid (∀ o, Below w.heap.size w (w.alloc o)) := fun o => (Below.refl _ _).alloc (Nat.le_refl _) _
  have K := hideP (valid2_new _ _ _ _ sa da sb db w hl0 hl1 hl2 hl3 h0 h1 h2 h3)
  have HKK := hideP hk
  have HR := hideP hres
  clear h0 h1 h2 h3 hk hres
  generalize sa.length = la at *
  generalize da.length = lda at *
  generalize sb.length = lb at *
  generalize db.length = ldb at *
  have ne : ¬ pa = w.heap.size := by omega
  have ne2 : ¬ pb = w.heap.size := by omega
  go_enter Try.func26, Try.ntmps26
  go_wp2_with fail
  refine (K.out _ _).mono ?_
  rintro e w1 ⟨hb, ⟨hq, rfl⟩ | ⟨hq, rfl⟩⟩
  · have hb' := (A.out (.cells #[.slice none 0 0, .slice none 0 0] 26)).trans (hb.mono (by omega))
    have hs := hb.size
    simp at hs
    have B1 := hideP hb'.drew
    have HQ := hideP hq
    have CR : Hid (w1.drew.cell? ⟨w.heap.size, 0, none⟩ = some (.slice none 0 0) ∧ w1.drew.cell? ⟨w.heap.size, 1, none⟩ = some (.slice none 0 0) ∧ ∀ o, w1.drew.frozen? ⟨w.heap.size, o, none⟩ = false) :=
      ⟨(hb.cell (p := ⟨w.heap.size, 0, none⟩) (by show w.heap.size < _; omega)).trans (by simp [go_sem]), (hb.cell (p := ⟨w.heap.size, 1, none⟩) (by show w.heap.size < _; omega)).trans (by simp [go_sem]), fun o => (hb.frozen (p := ⟨w.heap.size, o, none⟩) (by show w.heap.size < _; omega)).trans (by simp [go_sem])⟩
    have L0 : ∀ w', Below w.heap.size w w' → w'.cell? ⟨pf, 0, none⟩ = some (.int .i64 f) := fun w' h => (h.cell (p := ⟨pf, 0, none⟩) hpf).trans co
    have L0' : ∀ w', Below w.heap.size w w' → w'.cell? ⟨pg, 0, none⟩ = some (.int .i64 g) := fun w' h => (h.cell (p := ⟨pg, 0, none⟩) hpg).trans co'
    have L1 : ∀ w', Below w.heap.size w w' → w'.cell? ⟨pa, 0, none⟩ = some (.slice (some ⟨b0, 0, none⟩) la la) := fun w' h => (h.cell (p := ⟨pa, 0, none⟩) hpa).trans ca0
    have L2 : ∀ w', Below w.heap.size w w' → w'.cell? ⟨pa, 1, none⟩ = some (.slice (some ⟨b1, 0, none⟩) lda lda) := fun w' h => (h.cell (p := ⟨pa, 1, none⟩) hpa).trans ca1
    have L3 : ∀ w', Below w.heap.size w w' → w'.cell? ⟨pb, 0, none⟩ = some (.slice (some ⟨b2, 0, none⟩) lb lb) := fun w' h => (h.cell (p := ⟨pb, 0, none⟩) hpb).trans cb0
    have L4 : ∀ w', Below w.heap.size w w' → w'.cell? ⟨pb, 1, none⟩ = some (.slice (some ⟨b3, 0, none⟩) ldb ldb) := fun w' h => (h.cell (p := ⟨pb, 1, none⟩) hpb).trans cb1
    clear hb hb' ca0 ca1 cb0 cb1 co co' hq K
    go_wp2_with fail
    refine wp_region_held (S := fun w' => Below w.heap.size w w') (by kernel_rfl) ?_
    change wpAnyH _ _ _ _ _ _ _ _ (World.drew _)
    refine wpAnyH_take (i := 0) (v := .int .i64 f) rfl (by kernel_rfl) (by kernel_rfl) (by kernel_rfl) (fun _ _ _ h => h) (Or.inl ⟨by rfl, ?_⟩) B1.out ?_
    · intro w' hS
      have := L0 w' hS
      clear L0 L0' L1 L2 L3 L4 hS
      go_simp
    refine wpAnyH_take (i := 2) (v := .int .i64 g) rfl (by kernel_rfl) (by kernel_rfl) (by kernel_rfl) (fun _ _ _ h => h) (Or.inl ⟨by rfl, ?_⟩) B1.out ?_
    · intro w' hS
      have := L0' w' hS
      clear L0 L0' L1 L2 L3 L4 hS
      go_simp
    refine wpAnyH_take (i := 4) (v := .agg #[.slice (some ⟨b0, 0, none⟩) la la, .slice (some ⟨b1, 0, none⟩) lda lda]) rfl (by kernel_rfl) (by kernel_rfl) (by kernel_rfl) (fun _ _ _ h => h) (Or.inl ⟨by rfl, ?_⟩) B1.out ?_
    · intro w' hS
      have := L1 w' hS
      have := L2 w' hS
      clear L0 L0' L1 L2 L3 L4 hS
      go_simp
    refine wpAnyH_take (i := 5) (v := .agg #[.slice (some ⟨b2, 0, none⟩) lb lb, .slice (some ⟨b3, 0, none⟩) ldb ldb]) rfl (by kernel_rfl) (by kernel_rfl) (by kernel_rfl) (fun _ _ _ h => h) (Or.inl ⟨by rfl, ?_⟩) B1.out ?_
    · intro w' hS
      have := L3 w' hS
      have := L4 w' hS
      clear L0 L0' L1 L2 L3 L4 hS
      go_simp
    clear L0 L0' L1 L2 L3 L4
    refine wpAnyH_ready (rs := [1]) (by kernel_rfl) (by simp) ?_
    refine AllReadyH.cons rfl (fun K hK => ?_) AllReadyH.nil
    go_simp
    by_cases hf : 1 ≤ f ∧ f < 11
    · obtain ⟨kf, rfl⟩ := Int.eq_ofNat_of_zero_le (show 0 ≤ f by omega)
      have hf0 : 1 ≤ kf := by omega
      have hf1 : kf < 11 := by omega
      refine (opOf_yes kf _ hf0 hf1).mono ?_
      rintro e w2 ⟨rfl, hb2⟩
      have B2 := hideP (B1.out.trans (hb2.mono (by show _ ≤ w1.heap.size; omega)))
      have hs2 : w.heap.size + 1 ≤ w2.heap.size := by
        have := hb2.size
        have e : w1.drew.heap.size = w1.heap.size := rfl
        omega
      have C2 := hideP (And.intro ((hb2.cell (p := ⟨w.heap.size, 0, none⟩) hs).trans CR.out.1) (And.intro ((hb2.cell (p := ⟨w.heap.size, 1, none⟩) hs).trans CR.out.2.1) (fun o => (hb2.frozen (p := ⟨w.heap.size, o, none⟩) hs).trans (CR.out.2.2 o))))
      clear hb2
      refine hK.out _ _ B2.out (fun _ => ?_)
      clear hK
      refine wpAnyH_ready (rs := [3]) (by kernel_rfl) (by simp) ?_
      refine AllReadyH.cons rfl (fun K hK => ?_) AllReadyH.nil
      go_simp
      by_cases hg : 1 ≤ g ∧ g < 11
      · obtain ⟨kg, rfl⟩ := Int.eq_ofNat_of_zero_le (show 0 ≤ g by omega)
        have hg0 : 1 ≤ kg := by omega
        have hg1 : kg < 11 := by omega
        have e := HR.out
        rw [Pl.innD_yes ⟨hf, hg, HQ.out.1, HQ.out.2⟩, Int.toNat_natCast] at e
        have HK2 := hideP (HKK.out kf kg rfl rfl hf0 hf1 hg0 hg1 HQ.out.1 HQ.out.2 e)
        clear HKK HR e hf hg
        refine (opOf_yes kg _ hg0 hg1).mono ?_
        rintro e w3 ⟨rfl, hb3⟩
        have B3 := hideP (B2.out.trans (hb3.mono (by omega)))
        have hs3 : w.heap.size + 1 ≤ w3.heap.size := by have := hb3.size; omega
        have C3 := hideP (And.intro ((hb3.cell (p := ⟨w.heap.size, 0, none⟩) hs2).trans C2.out.1) (And.intro ((hb3.cell (p := ⟨w.heap.size, 1, none⟩) hs2).trans C2.out.2.1) (fun o => (hb3.frozen (p := ⟨w.heap.size, o, none⟩) hs2).trans (C2.out.2.2 o))))
        clear hb3
        refine hK.out _ _ B3.out (fun _ => ?_)
        clear hK
        refine wpAnyH_ready (rs := [6]) (by kernel_rfl) (by simp) ?_
        refine AllReadyH.cons rfl (fun K hK => ?_) AllReadyH.nil
        go_simp
        refine (HK2.out w3 B3.out).mono ?_
        rintro e w4 ⟨hb4, ⟨rfl, u0, u1, rfl, hres⟩ | ⟨hc, rfl, rfl, rfl⟩⟩
        · have B4 := hideP (B3.out.trans (hb4.mono (by omega)))
          have R3 := hideP hres
          obtain ⟨q0, q1, f2⟩ := C3.out
          have r0 : w4.cell? ⟨w.heap.size, 0, none⟩ = some (.slice none 0 0) := (hb4.cell (p := ⟨w.heap.size, 0, none⟩) (by show w.heap.size < _; omega)).trans q0
          have r1 : w4.cell? ⟨w.heap.size, 1, none⟩ = some (.slice none 0 0) := (hb4.cell (p := ⟨w.heap.size, 1, none⟩) (by show w.heap.size < _; omega)).trans q1
          have f3 : ∀ o, w4.frozen? ⟨w.heap.size, o, none⟩ = false := fun o => (hb4.frozen (p := ⟨w.heap.size, o, none⟩) (by show w.heap.size < _; omega)).trans (f2 o)
          obtain ⟨x0, y0, e0⟩ := hres.1.form
          obtain ⟨x1, y1, e1⟩ := hres.2.1.form
          subst e0
          subst e1
          clear hres hb4 q0 q1 f2
          refine hK.out _ _ B4.out (fun _ => ?_)
          clear hK
          refine wpAnyH_ready (rs := [7]) (by kernel_rfl) (by simp) ?_
          refine AllReadyH.cons rfl (fun K hK => ?_) AllReadyH.nil
          go_simp
          refine hK.out _ _ ((B4.out.setCell (by simp) _).setCell (by simp) _) (fun _ => ?_)
          clear hK
          refine wpAnyH_done (by kernel_rfl) ?_ _
          go_wp2_with fail
          refine bodyPost_ret (v := .agg #[.slice x0 S.length y0, .slice x1 D.length y1]) (by simp [results, Try.results26, go_sem, r0, r1]) rfl ⟨(B4.out.setCell (by simp) _).setCell (by simp) _, .inl ⟨rfl, _, _, rfl, ?_, ?_, R3.out.2.2⟩⟩
          · exact Own.base (Own.store (Own.store R3.out.1 (by omega) _) (by omega) _) (by omega)
          · exact Own.base (Own.store (Own.store R3.out.2.1 (by omega) _) (by omega) _) (by omega)
        · exact ⟨rfl, B3.out.trans (hb4.mono (by omega)), .inr ⟨hc, rfl, rfl, rfl⟩⟩
      · have e := HR.out
        rw [Pl.innD_no (by intro h; exact hg h.2.1)] at e
        simp only [Prod.mk.injEq] at e
        obtain ⟨rfl, rfl, rfl⟩ := e
        refine (opOf_no g _ (by omega)).mono ?_
        rintro e w3 ⟨rfl, hb3⟩
        exact ⟨rfl, B2.out.trans (hb3.mono (by omega)), .inr ⟨by decide, rfl, rfl, rfl⟩⟩
    · have e := HR.out
      rw [Pl.innD_no (by intro h; exact hf h.1)] at e
      simp only [Prod.mk.injEq] at e
      obtain ⟨rfl, rfl, rfl⟩ := e
      refine (opOf_no f _ (by omega)).mono ?_
      rintro e w2 ⟨rfl, hb2⟩
      exact ⟨rfl, B1.out.trans (hb2.mono (by show _ ≤ w1.heap.size; omega)), .inr ⟨by decide, rfl, rfl, rfl⟩⟩
  · have e := HR.out
    rw [Pl.innD_no (by intro h; exact hq ⟨h.2.2.1, h.2.2.2⟩)] at e
    simp only [Prod.mk.injEq] at e
    obtain ⟨rfl, rfl, rfl⟩ := e
    exact ⟨rfl, (A.out _).trans (hb.mono (by omega)), .inr ⟨by decide, rfl, rfl, rfl⟩⟩

set_option maxRecDepth 100000 in
set_option maxHeartbeats 2000000 in
/-- impl.Inner -/
theorem inner_face (f g : Int) (b0 b1 b2 b3 : Nat) (sa da sb db : List Int) (w : World) (hl0 : sa.length ≤ 1048576) (hl1 : da.length ≤ 1048576) (hl2 : sb.length ≤ 1048576) (hl3 : db.length ≤ 1048576) (h0 : Rd w.heap.size w (.slice (some ⟨b0, 0, none⟩) sa.length sa.length) sa) (h1 : Rd w.heap.size w (.slice (some ⟨b1, 0, none⟩) da.length da.length) da) (h2 : Rd w.heap.size w (.slice (some ⟨b2, 0, none⟩) sb.length sb.length) sb) (h3 : Rd w.heap.size w (.slice (some ⟨b3, 0, none⟩) db.length db.length) db)
    (c : Int) (S D : List Int) (hres : Pl.innD f g sa da sb db = (c, S, D)) :
    Calls Try.prog 8 #[.int .i64 f, .int .i64 g, .agg #[.slice (some ⟨b0, 0, none⟩) sa.length sa.length, .slice (some ⟨b1, 0, none⟩) da.length da.length], .agg #[.slice (some ⟨b2, 0, none⟩) sb.length sb.length, .slice (some ⟨b3, 0, none⟩) db.length db.length]] w (FPost w c S D) := by
  have hmf : ∀ (fn : Fn) (first cap : Array Value) (w : World), (Instr.makeFunc fn first cap).run Try.prog w = .ok (.func fn first cap) w := fun _ _ _ _ => rfl
  have K : Hid (∀ pa pb pf pg w', Below w.heap.size w w' → w'.cell? ⟨pa, 0, none⟩ = some (.slice (some ⟨b0, 0, none⟩) sa.length sa.length) → w'.cell? ⟨pa, 1, none⟩ = some (.slice (some ⟨b1, 0, none⟩) da.length da.length) → w'.cell? ⟨pb, 0, none⟩ = some (.slice (some ⟨b2, 0, none⟩) sb.length sb.length) → w'.cell? ⟨pb, 1, none⟩ = some (.slice (some ⟨b3, 0, none⟩) db.length db.length) → w'.cell? ⟨pf, 0, none⟩ = some (.int .i64 f) → w'.cell? ⟨pg, 0, none⟩ = some (.int .i64 g) → Calls Try.prog 26 #[.pointer (some ⟨pa, 0, none⟩), .pointer (some ⟨pb, 0, none⟩), .pointer (some ⟨pf, 0, none⟩), .pointer (some ⟨pg, 0, none⟩)] w' (KPost w' c S D)) :=
    fun pa pb pf pg w' hb g0 g1 g2 g3 g4 g5 => ic_all pa pb pf pg f g b0 b1 b2 b3 sa da sb db w' hl0 hl1 hl2 hl3 ((h0.keep hb).up hb.size) ((h1.keep hb).up hb.size) ((h2.keep hb).up hb.size) ((h3.keep hb).up hb.size) g0 g1 g2 g3 g4 g5 c S D hres
      (fun kf kg hf hg f0 f1 g0 g1 oka okb e w'' hb' => by
        subst hf
        subst hg
        have hb2 := hb.trans (hb'.mono hb.size)
        exact innerI_any (50 + kf) (50 + kg) (Pl.noneV kf) (Pl.noneV kg) (Pl.noneB kf) (Pl.noneB kg) (Pl.twoM kf) (Pl.twoM kg) (callF2 kg g0 g1) (callF2 kf f0 f1) (fun x y w3 z0 z1 z2 z3 => cell2_any kf x y w3 f0 f1 z0 z1 z2 z3) (fun x y z0 z1 z2 z3 => Pl.two_bd kf f0 f1 x y z0 z1 z2 z3) (fun x y w3 z0 z1 z2 z3 => cell2_any kg x y w3 g0 g1 z0 z1 z2 z3) (fun x y z0 z1 z2 z3 => Pl.two_bd kg g0 g1 x y z0 z1 z2 z3) b0 b1 b2 b3 sa da sb db w'' ((h0.keep hb2).up hb2.size) ((h1.keep hb2).up hb2.size) ((h2.keep hb2).up hb2.size) ((h3.keep hb2).up hb2.size) oka okb c S D e)
  clear h0 h1 h2 h3 hres
  generalize sa.length = la at *
  generalize da.length = lda at *
  generalize sb.length = lb at *
  generalize db.length = ldb at *
  go_enter Try.func8, Try.ntmps8
  go_wp2_with fail
  refine (answer_any 26 _ c S D _ (callF32 _) ?_).mono ?_
  · refine K.out (w.heap.size + 1 + 1) (w.heap.size + 1 + 1 + 1) w.heap.size (w.heap.size + 1) _ ?_ ?_ ?_ ?_ ?_ ?_ ?_
    · exact (((((((Below.refl _ _).alloc (Nat.le_refl _) _).alloc (by simp) _).alloc (by simp; omega) _).alloc (by simp; omega) _).alloc (by simp; omega) _).alloc (by simp; omega) _).alloc (by simp; omega) _
    · simp [go_sem]
    · simp [go_sem]
    · simp [go_sem]
    · simp [go_sem]
    · simp [go_sem]
    · simp [go_sem]
  rintro e w1 ⟨hb1, u0, u1, rfl, hres⟩
  have B0 : Hid (Below w.heap.size w w1) := ((((((Below.refl _ _).alloc (Nat.le_refl _) _).alloc (by simp) _).alloc (by simp; omega) _).alloc (by simp; omega) _).alloc (by simp; omega) _).trans (hb1.mono (by simp; omega))
  have hs := hb1.size
  simp at hs
  obtain ⟨hc, hf⟩ := bcell hb1
  have r0 : w1.cell? ⟨w.heap.size + 1 + 1 + 1 + 1, 0, none⟩ = some (.slice none 0 0) := by rw [hc (w.heap.size + 1 + 1 + 1 + 1) 0 (by simp)]; simp [go_sem]
  have r1 : w1.cell? ⟨w.heap.size + 1 + 1 + 1 + 1, 1, none⟩ = some (.slice none 0 0) := by rw [hc (w.heap.size + 1 + 1 + 1 + 1) 1 (by simp)]; simp [go_sem]
  have f3 : ∀ o, w1.frozen? ⟨w.heap.size + 1 + 1 + 1 + 1, o, none⟩ = false := fun o => by rw [hf (w.heap.size + 1 + 1 + 1 + 1) o (by simp)]; simp [go_sem]
  have R : Hid (Res (w.heap.size + 1 + 1 + 1 + 1 + 1) w1 u0 u1 S D) := by
    have := hres
    show Res _ _ _ _ _ _
    simpa using this
  obtain ⟨x0, y0, e0⟩ := hres.1.form
  obtain ⟨x1, y1, e1⟩ := hres.2.1.form
  subst e0
  subst e1
  clear hc hf hb1 hres K
  go_wp2_with fail
  refine bodyPost_ret (v := .tuple #[.agg #[.slice x0 S.length y0, .slice x1 D.length y1], .int .i64 c]) (by simp [results, Try.results8, go_sem, r0, r1]) rfl ⟨(B0.out.setCell (by simp; omega) _).setCell (by simp; omega) _, _, _, rfl, ?_, ?_, R.out.2.2⟩
  · exact Own.base (Own.store (Own.store R.out.1 (by omega) _) (by omega) _) (by omega)
  · exact Own.base (Own.store (Own.store R.out.2.1 (by omega) _) (by omega) _) (by omega)

end Go.Proofs.Ytjhflbhbegocdaa
