import Derived.Test.YtmobjomebmipdaaRed
namespace Go.Proofs.Ytmobjomebmipdaa
open Go.RowKit
set_option linter.unusedVariables false

set_option maxRecDepth 100000 in
set_option maxHeartbeats 4000000 in
/-- spec.l2Reduce: a scalar -/
theorem l2Reduce_scalar (op : Int) (b0 o0 c0 b1 o1 c1 : Nat) (sh da : List Int) (w : World) (h1 : Rd w.heap.size w (.slice (some ⟨b1, o1, none⟩) da.length c1) da) (hok : Pl.okB sh da = true) (hsl : sh.length = 0) :
    Calls Try.prog 71 #[.int .i64 op, .agg #[.slice (some ⟨b0, o0, none⟩) sh.length c0, .slice (some ⟨b1, o1, none⟩) da.length c1]] w (FPost w 0 [] da) := by
  obtain ⟨hm0, hm1⟩ := Pl.ok_max hok
  have test : ((sh.length : Int) == 0) = true := by simp [hsl]
  have A : Hid (∀ o o' o'', Below w.heap.size w (((w.alloc o).alloc o').alloc o'')) := fun o o' o'' => below3 w o o' o''
  have H1 := hideP h1
  clear h1 hok hsl
  go_enter Try.func71, Try.ntmps71
  go_wp2_with fail
  refine (l2Copy_any _ da _ (by omega) ((H1.out.keep (A.out _ _ _)).up (by simp; omega))).mono ?_
  rintro e w1 ⟨u, rfl, ho1, hb1⟩
  have hs1 : w.heap.size + 1 + 1 + 1 ≤ w1.heap.size := by have := hb1.size; simpa using this
  have X := hideP (boxes2 (w := w) (x0 := .slice (some ⟨b0, o0, none⟩) sh.length c0) (x1 := .slice (some ⟨b1, o1, none⟩) da.length c1) (((Below.refl _ _).alloc (by simp) _).trans (hb1.mono (by simp))))
  have ho1' : w1.ownsRow (w.heap.size + 1 + 1) 3 1 u da.length (da.map (Value.int .i64)) := owns_base ho1 (by simp)
  have HO1 := hideP (own_of_any ho1')
  obtain ⟨xu, yu, eu⟩ := owns_form ho1
  subst eu
  clear ho1 ho1' hb1
  have r0 := X.out.2.1.1
  have r1 := X.out.2.1.2.1
  have f2 := X.out.2.1.2.2
  go_wp2_with fail
  refine bodyPost_ret (v := .tuple #[.agg #[.slice (some ⟨w.heap.size + 1 + 1, 0, none⟩) 0 0, .slice xu da.length yu], .int .i64 0]) (by simp [results, Try.results71, go_sem, r0, r1]) rfl ⟨(X.out.2.2.setCell (by simp) _).setCell (by simp) _, _, _, rfl, ⟨_, _, rfl, .inl rfl⟩, ?_, .inl rfl⟩
  exact Own.base (Own.store (Own.store HO1.out (by omega) _) (by omega) _) (by omega)

set_option maxRecDepth 100000 in
set_option maxHeartbeats 4000000 in
/-- spec.l2Reduce: no rows, the operation has no value for nothing -/
theorem l2Reduce_refused (op nv : Int) (b0 o0 c0 b1 o1 c1 : Nat) (sh da : List Int) (w : World) (h0 : Rd w.heap.size w (.slice (some ⟨b0, o0, none⟩) sh.length c0) sh) (hN : ∀ w', Calls Try.prog 128 #[.int .i64 op] w' fun e w'' => e = .returned (.tuple #[.int .i64 nv, .bool false]) ∧ w'' = w')
    (hsl : ¬ sh.length = 0) (hl3 : sh.length ≤ 3) (hn : sh.getD 0 0 = 0) :
    Calls Try.prog 71 #[.int .i64 op, .agg #[.slice (some ⟨b0, o0, none⟩) sh.length c0, .slice (some ⟨b1, o1, none⟩) da.length c1]] w (FPost w 1 [] []) := by
  have test : ((sh.length : Int) == 0) = false := by rw [beq_eq_false_iff_ne]; omega
  obtain ⟨hlt0, hce⟩ := rd_cell h0 (i := 0) (by omega)
  rw [Nat.add_zero, hn] at hce
  have B : Hid (∀ o o', Below w.heap.size w ((w.alloc o).alloc o')) := fun o o' => ((Below.refl _ _).alloc (Nat.le_refl _) _).alloc (by simp) _
  have KN := hideP hN
  clear h0 hN hn
  go_enter Try.func71, Try.ntmps71
  go_wp2_with (go_at_call 128; refine (KN.out _).mono ?_; rintro e w' ⟨rfl, rfl⟩)
  refine bodyPost_ret (v := .tuple #[.agg #[.slice none 0 0, .slice none 0 0], .int .i64 1]) (by simp [results, Try.results71, go_sem]) rfl ⟨B.out _ _, _, _, rfl, Own.nil _ _, Own.nil _ _, .inl rfl⟩

set_option maxRecDepth 100000 in
set_option maxHeartbeats 4000000 in
/-- spec.l2Reduce: no rows -/
theorem l2Reduce_none (op nv : Int) (b0 o0 c0 b1 o1 c1 : Nat) (sh da : List Int) (w : World) (h0 : Rd w.heap.size w (.slice (some ⟨b0, o0, none⟩) sh.length c0) sh) (hN : ∀ w', Calls Try.prog 128 #[.int .i64 op] w' fun e w'' => e = .returned (.tuple #[.int .i64 nv, .bool true]) ∧ w'' = w')
    (hc0 : sh.length ≤ c0) (hc0' : c0 ≤ 9223372036854775807) (hsl : ¬ sh.length = 0) (hl3 : sh.length ≤ 3) (hn : sh.getD 0 0 = 0) (c : Int) (S D : List Int) (hres : (if Pl.fitsB sh.tail = true then (0, sh.tail, List.replicate (Pl.prodC sh.tail).toNat nv) else (6, [], [])) = (c, S, D)) :
    Calls Try.prog 71 #[.int .i64 op, .agg #[.slice (some ⟨b0, o0, none⟩) sh.length c0, .slice (some ⟨b1, o1, none⟩) da.length c1]] w (FPost w c S D) := by
  have test : ((sh.length : Int) == 0) = false := by rw [beq_eq_false_iff_ne]; omega
  obtain ⟨hlt0, hce⟩ := rd_cell h0 (i := 0) (by omega)
  rw [Nat.add_zero, hn] at hce
  have htl : sh.tail.length = sh.length - 1 := by simp
  have RT := hideP (fun c' => rd_tail h0 (by omega) c')
  have RZ : Hid (sh.length - 1 = 0 → ∀ c', Rd w.heap.size w (.slice (some ⟨b0, o0, none⟩) 0 c') sh.tail) := fun h c' => rd_zero _ _ _ _ _ (by omega)
  have B : Hid (∀ o o', Below w.heap.size w ((w.alloc o).alloc o')) := fun o o' => ((Below.refl _ _).alloc (Nat.le_refl _) _).alloc (by simp) _
  have KN := hideP hN
  have KT : Hid (∀ w' v, Below w.heap.size w w' → Rd w.heap.size w v sh.tail → Calls Try.prog 40 #[v] w' fun e w'' => ∃ u, e = .returned u ∧ w''.ownsRow w'.heap.size 3 1 u sh.tail.length (sh.tail.map (Value.int .i64)) ∧ Below w'.heap.size w' w'') := fun w' v hb h => l2Copy_any v sh.tail w' (by omega) ((h.keep hb).up hb.size)
  have HR := hideP hres
  have hl2 : sh.tail.length ≤ 2 := by omega
  generalize sh.tail = st at *
  generalize sh.length = L at *
  clear h0 hN hn hres htl
  by_cases hc : c0 = 1
  · subst hc
    have RZ' := hideP (RZ.out (by omega))
    clear RZ
    go_enter Try.func71, Try.ntmps71
    go_wp2_with (go_at_call 128; refine (KN.out _).mono ?_; rintro e w' ⟨rfl, rfl⟩)
    refine (KT.out _ _ (B.out _ _) (RZ'.out _)).mono ?_
    rintro e w1 ⟨u, rfl, ho1, hb1⟩
    have PB : Hid (∀ W, Below w1.heap.size w1 W → (W.cell? ⟨w.heap.size, 0, none⟩ = some (.slice (some ⟨b0, o0, none⟩) L 1) ∧ W.cell? ⟨w.heap.size, 1, none⟩ = some (.slice (some ⟨b1, o1, none⟩) da.length c1)) ∧ (W.cell? ⟨w.heap.size + 1, 0, none⟩ = some (.slice none 0 0) ∧ W.cell? ⟨w.heap.size + 1, 1, none⟩ = some (.slice none 0 0) ∧ ∀ o, W.frozen? ⟨w.heap.size + 1, o, none⟩ = false) ∧ Below w.heap.size w W) := fun W hb => by
      have hs := hb1.size
      refine boxes2 (hb := ?_)
      have k : Below (w.heap.size + 1 + 1) _ w1 := hb1.mono (by simp)
      exact k.trans (hb.mono (by simp at hs; omega))
    have hs1 : w.heap.size + 1 + 1 ≤ w1.heap.size := by have := hb1.size; simpa using this
    have ho1' : w1.ownsRow (w.heap.size + 1 + 1) 3 1 u st.length (st.map (Value.int .i64)) := by simpa using ho1
    have HO1 := hideP (own_of_any ho1')
    obtain ⟨xu, yu, eu⟩ := owns_form ho1
    subst eu
    clear ho1 ho1' hb1 hce
    have A1 : Hid (Below w1.heap.size w1 (w1.alloc (.cells #[] 3))) := (Below.refl _ _).alloc (Nat.le_refl _) _
    have OA := hideP (HO1.out.keep A1.out)
    go_wp2_with fail
    refine (l2Made_two _ _ _ _ _ _ st _ (by omega) OA.out.rd (Nat.le_refl _)).mono ?_
    rintro e w2 ⟨q0, n0, e0, q1, n1, e1, cc, rfl, hb2, hor⟩
    have B2 := hideP (A1.out.trans (hb2.mono (by simp)))
    have hs2 : w1.heap.size + 1 ≤ w2.heap.size := by have := hb2.size; simpa using this
    have O2 := hideP (OA.out.keep hb2)
    clear hb2 A1 OA
    rcases hor with ⟨hf, rfl, eq0, eq1⟩ | ⟨hf, rfl, eq0, eq1⟩
    · simp only [Value.slice.injEq] at eq0 eq1
      obtain ⟨rfl, rfl, rfl⟩ := eq0
      obtain ⟨rfl, rfl, rfl⟩ := eq1
      have hre := HR.out
      rw [if_pos hf] at hre
      simp only [Prod.mk.injEq] at hre
      obtain ⟨rfl, rfl, rfl⟩ := hre
      have A3 : Hid (∀ o o', Below w2.heap.size w2 ((w2.alloc o).alloc o')) := fun o o' => ((Below.refl _ _).alloc (Nat.le_refl _) _).alloc (by simp) _
      have KW : Hid (∀ o, Calls Try.prog 90 #[.agg #[.slice none 0 0, .slice (some ⟨w2.heap.size + 1, 0, none⟩) 1 1], .slice q0 st.length e0] ((w2.alloc o).alloc (.cells #[.int .i64 nv] 3)) fun e w' => ∃ u0 u1, e = .returned (.agg #[u0, u1]) ∧ Res ((w2.alloc o).alloc (.cells #[.int .i64 nv] 3)).heap.size w' u0 u1 st (List.replicate (Pl.prodC st).toNat nv) ∧ Below ((w2.alloc o).alloc (.cells #[.int .i64 nv] 3)).heap.size ((w2.alloc o).alloc (.cells #[.int .i64 nv] 3)) w') := fun o =>
        l2Wide_any none 0 0 (w2.heap.size + 1) 0 1 1 (.slice q0 st.length e0) nv st _ hf (by simp) (by omega) (by simp [go_sem]) (((O2.out.keep (A3.out _ _)).rd))
      clear hf HR
      go_wp2_with fail
      refine (KW.out _).mono ?_
      rintro e w3 ⟨u0, u1, rfl, res3, hb3⟩
      have B3 := hideP (B2.out.trans ((A3.out _ _).trans (hb3.mono (by simp; omega)) |>.mono (by omega)))
      have hs3 := B3.out.size
      obtain ⟨z0, y0, z1, y1, ez0, ez1⟩ := res3.forms
      have R3 := hideP res3
      have hsa : w.heap.size + 1 + 1 ≤ ((w2.alloc (.cells #[.slice q0 st.length e0, .slice (some ⟨w1.heap.size, 0, none⟩) 0 0] 27)).alloc (.cells #[.int .i64 nv] 3)).heap.size := by simp; omega
      have O0 := hideP (R3.out.1.base hsa)
      have O1 := hideP (R3.out.2.1.base hsa)
      subst ez0
      subst ez1
      clear res3 hb3 KW hsa
      have r0 := (PB.out w3 B3.out).2.1.1
      have r1 := (PB.out w3 B3.out).2.1.2.1
      have f2 := (PB.out w3 B3.out).2.1.2.2
      have HB3 := hideP (PB.out w3 B3.out).2.2
      go_wp2_with fail
      refine bodyPost_ret (v := .tuple #[.agg #[.slice z0 st.length y0, .slice z1 (List.replicate (Pl.prodC st).toNat nv).length y1], .int .i64 0]) (by simp [results, Try.results71, go_sem, r0, r1]) rfl ⟨(HB3.out.setCell (by simp) _).setCell (by simp) _, _, _, rfl, ?_, ?_, R3.out.2.2⟩
      · exact Own.base (Own.store (Own.store O0.out (by omega) _) (by omega) _) (by omega)
      · exact Own.base (Own.store (Own.store O1.out (by omega) _) (by omega) _) (by omega)
    · simp only [Value.slice.injEq] at eq0 eq1
      obtain ⟨rfl, rfl, rfl⟩ := eq0
      obtain ⟨rfl, rfl, rfl⟩ := eq1
      have hre := HR.out
      rw [if_neg (by rw [hf]; decide)] at hre
      simp only [Prod.mk.injEq] at hre
      obtain ⟨rfl, rfl, rfl⟩ := hre
      have B3 : Hid (∀ o, Below w1.heap.size w1 (w2.alloc o)) := fun o => B2.out.alloc (by omega) _
      have r0 := fun o => (PB.out _ (B3.out o)).2.1.1
      have r1 := fun o => (PB.out _ (B3.out o)).2.1.2.1
      have f2 := fun o => (PB.out _ (B3.out o)).2.1.2.2
      have HB3 := hideP (fun o => (PB.out _ (B3.out o)).2.2)
      clear hf HR
      go_wp2_with fail
      refine bodyPost_ret (v := .tuple #[.agg #[.slice none 0 0, .slice none 0 0], .int .i64 6]) (by simp [results, Try.results71, go_sem, r0, r1]) rfl ⟨((HB3.out _).setCell (by simp) _).setCell (by simp) _, _, _, rfl, Own.nil _ _, Own.nil _ _, .inl rfl⟩
  · go_enter Try.func71, Try.ntmps71
    go_wp2_with (go_at_call 128; refine (KN.out _).mono ?_; rintro e w' ⟨rfl, rfl⟩)
    refine (KT.out _ _ (B.out _ _) (RT.out _)).mono ?_
    rintro e w1 ⟨u, rfl, ho1, hb1⟩
    have PB : Hid (∀ W, Below w1.heap.size w1 W → (W.cell? ⟨w.heap.size, 0, none⟩ = some (.slice (some ⟨b0, o0, none⟩) L c0) ∧ W.cell? ⟨w.heap.size, 1, none⟩ = some (.slice (some ⟨b1, o1, none⟩) da.length c1)) ∧ (W.cell? ⟨w.heap.size + 1, 0, none⟩ = some (.slice none 0 0) ∧ W.cell? ⟨w.heap.size + 1, 1, none⟩ = some (.slice none 0 0) ∧ ∀ o, W.frozen? ⟨w.heap.size + 1, o, none⟩ = false) ∧ Below w.heap.size w W) := fun W hb => by
      have hs := hb1.size
      refine boxes2 (hb := ?_)
      have k : Below (w.heap.size + 1 + 1) _ w1 := hb1.mono (by simp)
      exact k.trans (hb.mono (by simp at hs; omega))
    have hs1 : w.heap.size + 1 + 1 ≤ w1.heap.size := by have := hb1.size; simpa using this
    have ho1' : w1.ownsRow (w.heap.size + 1 + 1) 3 1 u st.length (st.map (Value.int .i64)) := by simpa using ho1
    have HO1 := hideP (own_of_any ho1')
    obtain ⟨xu, yu, eu⟩ := owns_form ho1
    subst eu
    clear ho1 ho1' hb1 hce
    have A1 : Hid (Below w1.heap.size w1 (w1.alloc (.cells #[] 3))) := (Below.refl _ _).alloc (Nat.le_refl _) _
    have OA := hideP (HO1.out.keep A1.out)
    go_wp2_with fail
    refine (l2Made_two _ _ _ _ _ _ st _ (by omega) OA.out.rd (Nat.le_refl _)).mono ?_
    rintro e w2 ⟨q0, n0, e0, q1, n1, e1, cc, rfl, hb2, hor⟩
    have B2 := hideP (A1.out.trans (hb2.mono (by simp)))
    have hs2 : w1.heap.size + 1 ≤ w2.heap.size := by have := hb2.size; simpa using this
    have O2 := hideP (OA.out.keep hb2)
    clear hb2 A1 OA
    rcases hor with ⟨hf, rfl, eq0, eq1⟩ | ⟨hf, rfl, eq0, eq1⟩
    · simp only [Value.slice.injEq] at eq0 eq1
      obtain ⟨rfl, rfl, rfl⟩ := eq0
      obtain ⟨rfl, rfl, rfl⟩ := eq1
      have hre := HR.out
      rw [if_pos hf] at hre
      simp only [Prod.mk.injEq] at hre
      obtain ⟨rfl, rfl, rfl⟩ := hre
      have A3 : Hid (∀ o o', Below w2.heap.size w2 ((w2.alloc o).alloc o')) := fun o o' => ((Below.refl _ _).alloc (Nat.le_refl _) _).alloc (by simp) _
      have KW : Hid (∀ o, Calls Try.prog 90 #[.agg #[.slice none 0 0, .slice (some ⟨w2.heap.size + 1, 0, none⟩) 1 1], .slice q0 st.length e0] ((w2.alloc o).alloc (.cells #[.int .i64 nv] 3)) fun e w' => ∃ u0 u1, e = .returned (.agg #[u0, u1]) ∧ Res ((w2.alloc o).alloc (.cells #[.int .i64 nv] 3)).heap.size w' u0 u1 st (List.replicate (Pl.prodC st).toNat nv) ∧ Below ((w2.alloc o).alloc (.cells #[.int .i64 nv] 3)).heap.size ((w2.alloc o).alloc (.cells #[.int .i64 nv] 3)) w') := fun o =>
        l2Wide_any none 0 0 (w2.heap.size + 1) 0 1 1 (.slice q0 st.length e0) nv st _ hf (by simp) (by omega) (by simp [go_sem]) (((O2.out.keep (A3.out _ _)).rd))
      clear hf HR
      go_wp2_with fail
      refine (KW.out _).mono ?_
      rintro e w3 ⟨u0, u1, rfl, res3, hb3⟩
      have B3 := hideP (B2.out.trans ((A3.out _ _).trans (hb3.mono (by simp; omega)) |>.mono (by omega)))
      have hs3 := B3.out.size
      obtain ⟨z0, y0, z1, y1, ez0, ez1⟩ := res3.forms
      have R3 := hideP res3
      have hsa : w.heap.size + 1 + 1 ≤ ((w2.alloc (.cells #[.slice q0 st.length e0, .slice (some ⟨w1.heap.size, 0, none⟩) 0 0] 27)).alloc (.cells #[.int .i64 nv] 3)).heap.size := by simp; omega
      have O0 := hideP (R3.out.1.base hsa)
      have O1 := hideP (R3.out.2.1.base hsa)
      subst ez0
      subst ez1
      clear res3 hb3 KW hsa
      have r0 := (PB.out w3 B3.out).2.1.1
      have r1 := (PB.out w3 B3.out).2.1.2.1
      have f2 := (PB.out w3 B3.out).2.1.2.2
      have HB3 := hideP (PB.out w3 B3.out).2.2
      go_wp2_with fail
      refine bodyPost_ret (v := .tuple #[.agg #[.slice z0 st.length y0, .slice z1 (List.replicate (Pl.prodC st).toNat nv).length y1], .int .i64 0]) (by simp [results, Try.results71, go_sem, r0, r1]) rfl ⟨(HB3.out.setCell (by simp) _).setCell (by simp) _, _, _, rfl, ?_, ?_, R3.out.2.2⟩
      · exact Own.base (Own.store (Own.store O0.out (by omega) _) (by omega) _) (by omega)
      · exact Own.base (Own.store (Own.store O1.out (by omega) _) (by omega) _) (by omega)
    · simp only [Value.slice.injEq] at eq0 eq1
      obtain ⟨rfl, rfl, rfl⟩ := eq0
      obtain ⟨rfl, rfl, rfl⟩ := eq1
      have hre := HR.out
      rw [if_neg (by rw [hf]; decide)] at hre
      simp only [Prod.mk.injEq] at hre
      obtain ⟨rfl, rfl, rfl⟩ := hre
      have B3 : Hid (∀ o, Below w1.heap.size w1 (w2.alloc o)) := fun o => B2.out.alloc (by omega) _
      have r0 := fun o => (PB.out _ (B3.out o)).2.1.1
      have r1 := fun o => (PB.out _ (B3.out o)).2.1.2.1
      have f2 := fun o => (PB.out _ (B3.out o)).2.1.2.2
      have HB3 := hideP (fun o => (PB.out _ (B3.out o)).2.2)
      clear hf HR
      go_wp2_with fail
      refine bodyPost_ret (v := .tuple #[.agg #[.slice none 0 0, .slice none 0 0], .int .i64 6]) (by simp [results, Try.results71, go_sem, r0, r1]) rfl ⟨((HB3.out _).setCell (by simp) _).setCell (by simp) _, _, _, rfl, Own.nil _ _, Own.nil _ _, .inl rfl⟩

/-- Reduce -/
def Pl.redM (op : Int) (sh da : List Int) : Int × List Int × List Int := Pl.moM (Pl.reduceM (Pl.twoM op) (Pl.noneV op.toNat) (Pl.noneB op.toNat)) op sh da

/-- spec.l2Reduce -/
theorem l2Reduce_any (k : Nat) (k0 : 1 ≤ k) (k1 : k < 11) (b0 o0 c0 b1 o1 c1 : Nat) (sh da : List Int) (w : World)
    (h0 : Rd w.heap.size w (.slice (some ⟨b0, o0, none⟩) sh.length c0) sh) (h1 : Rd w.heap.size w (.slice (some ⟨b1, o1, none⟩) da.length c1) da) (hc0 : sh.length ≤ c0) (hc0' : c0 ≤ 9223372036854775807) (hc1 : da.length ≤ c1) (hc1' : c1 ≤ 9223372036854775807)
    (hok : Pl.okB sh da = true) (c : Int) (S D : List Int) (hres : Pl.reduceM (Pl.twoM k) (Pl.noneV k) (Pl.noneB k) sh da = (c, S, D)) :
    Calls Try.prog 71 #[.int .i64 (k : Int), .agg #[.slice (some ⟨b0, o0, none⟩) sh.length c0, .slice (some ⟨b1, o1, none⟩) da.length c1]] w (FPost w c S D) := by
  unfold Pl.reduceM at hres
  by_cases hsl : sh.length = 0
  · rw [if_pos hsl] at hres
    simp only [Prod.mk.injEq] at hres
    obtain ⟨rfl, rfl, rfl⟩ := hres
    exact l2Reduce_scalar (k : Int) b0 o0 c0 b1 o1 c1 sh da w h1 hok hsl
  · rw [if_neg hsl] at hres
    have hm := (Pl.ok_max hok).1
    by_cases hn : sh.getD 0 0 = 0
    · rw [if_pos hn] at hres
      have hN := fun w' => l2None_any k w' k0 k1
      by_cases hb : Pl.noneB k = true
      · rw [if_pos hb] at hres
        simp only [Prod.mk.injEq] at hres
        obtain ⟨rfl, rfl, rfl⟩ := hres
        rw [hb] at hN
        exact l2Reduce_refused (k : Int) (Pl.noneV k) b0 o0 c0 b1 o1 c1 sh da w h0 hN hsl hm hn
      · rw [if_neg hb] at hres
        have hb' : Pl.noneB k = false := by simpa using hb
        rw [hb'] at hN
        exact l2Reduce_none (k : Int) (Pl.noneV k) b0 o0 c0 b1 o1 c1 sh da w h0 hN hc0 hc0' hsl hm hn c S D hres
    · rw [if_neg hn] at hres
      obtain ⟨hft, n, s, e1, e2, n1, n2, hl⟩ := Pl.ok_rows hok hsl hn
      rw [e1, e2] at hres
      exact l2Reduce_rows (k : Int) (Pl.twoM k) b0 o0 c0 b1 o1 c1 n s sh da w (fun x y w' g0 g1 g2 g3 => l2Two_any k x y w' k0 k1 g0 g1 g2 g3) (fun x y g0 g1 g2 g3 => Pl.two_bd k k0 k1 x y g0 g1 g2 g3) h0 h1 hc0 hc0' hc1 hc1' hok hsl hft e1 e2 n1 n2 hl _ rfl c S D hres

end Go.Proofs.Ytmobjomebmipdaa
