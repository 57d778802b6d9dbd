import Derived.Test.YtljkolffjjhgeaaDoorExk
namespace Go.Proofs.YtljkolffjjhgeaaDoor
open Go.RowKit
set_option linter.unusedVariables false
set_option maxRecDepth 100000
set_option maxHeartbeats 2500000 in
/-- (*impl.parser).expr, in front of an operand with a function behind it -/
theorem expr_two (n : Nat) (ih : ∀ k, k ≤ n → HXe k) (l : List Pl.Itk) (p cap a o mb mo cp : Nat) (ao : Option Addr) (be : Bool) (w : World) (hl : l.length ≤ 1048576) (ha : a ≤ l.length) (ho : o + (l.length - a) ≤ 1048570) (hn : 2 * (l.length - a) + 1 ≤ n + 1) (hk : ∀ t ∈ l, Pl.iOk t) (hE : Ej w l p ao mb mo cp) (hP : Ps w p ao l.length cap a o be) (hat : Pl.atF (Pl.rI l a) = false) (oo : Pl.O) (r : List Pl.T) (hpop : Pl.popnd n (Pl.rI l a) = some (oo, r)) (hat2 : Pl.atF r = true) :
    Calls Tryd.prog 69 #[.pointer (some ⟨p, 0, none⟩)] w (PoX (fun x => be || x.bey o) l p cap a ao o w (PB n (some (oo, r)))) := by
  have hpl := hP.lt
  have KA := hideP (atFunction_any l p cap a o mb mo cp ao be w hl (by omega) hE.m hP (hE.r.up (Nat.le_of_lt hP.lt)))
  rw [Pl.atf_T hk, hat] at KA
  have KO : Hid (∀ w', Below w.heap.size w w' → Calls Tryd.prog 77 #[.pointer (some ⟨p, 0, none⟩)] w' (PoO (fun x => be || x.bey o) l p cap a ao o w' (some (oo, r)))) := fun w' hb => by
    have := operand_fuel n ih l p cap a o mb mo cp ao be w' hl ha ho (by omega) hk (hE.low (hb.mono (Nat.le_of_lt hpl))) (hP.keep hb)
    rw [hpop] at this
    exact this
  have KA2 : Hid (∀ w' a' b2, w.grownBy w' (some p) → Ps w' p ao l.length cap a' o b2 → a' ≤ 1048590 → Calls Tryd.prog 75 #[.pointer (some ⟨p, 0, none⟩)] w' fun e w2 => e = .returned (.bool (Pl.atF (Pl.rI l a'))) ∧ Below w'.heap.size w' w2) := fun w' a' b2 hg hP' h => by
    have hE' := hE.grown (Nat.le_of_lt hpl) hg
    have := atFunction_any l p cap a' o mb mo cp ao b2 w' hl h hE'.m hP' (hE'.r.up (Nat.le_of_lt hP'.lt))
    rw [Pl.atf_T hk] at this
    exact this
  have REC : Hid (∀ a', a' ≤ l.length → Pl.rI l a' = r → ∀ w' b2, w.grownBy w' (some p) → Ps w' p ao l.length cap a' o b2 → Hid (Calls Tryd.prog 76 #[.pointer (some ⟨p, 0, none⟩)] w' fun e w2 => e = .returned (ag8 (Pl.fuI l a')) ∧ Ps w2 p ao l.length cap (Pl.fuI l a').2.2 o b2 ∧ w'.grownBy w2 (some p)) ∧ Hid ((Pl.fuI l a').2.1 = Pl.fq (Pl.pfun r).1.two ∧ a' < (Pl.fuI l a').2.2 ∧ (Pl.fuI l a').2.2 ≤ a' + 3) ∧ Hid (¬ (Pl.fuI l a').2.1.1 = 0 → a < a' → ∀ w4, w.grownBy w4 (some p) → Ps w4 p ao l.length cap (Pl.fuI l a').2.2 o b2 → Calls Tryd.prog 69 #[.pointer (some ⟨p, 0, none⟩)] w4 (PoX (fun x => b2 || x.bey o) l p cap (Pl.fuI l a').2.2 ao o w4 (Pl.pexpr n (Pl.pfun r).2)))) := fun a' hal' hr w' b2 hg hP' => by
    have hat' : Pl.atF (Pl.rI l a') = true := by rw [hr]; exact hat2
    obtain ⟨f1, f2, f3⟩ := Pl.fu_T hk hat'
    have hlt := Pl.atF_lt hat'
    have hle := Pl.fu_le l a'
    rw [hr] at f1 f2 f3
    refine ⟨function_any l p cap a' o mb mo cp ao b2 w' hl (by omega) (hE.grown (Nat.le_of_lt hpl) hg) hP', ⟨f2, hle⟩, fun h0 haa w4 hg4 hP4 => ?_⟩
    have hin := Pl.fu_in hlt (.inr h0)
    rw [← f3]
    exact ih n (Nat.le_refl _) l p cap _ o mb mo cp ao b2 w4 hl hin (by omega) (by omega) hk (hE.grown (Nat.le_of_lt hpl) hg4) hP4
  clear hE hP ih hk hpop
  have HPB : Hid (PB n (some (oo, r)) = if (Pl.pfun r).1.two.k = 0 then none else (Pl.pexpr n (Pl.pfun r).2).map fun q => (.two oo (Pl.pfun r).1 q.1, q.2)) := by show _ = _; rw [PB, if_pos hat2]
  generalize PB n (some (oo, r)) = Y at *
  generalize Pl.pfun r = pf at *
  by_cases hz : pf.1.two.k = 0
  · rw [if_pos hz] at HPB
    obtain rfl := HPB.out
    clear HPB
    go_enter Tryd.func69, Tryd.ntmps69
    go_wp2_with fail
    refine KA.out.mono ?_
    rintro e w1 ⟨rfl, hb1⟩
    have K1 := hideP (KO.out w1 hb1)
    have G1 := hideP (grown_none hb1 (some p))
    have hz1 := hb1.size
    clear KA KO hb1
    go_wp2_with fail
    refine K1.out.mono ?_
    intro e w2 hpo
    obtain ⟨v, F, a', rfl, hN, hI, hx, hal', haa, hr⟩ := hpo
    obtain ⟨Tl, ql, rfl⟩ := NdO.form oo v F hN
    have G2 := hideP (G1.out.trans hx.g)
    have K2 := hideP (KA2.out w2 a' _ G2.out hx.ps hx.le)
    rw [hr, hat2] at K2
    have HX := hideP hx
    have HN := hideP hN
    have HI := hideP (hI.up hz1 (Nat.le_refl _))
    clear hx K1 hN hI KA2 G1
    go_wp2_with fail
    refine K2.out.mono ?_
    rintro e w3 ⟨rfl, hb3⟩
    have P3 := HX.out.ps.keep hb3
    have G3 := hideP (grown_then G2.out hb3 G2.out.size)
    have N3 := hideP (NdO.keep (w' := w3) oo _ F HN.out (fun b hm => hb3.block b (HI.out b hm).2))
    have I3 := hideP (HI.out.up (Nat.le_refl _) hb3.size)
    have hle := HX.out.le
    obtain ⟨KF, HQ, KX⟩ := REC.out a' hal' hr w3 _ G3.out P3
    have hqe := HQ.out
    clear hb3 K2 HX HN HI G2 REC P3
    clear KX
    generalize Pl.fuI l a' = q at *
    obtain ⟨q1, q2, a1⟩ := q
    obtain ⟨b0, b1, b2, b3⟩ := q1
    obtain ⟨e0, e1, e2, e3⟩ := q2
    have he0 : e0 = 0 := by have := hqe.1; simp only [Pl.fq, Prod.mk.injEq] at this; rw [this.1, hz]
    simp only at hqe
    have hale := hqe.2
    clear hqe HQ hz
    subst he0
    have hfd := field114_1 b0 b1 b2 b3 0 e1 e2 e3
    simp only [ag8] at KF
    go_wp2_with fail
    refine KF.out.mono ?_
    rintro e w4 ⟨rfl, hP4, hg4⟩
    have HF : Hid (∀ ob, PoX (fun x => be || x.bey o) l p cap a ao o w none (.returned (.tuple #[.nilIface, .bool false])) (w4.alloc ob)) := fun ob => ⟨_, a1, _, rfl, .inl rfl, ⟨hP4.keep ((Below.refl _ _).alloc (Nat.le_refl _) ob), grown_alloc (G3.out.trans hg4) ob, by omega⟩⟩
    clear hP4 hg4 KF
    go_wp2_with fail
    refine bodyPost_ret (v := .tuple #[.nilIface, .bool false]) (by simp [results, Tryd.results69, go_sem]) rfl (HF.out _)
  · rw [if_neg hz] at HPB
    generalize Pl.pexpr n pf.2 = X at *
    cases X with
    | none =>
      obtain rfl := HPB.out
      clear HPB
      go_enter Tryd.func69, Tryd.ntmps69
      go_wp2_with fail
      refine KA.out.mono ?_
      rintro e w1 ⟨rfl, hb1⟩
      have K1 := hideP (KO.out w1 hb1)
      have G1 := hideP (grown_none hb1 (some p))
      have hz1 := hb1.size
      clear KA KO hb1
      go_wp2_with fail
      refine K1.out.mono ?_
      intro e w2 hpo
      obtain ⟨v, F, a', rfl, hN, hI, hx, hal', haa, hr⟩ := hpo
      obtain ⟨Tl, ql, rfl⟩ := NdO.form oo v F hN
      have G2 := hideP (G1.out.trans hx.g)
      have K2 := hideP (KA2.out w2 a' _ G2.out hx.ps hx.le)
      rw [hr, hat2] at K2
      have HX := hideP hx
      have HN := hideP hN
      have HI := hideP (hI.up hz1 (Nat.le_refl _))
      clear hx K1 hN hI KA2 G1
      go_wp2_with fail
      refine K2.out.mono ?_
      rintro e w3 ⟨rfl, hb3⟩
      have P3 := HX.out.ps.keep hb3
      have G3 := hideP (grown_then G2.out hb3 G2.out.size)
      have N3 := hideP (NdO.keep (w' := w3) oo _ F HN.out (fun b hm => hb3.block b (HI.out b hm).2))
      have I3 := hideP (HI.out.up (Nat.le_refl _) hb3.size)
      have hle := HX.out.le
      obtain ⟨KF, HQ, KX⟩ := REC.out a' hal' hr w3 _ G3.out P3
      have hqe := HQ.out
      clear hb3 K2 HX HN HI G2 REC P3
      have KX' := KX.out
      generalize Pl.fuI l a' = q at *
      obtain ⟨q1, q2, a1⟩ := q
      obtain ⟨b0, b1, b2, b3⟩ := q1
      obtain ⟨e0, e1, e2, e3⟩ := q2
      have hq2 : e0 = pf.1.two.k ∧ e1 = pf.1.two.a ∧ e2 = pf.1.two.b ∧ e3 = Pl.ba pf.1.two.nm := by have := hqe.1; simp only [Pl.fq, Prod.mk.injEq] at this; exact this
      have hzb : (e0 == 0) = false := by rw [hq2.1]; simpa using hz
      have KX2 := hideP (KX' (by show ¬ e0 = 0; rw [hq2.1]; exact hz) haa)
      have HQ2 := hideP hq2
      have hale := hqe.2
      simp only at hale
      clear hqe HQ KX' KX hq2
      have hfd := field114_1 b0 b1 b2 b3 e0 e1 e2 e3
      simp only [ag8] at KF
      go_wp2_with fail
      refine KF.out.mono ?_
      rintro e w4 ⟨rfl, hP4, hg4⟩
      have hpw4 := hP4.lt
      have G4 := hideP (fun ob => grown_alloc (G3.out.trans hg4) ob)
      have hpF : p ∉ F := fun hm => by have := (I3.out _ hm).1; omega
      have N4 := hideP (fun ob => NdO.keep (w' := w4.alloc ob) oo _ F N3.out (fun b hm => (Below.heap_alloc _ _ _ (Nat.lt_of_lt_of_le (I3.out b hm).2 hg4.size)).trans (hg4.block b (I3.out b hm).2 (fun e => by cases e; exact hpF hm))))
      have I4 := hideP (I3.out.up (Nat.le_refl _) hg4.size)
      have K4 := hideP (fun ob => KX2.out (w4.alloc ob) (G4.out ob) (hP4.keep ((Below.refl _ _).alloc (Nat.le_refl _) ob)))
      clear hP4 hg4 KF KX2 N3 I3 G3
      go_wp2_with fail
      refine (K4.out _).mono ?_
      intro e w5 hpo
      obtain ⟨v2, a2, be2, rfl, hiv, hx⟩ := hpo
      have d0 := hx.g.cell (a := ⟨w4.heap.size, 0, none⟩) (v := .int .i64 e0) (by simp [go_sem]) (by simp; omega)
      have d1 := hx.g.cell (a := ⟨w4.heap.size, 1, none⟩) (v := .int .i64 e1) (by simp [go_sem]) (by simp; omega)
      have d2 := hx.g.cell (a := ⟨w4.heap.size, 2, none⟩) (v := .int .i64 e2) (by simp [go_sem]) (by simp; omega)
      have d3 := hx.g.cell (a := ⟨w4.heap.size, 3, none⟩) (v := .string e3) (by simp [go_sem]) (by simp; omega)
      have HF : Hid (PoX (fun x => be || x.bey o) l p cap a ao o w none (.returned (.tuple #[.iface 121 (.agg #[.iface Tl ql, .int .i64 e0, .int .i64 e1, .int .i64 e2, .string e3, v2]), .bool false])) w5) := ⟨_, a2, be2, rfl, .inr ⟨_, _, rfl⟩, ⟨hx.ps, (G4.out _).trans hx.g, hx.le⟩⟩
      clear hx K4 G4
      rcases hiv with rfl | ⟨T2, q2, rfl⟩
      · go_wp2_with fail
        refine bodyPost_ret (v := .tuple #[.iface 121 (.agg #[.iface Tl ql, .int .i64 e0, .int .i64 e1, .int .i64 e2, .string e3, .nilIface]), .bool false]) (by simp [results, Tryd.results69, go_sem]) rfl HF.out
      · go_wp2_with fail
        refine bodyPost_ret (v := .tuple #[.iface 121 (.agg #[.iface Tl ql, .int .i64 e0, .int .i64 e1, .int .i64 e2, .string e3, .iface T2 q2]), .bool false]) (by simp [results, Tryd.results69, go_sem]) rfl HF.out
    | some xr =>
      obtain ⟨x, r2⟩ := xr
      obtain rfl := HPB.out
      clear HPB
      go_enter Tryd.func69, Tryd.ntmps69
      go_wp2_with fail
      refine KA.out.mono ?_
      rintro e w1 ⟨rfl, hb1⟩
      have K1 := hideP (KO.out w1 hb1)
      have G1 := hideP (grown_none hb1 (some p))
      have hz1 := hb1.size
      clear KA KO hb1
      go_wp2_with fail
      refine K1.out.mono ?_
      intro e w2 hpo
      obtain ⟨v, F, a', rfl, hN, hI, hx, hal', haa, hr⟩ := hpo
      obtain ⟨Tl, ql, rfl⟩ := NdO.form oo v F hN
      have G2 := hideP (G1.out.trans hx.g)
      have K2 := hideP (KA2.out w2 a' _ G2.out hx.ps hx.le)
      rw [hr, hat2] at K2
      have HX := hideP hx
      have HN := hideP hN
      have HI := hideP (hI.up hz1 (Nat.le_refl _))
      clear hx K1 hN hI KA2 G1
      go_wp2_with fail
      refine K2.out.mono ?_
      rintro e w3 ⟨rfl, hb3⟩
      have P3 := HX.out.ps.keep hb3
      have G3 := hideP (grown_then G2.out hb3 G2.out.size)
      have N3 := hideP (NdO.keep (w' := w3) oo _ F HN.out (fun b hm => hb3.block b (HI.out b hm).2))
      have I3 := hideP (HI.out.up (Nat.le_refl _) hb3.size)
      have hle := HX.out.le
      obtain ⟨KF, HQ, KX⟩ := REC.out a' hal' hr w3 _ G3.out P3
      have hqe := HQ.out
      clear hb3 K2 HX HN HI G2 REC P3
      have KX' := KX.out
      generalize Pl.fuI l a' = q at *
      obtain ⟨q1, q2, a1⟩ := q
      obtain ⟨b0, b1, b2, b3⟩ := q1
      obtain ⟨e0, e1, e2, e3⟩ := q2
      have hq2 : e0 = pf.1.two.k ∧ e1 = pf.1.two.a ∧ e2 = pf.1.two.b ∧ e3 = Pl.ba pf.1.two.nm := by have := hqe.1; simp only [Pl.fq, Prod.mk.injEq] at this; exact this
      have hzb : (e0 == 0) = false := by rw [hq2.1]; simpa using hz
      have KX2 := hideP (KX' (by show ¬ e0 = 0; rw [hq2.1]; exact hz) haa)
      have HQ2 := hideP hq2
      have hale := hqe.2
      simp only at hale
      clear hqe HQ KX' KX hq2
      have hfd := field114_1 b0 b1 b2 b3 e0 e1 e2 e3
      simp only [ag8] at KF
      go_wp2_with fail
      refine KF.out.mono ?_
      rintro e w4 ⟨rfl, hP4, hg4⟩
      have hpw4 := hP4.lt
      have G4 := hideP (fun ob => grown_alloc (G3.out.trans hg4) ob)
      have hpF : p ∉ F := fun hm => by have := (I3.out _ hm).1; omega
      have N4 := hideP (fun ob => NdO.keep (w' := w4.alloc ob) oo _ F N3.out (fun b hm => (Below.heap_alloc _ _ _ (Nat.lt_of_lt_of_le (I3.out b hm).2 hg4.size)).trans (hg4.block b (I3.out b hm).2 (fun e => by cases e; exact hpF hm))))
      have I4 := hideP (I3.out.up (Nat.le_refl _) hg4.size)
      have K4 := hideP (fun ob => KX2.out (w4.alloc ob) (G4.out ob) (hP4.keep ((Below.refl _ _).alloc (Nat.le_refl _) ob)))
      clear hP4 hg4 KF KX2 N3 I3 G3
      go_wp2_with fail
      refine (K4.out _).mono ?_
      intro e w5 hpo
      obtain ⟨v2, F2, a2, rfl, hN2, hI2, hx, hal2, haa2, hr2⟩ := hpo
      obtain ⟨T2, q2, rfl⟩ := NdE.form x v2 F2 hN2
      have d0 := hx.g.cell (a := ⟨w4.heap.size, 0, none⟩) (v := .int .i64 e0) (by simp [go_sem]) (by simp; omega)
      have d1 := hx.g.cell (a := ⟨w4.heap.size, 1, none⟩) (v := .int .i64 e1) (by simp [go_sem]) (by simp; omega)
      have d2 := hx.g.cell (a := ⟨w4.heap.size, 2, none⟩) (v := .int .i64 e2) (by simp [go_sem]) (by simp; omega)
      have d3 := hx.g.cell (a := ⟨w4.heap.size, 3, none⟩) (v := .string e3) (by simp [go_sem]) (by simp; omega)
      have hz4 := (G4.out (.cells #[] 0)).size
      simp at hz4
      have HF : Hid (PoX (fun x => be || x.bey o) l p cap a ao o w (some (.two oo pf.1 x, r2)) (.returned (.tuple #[.iface 121 (.agg #[.iface Tl ql, .int .i64 e0, .int .i64 e1, .int .i64 e2, .string e3, .iface T2 q2]), .bool true])) w5) := ⟨_, F2 ++ F, a2, rfl, by rw [NdE]; exact ⟨_, _, F, F2, by rw [HQ2.out.1, HQ2.out.2.1, HQ2.out.2.2.1, HQ2.out.2.2.2], rfl, NdO.keep oo _ F (N4.out _) (fun b hm => hx.g.block b (by have := (I4.out b hm).2; simp; omega) (fun e => by cases e; exact hpF hm)), hN2, fun b hb hm => by have h1 := (hI2 b hb).1; have h2 := (I4.out b hm).2; simp at h1; omega⟩, fun b hb => by rcases List.mem_append.1 hb with h | h; exact ⟨by have := (hI2 b h).1; simp at this; omega, (hI2 b h).2⟩; exact ⟨(I4.out b h).1, by have := (I4.out b h).2; have := hx.g.size; simp at this; omega⟩, ⟨by show Ps w5 p ao l.length cap a2 o (be || (Pl.E.two oo pf.1 x).bey o); rw [Pl.E.bey, ← Bool.or_assoc]; exact hx.ps, (G4.out _).trans hx.g, hx.le⟩, hal2, by omega, hr2⟩
      clear hx K4 G4 hN2 hI2 hr2
      go_wp2_with fail
      refine bodyPost_ret (v := .tuple #[.iface 121 (.agg #[.iface Tl ql, .int .i64 e0, .int .i64 e1, .int .i64 e2, .string e3, .iface T2 q2]), .bool true]) (by simp [results, Tryd.results69, go_sem]) rfl HF.out
end Go.Proofs.YtljkolffjjhgeaaDoor
