import Derived.Test.YtjhflbhbegocdaaRep
import Derived.Test.YtjhflbhbegocdaaCopied
import Derived.Test.YtjhflbhbegocdaaOuter
import Derived.Deep.DeepCutAuto
namespace Go.Proofs.Ytjhflbhbegocdaa
open Go.RowKit
set_option linter.unusedVariables false

/-- the operation's variable, the argument's and the answer's -/
theorem boxes3 {w w1 : World} {y0 y1 y2 x0 x1 : Value} (hb : Below (w.heap.size + 1 + 1 + 1) (((w.alloc (.cells #[y0, y1, y2] 53)).alloc (.cells #[x0, x1] 26)).alloc (.cells #[.slice none 0 0, .slice none 0 0] 26)) w1) :
    (w1.cell? ⟨w.heap.size, 0, none⟩ = some y0 ∧ w1.cell? ⟨w.heap.size, 1, none⟩ = some y1 ∧ w1.cell? ⟨w.heap.size, 2, none⟩ = some y2) ∧ (w1.cell? ⟨w.heap.size + 1, 0, none⟩ = some x0 ∧ w1.cell? ⟨w.heap.size + 1, 1, none⟩ = some x1) ∧ (w1.cell? ⟨w.heap.size + 1 + 1, 0, none⟩ = some (.slice none 0 0) ∧ w1.cell? ⟨w.heap.size + 1 + 1, 1, none⟩ = some (.slice none 0 0) ∧ ∀ o, w1.frozen? ⟨w.heap.size + 1 + 1, o, none⟩ = false) ∧ Below w.heap.size w w1 := by
  have c : ∀ b o, b < w.heap.size + 1 + 1 + 1 → w1.cell? ⟨b, o, none⟩ = (((w.alloc (.cells #[y0, y1, y2] 53)).alloc (.cells #[x0, x1] 26)).alloc (.cells #[.slice none 0 0, .slice none 0 0] 26)).cell? ⟨b, o, none⟩ := fun b o h => hb.cell (p := ⟨b, o, none⟩) h
  have f : ∀ b o, b < w.heap.size + 1 + 1 + 1 → w1.frozen? ⟨b, o, none⟩ = (((w.alloc (.cells #[y0, y1, y2] 53)).alloc (.cells #[x0, x1] 26)).alloc (.cells #[.slice none 0 0, .slice none 0 0] 26)).frozen? ⟨b, o, none⟩ := fun b o h => hb.frozen (p := ⟨b, o, none⟩) h
  refine ⟨⟨?_, ?_, ?_⟩, ⟨?_, ?_⟩, ⟨?_, ?_, ?_⟩, ?_⟩
  · rw [c _ _ (by omega)]; simp [go_sem]
  · rw [c _ _ (by omega)]; simp [go_sem]
  · rw [c _ _ (by omega)]; simp [go_sem]
  · rw [c _ _ (by omega)]; simp [go_sem]
  · rw [c _ _ (by omega)]; simp [go_sem]
  · rw [c _ _ (by omega)]; simp [go_sem]
  · rw [c _ _ (by omega)]; simp [go_sem]
  · intro o; rw [f _ _ (by omega)]; simp [go_sem]
  · exact (below3 w _ _ _).trans (hb.mono (by omega))

set_option maxRecDepth 100000 in
set_option maxHeartbeats 4000000 in
/-- impl.reduce -/
theorem reduce_impl (f : Nat) (nv : Int) (nb : Bool) (F : Int → Int → Int × Int) (b0 o0 c0 b1 o1 c1 : Nat) (sh da : List Int) (w : World) (hcf : ∀ args w, (callFunc f args).run Try.prog w = .ok (.enter f args) w)
    (hF : ∀ x y w', -3000000000 ≤ x → x ≤ 3000000000 → -3000000000 ≤ y → y ≤ 3000000000 → Calls Try.prog f #[.int .i64 x, .int .i64 y] w' (CPost w' (F x y)))
    (hFb : ∀ x y, -3000000000 ≤ x → x ≤ 3000000000 → -3000000000 ≤ y → y ≤ 3000000000 → (F x y).2 = 0 → -3000000000 ≤ (F x y).1 ∧ (F x y).1 ≤ 3000000000)
    (h0 : Rd w.heap.size w (.slice (some ⟨b0, o0, none⟩) sh.length c0) sh) (h1 : Rd w.heap.size w (.slice (some ⟨b1, o1, none⟩) da.length c1) da) (hc0 : sh.length ≤ c0) (hc0' : c0 ≤ 9223372036854775807) (hc1 : da.length ≤ c1) (hc1' : c1 ≤ 9223372036854775807)
    (hok : Pl.okB sh da = true) (c : Int) (S D : List Int) (hres : Pl.reduceM F nv nb sh da = (c, S, D)) :
    Calls Try.prog 48 #[.agg #[.func (.func f) #[] #[], .int .i64 nv, .bool nb], .agg #[.slice (some ⟨b0, o0, none⟩) sh.length c0, .slice (some ⟨b1, o1, none⟩) da.length c1]] w (KPost w c S D) := by
  obtain ⟨hm0, hm1⟩ := Pl.ok_max hok
  have H0 := hideP h0
  have H1 := hideP h1
  have KS : Hid (∀ w', Calls Try.prog 43 #[.agg #[.slice (some ⟨b0, o0, none⟩) sh.length c0, .slice (some ⟨b1, o1, none⟩) da.length c1]] w' fun e w'' => e = .returned (.bool (decide (sh.length = 0))) ∧ Below w'.heap.size w' w'') := fun w' => isScalar_any _ _ sh w.heap.size w' w H0.out
  obtain ⟨wb, hwb⟩ : ∃ wb, wb = ((w.alloc (.cells #[.func (.func f) #[] #[], .int .i64 nv, .bool nb] 53)).alloc (.cells #[.slice (some ⟨b0, o0, none⟩) sh.length c0, .slice (some ⟨b1, o1, none⟩) da.length c1] 26)).alloc (.cells #[.slice none 0 0, .slice none 0 0] 26) := ⟨_, rfl⟩
  have WS : wb.heap.size = w.heap.size + 1 + 1 + 1 := by rw [hwb]; simp
  have PB : Hid (∀ W, Below wb.heap.size wb W → (W.cell? ⟨w.heap.size, 0, none⟩ = some (.func (.func f) #[] #[]) ∧ W.cell? ⟨w.heap.size, 1, none⟩ = some (.int .i64 nv) ∧ W.cell? ⟨w.heap.size, 2, none⟩ = some (.bool nb)) ∧ (W.cell? ⟨w.heap.size + 1, 0, none⟩ = some (.slice (some ⟨b0, o0, none⟩) sh.length c0) ∧ W.cell? ⟨w.heap.size + 1, 1, none⟩ = some (.slice (some ⟨b1, o1, none⟩) da.length c1)) ∧ (W.cell? ⟨w.heap.size + 1 + 1, 0, none⟩ = some (.slice none 0 0) ∧ W.cell? ⟨w.heap.size + 1 + 1, 1, none⟩ = some (.slice none 0 0) ∧ ∀ o, W.frozen? ⟨w.heap.size + 1 + 1, o, none⟩ = false) ∧ Below w.heap.size w W) := fun W hb => by
    subst hwb
    exact boxes3 (hb.mono (by simp))
  go_enter Try.func48, Try.ntmps48
  by_cases hsl : sh.length = 0
  · have KS' : Hid (∀ w', Calls Try.prog 43 #[.agg #[.slice (some ⟨b0, o0, none⟩) sh.length c0, .slice (some ⟨b1, o1, none⟩) da.length c1]] w' fun e w'' => e = .returned (.bool true) ∧ Below w'.heap.size w' w'') := fun w' => by have := KS.out w'; rw [decide_eq_true hsl] at this; exact this
    unfold Pl.reduceM at hres
    rw [if_pos hsl] at hres
    simp only [Prod.mk.injEq] at hres
    obtain ⟨rfl, rfl, rfl⟩ := hres
    have KC : Hid (∀ W, Below wb.heap.size wb W → Calls Try.prog 67 #[.agg #[.slice (some ⟨b0, o0, none⟩) sh.length c0, .slice (some ⟨b1, o1, none⟩) da.length c1]] W (KPost W 0 [] da)) := fun W hb => by
      have k := (PB.out W hb).2.2.2
      have := copied_any _ _ sh da W (by omega) (by omega) ((H0.out.keep k).up k.size) ((H1.out.keep k).up k.size)
      rw [List.length_eq_zero_iff.1 hsl] at this ⊢
      exact this
    clear hF hFb h0 h1 hok KS H0 H1 hsl
    go_wp2_with fail
    rw [← hwb]
    refine (KS'.out _).mono ?_
    rintro e w1 ⟨rfl, hb1⟩
    have B1 := hideP hb1
    obtain ⟨c10, c11⟩ := (PB.out _ hb1).2.1
    clear hb1 hwb
    go_wp2_with fail
    refine (KC.out _ B1.out).mono ?_
    rintro e w2 ⟨hb2, ⟨_, u0, u1, rfl, res2⟩ | ⟨hne, _⟩⟩
    · have B2 := hideP (B1.out.trans (hb2.mono B1.out.size))
      have X2 := hideP (PB.out _ B2.out)
      have R2 := hideP res2
      have hs1 := B1.out.size
      have hs2 := hb2.size
      obtain ⟨x0, y0, x1, y1, e0, e1⟩ := res2.forms
      subst e0
      subst e1
      clear hb2 res2 c10 c11
      have r0 := X2.out.2.2.1.1
      have r1 := X2.out.2.2.1.2.1
      have f2 := X2.out.2.2.1.2.2
      go_wp2_with fail
      refine bodyPost_ret (v := .agg #[.slice x0 0 y0, .slice x1 da.length y1]) (by simp [results, Try.results48, go_sem, r0, r1]) rfl ⟨(X2.out.2.2.2.setCell (by simp; omega) _).setCell (by simp; omega) _, .inl ⟨rfl, _, _, rfl, ?_, ?_, R2.out.2.2⟩⟩
      · exact Own.base (Own.store (Own.store R2.out.1 (by omega) _) (by omega) _) (by omega)
      · exact Own.base (Own.store (Own.store R2.out.2.1 (by omega) _) (by omega) _) (by omega)
    · exact absurd rfl hne
  · have KS' : Hid (∀ w', Calls Try.prog 43 #[.agg #[.slice (some ⟨b0, o0, none⟩) sh.length c0, .slice (some ⟨b1, o1, none⟩) da.length c1]] w' fun e w'' => e = .returned (.bool false) ∧ Below w'.heap.size w' w'') := fun w' => by have := KS.out w'; rw [decide_eq_false hsl] at this; exact this
    unfold Pl.reduceM at hres
    rw [if_neg hsl] at hres
    obtain ⟨hlt0, hce⟩ := rd_cell h0 (i := 0) (by omega)
    rw [Nat.add_zero] at hce
    have htl : sh.tail.length = sh.length - 1 := by simp
    have RT := hideP (fun c' => rd_tail h0 (by omega) c')
    have RZ : Hid (sh.length - 1 = 0 → ∀ c', Rd w.heap.size w (.slice (some ⟨b0, o0, none⟩) (sh.length - 1) c') sh.tail) := fun h c' => by rw [h]; exact rd_zero _ _ _ _ _ (by omega)
    have PA : Hid (∀ W, Below (w.heap.size + 1 + 1) wb W → (W.cell? ⟨w.heap.size, 0, none⟩ = some (.func (.func f) #[] #[]) ∧ W.cell? ⟨w.heap.size, 1, none⟩ = some (.int .i64 nv) ∧ W.cell? ⟨w.heap.size, 2, none⟩ = some (.bool nb)) ∧ W.cell? ⟨w.heap.size + 1, 0, none⟩ = some (.slice (some ⟨b0, o0, none⟩) sh.length c0) ∧ W.cell? ⟨w.heap.size + 1, 1, none⟩ = some (.slice (some ⟨b1, o1, none⟩) da.length c1) ∧ W.cell? ⟨b0, o0, none⟩ = some (.int .i64 (sh.getD 0 0))) := fun W hb => by
      have X := PB.out wb (Below.refl _ _)
      have k : ∀ b o, b < w.heap.size + 1 + 1 → W.cell? ⟨b, o, none⟩ = wb.cell? ⟨b, o, none⟩ := fun b o h => hb.cell (p := ⟨b, o, none⟩) h
      refine ⟨⟨(k _ _ (by omega)).trans X.1.1, (k _ _ (by omega)).trans X.1.2.1, (k _ _ (by omega)).trans X.1.2.2⟩, (k _ _ (by omega)).trans X.2.1.1, (k _ _ (by omega)).trans X.2.1.2, (k _ _ (by omega)).trans ?_⟩
      exact (X.2.2.2.cell (p := ⟨b0, o0, none⟩) hlt0).trans hce
    have hl1 : 1 ≤ sh.length := by omega
    have KT : Hid (∀ W, Below wb.heap.size wb W → ∀ v, Rd w.heap.size w v sh.tail → Rd W.heap.size W v sh.tail) := fun W hb v h => by
      have k := (PB.out W hb).2.2.2
      exact (h.keep k).up k.size
    by_cases hn : sh.getD 0 0 = 0
    · rw [if_pos hn] at hres
      rw [hn] at PA
      have HR := hideP hres
      have htl3 : sh.tail.length ≤ 2 := by omega
      have KW : Hid (∀ W v, Rd W.heap.size W v sh.tail → Calls Try.prog 45 #[v] W fun e w' => w' = W ∧ ((Pl.fitsB sh.tail = true ∧ e = .returned (.tuple #[])) ∨ (Pl.fitsB sh.tail = false ∧ e = .panicked [thrown 6]))) := fun W v h => needFit_any _ v sh.tail W (by omega) h
      have KK : Hid (Pl.fitsB sh.tail = true → ∀ W v, Rd W.heap.size W v sh.tail → Calls Try.prog 46 #[v] W fun e w'' => e = .returned (.int .i64 (Pl.prodC sh.tail)) ∧ w'' = W) := fun hf W v h => cellCount_fits _ v sh.tail W hf h
      clear hF hFb h0 h1 hok KS H0 H1 hres hn hce
      generalize sh.tail = st at *
      generalize sh.length = L at *
      go_wp2_with fail
      rw [← hwb]
      refine (KS'.out _).mono ?_
      rintro e wq ⟨rfl, hb1⟩
      have BWB := hideP hb1
      have hs1 : w.heap.size + 1 + 1 + 1 ≤ wq.heap.size := by have := hb1.size; omega
      have c10 := (PB.out _ hb1).2.1.1
      clear hb1 hwb KS'
      go_upto_region 3 with fail
      go_cut [5] (fun s5 wx => wx = wq ∧ ∃ ra rc, s5 = .slice ra st.length rc ∧ Hid (Rd w.heap.size w (.slice ra st.length rc) st))
      case first =>
        by_cases hc : c0 = 1
        · subst hc
          have RZ' := hideP (RZ.out (by omega))
          have e0 : L - 1 = 0 := by omega
          clear RZ RT
          go_wp2_with fail
          go_meet
          case rel =>
            refine ⟨rfl, some ⟨b0, o0, none⟩, 0, ?_, ?_⟩
            · rw [htl, e0]
            · have := RZ'.out 0
              rw [← htl] at this
              exact this
        · clear RZ
          go_wp2_with fail
          go_meet
          case rel =>
            refine ⟨rfl, some ⟨b0, o0 + 1, none⟩, c0 - 1, ?_, ?_⟩
            · rw [htl]
            · have := RT.out (c0 - 1)
              rw [← htl] at this
              exact this
      case rest =>
        obtain ⟨rfl, ra, rc, rfl, HRT⟩ := hcut
        rename World => wq
        have RV : Hid (∀ W, Below wq.heap.size wq W → Rd W.heap.size W (.slice ra st.length rc) st) := fun W hb => KT.out W (BWB.out.trans (hb.mono BWB.out.size)) _ HRT.out
        have SB : Hid (∀ W, Below wq.heap.size wq W → Below (w.heap.size + 1 + 1) wb W) := fun W hb => (BWB.out.trans (hb.mono BWB.out.size)).mono (by omega)
        have c10 := (PB.out _ BWB.out).2.1.1
        have hcz := (PA.out _ (SB.out _ (Below.refl _ _))).2.2.2
        clear RT RZ KT htl
        by_cases hnb : nb = true
        · subst hnb
          have hre := HR.out
          simp only [if_true, Prod.mk.injEq] at hre
          obtain ⟨rfl, rfl, rfl⟩ := hre
          have X := hideP (PB.out _ BWB.out)
          have g2 := X.out.1.2.2
          go_wp2_with (go_at_call 41; refine (refuse_yes _ _).mono ?_; rintro e w' ⟨rfl, rfl⟩)
          exact ⟨rfl, X.out.2.2.2, .inr ⟨by decide, rfl, rfl, rfl⟩⟩
        · have hnb' : nb = false := by simpa using hnb
          subst hnb'
          have hre := HR.out
          rw [if_neg hnb] at hre
          have HR2 := hideP hre
          have g2 := (PB.out _ BWB.out).1.2.2
          clear hre HR hnb
          by_cases hf : Pl.fitsB st = true
          · have KF : Hid (∀ W, Rd W.heap.size W (.slice ra st.length rc) st → Calls Try.prog 45 #[.slice ra st.length rc] W fun e w' => e = .returned (.tuple #[]) ∧ w' = W) := fun W h => (KW.out W _ h).mono (by
              rintro e w'' ⟨rfl, ⟨_, rfl⟩ | ⟨g, _⟩⟩
              · exact ⟨rfl, rfl⟩
              · rw [hf] at g; cases g)
            have hp : 0 ≤ Pl.prodC st ∧ Pl.prodC st ≤ 1000 := by
              refine ⟨(Pl.prodC_bd st ?_).1, ?_⟩
              · simp only [Pl.fitsB, Pl.baseB, Bool.and_eq_true] at hf; exact hf.1.2
              · simp only [Pl.fitsB, Bool.and_eq_true, decide_eq_true_eq] at hf; exact hf.2
            have hre := HR2.out
            rw [if_pos hf] at hre
            obtain ⟨cp, hcp⟩ : ∃ cp : Nat, Pl.prodC st = cp := ⟨(Pl.prodC st).toNat, by omega⟩
            have ecp : (Pl.prodC st).toNat = cp := by omega
            rw [ecp] at hre
            simp only [Prod.mk.injEq] at hre
            obtain ⟨rfl, rfl, rfl⟩ := hre
            have KC : Hid (∀ W, Rd W.heap.size W (.slice ra st.length rc) st → Calls Try.prog 46 #[.slice ra st.length rc] W fun e w'' => e = .returned (.int .i64 (cp : Int)) ∧ w'' = W) := fun W h => by
              have := KK.out hf W _ h
              rw [hcp] at this
              exact this
            have hcp2 : cp ≤ 1000 := by omega
            clear hf hp HR2 KW KK hcp ecp
            go_wp2_with (first
              | (go_at_call 41; refine (refuse_no _ _).mono ?_; rintro e wq ⟨rfl, rfl⟩)
              | (go_at_call 45; refine (KF.out _ (RV.out _ (Below.refl _ _))).mono ?_; rintro e wq ⟨rfl, rfl⟩))
            refine wp_region_held (S := fun w' => Below (w.heap.size + 1 + 1) wb w') (by kernel_rfl) ?_
            change wpAnyH _ _ _ _ _ _ _ _ (World.drew _)
            have R0 := hideP (Rc.start wq)
            generalize World.drew wq = wn0 at R0 ⊢
            refine wpAnyH_take (i := 0) (v := .slice ra st.length rc) rfl (by kernel_rfl) (by kernel_rfl) (by kernel_rfl) (fun _ _ _ h => h) (Or.inl ⟨by rfl, ?_⟩) (SB.out _ R0.out.bel) ?_
            · intro w' hS
              clear hS
              go_simp
            refine wpAnyH_take (i := 3) (v := .pointer (some ⟨w.heap.size, 1, none⟩)) rfl (by kernel_rfl) (by kernel_rfl) (by kernel_rfl) (fun _ _ _ h => h) (Or.inl ⟨by rfl, ?_⟩) (SB.out _ R0.out.bel) ?_
            · intro w' hS
              clear hS
              go_simp
            refine wpAnyH_take (i := 4) (v := .int .i64 nv) rfl (by kernel_rfl) (by kernel_rfl) (by kernel_rfl) (fun _ _ _ h => h) (Or.inl ⟨by rfl, ?_⟩) (SB.out _ R0.out.bel) ?_
            · intro w' hS
              have g0 := (PA.out w' hS).1.2.1
              clear hS
              go_simp
            refine wpAnyH_take (i := 6) (v := .slice ra st.length rc) rfl (by kernel_rfl) (by kernel_rfl) (by kernel_rfl) (fun _ _ _ h => h) (Or.inl ⟨by rfl, ?_⟩) (SB.out _ R0.out.bel) ?_
            · intro w' hS
              clear hS
              go_simp
            refine wpAnyH_ready (rs := [1, 5]) (by kernel_rfl) (by simp) ?_
            refine AllReadyH.cons rfl (fun K hK => ?_) (AllReadyH.cons rfl (fun K hK => ?_) AllReadyH.nil)
            · go_simp
              have R1 := hideP (R0.out.lit0 (.slice ra st.length rc) 22)
              refine hK.out _ _ (SB.out _ R1.out.bel) (fun _ => ?_)
              clear hK R0
              generalize wn0.alloc (.cells #[.slice ra st.length rc] 22) = wn1 at *
              generalize wn0.heap.size = k0 at *
              refine wpAnyH_ready (rs := [2, 5]) (by kernel_rfl) (by simp) ?_
              refine AllReadyH.cons rfl (fun K hK => ?_) (AllReadyH.cons rfl (fun K hK => ?_) AllReadyH.nil)
              · go_simp
                refine (joined1_own _ _ st _ (by omega) (R1.out.l0 _ _ rfl).1 (R1.out.l0 _ _ rfl).2 (RV.out _ R1.out.bel)).mono ?_
                rintro e wn2 ⟨x0, y0, rfl, ho, hb⟩
                have R2 := hideP (R1.out.row0 ho hb)
                clear ho hb
                refine hK.out _ _ (SB.out _ R2.out.bel) (fun _ => ?_)
                clear hK R1
                refine wpAnyH_ready (rs := [5, 7]) (by kernel_rfl) (by simp) ?_
                refine AllReadyH.cons rfl (fun K hK => ?_) (AllReadyH.cons rfl (fun K hK => ?_) AllReadyH.nil)
                · go_simp
                  have R3 := hideP (R2.out.lit1 (.int .i64 nv) 3)
                  refine hK.out _ _ (SB.out _ R3.out.bel) (fun _ => ?_)
                  clear hK R2
                  generalize wn2.alloc (.cells #[.int .i64 nv] 3) = wn3 at *
                  generalize wn2.heap.size = k1 at *
                  refine wpAnyH_ready (rs := [7]) (by kernel_rfl) (by simp) ?_
                  refine AllReadyH.cons rfl (fun K hK => ?_) AllReadyH.nil
                  go_simp
                  refine (KC.out _ (RV.out _ R3.out.bel)).mono ?_
                  rintro e wn4 ⟨rfl, hw⟩
                  subst hw
                  have R4 := R3
                  clear R3
                  refine hK.out _ _ (SB.out _ R4.out.bel) (fun _ => ?_)
                  clear hK
                  refine wpAnyH_ready (rs := [8]) (by kernel_rfl) (by simp) ?_
                  refine AllReadyH.cons rfl (fun K hK => ?_) AllReadyH.nil
                  go_simp
                  refine (repeat_any k1 nv cp _ (R4.out.l1 _ _ rfl).1 (R4.out.l1 _ _ rfl).2 (by omega)).mono ?_
                  rintro e wn5 ⟨rfl, ho, hb⟩
                  have R5 := hideP (R4.out.row1 ho hb)
                  clear ho hb
                  obtain ⟨x1, hx1⟩ : ∃ x1, x1 = (some ⟨wn4.heap.size, 0, none⟩ : Option Addr) := ⟨_, rfl⟩
                  rw [← hx1] at R5
                  rw [← hx1]
                  refine hK.out _ _ (SB.out _ R5.out.bel) (fun _ => ?_)
                  clear hK R4 hx1
                  refine wpAnyH_take (i := 9) (v := .agg #[.slice x0 st.length y0, .slice x1 cp cp]) rfl (by kernel_rfl) (by kernel_rfl) (by kernel_rfl) (fun _ _ _ h => h) (Or.inl ⟨by rfl, ?_⟩) (SB.out _ R5.out.bel) ?_
                  · intro w' hS
                    clear hS
                    go_simp
                  refine wpAnyH_ready (rs := [10]) (by kernel_rfl) (by simp) ?_
                  refine AllReadyH.cons rfl (fun K hK => ?_) AllReadyH.nil
                  have RR := hideP R5.out.res
                  have BB := hideP (PB.out _ (BWB.out.trans (R5.out.bel.mono BWB.out.size)))
                  have SS := hideP (SB.out _ R5.out.bel)
                  have r0 := BB.out.2.2.1.1
                  have r1 := BB.out.2.2.1.2.1
                  have f2 := BB.out.2.2.1.2.2
                  have hsz : w.heap.size + 1 + 1 + 1 ≤ wn5.heap.size := by have := R5.out.bel.size; omega
                  go_simp
                  refine hK.out _ _ ((SS.out.setCell (by simp) _).setCell (by simp) _) (fun _ => ?_)
                  clear hK
                  refine wpAnyH_done (by kernel_rfl) ?_ _
                  go_wp2_with fail
                  refine bodyPost_ret (v := .agg #[.slice x0 st.length y0, .slice x1 cp cp]) (by simp [results, Try.results48, go_sem, r0, r1]) rfl ⟨(BB.out.2.2.2.setCell (by simp; omega) _).setCell (by simp; omega) _, .inl ⟨rfl, _, _, rfl, ?_, ?_, RR.out.2.2⟩⟩
                  · exact Own.base (Own.store (Own.store RR.out.1 (by omega) _) (by omega) _) (by omega)
                  · exact Own.base (Own.store (Own.store RR.out.2.1 (by omega) _) (by omega) _) (by omega)
                · go_simp
                  refine (KC.out _ (RV.out _ R2.out.bel)).mono ?_
                  rintro e wn3 ⟨rfl, hw⟩
                  subst hw
                  have R3 := R2
                  clear R2
                  refine hK.out _ _ (SB.out _ R3.out.bel) (fun _ => ?_)
                  clear hK
                  refine wpAnyH_ready (rs := [5]) (by kernel_rfl) (by simp) ?_
                  refine AllReadyH.cons rfl (fun K hK => ?_) AllReadyH.nil
                  go_simp
                  have R4 := hideP (R3.out.lit1 (.int .i64 nv) 3)
                  refine hK.out _ _ (SB.out _ R4.out.bel) (fun _ => ?_)
                  clear hK R3
                  generalize wn3.alloc (.cells #[.int .i64 nv] 3) = wn4 at *
                  generalize wn3.heap.size = k1 at *
                  refine wpAnyH_ready (rs := [8]) (by kernel_rfl) (by simp) ?_
                  refine AllReadyH.cons rfl (fun K hK => ?_) AllReadyH.nil
                  go_simp
                  refine (repeat_any k1 nv cp _ (R4.out.l1 _ _ rfl).1 (R4.out.l1 _ _ rfl).2 (by omega)).mono ?_
                  rintro e wn5 ⟨rfl, ho, hb⟩
                  have R5 := hideP (R4.out.row1 ho hb)
                  clear ho hb
                  obtain ⟨x1, hx1⟩ : ∃ x1, x1 = (some ⟨wn4.heap.size, 0, none⟩ : Option Addr) := ⟨_, rfl⟩
                  rw [← hx1] at R5
                  rw [← hx1]
                  refine hK.out _ _ (SB.out _ R5.out.bel) (fun _ => ?_)
                  clear hK R4 hx1
                  refine wpAnyH_take (i := 9) (v := .agg #[.slice x0 st.length y0, .slice x1 cp cp]) rfl (by kernel_rfl) (by kernel_rfl) (by kernel_rfl) (fun _ _ _ h => h) (Or.inl ⟨by rfl, ?_⟩) (SB.out _ R5.out.bel) ?_
                  · intro w' hS
                    clear hS
                    go_simp
                  refine wpAnyH_ready (rs := [10]) (by kernel_rfl) (by simp) ?_
                  refine AllReadyH.cons rfl (fun K hK => ?_) AllReadyH.nil
                  have RR := hideP R5.out.res
                  have BB := hideP (PB.out _ (BWB.out.trans (R5.out.bel.mono BWB.out.size)))
                  have SS := hideP (SB.out _ R5.out.bel)
                  have r0 := BB.out.2.2.1.1
                  have r1 := BB.out.2.2.1.2.1
                  have f2 := BB.out.2.2.1.2.2
                  have hsz : w.heap.size + 1 + 1 + 1 ≤ wn5.heap.size := by have := R5.out.bel.size; omega
                  go_simp
                  refine hK.out _ _ ((SS.out.setCell (by simp) _).setCell (by simp) _) (fun _ => ?_)
                  clear hK
                  refine wpAnyH_done (by kernel_rfl) ?_ _
                  go_wp2_with fail
                  refine bodyPost_ret (v := .agg #[.slice x0 st.length y0, .slice x1 cp cp]) (by simp [results, Try.results48, go_sem, r0, r1]) rfl ⟨(BB.out.2.2.2.setCell (by simp; omega) _).setCell (by simp; omega) _, .inl ⟨rfl, _, _, rfl, ?_, ?_, RR.out.2.2⟩⟩
                  · exact Own.base (Own.store (Own.store RR.out.1 (by omega) _) (by omega) _) (by omega)
                  · exact Own.base (Own.store (Own.store RR.out.2.1 (by omega) _) (by omega) _) (by omega)
              · go_simp
                have R2 := hideP (R1.out.lit1 (.int .i64 nv) 3)
                refine hK.out _ _ (SB.out _ R2.out.bel) (fun _ => ?_)
                clear hK R1
                generalize wn1.alloc (.cells #[.int .i64 nv] 3) = wn2 at *
                generalize wn1.heap.size = k1 at *
                refine wpAnyH_ready (rs := [2]) (by kernel_rfl) (by simp) ?_
                refine AllReadyH.cons rfl (fun K hK => ?_) AllReadyH.nil
                go_simp
                refine (joined1_own _ _ st _ (by omega) (R2.out.l0 _ _ rfl).1 (R2.out.l0 _ _ rfl).2 (RV.out _ R2.out.bel)).mono ?_
                rintro e wn3 ⟨x0, y0, rfl, ho, hb⟩
                have R3 := hideP (R2.out.row0 ho hb)
                clear ho hb
                refine hK.out _ _ (SB.out _ R3.out.bel) (fun _ => ?_)
                clear hK R2
                refine wpAnyH_ready (rs := [7]) (by kernel_rfl) (by simp) ?_
                refine AllReadyH.cons rfl (fun K hK => ?_) AllReadyH.nil
                go_simp
                refine (KC.out _ (RV.out _ R3.out.bel)).mono ?_
                rintro e wn4 ⟨rfl, hw⟩
                subst hw
                have R4 := R3
                clear R3
                refine hK.out _ _ (SB.out _ R4.out.bel) (fun _ => ?_)
                clear hK
                refine wpAnyH_ready (rs := [8]) (by kernel_rfl) (by simp) ?_
                refine AllReadyH.cons rfl (fun K hK => ?_) AllReadyH.nil
                go_simp
                refine (repeat_any k1 nv cp _ (R4.out.l1 _ _ rfl).1 (R4.out.l1 _ _ rfl).2 (by omega)).mono ?_
                rintro e wn5 ⟨rfl, ho, hb⟩
                have R5 := hideP (R4.out.row1 ho hb)
                clear ho hb
                obtain ⟨x1, hx1⟩ : ∃ x1, x1 = (some ⟨wn4.heap.size, 0, none⟩ : Option Addr) := ⟨_, rfl⟩
                rw [← hx1] at R5
                rw [← hx1]
                refine hK.out _ _ (SB.out _ R5.out.bel) (fun _ => ?_)
                clear hK R4 hx1
                refine wpAnyH_take (i := 9) (v := .agg #[.slice x0 st.length y0, .slice x1 cp cp]) rfl (by kernel_rfl) (by kernel_rfl) (by kernel_rfl) (fun _ _ _ h => h) (Or.inl ⟨by rfl, ?_⟩) (SB.out _ R5.out.bel) ?_
                · intro w' hS
                  clear hS
                  go_simp
                refine wpAnyH_ready (rs := [10]) (by kernel_rfl) (by simp) ?_
                refine AllReadyH.cons rfl (fun K hK => ?_) AllReadyH.nil
                have RR := hideP R5.out.res
                have BB := hideP (PB.out _ (BWB.out.trans (R5.out.bel.mono BWB.out.size)))
                have SS := hideP (SB.out _ R5.out.bel)
                have r0 := BB.out.2.2.1.1
                have r1 := BB.out.2.2.1.2.1
                have f2 := BB.out.2.2.1.2.2
                have hsz : w.heap.size + 1 + 1 + 1 ≤ wn5.heap.size := by have := R5.out.bel.size; omega
                go_simp
                refine hK.out _ _ ((SS.out.setCell (by simp) _).setCell (by simp) _) (fun _ => ?_)
                clear hK
                refine wpAnyH_done (by kernel_rfl) ?_ _
                go_wp2_with fail
                refine bodyPost_ret (v := .agg #[.slice x0 st.length y0, .slice x1 cp cp]) (by simp [results, Try.results48, go_sem, r0, r1]) rfl ⟨(BB.out.2.2.2.setCell (by simp; omega) _).setCell (by simp; omega) _, .inl ⟨rfl, _, _, rfl, ?_, ?_, RR.out.2.2⟩⟩
                · exact Own.base (Own.store (Own.store RR.out.1 (by omega) _) (by omega) _) (by omega)
                · exact Own.base (Own.store (Own.store RR.out.2.1 (by omega) _) (by omega) _) (by omega)
            · go_simp
              have R1 := hideP (R0.out.lit1 (.int .i64 nv) 3)
              refine hK.out _ _ (SB.out _ R1.out.bel) (fun _ => ?_)
              clear hK R0
              generalize wn0.alloc (.cells #[.int .i64 nv] 3) = wn1 at *
              generalize wn0.heap.size = k1 at *
              refine wpAnyH_ready (rs := [1]) (by kernel_rfl) (by simp) ?_
              refine AllReadyH.cons rfl (fun K hK => ?_) AllReadyH.nil
              go_simp
              have R2 := hideP (R1.out.lit0 (.slice ra st.length rc) 22)
              refine hK.out _ _ (SB.out _ R2.out.bel) (fun _ => ?_)
              clear hK R1
              generalize wn1.alloc (.cells #[.slice ra st.length rc] 22) = wn2 at *
              generalize wn1.heap.size = k0 at *
              refine wpAnyH_ready (rs := [2]) (by kernel_rfl) (by simp) ?_
              refine AllReadyH.cons rfl (fun K hK => ?_) AllReadyH.nil
              go_simp
              refine (joined1_own _ _ st _ (by omega) (R2.out.l0 _ _ rfl).1 (R2.out.l0 _ _ rfl).2 (RV.out _ R2.out.bel)).mono ?_
              rintro e wn3 ⟨x0, y0, rfl, ho, hb⟩
              have R3 := hideP (R2.out.row0 ho hb)
              clear ho hb
              refine hK.out _ _ (SB.out _ R3.out.bel) (fun _ => ?_)
              clear hK R2
              refine wpAnyH_ready (rs := [7]) (by kernel_rfl) (by simp) ?_
              refine AllReadyH.cons rfl (fun K hK => ?_) AllReadyH.nil
              go_simp
              refine (KC.out _ (RV.out _ R3.out.bel)).mono ?_
              rintro e wn4 ⟨rfl, hw⟩
              subst hw
              have R4 := R3
              clear R3
              refine hK.out _ _ (SB.out _ R4.out.bel) (fun _ => ?_)
              clear hK
              refine wpAnyH_ready (rs := [8]) (by kernel_rfl) (by simp) ?_
              refine AllReadyH.cons rfl (fun K hK => ?_) AllReadyH.nil
              go_simp
              refine (repeat_any k1 nv cp _ (R4.out.l1 _ _ rfl).1 (R4.out.l1 _ _ rfl).2 (by omega)).mono ?_
              rintro e wn5 ⟨rfl, ho, hb⟩
              have R5 := hideP (R4.out.row1 ho hb)
              clear ho hb
              obtain ⟨x1, hx1⟩ : ∃ x1, x1 = (some ⟨wn4.heap.size, 0, none⟩ : Option Addr) := ⟨_, rfl⟩
              rw [← hx1] at R5
              rw [← hx1]
              refine hK.out _ _ (SB.out _ R5.out.bel) (fun _ => ?_)
              clear hK R4 hx1
              refine wpAnyH_take (i := 9) (v := .agg #[.slice x0 st.length y0, .slice x1 cp cp]) rfl (by kernel_rfl) (by kernel_rfl) (by kernel_rfl) (fun _ _ _ h => h) (Or.inl ⟨by rfl, ?_⟩) (SB.out _ R5.out.bel) ?_
              · intro w' hS
                clear hS
                go_simp
              refine wpAnyH_ready (rs := [10]) (by kernel_rfl) (by simp) ?_
              refine AllReadyH.cons rfl (fun K hK => ?_) AllReadyH.nil
              have RR := hideP R5.out.res
              have BB := hideP (PB.out _ (BWB.out.trans (R5.out.bel.mono BWB.out.size)))
              have SS := hideP (SB.out _ R5.out.bel)
              have r0 := BB.out.2.2.1.1
              have r1 := BB.out.2.2.1.2.1
              have f2 := BB.out.2.2.1.2.2
              have hsz : w.heap.size + 1 + 1 + 1 ≤ wn5.heap.size := by have := R5.out.bel.size; omega
              go_simp
              refine hK.out _ _ ((SS.out.setCell (by simp) _).setCell (by simp) _) (fun _ => ?_)
              clear hK
              refine wpAnyH_done (by kernel_rfl) ?_ _
              go_wp2_with fail
              refine bodyPost_ret (v := .agg #[.slice x0 st.length y0, .slice x1 cp cp]) (by simp [results, Try.results48, go_sem, r0, r1]) rfl ⟨(BB.out.2.2.2.setCell (by simp; omega) _).setCell (by simp; omega) _, .inl ⟨rfl, _, _, rfl, ?_, ?_, RR.out.2.2⟩⟩
              · exact Own.base (Own.store (Own.store RR.out.1 (by omega) _) (by omega) _) (by omega)
              · exact Own.base (Own.store (Own.store RR.out.2.1 (by omega) _) (by omega) _) (by omega)
          · have hf' : Pl.fitsB st = false := by simpa using hf
            have KF : Hid (∀ W, Rd W.heap.size W (.slice ra st.length rc) st → Calls Try.prog 45 #[.slice ra st.length rc] W fun e w' => e = .panicked [thrown 6] ∧ w' = W) := fun W h => (KW.out W _ h).mono (by
              rintro e w'' ⟨rfl, ⟨g, _⟩ | ⟨_, rfl⟩⟩
              · rw [hf'] at g; cases g
              · exact ⟨rfl, rfl⟩)
            have hre := HR2.out
            rw [if_neg hf] at hre
            simp only [Prod.mk.injEq] at hre
            obtain ⟨rfl, rfl, rfl⟩ := hre
            have BX := hideP (PB.out _ BWB.out).2.2.2
            clear hf hf' HR2 KW KK
            go_wp2_with (first
              | (go_at_call 41; refine (refuse_no _ _).mono ?_; rintro e wq ⟨rfl, rfl⟩)
              | (go_at_call 45; refine (KF.out _ (RV.out _ (Below.refl _ _))).mono ?_; rintro e wq ⟨rfl, rfl⟩))
            exact ⟨rfl, BX.out, .inr ⟨by decide, rfl, rfl, rfl⟩⟩
    · rw [if_neg hn] at hres
      obtain ⟨hft, n, s, en, es, n1, n2, hl⟩ := Pl.ok_rows hok hsl hn
      rw [en, es] at hres
      simp only [Int.toNat_natCast] at hres
      have hv := fun x (hx : x ∈ da) => Pl.ok_cell hok hx
      have htl3 : sh.tail.length ≤ 2 := by omega
      have KF0 : Hid (∀ W, Below wb.heap.size wb W → Calls Try.prog 68 #[.agg #[.func (.func f) #[] #[], .int .i64 nv, .bool nb], .slice (some ⟨b1, o1, none⟩) da.length c1, .int .i64 (n : Int)] W (RPost W (Pl.foldM F da s n) s)) := fun W hb => by
        have k := (PB.out W hb).2.2.2
        exact fold_any f nv nb F b1 o1 c1 s n da W hcf hF hFb ((H1.out.keep k).up k.size) n1 n2 hl hm1 hc1 hc1' hv _ rfl
      generalize Pl.foldM F da s n = r at *
      rw [en] at PA
      have HR := hideP hres
      have hpos : (0 : Int) < (n : Int) := by omega
      clear hF hFb h0 h1 hok KS H0 H1 hres hn hce en es hl hv hft
      generalize sh.tail = st at *
      generalize sh.length = L at *
      go_wp2_with fail
      rw [← hwb]
      refine (KS'.out _).mono ?_
      rintro e wq ⟨rfl, hb1⟩
      have BWB := hideP hb1
      have hs1 : w.heap.size + 1 + 1 + 1 ≤ wq.heap.size := by have := hb1.size; omega
      have c10 := (PB.out _ hb1).2.1.1
      clear hb1 hwb KS'
      go_upto_region 3 with fail
      go_cut [5] (fun s5 wx => wx = wq ∧ ∃ ra rc, s5 = .slice ra st.length rc ∧ Hid (Rd w.heap.size w (.slice ra st.length rc) st))
      case first =>
        by_cases hc : c0 = 1
        · subst hc
          have RZ' := hideP (RZ.out (by omega))
          have e0 : L - 1 = 0 := by omega
          clear RZ RT
          go_wp2_with fail
          go_meet
          case rel =>
            refine ⟨rfl, some ⟨b0, o0, none⟩, 0, ?_, ?_⟩
            · rw [htl, e0]
            · have := RZ'.out 0
              rw [← htl] at this
              exact this
        · clear RZ
          go_wp2_with fail
          go_meet
          case rel =>
            refine ⟨rfl, some ⟨b0, o0 + 1, none⟩, c0 - 1, ?_, ?_⟩
            · rw [htl]
            · have := RT.out (c0 - 1)
              rw [← htl] at this
              exact this
      case rest =>
        obtain ⟨rfl, ra, rc, rfl, HRT⟩ := hcut
        rename World => wq
        have RV : Hid (∀ W, Below wq.heap.size wq W → Rd W.heap.size W (.slice ra st.length rc) st) := fun W hb => KT.out W (BWB.out.trans (hb.mono BWB.out.size)) _ HRT.out
        have SB : Hid (∀ W, Below wq.heap.size wq W → Below (w.heap.size + 1 + 1) wb W) := fun W hb => (BWB.out.trans (hb.mono BWB.out.size)).mono (by omega)
        have c10 := (PB.out _ BWB.out).2.1.1
        have hcz := (PA.out _ (SB.out _ (Below.refl _ _))).2.2.2
        clear RT RZ KT htl
        have KF : Hid (∀ W, Below wq.heap.size wq W → Calls Try.prog 68 #[.agg #[.func (.func f) #[] #[], .int .i64 nv, .bool nb], .slice (some ⟨b1, o1, none⟩) da.length c1, .int .i64 (n : Int)] W (RPost W r s)) := fun W hb => KF0.out W (BWB.out.trans (hb.mono BWB.out.size))
        go_wp2_with fail
        refine wp_region_held (S := fun w' => Below (w.heap.size + 1 + 1) wb w') (by kernel_rfl) ?_
        change wpAnyH _ _ _ _ _ _ _ _ (World.drew _)
        have R0 := hideP (Rc.start wq)
        generalize World.drew wq = wn0 at R0 ⊢
        refine wpAnyH_take (i := 0) (v := .slice ra st.length rc) rfl (by kernel_rfl) (by kernel_rfl) (by kernel_rfl) (fun _ _ _ h => h) (Or.inl ⟨by rfl, ?_⟩) (SB.out _ R0.out.bel) ?_
        · intro w' hS
          clear hS
          go_simp
        refine wpAnyH_take (i := 3) (v := .agg #[.func (.func f) #[] #[], .int .i64 nv, .bool nb]) rfl (by kernel_rfl) (by kernel_rfl) (by kernel_rfl) (fun _ _ _ h => h) (Or.inl ⟨by rfl, ?_⟩) (SB.out _ R0.out.bel) ?_
        · intro w' hS
          obtain ⟨g0, g1, g2⟩ := (PA.out w' hS).1
          clear hS
          go_simp
        refine wpAnyH_take (i := 4) (v := .pointer (some ⟨w.heap.size + 1, 1, none⟩)) rfl (by kernel_rfl) (by kernel_rfl) (by kernel_rfl) (fun _ _ _ h => h) (Or.inl ⟨by rfl, ?_⟩) (SB.out _ R0.out.bel) ?_
        · intro w' hS
          clear hS
          go_simp
        refine wpAnyH_take (i := 5) (v := .slice (some ⟨b1, o1, none⟩) da.length c1) rfl (by kernel_rfl) (by kernel_rfl) (by kernel_rfl) (fun _ _ _ h => h) (Or.inl ⟨by rfl, ?_⟩) (SB.out _ R0.out.bel) ?_
        · intro w' hS
          have g0 := (PA.out w' hS).2.2.1
          clear hS
          go_simp
        refine wpAnyH_take (i := 6) (v := .pointer (some ⟨w.heap.size + 1, 0, none⟩)) rfl (by kernel_rfl) (by kernel_rfl) (by kernel_rfl) (fun _ _ _ h => h) (Or.inl ⟨by rfl, ?_⟩) (SB.out _ R0.out.bel) ?_
        · intro w' hS
          clear hS
          go_simp
        refine wpAnyH_take (i := 7) (v := .slice (some ⟨b0, o0, none⟩) L c0) rfl (by kernel_rfl) (by kernel_rfl) (by kernel_rfl) (fun _ _ _ h => h) (Or.inl ⟨by rfl, ?_⟩) (SB.out _ R0.out.bel) ?_
        · intro w' hS
          have g0 := (PA.out w' hS).2.1
          clear hS
          go_simp
        refine wpAnyH_take (i := 8) (v := .pointer (some ⟨b0, o0, none⟩)) rfl (by kernel_rfl) (by kernel_rfl) (by kernel_rfl) (fun _ _ _ h => h) (Or.inl ⟨by rfl, ?_⟩) (SB.out _ R0.out.bel) ?_
        · intro w' hS
          clear hS
          go_simp
        refine wpAnyH_take (i := 9) (v := .int .i64 (n : Int)) rfl (by kernel_rfl) (by kernel_rfl) (by kernel_rfl) (fun _ _ _ h => h) (Or.inl ⟨by rfl, ?_⟩) (SB.out _ R0.out.bel) ?_
        · intro w' hS
          have g0 := (PA.out w' hS).2.2.2
          clear hS
          go_simp
        refine wpAnyH_ready (rs := [1]) (by kernel_rfl) (by simp) ?_
        refine AllReadyH.cons rfl (fun K hK => ?_) AllReadyH.nil
        go_simp
        have R1 := hideP (R0.out.lit0 (.slice ra st.length rc) 22)
        refine hK.out _ _ (SB.out _ R1.out.bel) (fun _ => ?_)
        clear hK R0
        generalize wn0.alloc (.cells #[.slice ra st.length rc] 22) = wn1 at *
        generalize wn0.heap.size = k0 at *
        refine wpAnyH_ready (rs := [2]) (by kernel_rfl) (by simp) ?_
        refine AllReadyH.cons rfl (fun K hK => ?_) AllReadyH.nil
        go_simp
        refine (joined1_own _ _ st _ (by omega) (R1.out.l0 _ _ rfl).1 (R1.out.l0 _ _ rfl).2 (RV.out _ R1.out.bel)).mono ?_
        rintro e wn2 ⟨x0, y0, rfl, ho, hb⟩
        have R2 := hideP (R1.out.row0 ho hb)
        clear ho hb
        refine hK.out _ _ (SB.out _ R2.out.bel) (fun _ => ?_)
        clear hK R1
        refine wpAnyH_ready (rs := [10]) (by kernel_rfl) (by simp) ?_
        refine AllReadyH.cons rfl (fun K hK => ?_) AllReadyH.nil
        go_simp
        refine (KF.out _ R2.out.bel).mono ?_
        rintro e wn3 ⟨hb, ⟨hr0, FV, rfl, ho⟩ | ⟨hr0, rfl⟩⟩
        · have R3 := hideP (R2.out.row1 (own_of_any ho) hb)
          obtain ⟨x1, y1, ef⟩ := owns_form ho
          subst ef
          clear ho hb
          have hre := HR.out
          rw [if_pos hr0] at hre
          simp only [Prod.mk.injEq] at hre
          obtain ⟨rfl, rfl, rfl⟩ := hre
          refine hK.out _ _ (SB.out _ R3.out.bel) (fun _ => ?_)
          clear hK R2 hr0
          refine wpAnyH_take (i := 11) (v := .agg #[.slice x0 st.length y0, .slice x1 s y1]) rfl (by kernel_rfl) (by kernel_rfl) (by kernel_rfl) (fun _ _ _ h => h) (Or.inl ⟨by rfl, ?_⟩) (SB.out _ R3.out.bel) ?_
          · intro w' hS
            clear hS
            go_simp
          refine wpAnyH_ready (rs := [12]) (by kernel_rfl) (by simp) ?_
          refine AllReadyH.cons rfl (fun K hK => ?_) AllReadyH.nil
          have RR := hideP R3.out.res
          have BB := hideP (PB.out _ (BWB.out.trans (R3.out.bel.mono BWB.out.size)))
          have SS := hideP (SB.out _ R3.out.bel)
          have r0 := BB.out.2.2.1.1
          have r1 := BB.out.2.2.1.2.1
          have f2 := BB.out.2.2.1.2.2
          have hsz : w.heap.size + 1 + 1 + 1 ≤ wn3.heap.size := by have := R3.out.bel.size; omega
          go_simp
          refine hK.out _ _ ((SS.out.setCell (by simp) _).setCell (by simp) _) (fun _ => ?_)
          clear hK
          refine wpAnyH_done (by kernel_rfl) ?_ _
          go_wp2_with fail
          refine bodyPost_ret (v := .agg #[.slice x0 st.length y0, .slice x1 s y1]) (by simp [results, Try.results48, go_sem, r0, r1]) rfl ⟨(BB.out.2.2.2.setCell (by simp; omega) _).setCell (by simp; omega) _, .inl ⟨rfl, _, _, rfl, ?_, ?_, RR.out.2.2⟩⟩
          · exact Own.base (Own.store (Own.store RR.out.1 (by omega) _) (by omega) _) (by omega)
          · exact Own.base (Own.store (Own.store RR.out.2.1 (by omega) _) (by omega) _) (by omega)
        · have hre := HR.out
          rw [if_neg hr0] at hre
          simp only [Prod.mk.injEq] at hre
          obtain ⟨hc9, rfl, rfl⟩ := hre
          have BX := hideP (PB.out _ (BWB.out.trans ((R2.out.bel.trans (hb.mono R2.out.bel.size)).mono BWB.out.size))).2.2.2
          subst hc9
          exact ⟨rfl, BX.out, .inr ⟨hr0, rfl, rfl, rfl⟩⟩

end Go.Proofs.Ytjhflbhbegocdaa
