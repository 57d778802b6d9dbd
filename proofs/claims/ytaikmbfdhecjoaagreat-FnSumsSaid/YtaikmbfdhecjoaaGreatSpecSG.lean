import Derived.Test.YtaikmbfdhecjoaaGreatRows2
namespace Go.Proofs.YtaikmbfdhecjoaaGreat
open Go.RowKit
set_option linter.unusedVariables false

set_option maxRecDepth 100000 in
set_option maxHeartbeats 8000000 in
/-- spec.Scan -/
theorem specS_faceG (op : Int) (b0 q0 b1 q1 : Nat) (sh da : List Int) (w : World) (hl0 : sh.length ≤ 1048576) (hl1 : da.length ≤ 1048576) (hq0 : sh.length ≤ q0) (hq0' : q0 ≤ 9223372036854775807) (hq1 : da.length ≤ q1) (hq1' : q1 ≤ 9223372036854775807)
    (h0 : Rd w.heap.size w (.slice (some ⟨b0, 0, none⟩) sh.length q0) sh) (h1 : Rd w.heap.size w (.slice (some ⟨b1, 0, none⟩) da.length q1) da) (c : Int) (S D : List Int) (hres : Pl.scaM op sh da = (c, S, D)) :
    Calls Tryz.prog 6 #[.int .i64 op, .agg #[.slice (some ⟨b0, 0, none⟩) sh.length q0, .slice (some ⟨b1, 0, none⟩) da.length q1]] w (FPost w c S D) := by
  have B : Hid (∀ o o', Below w.heap.size w ((w.alloc o).alloc o')) := fun o o' => ((Below.refl _ _).alloc (Nat.le_refl _) _).alloc (by simp) _
  have H0 := hideP h0
  have H1 := hideP h1
  have KO := hideP (fun w => opOk_any op w)
  have KA : Hid (∀ w', Below w.heap.size w w' → Calls Tryz.prog 19 #[.agg #[.slice (some ⟨b0, 0, none⟩) sh.length q0, .slice (some ⟨b1, 0, none⟩) da.length q1]] w' fun e w'' => e = .returned (.bool (Pl.okB sh da)) ∧ Below w'.heap.size w' w'') := fun w' h => specOk_any _ _ sh da w' hl0 hl1 ((H0.out.keep h).up h.size) ((H1.out.keep h).up h.size)
  have HR := hideP hres
  clear hres
  by_cases hop : 1 ≤ op ∧ op < 11
  · have KO' : Hid (∀ w, Calls Tryz.prog 18 #[.int .i64 op] w fun e w' => e = .returned (.bool true) ∧ w' = w) := fun w => by have := KO.out w; rw [decide_eq_true hop] at this; exact this
    go_enter Tryz.func6, Tryz.ntmps6
    by_cases ok : Pl.okB sh da = true
    · rw [ok] at KA
      have e := HR.out
      unfold Pl.scaM at e
      rw [Pl.moM_yes ⟨hop.1, hop.2, ok⟩] at e
      obtain ⟨hm0, hm1⟩ := Pl.ok_max ok
      have KRD : Hid (∀ (g0 k0 g1 k1 : Nat) (sh' da' : List Int) (c' : Int) (S' D' : List Int) W, Rd W.heap.size W (.slice (some ⟨g0, 0, none⟩) sh'.length k0) sh' → Rd W.heap.size W (.slice (some ⟨g1, 0, none⟩) da'.length k1) da' → sh'.length ≤ k0 → k0 ≤ 9223372036854775807 → da'.length ≤ k1 → k1 ≤ 9223372036854775807 → Pl.okB sh' da' = true → Pl.reduceM (Pl.twoM op) (Pl.noneV op.toNat) (Pl.noneB op.toNat) sh' da' = (c', S', D') → Calls Tryz.prog 20 #[.int .i64 op, .agg #[.slice (some ⟨g0, 0, none⟩) sh'.length k0, .slice (some ⟨g1, 0, none⟩) da'.length k1]] W (FPost W c' S' D')) := by
        obtain ⟨k, rfl⟩ := Int.eq_ofNat_of_zero_le (show 0 ≤ op by omega)
        exact fun g0 k0 g1 k1 sh' da' c' S' D' W r0 r1 q0 q1 q2 q3 ok' e' => l2Reduce_any k (by omega) (by omega) g0 0 k0 g1 0 k1 sh' da' W r0 r1 q0 q1 q2 q3 ok' c' S' D' e'
      by_cases hsl : sh.length = 0
      · unfold Pl.scanM at e
        rw [if_pos hsl] at e
        simp only [Prod.mk.injEq] at e
        obtain ⟨rfl, rfl, rfl⟩ := e
        have KL : Hid (∀ w', Below w.heap.size w w' → Calls Tryz.prog 20 #[.int .i64 op, .agg #[.slice (some ⟨b0, 0, none⟩) sh.length q0, .slice (some ⟨b1, 0, none⟩) da.length q1]] w' (FPost w' 0 [] da)) := fun w' h => KRD.out b0 _ b1 _ sh da 0 [] da w' ((H0.out.keep h).up h.size) ((H1.out.keep h).up h.size) hq0 hq0' hq1 hq1' ok (by unfold Pl.reduceM; rw [if_pos hsl])
        have test : ((sh.length : Int) == 0) = true := by simp [hsl]
        clear ok hop KO HR H0 H1 h0 h1 KRD hsl
        generalize hL0 : sh.length = L0 at *
        clear hL0
        generalize hL1 : da.length = L1 at *
        have HL1 := hideP hL1
        clear hL1
        go_wp2_with (go_at_call 18; refine (KO'.out _).mono ?_; rintro e w' ⟨rfl, rfl⟩)
        refine (KA.out _ (B.out _ _)).mono ?_
        rintro e w1 ⟨rfl, hb1⟩
        have k1 : Below (w.heap.size + 1 + 1) _ w1 := hb1.mono (by simp)
        have X1 := hideP (boxes2 k1)
        have K1 := hideP k1
        have hs1 : w.heap.size + 1 + 1 ≤ w1.heap.size := by have := hb1.size; simpa using this
        clear hb1 k1
        have c0 := X1.out.1.1
        have c1 := X1.out.1.2
        go_wp2_with fail
        clear c0 c1
        refine (KL.out _ X1.out.2.2).mono ?_
        rintro e w2 ⟨hb2, u0, u1, rfl, hres⟩
        have k2 := K1.out.trans (hb2.mono hs1)
        have X2 := hideP (boxes2 k2)
        have R2 := hideP hres
        have hs2 := hb2.size
        obtain ⟨x0, y0, x1, y1, e0, e1⟩ := hres.forms
        subst e0
        subst e1
        clear hb2 hres k2 K1
        have r0 := X2.out.2.1.1
        have r1 := X2.out.2.1.2.1
        have f2 := X2.out.2.1.2.2
        go_wp2_with fail
        refine bodyPost_ret (v := .tuple #[.agg #[.slice x0 0 y0, .slice x1 da.length y1], .int .i64 0]) (by simp [results, Tryz.results6, go_sem, r0, r1]) rfl ⟨(X2.out.2.2.setCell (by simp) _).setCell (by simp) _, _, _, rfl, ?_, ?_, R2.out.2.2⟩
        · exact Own.base (Own.store (Own.store R2.out.1 (by omega) _) (by omega) _) (by omega)
        · exact Own.base (Own.store (Own.store R2.out.2.1 (by omega) _) (by omega) _) (by omega)
      · have test : ((sh.length : Int) == 0) = false := by rw [beq_eq_false_iff_ne]; omega
        obtain ⟨hlt0, hce⟩ := rd_cell h0 (i := 0) (by omega)
        rw [Nat.add_zero] at hce
        unfold Pl.scanM at e
        rw [if_neg hsl] at e
        generalize hF : Pl.twoM op = F at *
        -- the number and size of the rows
        obtain ⟨n, s, en, es, hft, hl, n2⟩ : ∃ n s : Nat, sh.getD 0 0 = n ∧ (Pl.prodC sh.tail).toNat = s ∧ (0 < n → Pl.fitsB sh.tail = true ∧ Pl.prodC sh.tail = s) ∧ da.length = n * s ∧ n ≤ 1000 := by
          by_cases hn : sh.getD 0 0 = 0
          · refine ⟨0, (Pl.prodC sh.tail).toNat, hn, rfl, fun h => absurd h (Nat.lt_irrefl _), ?_, by omega⟩
            have e := (Pl.ok_len ok).1
            rw [Pl.prod_eq (Pl.ok_len ok).2] at e
            cases sh with
            | nil => exact absurd rfl hsl
            | cons x tl =>
              have hx : x = 0 := hn
              rw [hx, Pl.prodP_cons, Int.zero_mul] at e
              omega
          · obtain ⟨g1, n, s, g2, g3, g4, g5, g6⟩ := Pl.ok_rows ok hsl hn
            exact ⟨n, s, g2, by omega, fun _ => ⟨g1, g3⟩, g6, g5⟩
        rw [en, es] at e
        simp only [Int.toNat_natCast] at e
        rw [en] at hce
        have shc : (n : Int) :: sh.tail = sh := by
          cases sh with
          | nil => exact absurd rfl hsl
          | cons x tl =>
            have hx : x = n := en
            rw [hx]
            rfl
        have htl : sh.tail.length = sh.length - 1 := by simp
        have hst2 : sh.tail.length ≤ 2 := by omega
        have KF1 : Hid (∀ (k : Nat) W, k < n → Below w.heap.size w W → Calls Tryz.prog 21 #[.agg #[.slice (some ⟨b0, 0, none⟩) sh.length q0, .slice (some ⟨b1, 0, none⟩) da.length q1], .int .i64 ((k : Int) + 1)] W fun e w' => ∃ g0 k0 g1 k1, e = .returned (.agg #[.slice (some ⟨g0, 0, none⟩) (1 + sh.tail.length) k0, .slice (some ⟨g1, 0, none⟩) ((k + 1) * s) k1]) ∧ Below W.heap.size W w' ∧
            ∀ W', Below w'.heap.size w' W' → Calls Tryz.prog 20 #[.int .i64 op, .agg #[.slice (some ⟨g0, 0, none⟩) (1 + sh.tail.length) k0, .slice (some ⟨g1, 0, none⟩) ((k + 1) * s) k1]] W' (FPost W' (Pl.beg F da s k).1 (if (Pl.beg F da s k).1 = 0 then sh.tail else []) (if (Pl.beg F da s k).1 = 0 then (Pl.beg F da s k).2 else []))) := fun k W hk hb => by
          obtain ⟨ft, eps⟩ := hft (by omega)
          obtain ⟨f1, f2⟩ := Pl.fits_first (Pl.ok_len ok).2 hsl en eps ft (show k + 1 ≤ n by omega)
          have hle : (k + 1) * s ≤ da.length := by rw [hl]; exact Nat.mul_le_mul_right s hk
          have okk := Pl.ok_first ok hsl en eps ft hl (show k + 1 ≤ n by omega)
          have := l2First_any b0 0 q0 b1 0 q1 (k + 1) ((k + 1) * s) sh da W ((H0.out.keep hb).up hb.size) ((H1.out.keep hb).up hb.size) (by omega) hm0 hm1 hq0 hq0' hq1 hq1' f1 f2 hle (by omega)
          rw [show (((k + 1 : Nat)) : Int) = (k : Int) + 1 by omega] at this
          refine this.mono ?_
          rintro e w' ⟨g0, k0, g1, k1, rfl, q0, q1, q2, q3, rd0, rd1, hb'⟩
          refine ⟨g0, k0, g1, k1, rfl, hb', fun W' hb2 => ?_⟩
          have hlen : (((k : Int) + 1) :: sh.tail).length = 1 + sh.tail.length := by rw [List.length_cons, Nat.add_comm]
          have hdl : (da.take ((k + 1) * s)).length = (k + 1) * s := by rw [List.length_take]; omega
          have eR : Pl.reduceM F (Pl.noneV op.toNat) (Pl.noneB op.toNat) (((k : Int) + 1) :: sh.tail) (da.take ((k + 1) * s)) = ((Pl.beg F da s k).1, (if (Pl.beg F da s k).1 = 0 then sh.tail else []), (if (Pl.beg F da s k).1 = 0 then (Pl.beg F da s k).2 else [])) := by
            unfold Pl.reduceM
            rw [if_neg (by simp), if_neg (show ¬ ((((k : Int) + 1) :: sh.tail).getD 0 0 = 0) by show ¬ ((k : Int) + 1 = 0); omega)]
            have e1 : ((((k : Int) + 1) :: sh.tail).getD 0 0).toNat = k + 1 := by show ((k : Int) + 1).toNat = k + 1; omega
            rw [e1, List.tail_cons, es, Pl.foldM_take F da s (k + 1) (by omega)]
            show (if (Pl.beg F da s k).1 = 0 then _ else _) = _
            split
            · rename_i h0
              show (0, sh.tail, (Pl.beg F da s k).2) = _
              rw [h0]
            · rfl
          have okk' : Pl.okB (((k : Int) + 1) :: sh.tail) (da.take ((k + 1) * s)) = true := by
            have := okk
            rw [show (((k + 1 : Nat)) : Int) = (k : Int) + 1 by omega] at this
            exact this
          have rd0' := (rd0.keep hb2).up hb2.size
          have rd1' := (rd1.keep hb2).up hb2.size
          have := KRD.out g0 k0 g1 k1 (((k : Int) + 1) :: sh.tail) (da.take ((k + 1) * s)) _ _ _ W' (by rw [hlen]; exact rd0') (by rw [hdl]; exact rd1') (by omega) q1 (by omega) q3 okk' eR
          rw [hlen, hdl] at this
          exact this
        have KST : Hid (∀ W rv rg rcap (dv : Nat → Value) (sv : Value), Below w.heap.size w W → (0 < n → rv = some ⟨rg, 0, none⟩ ∧ rg < W.heap.size ∧ ∀ i, i < n → W.cell? ⟨rg, i * 2 + 1, none⟩ = some (dv i)) → (∀ i, i < n → Rd W.heap.size W (dv i) (Pl.beg F da s i).2) → Rd W.heap.size W sv sh.tail → Calls Tryz.prog 22 #[sv, .slice rv n rcap] W (FPost W 0 sh (Pl.begD F da s n))) := fun W rv rg rcap dv sv hb hrv hrd hsv => by
          have := l2Stack_any rv rg n rcap dv (fun i => (Pl.beg F da s i).2) sv sh.tail W (fun h => (hrv h).1) n2 (fun h => (hrv h).2.1) (fun i hi => (hrv (by omega)).2.2 i hi) hrd hsv (fun j hj => by
            have h1 := Pl.begD_len F da s j
            have h2 : j * s ≤ n * s := Nat.mul_le_mul_right s hj
            show (Pl.begD F da s j).length ≤ 1000
            omega) hst2 (by rw [shc]; exact (Pl.ok_len ok).2)
          rw [shc] at this
          exact this
        have RT := hideP (fun c' => rd_tail h0 (by omega) c')
        have RZ : Hid (sh.length - 1 = 0 → ∀ c', Rd w.heap.size w (.slice (some ⟨b0, 0, none⟩) 0 c') sh.tail) := fun h c' => rd_zero _ _ _ _ _ (by omega)
        have KT : Hid (∀ W v, Below w.heap.size w W → Rd w.heap.size w v sh.tail → Rd W.heap.size W v sh.tail) := fun W v hb h => (h.keep hb).up hb.size
        have PZ : Hid (∀ W, Below w.heap.size w W → W.cell? ⟨b0, 0, none⟩ = some (.int .i64 (n : Int))) := fun W hb => (hb.cell (p := ⟨b0, 0, none⟩) hlt0).trans hce
        generalize hC : Pl.firstG (Pl.begC F da s) (List.range n) = C at e
        have PC := hideP hC
        have PE := hideP e
        have hl1' : 1 ≤ sh.length := by omega
        clear ok hop KO HR H0 H1 h0 h1 KRD hce en es hft hl shc htl hC e hF
        generalize sh.tail = st at *
        generalize hL1 : da.length = L1 at *
        clear hL1
        generalize hL0 : sh.length = L at *
        have HL0 := hideP hL0
        clear hL0
        go_wp2_with (go_at_call 18; refine (KO'.out _).mono ?_; rintro e w' ⟨rfl, rfl⟩)
        refine (KA.out _ (B.out _ _)).mono ?_
        rintro e w1 ⟨rfl, hb1⟩
        have k1 : Below (w.heap.size + 1 + 1) _ w1 := hb1.mono (by simp)
        have hs1 : w.heap.size + 1 + 1 ≤ w1.heap.size := by have := hb1.size; simpa using this
        have BX := hideP (fun W (hb : Below w1.heap.size w1 W) => boxes2 (k1.trans (hb.mono hs1)))
        clear hb1 k1 KA KO'
        have c10 := (BX.out _ (Below.refl _ _)).1.1
        go_wp2_with fail
        clear c10
        go_loopw [6, 7, 8, 9] (fun rv i _ _ wr => ∃ k : Nat, k ≤ n ∧ i = .int .i64 ((k : Int) + 1) ∧ Hid (∀ i, i < k → (Pl.beg F da s i).1 = 0) ∧ ∃ xs dv, Hid (Rs w1 rv k xs dv (fun i => (Pl.beg F da s i).2) wr)) (fun _ i _ _ _ => n + 1 - (intOf i).toNat)
        case atStart => exact ⟨0, Nat.zero_le _, by go_num, fun i hi => absurd hi (Nat.not_lt_zero i), _, _, Rs.start w1 _⟩
        case round =>
          obtain ⟨k, hk, rfl, hz, xs, dvv, hR⟩ := hrel
          have BR := hideP (BX.out _ hR.out.bel).2.2
          obtain ⟨rao, rg, rcap, erv, hform⟩ := rows_form hR.out.row
          subst erv
          have c10 := (BX.out _ hR.out.bel).1.1
          have c11 := (BX.out _ hR.out.bel).1.2
          have cz := PZ.out _ BR.out
          by_cases hlt : k < n
          · have hle : (k : Int) + 1 ≤ (n : Int) := by omega
            have FA : Hid (¬ (Pl.beg F da s k).1 = 0 → C = (Pl.beg F da s k).1) := fun h => PC.out.symm.trans (Pl.beg_first F da s k n hlt hz.out h)
            have ZU : Hid ((Pl.beg F da s k).1 = 0 → ∀ i, i < k + 1 → (Pl.beg F da s i).1 = 0) := fun h i hi => by
              by_cases hik : i = k
              · subst hik; exact h
              · exact hz.out i (by omega)
            have KF := hideP (fun W hb => KF1.out k W hlt hb)
            have ZK : Hid ((fun i => (Pl.beg F da s i).2) k = (Pl.beg F da s k).2) := rfl
            obtain ⟨rc, rz, hrr⟩ : ∃ rc rz, Pl.beg F da s k = (rc, rz) := ⟨_, _, rfl⟩
            rw [hrr] at FA ZU KF ZK
            dsimp only at FA ZU KF ZK
            generalize (k + 1) * s = q at *
            have hsr := hR.out.bel.size
            clear hform hrr
            go_wp2_with fail
            refine (KF.out _ BR.out).mono ?_
            rintro e w2 ⟨g0, k0, g1, k1, rfl, hb2, KQ0⟩
            have KQ := hideP KQ0
            have R2 := hideP (hR.out.keep hb2)
            clear hb2 KQ0 c10 c11 cz
            go_wp2_with fail
            refine (KQ.out _ (Below.refl _ _)).mono ?_
            rintro e w3 ⟨hb3, u0, u1, rfl, hres⟩
            have R3 := hideP (R2.out.keep hb3)
            have RES := hideP hres
            have A3 : Hid (Below w3.heap.size w3 (w3.alloc (.cells #[u0, u1] 25))) := (Below.refl _ _).alloc (Nat.le_refl _) _
            have R4 := hideP (R3.out.keep A3.out)
            have hs2 := R2.out.bel.size
            have OFF : Hid (∀ g, (Value.slice rao k rcap).ownBlock = some g → Off g u1 (if rc = 0 then rz else [])) := fun g hg => own_ne_lo hres.2.1 (R2.out.row.lt g hg).2
            have OU := hideP ((hres.2.1.base hs2).keep A3.out)
            obtain ⟨x0, y0, x1, y1, e0, e1⟩ := hres.forms
            clear hb3 hres
            by_cases hr : rc = 0
            · subst hr
              rw [if_pos rfl] at e0 e1 OFF OU
              subst e0
              subst e1
              have ZU' := hideP (ZU.out rfl)
              have hs3 := R4.out.bel.size
              clear ZU FA
              have UB : Hid (k + 1 ≤ 16777216) := by show _ ≤ _; omega
              have HS3 : Hid ((w3.alloc (.cells #[.slice x0 st.length y0, .slice x1 rz.length y1] 25)).heap.size = w3.heap.size + 1) := by show _ = _; simp
              go_wp2_with (at_builtin; refine wpList_append66 (base := w1.heap.size) (w3.alloc (.cells #[.slice x0 st.length y0, .slice x1 rz.length y1] 25)) rfl _ _ rfl _ _ _ rfl (w3.heap.size + 1) HS3.out rfl k xs R4.out.row rfl rfl UB.out hs3 ?_)
              intro v' w9 ho9 hg9 hat9
              have RA := hideP (R4.out.app (zz := fun i => (Pl.beg F da s i).2) (by rw [ZK.out]; exact OU.out) (by rw [ZK.out]; exact OFF.out) ho9 hg9 (by rw [HS3.out]; exact hat9))
              clear ho9 hg9 hat9
              go_wp2_with fail
              go_roundw
              case rel => exact ⟨k + 1, by omega, by go_num, ZU', _, _, RA⟩
              case measure => simp [intOf]; omega
            · have hC := FA.out hr
              have e := PE.out
              rw [if_neg (by rw [hC]; exact hr)] at e
              simp only [Prod.mk.injEq] at e
              obtain ⟨rfl, rfl, rfl⟩ := e
              have hne : (rc != 0) = true := by rw [bne_iff_ne]; exact hr
              rw [if_neg hr] at e0 e1
              subst e0
              subst e1
              have X4 := hideP (BX.out _ R4.out.bel)
              have X3 := hideP (BX.out _ R3.out.bel)
              have hs4 : w.heap.size + 1 + 1 ≤ w3.heap.size := by have := R3.out.bel.size; omega
              have r0 : (w3.alloc (.cells #[.slice x0 0 y0, .slice x1 0 y1] 25)).cell? ⟨w.heap.size + 1, 0, none⟩ = some (.slice none 0 0) := X4.out.2.1.1
              have r1 : (w3.alloc (.cells #[.slice x0 0 y0, .slice x1 0 y1] 25)).cell? ⟨w.heap.size + 1, 1, none⟩ = some (.slice none 0 0) := X4.out.2.1.2.1
              have f2 : ∀ o, (w3.alloc (.cells #[.slice x0 0 y0, .slice x1 0 y1] 25)).frozen? ⟨w.heap.size + 1, o, none⟩ = false := X4.out.2.1.2.2
              have HC := hideP hC
              clear ZU FA hC
              go_wp2_with fail
              refine bodyPost_ret (v := .tuple #[.agg #[.slice none 0 0, .slice none 0 0], .int .i64 rc]) (by simp [results, Tryz.results6, go_sem, r0, r1]) rfl ?_
              show FPost _ _ _ _ _ _
              rw [HC.out]
              exact ⟨(X4.out.2.2.setCell (by simp) _).setCell (by simp) _, _, _, rfl, Own.nil _ _, Own.nil _ _, .inl rfl⟩
          · have kn : k = n := by omega
            subst kn
            have hgt : ¬ ((k : Int) + 1 ≤ (k : Int)) := by omega
            have hC : C = 0 := PC.out.symm.trans (Pl.beg_zero F da s k hz.out)
            have e := PE.out
            rw [if_pos hC] at e
            simp only [Prod.mk.injEq] at e
            obtain ⟨rfl, rfl, rfl⟩ := e
            have HF2 : Hid (0 < k → rao = some ⟨rg, 0, none⟩ ∧ rg < wr.heap.size ∧ ∀ i, i < k → wr.cell? ⟨rg, i * 2 + 1, none⟩ = some (dvv i)) := fun h => ⟨(hform h).1, (hform h).2.1, fun i hi => ((hform h).2.2 i hi).trans (hR.out.cell i hi)⟩
            have RSX : Hid (∀ i, i < k → Rd wr.heap.size wr (dvv i) (Pl.beg F da s i).2) := fun i hi => (hR.out.own i hi).rd
            have BRW := hideP hR.out.bel
            clear hform
            by_cases hL : q0 = 1
            · subst hL
              have hLL : L = 1 := by omega
              subst hLL
              have SV := hideP (KT.out wr _ BR.out (RZ.out (by omega) 0))
              clear RT RZ
              go_wp2_with fail
              refine (KST.out wr _ rg _ dvv _ BR.out HF2.out RSX.out SV.out).mono ?_
              rintro e w9 ⟨hb9, u0, u1, rfl, hres⟩
              have X9 := hideP (BX.out _ (BRW.out.trans (hb9.mono BRW.out.size)))
              have R9 := hideP hres
              have hs9 := hb9.size
              have hsr := BRW.out.size
              obtain ⟨x0, y0, x1, y1, e0, e1⟩ := hres.forms
              rw [HL0.out] at e0
              subst e0
              subst e1
              clear hb9 hres c10 c11 cz
              have r0 := X9.out.2.1.1
              have r1 := X9.out.2.1.2.1
              have f2 := X9.out.2.1.2.2
              go_wp2_with fail
              refine bodyPost_ret (v := .tuple #[.agg #[.slice x0 1 y0, .slice x1 (Pl.begD F da s k).length y1], .int .i64 0]) (by simp [results, Tryz.results6, go_sem, r0, r1]) rfl ⟨(X9.out.2.2.setCell (by simp) _).setCell (by simp) _, _, _, rfl, ?_, ?_, R9.out.2.2⟩
              · exact Own.base (Own.store (Own.store R9.out.1 (by omega) _) (by omega) _) (by omega)
              · exact Own.base (Own.store (Own.store R9.out.2.1 (by omega) _) (by omega) _) (by omega)
            · have SV := hideP (KT.out wr _ BR.out (RT.out (q0 - 1)))
              clear RT RZ
              go_wp2_with fail
              refine (KST.out wr _ rg _ dvv _ BR.out HF2.out RSX.out SV.out).mono ?_
              rintro e w9 ⟨hb9, u0, u1, rfl, hres⟩
              have X9 := hideP (BX.out _ (BRW.out.trans (hb9.mono BRW.out.size)))
              have R9 := hideP hres
              have hs9 := hb9.size
              have hsr := BRW.out.size
              obtain ⟨x0, y0, x1, y1, e0, e1⟩ := hres.forms
              rw [HL0.out] at e0
              subst e0
              subst e1
              clear hb9 hres c10 c11 cz
              have r0 := X9.out.2.1.1
              have r1 := X9.out.2.1.2.1
              have f2 := X9.out.2.1.2.2
              go_wp2_with fail
              refine bodyPost_ret (v := .tuple #[.agg #[.slice x0 L y0, .slice x1 (Pl.begD F da s k).length y1], .int .i64 0]) (by simp [results, Tryz.results6, go_sem, r0, r1]) rfl ⟨(X9.out.2.2.setCell (by simp) _).setCell (by simp) _, _, _, rfl, ?_, ?_, R9.out.2.2⟩
              · exact Own.base (Own.store (Own.store R9.out.1 (by omega) _) (by omega) _) (by omega)
              · exact Own.base (Own.store (Own.store R9.out.2.1 (by omega) _) (by omega) _) (by omega)
    · have ok' : Pl.okB sh da = false := by simpa using ok
      rw [ok'] at KA
      have e := HR.out
      unfold Pl.scaM at e
      rw [Pl.moM_no (by intro h; exact ok h.2.2)] at e
      simp only [Prod.mk.injEq] at e
      obtain ⟨rfl, rfl, rfl⟩ := e
      clear ok ok' hop
      go_wp2_with (go_at_call 18; refine (KO'.out _).mono ?_; rintro e w' ⟨rfl, rfl⟩)
      refine (KA.out _ (B.out _ _)).mono ?_
      rintro e w1 ⟨rfl, hb1⟩
      have X1 := hideP (boxes2 (show Below (w.heap.size + 1 + 1) _ w1 from hb1.mono (by simp)))
      have hs1 : w.heap.size + 1 + 1 ≤ w1.heap.size := by have := hb1.size; simpa using this
      clear hb1
      have r0 := X1.out.2.1.1
      have r1 := X1.out.2.1.2.1
      have f2 := X1.out.2.1.2.2
      go_wp2_with fail
      refine bodyPost_ret (v := .tuple #[.agg #[.slice none 0 0, .slice none 0 0], .int .i64 9]) (by simp [results, Tryz.results6, go_sem, r0, r1]) rfl ⟨(X1.out.2.2.setCell (by simp) _).setCell (by simp) _, _, _, rfl, Own.nil _ _, Own.nil _ _, .inl rfl⟩
  · have KO' : Hid (∀ w, Calls Tryz.prog 18 #[.int .i64 op] w fun e w' => e = .returned (.bool false) ∧ w' = w) := fun w => by have := KO.out w; rw [decide_eq_false hop] at this; exact this
    go_enter Tryz.func6, Tryz.ntmps6
    have e := HR.out
    unfold Pl.scaM at e
    rw [Pl.moM_no (by intro h; exact hop ⟨h.1, h.2.1⟩)] at e
    simp only [Prod.mk.injEq] at e
    obtain ⟨rfl, rfl, rfl⟩ := e
    clear hop
    go_wp2_with (go_at_call 18; refine (KO'.out _).mono ?_; rintro e w' ⟨rfl, rfl⟩)
    refine bodyPost_ret (v := .tuple #[.agg #[.slice none 0 0, .slice none 0 0], .int .i64 9]) (by simp [results, Tryz.results6, go_sem]) rfl ⟨B.out _ _, _, _, rfl, Own.nil _ _, Own.nil _ _, .inl rfl⟩

end Go.Proofs.YtaikmbfdhecjoaaGreat
