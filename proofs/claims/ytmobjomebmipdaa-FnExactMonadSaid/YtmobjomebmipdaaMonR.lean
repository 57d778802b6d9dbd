import Derived.Test.YtmobjomebmipdaaMonS
namespace Go.Proofs.Ytmobjomebmipdaa
open Go.RowKit
set_option linter.unusedVariables false

set_option maxRecDepth 100000 in
set_option maxHeartbeats 4000000 in
/-- spec.l2Rev -/
theorem l2Rev_any (b0 o0 c0 b1 o1 c1 : Nat) (sh da : List Int) (w : World) (h0 : Rd w.heap.size w (.slice (some ⟨b0, o0, none⟩) sh.length c0) sh) (h1 : Rd w.heap.size w (.slice (some ⟨b1, o1, none⟩) da.length c1) da) (hc0 : sh.length ≤ c0) (hc0' : c0 ≤ 9223372036854775807) (hc1 : da.length ≤ c1) (hc1' : c1 ≤ 9223372036854775807)
    (hok : Pl.okB sh da = true) (S D : List Int) (hres : Pl.revM sh da = (0, S, D)) :
    Calls Try.prog 56 #[.agg #[.slice (some ⟨b0, o0, none⟩) sh.length c0, .slice (some ⟨b1, o1, none⟩) da.length c1]] w fun e w' => ∃ u0 u1, e = .returned (.agg #[u0, u1]) ∧ Res w.heap.size w' u0 u1 S D ∧ Below w.heap.size w w' := by
  obtain ⟨hm0, hm1⟩ := Pl.ok_max hok
  have H0 := hideP h0
  have H1 := hideP h1
  have PB : Hid (∀ W, Below (w.heap.size + 1 + 1) ((w.alloc (.cells #[.slice (some ⟨b0, o0, none⟩) sh.length c0, .slice (some ⟨b1, o1, none⟩) da.length c1] 27)).alloc (.cells #[.slice none 0 0, .slice none 0 0] 27)) W → (W.cell? ⟨w.heap.size, 0, none⟩ = some (.slice (some ⟨b0, o0, none⟩) sh.length c0) ∧ W.cell? ⟨w.heap.size, 1, none⟩ = some (.slice (some ⟨b1, o1, none⟩) da.length c1)) ∧ (W.cell? ⟨w.heap.size + 1, 0, none⟩ = some (.slice none 0 0) ∧ W.cell? ⟨w.heap.size + 1, 1, none⟩ = some (.slice none 0 0) ∧ ∀ o, W.frozen? ⟨w.heap.size + 1, o, none⟩ = false) ∧ Below w.heap.size w W) := fun W hb => boxes2 hb
  unfold Pl.revM at hres
  by_cases hsl : sh.length = 0
  · rw [if_pos hsl] at hres
    simp only [Prod.mk.injEq, true_and] at hres
    obtain ⟨rfl, rfl⟩ := hres
    have test : ((sh.length : Int) == 0) = true := by simp [hsl]
    have A : Hid (∀ o o' o'', Below w.heap.size w (((w.alloc o).alloc o').alloc o'')) := fun o o' o'' => below3 w o o' o''
    clear h0 h1 hok hsl
    go_enter Try.func56, Try.ntmps56
    go_wp2_with fail
    refine (l2Copy_any _ da _ (by omega) ((H1.out.keep (A.out _ _ _)).up (by simp; omega))).mono ?_
    rintro e w1 ⟨u, rfl, ho1, hb1⟩
    have hs1 : w.heap.size + 1 + 1 + 1 ≤ w1.heap.size := by have := hb1.size; simpa using this
    have X := hideP (PB.out w1 (((Below.refl _ _).alloc (by simp) _).trans (hb1.mono (by simp))))
    have ho1' : w1.ownsRow (w.heap.size + 1 + 1) 3 1 u da.length (da.map (Value.int .i64)) := owns_base ho1 (by simp)
    have HO1 := hideP (own_of_any ho1')
    obtain ⟨xu, yu, eu⟩ := owns_form ho1
    subst eu
    clear ho1 ho1' hb1
    have r0 := X.out.2.1.1
    have r1 := X.out.2.1.2.1
    have f2 := X.out.2.1.2.2
    go_wp2_with fail
    refine bodyPost_ret (v := .agg #[.slice (some ⟨w.heap.size + 1 + 1, 0, none⟩) 0 0, .slice xu da.length yu]) (by simp [results, Try.results56, go_sem, r0, r1]) rfl ⟨_, _, rfl, ⟨⟨_, _, rfl, .inl rfl⟩, ?_, .inl rfl⟩, (X.out.2.2.setCell (by simp) _).setCell (by simp) _⟩
    exact Own.base (Own.store (Own.store HO1.out (by omega) _) (by omega) _) (by omega)
  · have test : ((sh.length : Int) == 0) = false := by rw [beq_eq_false_iff_ne]; omega
    obtain ⟨hlt0, hce⟩ := rd_cell h0 (i := 0) (by omega)
    rw [Nat.add_zero] at hce
    obtain ⟨n, s, en, es, n2, s2, hl, hbt⟩ := Pl.rows_size hok hsl
    rw [if_neg hsl, en, es] at hres
    simp only [Int.toNat_natCast, Prod.mk.injEq, true_and] at hres
    have hrr : sh.all Pl.inR = true := by
      have := (Pl.ok_len hok).2
      simp only [Pl.fitsB, Pl.baseB, Bool.and_eq_true] at this
      exact this.1.2
    have KR : Hid (∀ (q : Nat) W, q < n → Below w.heap.size w W → Calls Try.prog 106 #[.agg #[.slice (some ⟨b0, o0, none⟩) sh.length c0, .slice (some ⟨b1, o1, none⟩) da.length c1], .int .i64 (q : Int)] W fun e w'' => ∃ u0 u1, e = .returned (.agg #[u0, u1]) ∧ Res W.heap.size w'' u0 u1 sh.tail (Pl.rowAt da s q) ∧ Below W.heap.size W w'') := fun q W hq hb => by
      have hn0 : ¬ sh.getD 0 0 = 0 := by rw [en]; omega
      obtain ⟨hft, _⟩ := Pl.ok_rows hok hsl hn0
      have ep : Pl.prodC sh.tail = s := by rw [Pl.prod_eq hft]; exact es
      exact l2Row_any b0 o0 c0 b1 o1 c1 q s sh da W ((H0.out.keep hb).up hb.size) ((H1.out.keep hb).up hb.size) (by omega) hm0 hm1 hc0 hc0' hc1 hc1' hrr ep (by rw [hl]; exact Nat.mul_le_mul_right s hq) (by omega)
    have RL : Hid (∀ q, q < n → (Pl.rowAt da s q).length = s) := fun q hq => Pl.rowAt_len (by rw [hl]; exact Nat.mul_le_mul_right s hq)
    rw [en] at hce
    have PZ : Hid (∀ W, Below w.heap.size w W → W.cell? ⟨b0, o0, none⟩ = some (.int .i64 (n : Int))) := fun W hb => (hb.cell (p := ⟨b0, o0, none⟩) hlt0).trans hce
    have KC : Hid (∀ W, Below w.heap.size w W → Calls Try.prog 40 #[.slice (some ⟨b0, o0, none⟩) sh.length c0] W fun e w' => ∃ v, e = .returned v ∧ w'.ownsRow W.heap.size 3 1 v sh.length (sh.map (Value.int .i64)) ∧ Below W.heap.size W w') := fun W hb => l2Copy_any _ sh W (by omega) ((H0.out.keep hb).up hb.size)
    have OE : Hid (∀ o o', (((w.alloc o).alloc o').alloc (.cells #[] 3)).ownsRow (w.heap.size + 1 + 1) 3 1 (.slice (some ⟨w.heap.size + 1 + 1, 0, none⟩) 0 0) 0 (([] : List Int).map (Value.int .i64))) := fun o o' => by
      have := owns_empty ((w.alloc o).alloc o') (w.heap.size + 1 + 1) (by simp)
      have e : ((w.alloc o).alloc o').heap.size = w.heap.size + 1 + 1 := by simp
      rw [e] at this
      exact this
    have HR := hideP hres
    have hl1 : 1 ≤ sh.length := by omega
    have hns : n * s ≤ 1000 := by omega
    have B3 : Hid (∀ o o' o'', Below w.heap.size w (((w.alloc o).alloc o').alloc o'')) := fun o o' o'' => below3 w o o' o''
    have cz0 := fun o o' o'' => PZ.out _ (B3.out o o' o'')
    clear h0 h1 hok H0 H1 hce en es hl hres hbt hrr
    generalize sh.tail = st at *
    generalize hLd : da.length = Ld at *
    clear hLd
    generalize hLs : sh.length = Ls at *
    have HLs := hideP hLs
    clear hLs
    go_enter Try.func56, Try.ntmps56
    go_wp2_with fail
    clear cz0
    go_loopw [3, 4] (fun dv i wr => ∃ q : Nat, q ≤ n ∧ i = .int .i64 ((q : Int) - 1) ∧ ∃ acc : List Int, Hid (acc ++ (Pl.rowsDown da s q).flatten = (Pl.rowsDown da s n).flatten) ∧ Hid (acc.length + q * s = n * s) ∧ Hid (wr.ownsRow (w.heap.size + 1 + 1) 3 1 dv acc.length (acc.map (Value.int .i64))) ∧ Hid (Below (w.heap.size + 1 + 1) ((w.alloc (.cells #[.slice (some ⟨b0, o0, none⟩) Ls c0, .slice (some ⟨b1, o1, none⟩) Ld c1] 27)).alloc (.cells #[.slice none 0 0, .slice none 0 0] 27)) wr)) (fun _ i _ => (intOf i + 1).toNat)
    case atStart => exact ⟨n, Nat.le_refl _, by go_num, [], by show _ = _; simp, by show _ = _; simp, OE.out _ _, (Below.refl _ _).alloc (by simp) _⟩
    case round =>
      obtain ⟨q, hq, rfl, acc, hac, hal, ho, hbel⟩ := hrel
      have X := hideP (PB.out _ hbel.out)
      have hsw : w.heap.size + 1 + 1 ≤ wr.heap.size := by have := hbel.out.size; simpa using this
      obtain ⟨xo, yo, eo⟩ := owns_form ho.out
      subst eo
      by_cases hq0 : q = 0
      · subst hq0
        have hT : acc = (Pl.rowsDown da s n).flatten := by have := hac.out; simpa [Pl.rowsDown] using this
        have hre := HR.out
        rw [← hT] at hre
        obtain ⟨rfl, rfl⟩ := hre
        have c10 := X.out.1.1
        clear hT
        go_wp2_with fail
        refine (KC.out _ X.out.2.2).mono ?_
        rintro e w6 ⟨v, rfl, ho6, hb6⟩
        have X6 := hideP (PB.out _ (hbel.out.trans (hb6.mono hsw)))
        have O6 := hideP (own_of_any ho6)
        have D6 := hideP (own_of_any (owns_keep ho.out hb6))
        have AP := hideP (apart_lo2 (da := acc) (own_of_any ho6) (own_of_any ho.out).lt)
        obtain ⟨xs, ys, es⟩ := owns_form ho6
        subst es
        have hs6 := hb6.size
        clear ho6 hb6 c10
        have r0 := X6.out.2.1.1
        have r1 := X6.out.2.1.2.1
        have f2 := X6.out.2.1.2.2
        go_wp2_with fail
        refine bodyPost_ret (v := .agg #[.slice xs Ls ys, .slice xo acc.length yo]) (by simp [results, Try.results56, go_sem, r0, r1]) rfl ⟨_, _, rfl, ⟨?_, ?_, AP.out⟩, (X6.out.2.2.setCell (by simp) _).setCell (by simp) _⟩
        · exact Own.base (Own.store (Own.store O6.out (by omega) _) (by omega) _) (by omega)
        · exact Own.base (Own.store (Own.store D6.out (by omega) _) (by omega) _) (by omega)
      · obtain ⟨q', rfl⟩ : ∃ q', q = q' + 1 := ⟨q - 1, by omega⟩
        have eq1 : (((q' + 1 : Nat)) : Int) - 1 = (q' : Int) := by omega
        rw [eq1]
        clear eq1
        have hac' : Hid ((acc ++ Pl.rowAt da s q') ++ (Pl.rowsDown da s q').flatten = (Pl.rowsDown da s n).flatten) := by
          have := hac.out
          rw [Pl.rowsDown_succ, List.flatten_cons, ← List.append_assoc] at this
          exact this
        have hrl := RL.out q' (by omega)
        have hal' : Hid ((acc ++ Pl.rowAt da s q').length + q' * s = n * s) := by
          have := hal.out
          rw [Nat.succ_mul] at this
          show _ = _
          rw [List.length_append, hrl]
          omega
        have UB : Hid (acc.length + (Pl.rowAt da s q').length ≤ 16777216) := by
          have := hal'.out
          rw [List.length_append] at this
          show _ ≤ _
          omega
        have KRQ := hideP (fun W hb => KR.out q' W (by omega) hb)
        have c10 := X.out.1.1
        have c11 := X.out.1.2
        clear hrl hac hal
        generalize Pl.rowAt da s q' = row at *
        go_wp2_with fail
        refine (KRQ.out _ X.out.2.2).mono ?_
        rintro e w3 ⟨u0, u1, rfl, res3, hb3⟩
        have RD := hideP res3.2.1.rd
        have O3 := hideP (owns_keep ho.out hb3)
        have B3' := hideP (hbel.out.trans (hb3.mono hsw))
        obtain ⟨x0, y0, x1, y1, e0, e1⟩ := res3.forms
        subst e0
        subst e1
        have hsz : w.heap.size + 1 + 1 ≤ w3.heap.size := by have := hb3.size; omega
        have hfd := field1 x0 x1 st.length y0 row.length y1 w3
        clear res3 hb3 c10 c11
        go_wp2_with (at_builtin; refine wpList_append_rd_at (base := w.heap.size + 1 + 1) _ rfl _ _ rfl _ _ rfl rfl _ _ _ O3.out RD.out UB.out hsz ?_)
        intro v' w5 ho5 hg5 _
        have D5 := hideP (B3'.out.grown hg5 hsz (fun k hk => (O3.out.lt k hk).1))
        have O5 : Hid (w5.ownsRow (w.heap.size + 1 + 1) 3 1 v' (acc ++ row).length ((acc ++ row).map (Value.int .i64))) := by
          show World.ownsRow _ _ _ _ _ _ _
          rw [List.length_append]
          first | exact ho5 | (rw [List.map_append]; exact ho5)
        clear ho5 hg5 hfd
        go_wp2_with fail
        go_roundw
        case rel => exact ⟨q', by omega, by go_num, acc ++ row, hac', hal', O5, D5⟩
        case measure => simp [intOf]

end Go.Proofs.Ytmobjomebmipdaa
