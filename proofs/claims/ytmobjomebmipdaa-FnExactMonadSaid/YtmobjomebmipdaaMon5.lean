import Derived.Test.YtmobjomebmipdaaMon4
import Derived.Test.YtmobjomebmipdaaEnv2
import Derived.Deep.DeepCutAuto
namespace Go.Proofs.Ytmobjomebmipdaa
open Go.RowKit
set_option linter.unusedVariables false

namespace Pl
def revM (sh da : List Int) : Int × List Int × List Int := if sh.length = 0 then (0, [], da) else (0, sh, (rowsDown da (prodP sh.tail).toNat (sh.getD 0 0).toNat).flatten)
theorem rowsDown_succ (da : List Int) (s q : Nat) : rowsDown da s (q + 1) = rowAt da s q :: rowsDown da s q := rfl
theorem rows_size {sh da : List Int} (h : okB sh da = true) (h0 : ¬ sh.length = 0) : ∃ n s : Nat, sh.getD 0 0 = n ∧ prodP sh.tail = s ∧ n ≤ 1000 ∧ s ≤ 1000000000 ∧ da.length = n * s ∧ baseB sh.tail = true := by
  obtain ⟨hl, hf⟩ := ok_len h
  have hP := prod_eq hf
  cases sh with
  | nil => simp at h0
  | cons x tl =>
    have hb : baseB (x :: tl) = true := by simp only [fitsB, Bool.and_eq_true] at hf; exact hf.1
    have hbt := base_tail hb
    simp only [List.tail_cons] at hbt ⊢
    have hxr : 0 ≤ x ∧ x ≤ 1000 := by
      simp only [baseB, Bool.and_eq_true, List.all_cons] at hb
      exact inR_bd hb.2.1
    have ht := (prod_two tl hbt).1
    refine ⟨x.toNat, (prodP tl).toNat, by show x = _; omega, by omega, by omega, by omega, ?_, hbt⟩
    have e : (da.length : Int) = (x.toNat : Int) * ((prodP tl).toNat : Int) := by
      rw [hl, hP, prodP_cons]
      congr 1 <;> omega
    exact_mod_cast e
end Pl

set_option maxRecDepth 100000 in
set_option maxHeartbeats 4000000 in
/-- impl.rev -/
theorem rev_any (b0 o0 c0 b1 o1 c1 : Nat) (sh da : List Int) (w : World) (h0 : Rd w.heap.size w (.slice (some ⟨b0, o0, none⟩) sh.length c0) sh) (h1 : Rd w.heap.size w (.slice (some ⟨b1, o1, none⟩) da.length c1) da) (hc0 : sh.length ≤ c0) (hc0' : c0 ≤ 9223372036854775807) (hc1 : da.length ≤ c1) (hc1' : c1 ≤ 9223372036854775807)
    (hok : Pl.okB sh da = true) (c : Int) (S D : List Int) (hres : Pl.revM sh da = (c, S, D)) :
    Calls Try.prog 114 #[.agg #[.slice (some ⟨b0, o0, none⟩) sh.length c0, .slice (some ⟨b1, o1, none⟩) da.length c1]] w (KPost w c S D) := by
  obtain ⟨hm0, hm1⟩ := Pl.ok_max hok
  have H0 := hideP h0
  have H1 := hideP h1
  have KS : Hid (∀ w', Calls Try.prog 91 #[.agg #[.slice (some ⟨b0, o0, none⟩) sh.length c0, .slice (some ⟨b1, o1, none⟩) da.length c1]] w' fun e w'' => e = .returned (.bool (decide (sh.length = 0))) ∧ Below w'.heap.size w' w'') := fun w' => isScalar_any _ _ sh w.heap.size w' w H0.out
  obtain ⟨wb, hwb⟩ : ∃ wb, wb = (w.alloc (.cells #[.slice (some ⟨b0, o0, none⟩) sh.length c0, .slice (some ⟨b1, o1, none⟩) da.length c1] 27)).alloc (.cells #[.slice none 0 0, .slice none 0 0] 27) := ⟨_, rfl⟩
  have WS : wb.heap.size = w.heap.size + 1 + 1 := by rw [hwb]; simp
  have PB : Hid (∀ W, Below wb.heap.size wb W → (W.cell? ⟨w.heap.size, 0, none⟩ = some (.slice (some ⟨b0, o0, none⟩) sh.length c0) ∧ W.cell? ⟨w.heap.size, 1, none⟩ = some (.slice (some ⟨b1, o1, none⟩) da.length c1)) ∧ (W.cell? ⟨w.heap.size + 1, 0, none⟩ = some (.slice none 0 0) ∧ W.cell? ⟨w.heap.size + 1, 1, none⟩ = some (.slice none 0 0) ∧ ∀ o, W.frozen? ⟨w.heap.size + 1, o, none⟩ = false) ∧ Below w.heap.size w W) := fun W hb => by
    subst hwb
    exact boxes2 (hb.mono (by simp))
  go_enter Try.func114, Try.ntmps114
  by_cases hsl : sh.length = 0
  · have KS' : Hid (∀ w', Calls Try.prog 91 #[.agg #[.slice (some ⟨b0, o0, none⟩) sh.length c0, .slice (some ⟨b1, o1, none⟩) da.length c1]] w' fun e w'' => e = .returned (.bool true) ∧ Below w'.heap.size w' w'') := fun w' => by have := KS.out w'; rw [decide_eq_true hsl] at this; exact this
    have KC : Hid (∀ W, Below wb.heap.size wb W → Calls Try.prog 129 #[.agg #[.slice (some ⟨b0, o0, none⟩) sh.length c0, .slice (some ⟨b1, o1, none⟩) da.length c1]] W (KPost W 0 sh da)) := fun W hb => by
      have k := (PB.out W hb).2.2
      exact copied_any _ _ sh da W (by omega) (by omega) ((H0.out.keep k).up k.size) ((H1.out.keep k).up k.size)
    unfold Pl.revM at hres
    rw [if_pos hsl, ← List.length_eq_zero_iff.1 hsl] at hres
    simp only [Prod.mk.injEq] at hres
    obtain ⟨rfl, rfl, rfl⟩ := hres
    clear h0 h1 hok KS H0 H1 hsl
    go_wp2_with fail
    rw [← hwb]
    refine (KS'.out _).mono ?_
    rintro e w1 ⟨rfl, hb1⟩
    have B1 := hideP hb1
    obtain ⟨c10, c11⟩ := (PB.out _ hb1).1
    clear hb1 hwb
    go_wp2_with fail
    refine (KC.out _ B1.out).mono ?_
    rintro e w2 ⟨hb2, ⟨_, u0, u1, rfl, res2⟩ | ⟨hne, _⟩⟩
    · have B2 := hideP (B1.out.trans (hb2.mono B1.out.size))
      have X2 := hideP (PB.out _ B2.out)
      have R2 := hideP res2
      have hs1 := B1.out.size
      have hs2 := hb2.size
      obtain ⟨x0, y0, x1, y1, e0, e1⟩ := res2.forms
      subst e0
      subst e1
      clear hb2 res2 c10 c11
      have r0 := X2.out.2.1.1
      have r1 := X2.out.2.1.2.1
      have f2 := X2.out.2.1.2.2
      go_wp2_with fail
      refine bodyPost_ret (v := .agg #[.slice x0 sh.length y0, .slice x1 da.length y1]) (by simp [results, Try.results114, go_sem, r0, r1]) rfl ⟨(X2.out.2.2.setCell (by simp) _).setCell (by simp) _, .inl ⟨rfl, _, _, rfl, ?_, ?_, R2.out.2.2⟩⟩
      · exact Own.base (Own.store (Own.store R2.out.1 (by omega) _) (by omega) _) (by omega)
      · exact Own.base (Own.store (Own.store R2.out.2.1 (by omega) _) (by omega) _) (by omega)
    · exact absurd rfl hne
  · have KS' : Hid (∀ w', Calls Try.prog 91 #[.agg #[.slice (some ⟨b0, o0, none⟩) sh.length c0, .slice (some ⟨b1, o1, none⟩) da.length c1]] w' fun e w'' => e = .returned (.bool false) ∧ Below w'.heap.size w' w'') := fun w' => by have := KS.out w'; rw [decide_eq_false hsl] at this; exact this
    obtain ⟨hlt0, hce⟩ := rd_cell h0 (i := 0) (by omega)
    rw [Nat.add_zero] at hce
    obtain ⟨n, s, en, es, n2, s2, hl, hbt⟩ := Pl.rows_size hok hsl
    unfold Pl.revM at hres
    rw [if_neg hsl, en, es] at hres
    simp only [Int.toNat_natCast] at hres
    rw [en] at hce
    have htl : sh.tail.length = sh.length - 1 := by simp
    have RT := hideP (fun c' => rd_tail h0 (by omega) c')
    have RZ : Hid (sh.length - 1 = 0 → ∀ c', Rd w.heap.size w (.slice (some ⟨b0, o0, none⟩) 0 c') sh.tail) := fun h c' => rd_zero _ _ _ _ _ (by omega)
    have KC : Hid (∀ W v, Below w.heap.size w W → Rd w.heap.size w v sh.tail → Calls Try.prog 37 #[v] W fun e w' => e = .returned (.int .i64 (s : Int)) ∧ w' = W) := fun W v hb h => by
      have := cellCount_any _ v sh.tail W hbt ((h.keep hb).up hb.size)
      rw [es] at this
      exact this
    have KR : Hid (∀ (q : Nat) W, q < n → Below w.heap.size w W → Calls Try.prog 133 #[.slice (some ⟨b1, o1, none⟩) da.length c1, .int .i64 (s : Int), .int .i64 (q : Int), .int .i64 ((q : Int) + 1)] W fun e w' => ∃ v, e = .returned v ∧ Rd W.heap.size W v (Pl.rowAt da s q) ∧ w' = W) := fun q W hq hb => by
      have h1' : (q + 1) * s ≤ da.length := by rw [hl]; exact Nat.mul_le_mul_right s hq
      have := rows_any W.heap.size b1 o1 c1 s q (q + 1) da W ((H1.out.keep hb).up hb.size) (by omega) h1' hc1 hc1'
      rw [show (q + 1) * s - q * s = s by rw [Nat.succ_mul]; omega, show (((q + 1 : Nat)) : Int) = (q : Int) + 1 by omega] at this
      exact this
    have KJ : Hid (∀ b W, Below wb.heap.size wb W → b < W.heap.size → W.cell? ⟨b, 0, none⟩ = some (.slice (some ⟨b0, o0, none⟩) sh.length c0) → Calls Try.prog 84 #[.slice (some ⟨b, 0, none⟩) 1 1] W fun e w' => ∃ ao cap, e = .returned (.slice ao sh.length cap) ∧ Own W.heap.size w' (.slice ao sh.length cap) sh ∧ Below W.heap.size W w') := fun b W hb hlt hcc => by
      have k := (PB.out W hb).2.2
      exact joined1_own b _ sh W (by omega) hlt hcc ((H0.out.keep k).up k.size)
    have PZ : Hid (∀ W, Below w.heap.size w W → W.cell? ⟨b0, o0, none⟩ = some (.int .i64 (n : Int))) := fun W hb => (hb.cell (p := ⟨b0, o0, none⟩) hlt0).trans hce
    have RL : Hid (∀ q, q < n → (Pl.rowAt da s q).length = s) := fun q hq => Pl.rowAt_len (by rw [hl]; exact Nat.mul_le_mul_right s hq)
    have HR := hideP hres
    obtain ⟨i0, hi, hz0, hz1, hz2⟩ := info_parts Try.info3
    have HI := hideP (And.intro hi (And.intro hz0 (And.intro hz1 hz2)))
    have hl1 : 1 ≤ sh.length := by omega
    have hns : n * s ≤ 1000 := by omega
    clear h0 h1 hok KS H0 H1 hce en es hl hres hi hz0 hz1 hz2 hbt
    generalize sh.tail = st at *
    generalize hLd : da.length = Ld at *
    clear hLd
    generalize hLs : sh.length = Ls at *
    have HLs := hideP hLs
    clear hLs
    go_wp2_with fail
    rw [← hwb]
    refine (KS'.out _).mono ?_
    rintro e wq ⟨rfl, hb1⟩
    have BWB := hideP hb1
    have hs1 : w.heap.size + 1 + 1 ≤ wq.heap.size := by have := hb1.size; omega
    have BW := hideP (PB.out _ hb1).2.2
    have c10 := (PB.out _ hb1).1.1
    clear hb1 hwb KS'
    go_upto_region 3 with fail
    go_cut [3] (fun s3 wx => s3 = .int .i64 (s : Int) ∧ wx = wq)
    case first =>
      by_cases hc : c0 = 1
      · subst hc
        have RZ' := hideP (RZ.out (by omega))
        clear RZ RT
        go_wp2_with (go_at_call 37; refine (KC.out _ _ BW.out (RZ'.out _)).mono ?_; rintro e wq ⟨rfl, rfl⟩)
        go_meet
        case rel => exact ⟨rfl, rfl⟩
      · clear RZ
        go_wp2_with (go_at_call 37; refine (KC.out _ _ BW.out (RT.out _)).mono ?_; rintro e wq ⟨rfl, rfl⟩)
        go_meet
        case rel => exact ⟨rfl, rfl⟩
    case rest =>
      obtain ⟨rfl, rfl⟩ := hcut
      rename World => wq
      have c11 := (PB.out _ BWB.out).1.2
      have c10 := (PB.out _ BWB.out).1.1
      clear RT RZ htl
      go_wp2_with (at_make; refine wpList_make_own _ rfl _ _ 22 rfl wq.heap.size 3 i0 (.int .i64 0) 1 Try.underlying22 HI.out.1 HI.out.2.1 HI.out.2.2.1 _ _ _ Ld rfl rfl rfl ?b2 ?b3 ?b4 ?_)
      case b2 => rw [HI.out.2.2.2]; omega
      case b3 => unfold maxLen; omega
      case b4 => exact Nat.le_refl _
      intro w2 hown hgrow
      have B2 : Hid (Below wq.heap.size wq w2) := (Below.refl _ _).grown hgrow (Nat.le_refl _) (by intro k h; cases h)
      have HO2 : Hid (w2.ownsRow wq.heap.size 3 1 (.slice (some ⟨wq.heap.size, 0, none⟩) 0 Ld) 0 (([] : List Int).map (Value.int .i64))) := hown
      clear hown hgrow c10 c11
      have BB2 := hideP (BWB.out.trans (B2.out.mono BWB.out.size))
      have c10 := (PB.out _ BB2.out).1.1
      have cz := PZ.out _ (PB.out _ BB2.out).2.2
      go_wp2_with fail
      clear c10 cz
      go_loopw [4, 5] (fun dv i wr => ∃ q : Nat, q ≤ n ∧ i = .int .i64 ((q : Int) - 1) ∧ ∃ acc : List Int, Hid (acc ++ (Pl.rowsDown da s q).flatten = (Pl.rowsDown da s n).flatten) ∧ Hid (acc.length + q * s = n * s) ∧ Hid (wr.ownsRow wq.heap.size 3 1 dv acc.length (acc.map (Value.int .i64))) ∧ Hid (Below wq.heap.size wq wr)) (fun _ i _ => (intOf i + 1).toNat)
      case atStart => exact ⟨n, Nat.le_refl _, by go_num, [], by show _ = _; simp, by show _ = _; simp, HO2, B2⟩
      case round =>
        clear HO2 B2 BB2
        obtain ⟨q, hq, rfl, acc, hac, hal, ho, hbel⟩ := hrel
        have BR := hideP (BWB.out.trans (hbel.out.mono BWB.out.size))
        have X := hideP (PB.out _ BR.out)
        obtain ⟨xo, yo, eo⟩ := owns_form ho.out
        subst eo
        by_cases hq0 : q = 0
        · subst hq0
          have hT : acc = (Pl.rowsDown da s n).flatten := by have := hac.out; simpa [Pl.rowsDown] using this
          have hre := HR.out
          rw [← hT] at hre
          simp only [Prod.mk.injEq] at hre
          obtain ⟨rfl, rfl, rfl⟩ := hre
          have A6 : Hid (Below wr.heap.size wr (wr.alloc (.cells #[.slice (some ⟨b0, o0, none⟩) Ls c0] 22))) := (Below.refl _ _).alloc (Nat.le_refl _) _
          have KJ' := hideP (KJ.out wr.heap.size (wr.alloc (.cells #[.slice (some ⟨b0, o0, none⟩) Ls c0] 22)) (BR.out.trans (A6.out.mono BR.out.size)) (lit_cell wr _ 22).1 (lit_cell wr _ 22).2)
          have c10 := X.out.1.1
          clear hT
          go_wp2_with fail
          refine KJ'.out.mono ?_
          rintro e w6 ⟨xs, ys, rfl, ho6, hb6⟩
          have B6 := hideP (BR.out.trans ((A6.out.trans (hb6.mono (by simp))).mono BR.out.size))
          have O6 := hideP ho6
          have D6 := hideP (own_of_any (owns_keep ho.out (A6.out.trans (hb6.mono (by simp)))))
          have X6 := hideP (PB.out _ B6.out)
          have hs6 : wr.heap.size + 1 ≤ w6.heap.size := by have := hb6.size; simpa using this
          have hsr := hbel.out.size
          have AP := hideP (apart_lo2 (da := acc) ho6 (by
            rcases (own_of_any ho.out).lt with h | h
            · exact .inl h
            · exact .inr fun b e => by have := h b e; simp; omega))
          clear ho6 hb6 c10
          have r0 := X6.out.2.1.1
          have r1 := X6.out.2.1.2.1
          have f2 := X6.out.2.1.2.2
          go_wp2_with fail
          refine bodyPost_ret (v := .agg #[.slice xs Ls ys, .slice xo acc.length yo]) (by simp [results, Try.results114, go_sem, r0, r1]) rfl ⟨(X6.out.2.2.setCell (by simp) _).setCell (by simp) _, .inl ⟨rfl, _, _, rfl, ?_, ?_, AP.out⟩⟩
          · have := O6.out.base (show w.heap.size + 1 + 1 ≤ _ by simp; omega)
            exact Own.base (Own.store (Own.store this (by omega) _) (by omega) _) (by omega)
          · have := D6.out.base (show w.heap.size + 1 + 1 ≤ wq.heap.size by omega)
            exact Own.base (Own.store (Own.store this (by omega) _) (by omega) _) (by omega)
        · obtain ⟨q', rfl⟩ : ∃ q', q = q' + 1 := ⟨q - 1, by omega⟩
          have eq1 : (((q' + 1 : Nat)) : Int) - 1 = (q' : Int) := by omega
          rw [eq1]
          clear eq1
          have hac' : Hid ((acc ++ Pl.rowAt da s q') ++ (Pl.rowsDown da s q').flatten = (Pl.rowsDown da s n).flatten) := by
            have := hac.out
            rw [Pl.rowsDown_succ, List.flatten_cons, ← List.append_assoc] at this
            exact this
          have hrl := RL.out q' (by omega)
          have hal' : Hid ((acc ++ Pl.rowAt da s q').length + q' * s = n * s) := by
            have := hal.out
            rw [Nat.succ_mul] at this
            show _ = _
            rw [List.length_append, hrl]
            omega
          have UB : Hid (acc.length + (Pl.rowAt da s q').length ≤ 16777216) := by
            have := hal'.out
            rw [List.length_append] at this
            show _ ≤ _
            omega
          have KRQ := hideP (fun W hb => KR.out q' W (by omega) hb)
          have c11 := X.out.1.2
          clear hrl hac hal
          generalize Pl.rowAt da s q' = row at *
          go_wp2_with fail
          refine (KRQ.out _ X.out.2.2).mono ?_
          rintro e wr ⟨v, rfl, hrd, rfl⟩
          have RD := hideP hrd
          obtain ⟨zv, yv, ev⟩ := hrd.form
          subst ev
          clear hrd
          have hsz := hbel.out.size
          go_wp2_with (at_builtin; refine wpList_append_rd_at (base := wq.heap.size) _ rfl _ _ rfl _ _ rfl rfl _ _ _ ho.out RD.out UB.out hsz ?_)
          intro v' w5 ho5 hg5 _
          have D5 : Hid (Below wq.heap.size wq w5) := hbel.out.grown hg5 hsz (fun k hk => (ho.out.lt k hk).1)
          have O5 : Hid (w5.ownsRow wq.heap.size 3 1 v' (acc ++ row).length ((acc ++ row).map (Value.int .i64))) := by
            show World.ownsRow _ _ _ _ _ _ _
            rw [List.length_append]
            first | exact ho5 | (rw [List.map_append]; exact ho5)
          clear ho5 hg5 c11
          go_wp2_with fail
          go_roundw
          case rel => exact ⟨q', by omega, by go_num, acc ++ row, hac', hal', O5, D5⟩
          case measure => simp [intOf]

end Go.Proofs.Ytmobjomebmipdaa
