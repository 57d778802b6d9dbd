import Derived.Test.YtjhflbhbegocdaaSpI
namespace Go.Proofs.Ytjhflbhbegocdaa
open Go.RowKit
set_option linter.unusedVariables false


set_option maxRecDepth 100000 in
set_option maxHeartbeats 16000000 in
/-- spec.Inner -/
theorem specI_face (f g : Int) (b0 b1 b2 b3 : Nat) (sa da sb db : List Int) (w : World) (hl0 : sa.length ≤ 1048576) (hl1 : da.length ≤ 1048576) (hl2 : sb.length ≤ 1048576) (hl3 : db.length ≤ 1048576)
    (h0 : Rd w.heap.size w (.slice (some ⟨b0, 0, none⟩) sa.length sa.length) sa) (h1 : Rd w.heap.size w (.slice (some ⟨b1, 0, none⟩) da.length da.length) da) (h2 : Rd w.heap.size w (.slice (some ⟨b2, 0, none⟩) sb.length sb.length) sb) (h3 : Rd w.heap.size w (.slice (some ⟨b3, 0, none⟩) db.length db.length) db) (c : Int) (S D : List Int) (hres : Pl.innD f g sa da sb db = (c, S, D)) :
    Calls Try.prog 6 #[.int .i64 f, .int .i64 g, .agg #[.slice (some ⟨b0, 0, none⟩) sa.length sa.length, .slice (some ⟨b1, 0, none⟩) da.length da.length], .agg #[.slice (some ⟨b2, 0, none⟩) sb.length sb.length, .slice (some ⟨b3, 0, none⟩) db.length db.length]] w (FPost w c S D) := by
  have B : Hid (∀ o o' o'', Below w.heap.size w (((w.alloc o).alloc o').alloc o'')) := fun o o' o'' => below3 w o o' o''
  have H0 := hideP h0
  have H1 := hideP h1
  have H2 := hideP h2
  have H3 := hideP h3
  have KA : Hid (∀ w', Below w.heap.size w w' → Calls Try.prog 17 #[.agg #[.slice (some ⟨b0, 0, none⟩) sa.length sa.length, .slice (some ⟨b1, 0, none⟩) da.length da.length]] w' fun e w'' => e = .returned (.bool (Pl.okB sa da)) ∧ Below w'.heap.size w' w'') := fun w' h => specOk_any _ _ sa da w' hl0 hl1 ((H0.out.keep h).up h.size) ((H1.out.keep h).up h.size)
  have KB : Hid (∀ w', Below w.heap.size w w' → Calls Try.prog 17 #[.agg #[.slice (some ⟨b2, 0, none⟩) sb.length sb.length, .slice (some ⟨b3, 0, none⟩) db.length db.length]] w' fun e w'' => e = .returned (.bool (Pl.okB sb db)) ∧ Below w'.heap.size w' w'') := fun w' h => specOk_any _ _ sb db w' hl2 hl3 ((H2.out.keep h).up h.size) ((H3.out.keep h).up h.size)
  have W0 := hideP (wid_new w h0 h1 h2 h3)
  have HR := hideP hres
  clear h0 h1 h2 h3 hres
  by_cases hf : 1 ≤ f ∧ f < 11
  · have KOf : Hid (∀ w, Calls Try.prog 16 #[.int .i64 f] w fun e w' => e = .returned (.bool true) ∧ w' = w) := fun w => by have := opOk_any f w; rw [decide_eq_true hf] at this; exact this
    by_cases hg : 1 ≤ g ∧ g < 11
    · have KOg : Hid (∀ w, Calls Try.prog 16 #[.int .i64 g] w fun e w' => e = .returned (.bool true) ∧ w' = w) := fun w => by have := opOk_any g w; rw [decide_eq_true hg] at this; exact this
      by_cases oka : Pl.okB sa da = true
      · rw [oka] at KA
        by_cases okb : Pl.okB sb db = true
        · rw [okb] at KB
          have m0 := Pl.ok_max oka
          have m2 := Pl.ok_max okb
          have e := HR.out
          rw [Pl.innD_yes ⟨hf, hg, oka, okb⟩] at e
          obtain ⟨kf, rfl⟩ := Int.eq_ofNat_of_zero_le (show 0 ≤ f by omega)
          obtain ⟨kg, rfl⟩ := Int.eq_ofNat_of_zero_le (show 0 ≤ g by omega)
          rw [Int.toNat_natCast] at e
          unfold Pl.innM at e
          by_cases hsa : sa.length = 0
          · rw [if_pos (.inl hsa)] at e
            simp only [Prod.mk.injEq] at e
            obtain ⟨rfl, rfl, rfl⟩ := e
            have test0 : ((sa.length : Int) == 0) = true := by rw [hsa]; rfl
            have T0 := hideP test0
            clear hf hg oka okb HR H0 H1 H2 H3 hsa test0
            generalize sa.length = la at *
            go_enter Try.func6, Try.ntmps6
            go_wp2_with (first | (go_at_call 16; refine (KOf.out _).mono ?_; rintro e w' ⟨rfl, rfl⟩) | (go_at_call 16; refine (KOg.out _).mono ?_; rintro e w' ⟨rfl, rfl⟩))
            refine (KA.out _ (B.out _ _ _)).mono ?_
            rintro e w1 ⟨rfl, hb1⟩
            have W1 := hideP ((W0.out _ _ _).keep hb1)
            clear hb1
            have c2 := W1.out.2.2.1.2.2.1
            have c3 := W1.out.2.2.1.2.2.2
            go_wp2_with fail
            clear c2 c3
            refine (KB.out _ W1.out.1).mono ?_
            rintro e w2 ⟨rfl, hb2⟩
            have W2 := hideP (W1.out.keep hb2)
            clear hb2
            have c0 := W2.out.2.2.1.1
            have test0 := T0.out
            have hs := W2.out.2.1
            have r0 := W2.out.2.2.2.1.1
            have r1 := W2.out.2.2.2.1.2.1
            have f2 := W2.out.2.2.2.1.2.2
            go_wp2_with fail
            refine bodyPost_ret (v := .tuple #[.agg #[.slice none 0 0, .slice none 0 0], .int .i64 2]) (by simp [results, Try.results6, go_sem, r0, r1]) rfl ⟨(W2.out.1.setCell (by simp; omega) _).setCell (by simp; omega) _, _, _, rfl, Own.nil _ _, Own.nil _ _, .inl rfl⟩
          · by_cases hsb : sb.length = 0
            · rw [if_pos (.inr hsb)] at e
              simp only [Prod.mk.injEq] at e
              obtain ⟨rfl, rfl, rfl⟩ := e
              have test0 : ((sa.length : Int) == 0) = false := by rw [beq_eq_false_iff_ne]; omega
              have test2 : ((sb.length : Int) == 0) = true := by rw [hsb]; rfl
              clear hf hg oka okb HR H0 H1 H2 H3 hsa hsb
              generalize sa.length = la at *
              generalize sb.length = lb at *
              go_enter Try.func6, Try.ntmps6
              go_wp2_with (first | (go_at_call 16; refine (KOf.out _).mono ?_; rintro e w' ⟨rfl, rfl⟩) | (go_at_call 16; refine (KOg.out _).mono ?_; rintro e w' ⟨rfl, rfl⟩))
              refine (KA.out _ (B.out _ _ _)).mono ?_
              rintro e w1 ⟨rfl, hb1⟩
              have W1 := hideP ((W0.out _ _ _).keep hb1)
              clear hb1
              have c2 := W1.out.2.2.1.2.2.1
              have c3 := W1.out.2.2.1.2.2.2
              go_wp2_with fail
              clear c2 c3
              refine (KB.out _ W1.out.1).mono ?_
              rintro e w2 ⟨rfl, hb2⟩
              have W2 := hideP (W1.out.keep hb2)
              clear hb2
              have c0 := W2.out.2.2.1.1
              have c2 := W2.out.2.2.1.2.2.1
              have hs := W2.out.2.1
              have r0 := W2.out.2.2.2.1.1
              have r1 := W2.out.2.2.2.1.2.1
              have f2 := W2.out.2.2.2.1.2.2
              go_wp2_with fail
              refine bodyPost_ret (v := .tuple #[.agg #[.slice none 0 0, .slice none 0 0], .int .i64 2]) (by simp [results, Try.results6, go_sem, r0, r1]) rfl ⟨(W2.out.1.setCell (by simp; omega) _).setCell (by simp; omega) _, _, _, rfl, Own.nil _ _, Own.nil _ _, .inl rfl⟩
            · rw [if_neg (by rintro (h | h); exact hsa h; exact hsb h)] at e
              by_cases hne : sa.getD (sa.length - 1) 0 = sb.getD 0 0
              · rw [if_neg (fun h => h hne)] at e
                obtain ⟨n, hn⟩ : ∃ n : Nat, sb.getD 0 0 = n := by
                  have := (Pl.ok_len okb).2
                  simp only [Pl.fitsB, Pl.baseB, Bool.and_eq_true] at this
                  have := Pl.inR_bd (Pl.all_getD this.1.2 (k := 0) (by omega))
                  exact ⟨(sb.getD 0 0).toNat, by omega⟩
                rw [hn] at hne e
                obtain ⟨H, T, hH, hT, hH', hT', hn', hla, hlb, hN⟩ := Pl.inn_len oka okb (by omega) (by omega) hne hn
                have sa' : sa.take (sa.length - 1) ++ [(n : Int)] = sa := by
                  rw [← hne, ← Pl.take_snoc sa (sa.length - 1) (by omega), show sa.length - 1 + 1 = sa.length by omega, List.take_length]
                have sb' : (n : Int) :: sb.tail = sb := by
                  rw [← hn]
                  exact Pl.cons_tail sb hsb
                have la' : sa.length = (sa.take (sa.length - 1)).length + 1 := by rw [List.length_take]; omega
                have lb' : sb.length = sb.tail.length + 1 := by rw [List.length_tail]; omega
                rw [la', lb']
                refine specI_core kf kg (by omega) (by omega) (by omega) (by omega) b0 b1 b2 b3 _ da _ db n w ?_ H1.out ?_ H3.out (by rw [sa']; exact oka) (by rw [sb']; exact okb) H T hH hT hH' hT' hn' hla hlb _ rfl c S D ?_
                · rw [← la', sa']; exact H0.out
                · rw [← lb', sb']; exact H2.out
                · rw [Int.toNat_natCast, hT, Int.toNat_natCast] at e
                  by_cases hfi : Pl.fitsB (sa.take (sa.length - 1) ++ sb.tail) = true
                  · rw [if_pos hfi] at e ⊢
                    rw [hN hfi, Int.toNat_natCast] at e
                    exact e
                  · rw [if_neg hfi] at e ⊢
                    exact e
              · rw [if_pos hne] at e
                simp only [Prod.mk.injEq] at e
                obtain ⟨rfl, rfl, rfl⟩ := e
                have test0 : ((sa.length : Int) == 0) = false := by rw [beq_eq_false_iff_ne]; omega
                have test2 : ((sb.length : Int) == 0) = false := by rw [beq_eq_false_iff_ne]; omega
                have ga := rd_cell H0.out (i := sa.length - 1) (by omega)
                have gb := rd_cell H2.out (i := 0) (by omega)
                rw [Nat.zero_add] at ga
                have GA := hideP ga
                have GB := hideP gb
                have hcmp : (sa.getD (sa.length - 1) 0 != sb.getD 0 0) = true := by rw [bne_iff_ne]; exact hne
                have hm0 := m0.1
                have hm2 := m2.1
                have h1a : 1 ≤ sa.length := by omega
                have h1b : 1 ≤ sb.length := by omega
                clear hf hg oka okb HR H0 H1 H2 H3 hne m0 m2 ga gb hsa hsb
                generalize sa.getD (sa.length - 1) 0 = x at *
                generalize sb.getD 0 0 = y at *
                generalize sa.length = la' at *
                obtain ⟨la, rfl⟩ : ∃ la, la' = la + 1 := ⟨la' - 1, by omega⟩
                rw [Nat.add_sub_cancel] at GA
                generalize sb.length = lb at *
                go_enter Try.func6, Try.ntmps6
                go_wp2_with (first | (go_at_call 16; refine (KOf.out _).mono ?_; rintro e w' ⟨rfl, rfl⟩) | (go_at_call 16; refine (KOg.out _).mono ?_; rintro e w' ⟨rfl, rfl⟩))
                refine (KA.out _ (B.out _ _ _)).mono ?_
                rintro e w1 ⟨rfl, hb1⟩
                have W1 := hideP ((W0.out _ _ _).keep hb1)
                clear hb1
                have c2 := W1.out.2.2.1.2.2.1
                have c3 := W1.out.2.2.1.2.2.2
                go_wp2_with fail
                clear c2 c3
                refine (KB.out _ W1.out.1).mono ?_
                rintro e w2 ⟨rfl, hb2⟩
                have W2 := hideP (W1.out.keep hb2)
                clear hb2
                have c0 := W2.out.2.2.1.1
                have c2 := W2.out.2.2.1.2.2.1
                have ca : w2.cell? ⟨b0, la, none⟩ = some (.int .i64 x) := (W2.out.1.cell (p := ⟨b0, la, none⟩) GA.out.1).trans GA.out.2
                have cb : w2.cell? ⟨b2, 0, none⟩ = some (.int .i64 y) := (W2.out.1.cell (p := ⟨b2, 0, none⟩) GB.out.1).trans GB.out.2
                have hs := W2.out.2.1
                have r0 := W2.out.2.2.2.1.1
                have r1 := W2.out.2.2.2.1.2.1
                have f2 := W2.out.2.2.2.1.2.2
                go_wp2_with fail
                refine bodyPost_ret (v := .tuple #[.agg #[.slice none 0 0, .slice none 0 0], .int .i64 3]) (by simp [results, Try.results6, go_sem, r0, r1]) rfl ⟨(W2.out.1.setCell (by simp; omega) _).setCell (by simp; omega) _, _, _, rfl, Own.nil _ _, Own.nil _ _, .inl rfl⟩
        · have okb' : Pl.okB sb db = false := by simpa using okb
          rw [okb'] at KB
          have e := HR.out
          rw [Pl.innD_no (by intro h; exact okb h.2.2.2)] at e
          simp only [Prod.mk.injEq] at e
          obtain ⟨rfl, rfl, rfl⟩ := e
          clear hf hg oka okb okb' HR
          go_enter Try.func6, Try.ntmps6
          go_wp2_with (first | (go_at_call 16; refine (KOf.out _).mono ?_; rintro e w' ⟨rfl, rfl⟩) | (go_at_call 16; refine (KOg.out _).mono ?_; rintro e w' ⟨rfl, rfl⟩))
          refine (KA.out _ (B.out _ _ _)).mono ?_
          rintro e w1 ⟨rfl, hb1⟩
          have W1 := hideP ((W0.out _ _ _).keep hb1)
          clear hb1
          have c2 := W1.out.2.2.1.2.2.1
          have c3 := W1.out.2.2.1.2.2.2
          go_wp2_with fail
          clear c2 c3
          refine (KB.out _ W1.out.1).mono ?_
          rintro e w2 ⟨rfl, hb2⟩
          have W2 := hideP (W1.out.keep hb2)
          clear hb2
          have hs := W2.out.2.1
          have r0 := W2.out.2.2.2.1.1
          have r1 := W2.out.2.2.2.1.2.1
          have f2 := W2.out.2.2.2.1.2.2
          go_wp2_with fail
          refine bodyPost_ret (v := .tuple #[.agg #[.slice none 0 0, .slice none 0 0], .int .i64 9]) (by simp [results, Try.results6, go_sem, r0, r1]) rfl ⟨(W2.out.1.setCell (by simp; omega) _).setCell (by simp; omega) _, _, _, rfl, Own.nil _ _, Own.nil _ _, .inl rfl⟩
      · have oka' : Pl.okB sa da = false := by simpa using oka
        rw [oka'] at KA
        have e := HR.out
        rw [Pl.innD_no (by intro h; exact oka h.2.2.1)] at e
        simp only [Prod.mk.injEq] at e
        obtain ⟨rfl, rfl, rfl⟩ := e
        clear hf hg oka oka' HR
        go_enter Try.func6, Try.ntmps6
        go_wp2_with (first | (go_at_call 16; refine (KOf.out _).mono ?_; rintro e w' ⟨rfl, rfl⟩) | (go_at_call 16; refine (KOg.out _).mono ?_; rintro e w' ⟨rfl, rfl⟩))
        refine (KA.out _ (B.out _ _ _)).mono ?_
        rintro e w1 ⟨rfl, hb1⟩
        have W1 := hideP ((W0.out _ _ _).keep hb1)
        clear hb1
        have hs := W1.out.2.1
        have r0 := W1.out.2.2.2.1.1
        have r1 := W1.out.2.2.2.1.2.1
        have f2 := W1.out.2.2.2.1.2.2
        go_wp2_with fail
        refine bodyPost_ret (v := .tuple #[.agg #[.slice none 0 0, .slice none 0 0], .int .i64 9]) (by simp [results, Try.results6, go_sem, r0, r1]) rfl ⟨(W1.out.1.setCell (by simp; omega) _).setCell (by simp; omega) _, _, _, rfl, Own.nil _ _, Own.nil _ _, .inl rfl⟩
    · have KOg : Hid (∀ w, Calls Try.prog 16 #[.int .i64 g] w fun e w' => e = .returned (.bool false) ∧ w' = w) := fun w => by have := opOk_any g w; rw [decide_eq_false hg] at this; exact this
      have e := HR.out
      rw [Pl.innD_no (by intro h; exact hg h.2.1)] at e
      simp only [Prod.mk.injEq] at e
      obtain ⟨rfl, rfl, rfl⟩ := e
      clear hf hg HR
      go_enter Try.func6, Try.ntmps6
      go_wp2_with (first | (go_at_call 16; refine (KOf.out _).mono ?_; rintro e w' ⟨rfl, rfl⟩) | (go_at_call 16; refine (KOg.out _).mono ?_; rintro e w' ⟨rfl, rfl⟩))
      refine bodyPost_ret (v := .tuple #[.agg #[.slice none 0 0, .slice none 0 0], .int .i64 9]) (by simp [results, Try.results6, go_sem]) rfl ⟨B.out _ _ _, _, _, rfl, Own.nil _ _, Own.nil _ _, .inl rfl⟩
  · have KOf : Hid (∀ w, Calls Try.prog 16 #[.int .i64 f] w fun e w' => e = .returned (.bool false) ∧ w' = w) := fun w => by have := opOk_any f w; rw [decide_eq_false hf] at this; exact this
    have e := HR.out
    rw [Pl.innD_no (by intro h; exact hf h.1)] at e
    simp only [Prod.mk.injEq] at e
    obtain ⟨rfl, rfl, rfl⟩ := e
    clear hf HR
    go_enter Try.func6, Try.ntmps6
    go_wp2_with (first | (go_at_call 16; refine (KOf.out _).mono ?_; rintro e w' ⟨rfl, rfl⟩))
    refine bodyPost_ret (v := .tuple #[.agg #[.slice none 0 0, .slice none 0 0], .int .i64 9]) (by simp [results, Try.results6, go_sem]) rfl ⟨B.out _ _ _, _, _, rfl, Own.nil _ _, Own.nil _ _, .inl rfl⟩

end Go.Proofs.Ytjhflbhbegocdaa
