import Derived.Test.YtmobjomebmipdaaDy5
import Derived.Test.YtmobjomebmipdaaLies
import Derived.Test.YtmobjomebmipdaaFirst2
import Derived.Test.YtmobjomebmipdaaFold
import Derived.Deep.DeepCutAuto
namespace Go.Proofs.Ytmobjomebmipdaa
open Go.RowKit
set_option linter.unusedVariables false

theorem Rg.start0 (wv : World) : Rg wv none none none wv := ⟨Below.refl _ _, (by intro _ _ h; cases h), (by intro _ h; cases h), (by intro _ h; cases h), (by intro _ _ _ h; cases h)⟩

/-- the made array in its variable -/
theorem Rg.doneA {wv w : World} {v : Value} {sh : List Int} {k : Nat} {cc : Int} {u0 u1 : Value} (h : Rg wv (some (v, sh)) (some k) none w)
    (hm : (Pl.fitsB sh = true ∧ cc = 0 ∧ u0 = v ∧ u1 = .slice (some ⟨k, 0, none⟩) 0 0) ∨ (Pl.fitsB sh = false ∧ cc = 6 ∧ u0 = .slice none 0 0 ∧ u1 = .slice none 0 0)) :
    Mk wv sh w.heap.size cc u0 u1 (w.alloc (.cells #[u0, u1] 27)) := by
  have hs := h.bel.size
  refine ⟨h.bel.alloc hs _, ?_⟩
  rcases hm with ⟨hf, hc, rfl, rfl⟩ | ⟨hf, hc, rfl, rfl⟩
  · refine .inl ⟨hf, hc, h.bel.alloc hs _, hs, heap_alloc_new _ _, (h.c _ _ rfl).alloc _, (h.g _ rfl).alloc _, ?_⟩
    intro b e e2
    have := h.cg _ _ _ rfl rfl
    simp [Value.ownBlock] at e2
    rw [e, e2] at this
    exact this rfl
  · exact .inr ⟨hf, hc, hs, heap_alloc_new _ _⟩

set_option maxRecDepth 100000 in
set_option maxHeartbeats 8000000 in
/-- spec.l2Reshape of valid arrays -/
theorem l2Reshape_any (b0 b1 b2 b3 : Nat) (sa da sb db : List Int) (w : World)
    (h0 : Rd w.heap.size w (.slice (some ⟨b0, 0, none⟩) sa.length sa.length) sa) (h1 : Rd w.heap.size w (.slice (some ⟨b1, 0, none⟩) da.length da.length) da) (h2 : Rd w.heap.size w (.slice (some ⟨b2, 0, none⟩) sb.length sb.length) sb) (h3 : Rd w.heap.size w (.slice (some ⟨b3, 0, none⟩) db.length db.length) db)
    (oka : Pl.okB sa da = true) (okb : Pl.okB sb db = true) (c : Int) (S D : List Int) (hres : Pl.reshM sa da sb db = (c, S, D)) :
    Calls Try.prog 62 #[.agg #[.slice (some ⟨b0, 0, none⟩) sa.length sa.length, .slice (some ⟨b1, 0, none⟩) da.length da.length], .agg #[.slice (some ⟨b2, 0, none⟩) sb.length sb.length, .slice (some ⟨b3, 0, none⟩) db.length db.length]] w (FPost w c S D) := by
  obtain ⟨hm0, hm1⟩ := Pl.ok_max oka
  obtain ⟨hm2, hm3⟩ := Pl.ok_max okb
  have W0 := hideP (wid_new w h0 h1 h2 h3 27 27 27)
  have B : Hid (∀ o o' o'', Below w.heap.size w (((w.alloc o).alloc o').alloc o'')) := fun o o' o'' => below3 w o o' o''
  have H1 := hideP h1
  have H3 := hideP h3
  have HR := hideP hres
  clear h0 h1 h2 h3 oka okb hres
  have e := HR.out
  unfold Pl.reshM at e
  by_cases hsa : 1 < sa.length
  · rw [if_pos hsa] at e
    simp only [Prod.mk.injEq] at e
    obtain ⟨rfl, rfl, rfl⟩ := e
    have t1 : decide ((1 : Int) < (sa.length : Int)) = true := by rw [decide_eq_true_eq]; omega
    have t1' : (1 : Int) < (sa.length : Int) := by omega
    clear HR H1 H3 hsa
    generalize sa.length = lsa at *
    go_enter Try.func62, Try.ntmps62
    go_wp2_with fail
    refine bodyPost_ret (v := .tuple #[.agg #[.slice none 0 0, .slice none 0 0], .int .i64 2]) (by simp [results, Try.results62, go_sem]) rfl ⟨B.out _ _ _, _, _, rfl, Own.nil _ _, Own.nil _ _, .inl rfl⟩
  · rw [if_neg hsa] at e
    have t1 : decide ((1 : Int) < (sa.length : Int)) = false := by rw [decide_eq_false_iff_not]; omega
    by_cases hda : 3 < da.length
    · rw [if_pos hda] at e
      simp only [Prod.mk.injEq] at e
      obtain ⟨rfl, rfl, rfl⟩ := e
      have t2 : (3 : Int) < (da.length : Int) := by omega
      clear HR H1 H3 hsa hda
      generalize sa.length = lsa at *
      generalize da.length = lda at *
      go_enter Try.func62, Try.ntmps62
      go_wp2_with fail
      refine bodyPost_ret (v := .tuple #[.agg #[.slice none 0 0, .slice none 0 0], .int .i64 6]) (by simp [results, Try.results62, go_sem]) rfl ⟨B.out _ _ _, _, _, rfl, Own.nil _ _, Own.nil _ _, .inl rfl⟩
    · rw [if_neg hda] at e
      have t2 : decide ((3 : Int) < (da.length : Int)) = false := by rw [decide_eq_false_iff_not]; omega
      have hl3 : da.length ≤ 3 := by omega
      have HE := hideP e
      clear e HR hsa hda
      generalize hlsa : sa.length = lsa at *
      clear hlsa
      generalize hlda : da.length = lda at *
      have Hlda : Hid (da.length = lda) := hlda
      generalize hm : db.length = m at *
      have Hm : Hid (db.length = m) := hm
      clear hlda hm
      go_enter Try.func62, Try.ntmps62
      go_wp2_with fail
      generalize hw1 : (((w.alloc (.cells #[.slice (some ⟨b0, 0, none⟩) lsa lsa, .slice (some ⟨b1, 0, none⟩) lda lda] 27)).alloc (.cells #[.slice (some ⟨b2, 0, none⟩) sb.length sb.length, .slice (some ⟨b3, 0, none⟩) m m] 27)).alloc (.cells #[.slice none 0 0, .slice none 0 0] 27)) = w1 at *
      have W1 : Hid (Wid w sa da sb db (.slice (some ⟨b0, 0, none⟩) lsa lsa) (.slice (some ⟨b1, 0, none⟩) lda lda) (.slice (some ⟨b2, 0, none⟩) sb.length sb.length) (.slice (some ⟨b3, 0, none⟩) m m) w1) := W0
      clear W0 hw1
      have H1' : Hid (∀ W, Below w1.heap.size w1 W → Rd W.heap.size W (.slice (some ⟨b1, 0, none⟩) lda lda) da) := fun W hb => by
        have k := (W1.out.keep hb).1
        exact (H1.out.keep k).up k.size
      go_loopw [6] (fun s6 wr => ∃ k : Nat, k ≤ lda ∧ s6 = .int .i64 k ∧ wr = w1 ∧ Hid ((da.take k).all Pl.nonneg = true)) (fun s6 _ => lda - (intOf s6).toNat)
      case atStart => exact ⟨0, Nat.zero_le _, rfl, rfl, (show (da.take 0).all Pl.nonneg = true from rfl)⟩
      case round =>
        obtain ⟨k, hk, rfl, rfl, hz⟩ := hrel
        rename World => w1
        have ca1 := W1.out.2.2.1.2.1
        by_cases hlt : k < lda
        · have hlt' : (k : Int) < (lda : Int) := by omega
          have hld : k < da.length := by rw [Hlda.out]; exact hlt
          have hck : w1.cell? ⟨b1, k, none⟩ = some (.int .i64 (da.getD k 0)) := by
            have := rd_cell (zs := da) (by rw [Hlda.out]; exact H1.out) (i := k) hld
            rw [Nat.zero_add] at this
            exact (W1.out.1.cell (p := ⟨b1, k, none⟩) this.1).trans this.2
          have AS := hideP (Pl.all_snoc da Pl.nonneg k hld)
          have AF : Hid (Pl.nonneg (da.getD k 0) = false → da.all Pl.nonneg = false) := fun h => Pl.all_false hld h
          generalize da.getD k 0 = x at *
          by_cases hx : x < 0
          · have e := HE.out
            rw [if_pos (AF.out (by unfold Pl.nonneg; rw [decide_eq_false_iff_not]; omega))] at e
            simp only [Prod.mk.injEq] at e
            obtain ⟨rfl, rfl, rfl⟩ := e
            clear AS AF HE hz
            have hsq := W1.out.2.1
            have r0 := W1.out.2.2.2.1.1
            have r1 := W1.out.2.2.2.1.2.1
            have f2 := W1.out.2.2.2.1.2.2
            go_wp2_with fail
            refine bodyPost_ret (v := .tuple #[.agg #[.slice none 0 0, .slice none 0 0], .int .i64 1]) (by simp [results, Try.results62, go_sem, r0, r1]) rfl ⟨(W1.out.1.setCell (by simp; omega) _).setCell (by simp; omega) _, _, _, rfl, Own.nil _ _, Own.nil _ _, .inl rfl⟩
          · have AL : Hid ((da.take (k + 1)).all Pl.nonneg = true) := by
              show _ = _
              rw [AS.out, hz.out]
              unfold Pl.nonneg
              rw [Bool.true_and, decide_eq_true_eq]
              omega
            have hx' : decide (x < 0) = false := by rw [decide_eq_false_iff_not]; exact hx
            clear AS AF
            go_wp2_with fail
            go_roundw
            case rel => exact ⟨k + 1, by omega, by go_num, by first | rfl | trivial, AL⟩
            case measure => simp [intOf]; omega
        · have kn : k = lda := by omega
          have hall : da.all Pl.nonneg = true := by
            have := hz.out
            rw [kn, ← Hlda.out, List.take_length] at this
            exact this
          have e := HE.out
          rw [if_neg (by rw [hall]; decide)] at e
          have HE2 := hideP e
          clear hz hall HE e
          have R1 := hideP (H1'.out w1 (Below.refl _ _))
          go_wp2_with fail
          refine (l2Copy_any _ da _ (by rw [Hlda.out]; omega) R1.out).mono ?_
          rintro e w3 ⟨v2, rfl, ho2, hb2⟩
          have G1 := hideP ((Rg.start0 w1).copy ho2 hb2)
          obtain ⟨xc, yc, ec⟩ := owns_form ho2
          subst ec
          clear ho2 hb2 ca1
          have G2 := hideP G1.out.lit
          have RC := hideP (own_of_any (G2.out.c _ _ rfl)).rd
          rw [Hlda.out]
          rw [Hlda.out] at G1 G2 RC
          go_wp2_with fail
          have LM := l2Made_two (w3.alloc (.cells #[] 3)).heap.size xc (some ⟨w3.heap.size, 0, none⟩) 0 yc 0 da (w3.alloc (.cells #[] 3)) (by rw [Hlda.out]; omega) (by rw [Hlda.out]; exact RC.out) (Nat.le_refl _)
          rw [Hlda.out] at LM
          refine LM.mono ?_
          rintro e w4 ⟨q0, n0, z0, q1, n1, z1, cc, rfl, hb4, hor⟩
          have G4 := hideP (G2.out.keep hb4)
          have MK := hideP (G4.out.doneA hor)
          clear hb4 hor G1 G2 G4 RC LM
          go_upto_region 11 with fail
          generalize hwx : w4.alloc (.cells #[.slice q0 n0 z0, .slice q1 n1 z1] 27) = wx at *
          generalize w4.heap.size = P at *
          have hm := MK.out.2
          rcases hm with ⟨hf, rfl, hL⟩ | ⟨hf, rfl, hle', hP⟩
          · have HL := hideP hL
            have e := HE2.out
            rw [if_neg (by rw [hf]; decide)] at e
            have hrr : da.all Pl.inR = true := by simp only [Pl.fitsB, Pl.baseB, Bool.and_eq_true] at hf; exact hf.1.2
            have hp : 0 ≤ Pl.prodC da ∧ Pl.prodC da ≤ 1001 := Pl.prodC_bd da hrr
            have KN := hideP (l1Product_any _ (.slice q0 n0 z0) da wx (by rw [Hlda.out]; omega) hrr (own_of_any hL.c).rd)
            obtain ⟨N, hN⟩ : ∃ N : Nat, Pl.prodC da = N := ⟨(Pl.prodC da).toNat, by omega⟩
            rw [hN] at KN hp e
            rw [Int.toNat_natCast] at e
            have HE := hideP e
            have WX := hideP (W1.out.keep HL.out.bel)
            have p0 : wx.cell? ⟨P, 0, none⟩ = some (.slice q0 n0 z0) := cell_blk HL.out.blk
            have hPx : P < wx.heap.size := (Array.getElem?_eq_some_iff.1 HL.out.blk).1
            have cb1 := WX.out.2.2.1.2.2.2
            clear e HE2 hf MK hL hN hwx hrr
            go_upto_region 14 with (go_at_call 34; refine KN.out.mono ?_; rintro e wx ⟨rfl, rfl⟩)
            clear p0
            by_cases hbad : 0 < N ∧ m = 0
            · have e := HE.out
              rw [if_pos ⟨by omega, hbad.2⟩] at e
              simp only [Prod.mk.injEq] at e
              obtain ⟨rfl, rfl, rfl⟩ := e
              have q1 : 0 < N := hbad.1
              have q2 : ((m : Int) == 0) = true := by rw [hbad.2]; rfl
              clear HE hbad
              have hsq := WX.out.2.1
              have r0 := WX.out.2.2.2.1.1
              have r1 := WX.out.2.2.2.1.2.1
              have f2 := WX.out.2.2.2.1.2.2
              go_wp2_with fail
              refine bodyPost_ret (v := .tuple #[.agg #[.slice none 0 0, .slice none 0 0], .int .i64 3]) (by simp [results, Try.results62, go_sem, r0, r1]) rfl ⟨(WX.out.1.setCell (by simp; omega) _).setCell (by simp; omega) _, _, _, rfl, Own.nil _ _, Own.nil _ _, .inl rfl⟩
            · have e := HE.out
              rw [if_neg (by rintro ⟨h, h'⟩; exact hbad ⟨by omega, h'⟩)] at e
              simp only [Prod.mk.injEq] at e
              obtain ⟨rfl, rfl, hD⟩ := e
              have RM : Hid ((List.range N).map (fun j => db.getD (j % m) 0) = D) := hD
              clear HE hD
              go_cut [57] (fun s57 wy => s57 = .bool false ∧ wy = wx)
              case first =>
                by_cases hN0 : N = 0
                · have q1 : decide (0 < N) = false := by rw [decide_eq_false_iff_not]; omega
                  clear hN0
                  go_wp2_with fail
                  go_meet
                  case rel => first | exact ⟨rfl, rfl⟩ | simp
                · have q1 : 0 < N := by omega
                  have q2 : ((m : Int) == 0) = false := by rw [beq_eq_false_iff_ne]; omega
                  clear hN0
                  go_wp2_with fail
                  go_meet
                  case rel => first | exact ⟨rfl, rfl⟩ | simp
              case rest =>
                obtain ⟨rfl, rfl⟩ := hcut
                rename World => wx
                clear cb1 KN WX
                go_wp2_with fail
                go_loopw [10] (fun s10 wr => ∃ k : Nat, k ≤ N ∧ s10 = .int .i64 k ∧ ∃ nv, Hid (Lp w1 da P (.slice q0 n0 z0) nv ((List.range k).map (fun j => db.getD (j % m) 0)) wr)) (fun s10 _ => N - (intOf s10).toNat)
                case atStart => exact ⟨0, Nat.zero_le _, rfl, .slice q1 n1 z1, HL⟩
                case round =>
                  clear HL
                  obtain ⟨k, hk, rfl, nv, hL⟩ := hrel
                  have WR := hideP (W1.out.keep hL.out.bel)
                  by_cases hlt : k < N
                  · have hlt' : (k : Int) < (N : Int) := by omega
                    have hmp : 0 < m := by omega
                    have hq : k % m < m := Nat.mod_lt _ hmp
                    have rc := rd_cell (zs := db) (by rw [Hm.out]; exact H3.out) (i := k % m) (by rw [Hm.out]; exact hq)
                    rw [Nat.zero_add] at rc
                    have CY := hideP rc
                    have VZ : Hid ((List.range (k + 1)).map (fun j => db.getD (j % m) 0) = (List.range k).map (fun j => db.getD (j % m) 0) ++ [db.getD (k % m) 0]) := by
                      show _ = _
                      rw [List.range_succ, List.map_append]
                      rfl
                    have UZ : Hid (((List.range k).map (fun j => db.getD (j % m) 0)).length + 1 ≤ 16777216) := by show _ ≤ _; rw [List.length_map, List.length_range]; omega
                    have d2 : (k : Int) % (m : Int) = ((k % m : Nat) : Int) := by simp
                    have d4 : Int.tmod (k : Int) (m : Int) = ((k % m : Nat) : Int) := rfl
                    have d3 : ¬ (m : Int) = 0 := by omega
                    clear rc
                    generalize (List.range k).map (fun j => db.getD (j % m) 0) = zs at *
                    generalize db.getD (k % m) 0 = x at *
                    generalize k % m = q at *
                    obtain ⟨xo, yo, eo⟩ := owns_form hL.out.d
                    subst eo
                    have LR : Hid (∀ w', Below w1.heap.size w1 w' → w'.cell? ⟨w.heap.size + 1, 1, none⟩ = some (.slice (some ⟨b3, 0, none⟩) m m) ∧ w'.cell? ⟨b3, q, none⟩ = some (.int .i64 x)) := fun w' h => by
                      have z := W1.out.keep h
                      exact ⟨z.2.2.1.2.2.2, (z.1.cell (p := ⟨b3, q, none⟩) CY.out.1).trans CY.out.2⟩
                    have LQ := hideP (hL.out.quiet ((Below.refl wr.heap.size wr).drew))
                    go_wp2_with fail
                    refine wp_region_held (S := fun w' => Below w1.heap.size w1 w') (by kernel_rfl) ?_
                    change wpAnyH _ _ _ _ _ _ _ _ (World.drew _)
                    clear hL WR
                    generalize World.drew wr = wn0 at *
                    have DR := hideP LQ.out.bel
                    have hPn : P < wn0.heap.size := (Array.getElem?_eq_some_iff.1 LQ.out.blk).1
                    have p1 : wn0.cell? ⟨P, 1, none⟩ = some (.slice xo zs.length yo) := cell_blk LQ.out.blk
                    have DA : Hid (∀ o, Below w1.heap.size w1 (wn0.alloc o)) := fun o => DR.out.alloc DR.out.size _
                    have HSZ : Hid (∀ o, w1.heap.size ≤ (wn0.alloc o).heap.size) := fun o => (DA.out o).size
                    have OA : Hid (∀ o, (wn0.alloc o).ownsRow w1.heap.size 3 1 (.slice xo zs.length yo) zs.length (zs.map (Value.int .i64))) := fun o => LQ.out.d.alloc o
                    have RN : Hid (Rd (wn0.alloc (.cells #[.int .i64 x] 3)).heap.size (wn0.alloc (.cells #[.int .i64 x] 3)) (.slice (some ⟨wn0.heap.size, 0, none⟩) 1 1) [x]) := (own_of_any (owns_one wn0 x 0 (Nat.zero_le _))).rd
                    refine wpAnyH_take (i := 0) (v := .pointer (some ⟨P, 1, none⟩)) rfl (by kernel_rfl) (by kernel_rfl) (by kernel_rfl) (fun _ _ _ h => h) (Or.inl ⟨by rfl, ?_⟩) DR.out ?_
                    · intro w' hS
                      clear hS
                      go_simp
                    refine wpAnyH_take (i := 2) (v := .pointer (some ⟨w.heap.size + 1, 1, none⟩)) rfl (by kernel_rfl) (by kernel_rfl) (by kernel_rfl) (fun _ _ _ h => h) (Or.inl ⟨by rfl, ?_⟩) DR.out ?_
                    · intro w' hS
                      clear hS
                      go_simp
                    refine wpAnyH_take (i := 3) (v := .slice (some ⟨b3, 0, none⟩) m m) rfl (by kernel_rfl) (by kernel_rfl) (by kernel_rfl) (fun _ _ _ h => h) (Or.inl ⟨by rfl, ?_⟩) DR.out ?_
                    · intro w' hS
                      have := (LR.out w' hS).1
                      clear hS
                      go_simp
                    refine wpAnyH_take (i := 4) (v := .int .i64 (k : Int)) rfl (by kernel_rfl) (by kernel_rfl) (by kernel_rfl) (fun _ _ _ h => h) (Or.inl ⟨by rfl, ?_⟩) DR.out ?_
                    · intro w' hS
                      clear hS
                      go_simp
                    refine wpAnyH_take (i := 5) (v := .pointer (some ⟨w.heap.size + 1, 1, none⟩)) rfl (by kernel_rfl) (by kernel_rfl) (by kernel_rfl) (fun _ _ _ h => h) (Or.inl ⟨by rfl, ?_⟩) DR.out ?_
                    · intro w' hS
                      clear hS
                      go_simp
                    refine wpAnyH_take (i := 6) (v := .slice (some ⟨b3, 0, none⟩) m m) rfl (by kernel_rfl) (by kernel_rfl) (by kernel_rfl) (fun _ _ _ h => h) (Or.inl ⟨by rfl, ?_⟩) DR.out ?_
                    · intro w' hS
                      have := (LR.out w' hS).1
                      clear hS
                      go_simp
                    refine wpAnyH_take (i := 7) (v := .int .i64 (m : Int)) rfl (by kernel_rfl) (by kernel_rfl) (by kernel_rfl) (fun _ _ _ h => h) (Or.inl ⟨by rfl, ?_⟩) DR.out ?_
                    · intro w' hS
                      clear hS
                      go_simp
                    refine wpAnyH_take (i := 8) (v := .int .i64 (q : Int)) rfl (by kernel_rfl) (by kernel_rfl) (by kernel_rfl) (fun _ _ _ h => h) (Or.inl ⟨by rfl, ?_⟩) DR.out ?_
                    · intro w' hS
                      clear hS
                      go_simp
                      omega
                    refine wpAnyH_take (i := 9) (v := .pointer (some ⟨b3, q, none⟩)) rfl (by kernel_rfl) (by kernel_rfl) (by kernel_rfl) (fun _ _ _ h => h) (Or.inl ⟨by rfl, ?_⟩) DR.out ?_
                    · intro w' hS
                      clear hS
                      go_simp
                    refine wpAnyH_take (i := 10) (v := .int .i64 x) rfl (by kernel_rfl) (by kernel_rfl) (by kernel_rfl) (fun _ _ _ h => h) (Or.inl ⟨by rfl, ?_⟩) DR.out ?_
                    · intro w' hS
                      have := (LR.out w' hS).2
                      clear hS
                      go_simp
                    clear LR d2 d3 d4
                    refine wpAnyH_ready (rs := [1, 11]) (by kernel_rfl) (by simp) ?_
                    refine AllReadyH.cons rfl (fun K hK => ?_) (AllReadyH.cons rfl (fun K hK => ?_) AllReadyH.nil)
                    · go_simp
                      refine hK.out _ _ DR.out (fun _ => ?_)
                      clear hK
                      refine wpAnyH_ready (rs := [11]) (by kernel_rfl) (by simp) ?_
                      refine AllReadyH.cons rfl (fun K hK => ?_) AllReadyH.nil
                      go_simp
                      refine hK.out _ _ (DA.out _) (fun _ => ?_)
                      clear hK
                      refine wpAnyH_ready (rs := [12]) (by kernel_rfl) (by simp) ?_
                      refine AllReadyH.cons rfl (fun K hK => ?_) AllReadyH.nil
                      refine step_append_at (base := w1.heap.size) _ rfl _ _ rfl (.slice xo zs.length yo) (.slice (some ⟨wn0.heap.size, 0, none⟩) 1 1) rfl rfl zs.length zs [x] (OA.out _) RN.out (by simpa using UZ.out) (HSZ.out _) ?_
                      intro v' w9 ho' hg hat'
                      have ho9 : w9.ownsRow w1.heap.size 3 1 v' (zs.length + 1) ((zs ++ [x]).map (Value.int .i64)) := ho'
                      have OS := hideP (LQ.out.step hg ho9 (by simpa using hat'))
                      have S9 : Hid (Below w1.heap.size w1 w9) := (DA.out _).grown hg (HSZ.out _) (fun k hk => (LQ.out.d.lt k hk).1)
                      obtain ⟨x9, y9, e9⟩ := owns_form ho9
                      subst e9
                      have hs9 : P < w9.heap.size := (Array.getElem?_eq_some_iff.1 OS.out.1).1
                      have p9 : w9.cell? ⟨P, 1, none⟩ = some (.slice xo zs.length yo) := cell_blk OS.out.1
                      have f9 : w9.frozen? ⟨P, 1, none⟩ = false := frozen_blk OS.out.1
                      clear ho' ho9 hg hat'
                      refine hK.out _ _ S9.out (fun _ => ?_)
                      clear hK
                      refine wpAnyH_ready (rs := [13]) (by kernel_rfl) (by simp) ?_
                      refine AllReadyH.cons rfl (fun K hK => ?_) AllReadyH.nil
                      go_simp
                      refine hK.out _ _ S9.out (fun _ => ?_)
                      clear hK
                      refine wpAnyH_ready (rs := [14]) (by kernel_rfl) (by simp) ?_
                      refine AllReadyH.cons rfl (fun K hK => ?_) AllReadyH.nil
                      go_simp
                      refine hK.out _ _ (S9.out.setCell LQ.out.le _) (fun _ => ?_)
                      clear hK
                      refine wpAnyH_done (by kernel_rfl) ?_ _
                      clear p9 f9
                      go_wp2_with fail
                      go_roundw
                      case rel => exact ⟨k + 1, by omega, by go_num, _, by show Lp _ _ _ _ _ _ _; rw [VZ.out]; exact OS.out.2⟩
                      case measure => simp [intOf]; omega
                    · go_simp
                      refine hK.out _ _ (DA.out _) (fun _ => ?_)
                      clear hK
                      refine wpAnyH_ready (rs := [1]) (by kernel_rfl) (by simp) ?_
                      refine AllReadyH.cons rfl (fun K hK => ?_) AllReadyH.nil
                      go_simp
                      refine hK.out _ _ (DA.out _) (fun _ => ?_)
                      clear hK
                      refine wpAnyH_ready (rs := [12]) (by kernel_rfl) (by simp) ?_
                      refine AllReadyH.cons rfl (fun K hK => ?_) AllReadyH.nil
                      refine step_append_at (base := w1.heap.size) _ rfl _ _ rfl (.slice xo zs.length yo) (.slice (some ⟨wn0.heap.size, 0, none⟩) 1 1) rfl rfl zs.length zs [x] (OA.out _) RN.out (by simpa using UZ.out) (HSZ.out _) ?_
                      intro v' w9 ho' hg hat'
                      have ho9 : w9.ownsRow w1.heap.size 3 1 v' (zs.length + 1) ((zs ++ [x]).map (Value.int .i64)) := ho'
                      have OS := hideP (LQ.out.step hg ho9 (by simpa using hat'))
                      have S9 : Hid (Below w1.heap.size w1 w9) := (DA.out _).grown hg (HSZ.out _) (fun k hk => (LQ.out.d.lt k hk).1)
                      obtain ⟨x9, y9, e9⟩ := owns_form ho9
                      subst e9
                      have hs9 : P < w9.heap.size := (Array.getElem?_eq_some_iff.1 OS.out.1).1
                      have p9 : w9.cell? ⟨P, 1, none⟩ = some (.slice xo zs.length yo) := cell_blk OS.out.1
                      have f9 : w9.frozen? ⟨P, 1, none⟩ = false := frozen_blk OS.out.1
                      clear ho' ho9 hg hat'
                      refine hK.out _ _ S9.out (fun _ => ?_)
                      clear hK
                      refine wpAnyH_ready (rs := [13]) (by kernel_rfl) (by simp) ?_
                      refine AllReadyH.cons rfl (fun K hK => ?_) AllReadyH.nil
                      go_simp
                      refine hK.out _ _ S9.out (fun _ => ?_)
                      clear hK
                      refine wpAnyH_ready (rs := [14]) (by kernel_rfl) (by simp) ?_
                      refine AllReadyH.cons rfl (fun K hK => ?_) AllReadyH.nil
                      go_simp
                      refine hK.out _ _ (S9.out.setCell LQ.out.le _) (fun _ => ?_)
                      clear hK
                      refine wpAnyH_done (by kernel_rfl) ?_ _
                      clear p9 f9
                      go_wp2_with fail
                      go_roundw
                      case rel => exact ⟨k + 1, by omega, by go_num, _, by show Lp _ _ _ _ _ _ _; rw [VZ.out]; exact OS.out.2⟩
                      case measure => simp [intOf]; omega
                  · have km : k = N := by omega
                    subst km
                    rw [RM.out] at hL
                    obtain ⟨xo, yo, eo⟩ := owns_form hL.out.d
                    subst eo
                    have p0 : wr.cell? ⟨P, 0, none⟩ = some (.slice q0 n0 z0) := cell_blk hL.out.blk
                    have p1 : wr.cell? ⟨P, 1, none⟩ = some (.slice xo D.length yo) := cell_blk hL.out.blk
                    have hPr : P < wr.heap.size := (Array.getElem?_eq_some_iff.1 hL.out.blk).1
                    have hsr := WR.out.2.1
                    have hs1 := W1.out.2.1
                    have r0 := WR.out.2.2.2.1.1
                    have r1 := WR.out.2.2.2.1.2.1
                    have f2 := WR.out.2.2.2.1.2.2
                    go_wp2_with fail
                    refine bodyPost_ret (v := .tuple #[.agg #[.slice q0 n0 z0, .slice xo D.length yo], .int .i64 0]) (by simp [results, Try.results62, go_sem, r0, r1]) rfl ⟨(WR.out.1.setCell (by simp; omega) _).setCell (by simp; omega) _, _, _, rfl, ?_, ?_, ?_⟩
                    · exact Own.base (Own.store (Own.store (own_of_any hL.out.c) (by omega) _) (by omega) _) (by omega)
                    · exact Own.base (Own.store (Own.store (own_of_any hL.out.d) (by omega) _) (by omega) _) (by omega)
                    · exact .inr (.inr fun b e0 e1 => hL.out.ap b e0 e1)
          · have e := HE2.out
            rw [if_pos hf] at e
            simp only [Prod.mk.injEq] at e
            obtain ⟨rfl, rfl, rfl⟩ := e
            have WX := hideP (W1.out.keep MK.out.1)
            have p0 : wx.cell? ⟨P, 0, none⟩ = some (.slice none 0 0) := cell_blk hP
            have p1 : wx.cell? ⟨P, 1, none⟩ = some (.slice none 0 0) := cell_blk hP
            have hPr : P < wx.heap.size := (Array.getElem?_eq_some_iff.1 hP).1
            clear hP hf HE2 MK hwx
            have hsq := WX.out.2.1
            have r0 := WX.out.2.2.2.1.1
            have r1 := WX.out.2.2.2.1.2.1
            have f2 := WX.out.2.2.2.1.2.2
            go_wp2_with fail
            refine bodyPost_ret (v := .tuple #[.agg #[.slice none 0 0, .slice none 0 0], .int .i64 6]) (by simp [results, Try.results62, go_sem, r0, r1]) rfl ⟨(WX.out.1.setCell (by simp; omega) _).setCell (by simp; omega) _, _, _, rfl, Own.nil _ _, Own.nil _ _, .inl rfl⟩

end Go.Proofs.Ytmobjomebmipdaa
