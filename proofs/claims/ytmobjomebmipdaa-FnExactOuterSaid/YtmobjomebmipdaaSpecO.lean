import Derived.Test.YtmobjomebmipdaaLies
import Derived.Test.YtmobjomebmipdaaPlain4
namespace Go.Proofs.Ytmobjomebmipdaa
open Go.RowKit
set_option linter.unusedVariables false

set_option maxRecDepth 100000 in
set_option maxHeartbeats 8000000 in
/-- spec.Outer -/
theorem specO_face (op : Int) (v0 v1 v2 v3 : Value) (sa da sb db : List Int) (w : World) (hl0 : sa.length ≤ 1048576) (hl1 : da.length ≤ 1048576) (hl2 : sb.length ≤ 1048576) (hl3 : db.length ≤ 1048576)
    (h0 : Rd w.heap.size w v0 sa) (h1 : Rd w.heap.size w v1 da) (h2 : Rd w.heap.size w v2 sb) (h3 : Rd w.heap.size w v3 db) (c : Int) (S D : List Int) (hres : Pl.dyM (Pl.outerM (Pl.twoM op)) op sa da sb db = (c, S, D)) :
    Calls Try.prog 30 #[.int .i64 op, .agg #[v0, v1], .agg #[v2, v3]] w (FPost w c S D) := by
  have B : Hid (∀ o o' o'', Below w.heap.size w (((w.alloc o).alloc o').alloc o'')) := fun o o' o'' => below3 w o o' o''
  have H0 := hideP h0
  have H1 := hideP h1
  have H2 := hideP h2
  have H3 := hideP h3
  have KO := hideP (fun w => opOk_any op w)
  have KA : Hid (∀ w', Below w.heap.size w w' → Calls Try.prog 12 #[.agg #[v0, v1]] w' fun e w'' => e = .returned (.bool (Pl.okB sa da)) ∧ Below w'.heap.size w' w'') := fun w' h => specOk_any v0 v1 sa da w' hl0 hl1 ((H0.out.keep h).up h.size) ((H1.out.keep h).up h.size)
  have KB : Hid (∀ w', Below w.heap.size w w' → Calls Try.prog 12 #[.agg #[v2, v3]] w' fun e w'' => e = .returned (.bool (Pl.okB sb db)) ∧ Below w'.heap.size w' w'') := fun w' h => specOk_any v2 v3 sb db w' hl2 hl3 ((H2.out.keep h).up h.size) ((H3.out.keep h).up h.size)
  have W0 := hideP (wid_new w h0 h1 h2 h3)
  obtain ⟨a0, d0, e0⟩ := h0.form
  obtain ⟨a1, d1, b1, o1, e1, hao1, hb1, hc1⟩ := h1.parts
  obtain ⟨a2, d2, e2⟩ := h2.form
  obtain ⟨a3, d3, b3, o3, e3, hao3, hb3, hc3⟩ := h3.parts
  have P1 := hideP (And.intro hao1 (And.intro hb1 hc1))
  have P3 := hideP (And.intro hao3 (And.intro hb3 hc3))
  subst e0
  subst e1
  subst e2
  subst e3
  have HR := hideP hres
  clear h0 h1 h2 h3 hres hao1 hb1 hc1 hao3 hb3 hc3
  by_cases hop : 1 ≤ op ∧ op < 11
  · have KO' : Hid (∀ w, Calls Try.prog 49 #[.int .i64 op] w fun e w' => e = .returned (.bool true) ∧ w' = w) := fun w => by have := KO.out w; rw [decide_eq_true hop] at this; exact this
    go_enter Try.func30, Try.ntmps30
    by_cases oka : Pl.okB sa da = true
    · rw [oka] at KA
      by_cases okb : Pl.okB sb db = true
      · rw [okb] at KB
        have e := HR.out
        rw [Pl.dyM_yes ⟨hop.1, hop.2, oka, okb⟩] at e
        have HE := hideP e
        have HF : Hid (∀ x y w', -3000000000 ≤ x → x ≤ 3000000000 → -3000000000 ≤ y → y ≤ 3000000000 → Calls Try.prog 79 #[.int .i64 op, .int .i64 x, .int .i64 y] w' fun e w'' => e = .returned (.tuple #[.int .i64 (Pl.twoM op x y).1, .int .i64 (Pl.twoM op x y).2]) ∧ w'' = w') := by
          obtain ⟨k, rfl⟩ := Int.eq_ofNat_of_zero_le (show 0 ≤ op by omega)
          exact fun x y w'' g0 g1 g2 g3 => l2Two_any k x y w'' (by omega) (by omega) g0 g1 g2 g3
        have OX := hideP (fun x (hx : x ∈ da) => Pl.ok_cell oka hx)
        have OY := hideP (fun x (hx : x ∈ db) => Pl.ok_cell okb hx)
        obtain ⟨hm0, hm1⟩ := Pl.ok_max oka
        obtain ⟨hm2, hm3⟩ := Pl.ok_max okb
        obtain ⟨sh, hsh⟩ : ∃ sh, sa ++ sb = sh := ⟨_, rfl⟩
        have hlh : sh.length ≤ 6 := by rw [← hsh, List.length_append]; omega
        have HSH := hideP hsh
        generalize Pl.twoM op = F at *
        clear e oka okb hop KO HR H1 H3 hsh
        go_wp2_with (go_at_call 49; refine (KO'.out _).mono ?_; rintro e w' ⟨rfl, rfl⟩)
        refine (KA.out _ (B.out _ _ _)).mono ?_
        rintro e w1 ⟨rfl, hb1⟩
        have W1 := hideP ((W0.out _ _ _).keep hb1)
        clear hb1
        have c2 := W1.out.2.2.1.2.2.1
        have c3 := W1.out.2.2.1.2.2.2
        go_wp2_with fail
        clear c2 c3
        refine (KB.out _ W1.out.1).mono ?_
        rintro e w2 ⟨rfl, hb2⟩
        have W2 := hideP (W1.out.keep hb2)
        have hs2 := W2.out.2.1
        clear hb2 W1 W0 KA KB KO'
        have RV : Hid (∀ W, Below w2.heap.size w2 W → Rd W.heap.size W (.slice a0 sa.length d0) sa ∧ Rd W.heap.size W (.slice a2 sb.length d2) sb) := fun W hb => by
          have k := (W2.out.keep hb).1
          exact ⟨(H0.out.keep k).up k.size, (H2.out.keep k).up k.size⟩
        have PL : Hid (∀ W, Below w2.heap.size w2 W → W.cell? ⟨w.heap.size, 0, none⟩ = some (.slice a0 sa.length d0) ∧ W.cell? ⟨w.heap.size + 1, 0, none⟩ = some (.slice a2 sb.length d2)) := fun W hb => ⟨(W2.out.keep hb).2.2.1.1, (W2.out.keep hb).2.2.1.2.2.1⟩
        go_upto_region 3 with fail
        go_cut [8, 9] (fun s8 s9 wx => ∃ P cc q0 n0 c0 q1 n1 c1, s8 = .pointer (some ⟨P, 0, none⟩) ∧ s9 = .int .i64 cc ∧ Hid (Mk w2 sh P cc (.slice q0 n0 c0) (.slice q1 n1 c1) wx))
        case first =>
          refine wp_region_held (S := fun w' => Below w2.heap.size w2 w') (by kernel_rfl) ?_
          change wpAnyH _ _ _ _ _ _ _ _ (World.drew _)
          have R0 := hideP (Rg.start w2)
          generalize World.drew w2 = wn0 at R0 ⊢
          refine wpAnyH_take (i := 0) (v := .pointer (some ⟨w.heap.size, 0, none⟩)) rfl (by kernel_rfl) (by kernel_rfl) (by kernel_rfl) (fun _ _ _ h => h) (Or.inl ⟨by rfl, ?_⟩) R0.out.bel ?_
          · intro w' hS
            clear hS
            go_simp
          refine wpAnyH_take (i := 1) (v := .slice a0 sa.length d0) rfl (by kernel_rfl) (by kernel_rfl) (by kernel_rfl) (fun _ _ _ h => h) (Or.inl ⟨by rfl, ?_⟩) R0.out.bel ?_
          · intro w' hS
            have y0 := (PL.out w' hS).1
            clear hS
            go_simp
          refine wpAnyH_take (i := 3) (v := .pointer (some ⟨w.heap.size + 1, 0, none⟩)) rfl (by kernel_rfl) (by kernel_rfl) (by kernel_rfl) (fun _ _ _ h => h) (Or.inl ⟨by rfl, ?_⟩) R0.out.bel ?_
          · intro w' hS
            clear hS
            go_simp
          refine wpAnyH_take (i := 4) (v := .slice a2 sb.length d2) rfl (by kernel_rfl) (by kernel_rfl) (by kernel_rfl) (fun _ _ _ h => h) (Or.inl ⟨by rfl, ?_⟩) R0.out.bel ?_
          · intro w' hS
            have y0 := (PL.out w' hS).2
            clear hS
            go_simp
          refine wpAnyH_ready (rs := [2, 6, 11]) (by kernel_rfl) (by simp) ?_
          refine AllReadyH.cons rfl (fun K hK => ?_) (AllReadyH.cons rfl (fun K hK => ?_) (AllReadyH.cons rfl (fun K hK => ?_) AllReadyH.nil))
          · go_simp
            refine (l2Copy_any _ sa _ (by omega) (RV.out _ R0.out.bel).1).mono ?_
            rintro e wn1 ⟨v2, rfl, ho2, hb2⟩
            have R1 := hideP (R0.out.copy ho2 hb2)
            obtain ⟨xc, yc, ec⟩ := owns_form ho2
            subst ec
            clear ho2 hb2
            refine hK.out _ _ R1.out.bel (fun _ => ?_)
            clear hK R0
            refine wpAnyH_ready (rs := [5, 6, 11]) (by kernel_rfl) (by simp) ?_
            refine AllReadyH.cons rfl (fun K hK => ?_) (AllReadyH.cons rfl (fun K hK => ?_) (AllReadyH.cons rfl (fun K hK => ?_) AllReadyH.nil))
            · refine step_append_at (base := w2.heap.size) _ rfl _ _ rfl _ _ rfl rfl sa.length _ _ (R1.out.c _ _ rfl) (RV.out _ R1.out.bel).2 (by omega) R1.out.bel.size ?_
              intro v' wn2 ho' hg' hat'
              have R2 := hideP (R1.out.app HSH.out ho' hg' hat')
              obtain ⟨xa, ya, ea⟩ := owns_form (R2.out.c _ _ rfl)
              subst ea
              clear ho' hg' hat'
              refine hK.out _ _ R2.out.bel (fun _ => ?_)
              clear hK R1
              refine wpAnyH_ready (rs := [6, 11]) (by kernel_rfl) (by simp) ?_
              refine AllReadyH.cons rfl (fun K hK => ?_) (AllReadyH.cons rfl (fun K hK => ?_) AllReadyH.nil)
              · go_simp
                have R3 := hideP (R2.out.lit)
                refine hK.out _ _ R3.out.bel (fun _ => ?_)
                clear hK R2
                generalize wn2.alloc (.cells #[] 3) = wn3 at *
                generalize wn2.heap.size = gb at *
                refine wpAnyH_ready (rs := [7, 11]) (by kernel_rfl) (by simp) ?_
                refine AllReadyH.cons rfl (fun K hK => ?_) (AllReadyH.cons rfl (fun K hK => ?_) AllReadyH.nil)
                · go_simp
                  refine (l2Made_two wn3.heap.size _ _ _ _ _ sh _ (by omega) (own_of_any (R3.out.c _ _ rfl)).rd (Nat.le_refl _)).mono ?_
                  rintro e wn4 ⟨q0, n0, c0, q1, n1, c1, cc, rfl, hb, hor⟩
                  have R4 := hideP (R3.out.keep hb)
                  have M := hideP hor
                  clear hb hor
                  refine hK.out _ _ R4.out.bel (fun _ => ?_)
                  clear hK R3
                  refine wpAnyH_take (i := 8) (v := .tuple #[.agg #[.slice q0 n0 c0, .slice q1 n1 c1], .int .i64 cc]) rfl (by kernel_rfl) (by kernel_rfl) (by kernel_rfl) (fun _ _ _ h => h) (Or.inl ⟨by rfl, ?_⟩) R4.out.bel ?_
                  · intro w' hS
                    clear hS
                    go_simp
                  refine wpAnyH_take (i := 9) (v := .agg #[.slice q0 n0 c0, .slice q1 n1 c1]) rfl (by kernel_rfl) (by kernel_rfl) (by kernel_rfl) (fun _ _ _ h => h) (Or.inl ⟨by rfl, ?_⟩) R4.out.bel ?_
                  · intro w' hS
                    clear hS
                    go_simp
                  refine wpAnyH_take (i := 10) (v := .int .i64 cc) rfl (by kernel_rfl) (by kernel_rfl) (by kernel_rfl) (fun _ _ _ h => h) (Or.inl ⟨by rfl, ?_⟩) R4.out.bel ?_
                  · intro w' hS
                    clear hS
                    go_simp
                  refine wpAnyH_ready (rs := [11]) (by kernel_rfl) (by simp) ?_
                  refine AllReadyH.cons rfl (fun K hK => ?_) AllReadyH.nil
                  go_simp
                  have R5 := hideP (R4.out.var)
                  refine hK.out _ _ R5.out.bel (fun _ => ?_)
                  clear hK R4
                  generalize wn4.alloc (.cells #[.slice none 0 0, .slice none 0 0] 27) = wn5 at *
                  generalize wn4.heap.size = P at *
                  refine wpAnyH_ready (rs := [12]) (by kernel_rfl) (by simp) ?_
                  refine AllReadyH.cons rfl (fun K hK => ?_) AllReadyH.nil
                  have MK := hideP (R5.out.done M.out)
                  have hp := (R5.out.p _ rfl).2
                  have hA1 := (Array.getElem?_eq_some_iff.1 hp).1
                  have cA0 : wn5.cell? ⟨P, 0, none⟩ = some (.slice none 0 0) := cell_blk hp
                  have cA1 : wn5.cell? ⟨P, 1, none⟩ = some (.slice none 0 0) := cell_blk hp
                  have fA : ∀ o, wn5.frozen? ⟨P, o, none⟩ = false := fun o => frozen_blk hp
                  clear hp
                  go_simp
                  refine hK.out _ _ MK.out.1 (fun _ => ?_)
                  clear hK
                  refine wpAnyH_ready (rs := [13]) (by kernel_rfl) (by simp) ?_
                  refine AllReadyH.cons rfl (fun K hK => ?_) AllReadyH.nil
                  go_simp
                  refine hK.out _ _ MK.out.1 (fun _ => ?_)
                  clear hK
                  refine wpAnyH_done (by kernel_rfl) ?_ _
                  clear cA0 cA1 fA
                  go_wp2_with fail
                  go_meet
                  case rel => exact ⟨_, _, _, _, _, _, _, _, rfl, rfl, MK⟩
                · go_simp
                  have R4 := hideP (R3.out.var)
                  refine hK.out _ _ R4.out.bel (fun _ => ?_)
                  clear hK R3
                  generalize wn3.alloc (.cells #[.slice none 0 0, .slice none 0 0] 27) = wn4 at *
                  generalize wn3.heap.size = P at *
                  refine wpAnyH_ready (rs := [7]) (by kernel_rfl) (by simp) ?_
                  refine AllReadyH.cons rfl (fun K hK => ?_) AllReadyH.nil
                  go_simp
                  refine (l2Made_two wn4.heap.size _ _ _ _ _ sh _ (by omega) (own_of_any (R4.out.c _ _ rfl)).rd (Nat.le_refl _)).mono ?_
                  rintro e wn5 ⟨q0, n0, c0, q1, n1, c1, cc, rfl, hb, hor⟩
                  have R5 := hideP (R4.out.keep hb)
                  have M := hideP hor
                  clear hb hor
                  refine hK.out _ _ R5.out.bel (fun _ => ?_)
                  clear hK R4
                  refine wpAnyH_take (i := 8) (v := .tuple #[.agg #[.slice q0 n0 c0, .slice q1 n1 c1], .int .i64 cc]) rfl (by kernel_rfl) (by kernel_rfl) (by kernel_rfl) (fun _ _ _ h => h) (Or.inl ⟨by rfl, ?_⟩) R5.out.bel ?_
                  · intro w' hS
                    clear hS
                    go_simp
                  refine wpAnyH_take (i := 9) (v := .agg #[.slice q0 n0 c0, .slice q1 n1 c1]) rfl (by kernel_rfl) (by kernel_rfl) (by kernel_rfl) (fun _ _ _ h => h) (Or.inl ⟨by rfl, ?_⟩) R5.out.bel ?_
                  · intro w' hS
                    clear hS
                    go_simp
                  refine wpAnyH_take (i := 10) (v := .int .i64 cc) rfl (by kernel_rfl) (by kernel_rfl) (by kernel_rfl) (fun _ _ _ h => h) (Or.inl ⟨by rfl, ?_⟩) R5.out.bel ?_
                  · intro w' hS
                    clear hS
                    go_simp
                  refine wpAnyH_ready (rs := [12]) (by kernel_rfl) (by simp) ?_
                  refine AllReadyH.cons rfl (fun K hK => ?_) AllReadyH.nil
                  have MK := hideP (R5.out.done M.out)
                  have hp := (R5.out.p _ rfl).2
                  have hA1 := (Array.getElem?_eq_some_iff.1 hp).1
                  have cA0 : wn5.cell? ⟨P, 0, none⟩ = some (.slice none 0 0) := cell_blk hp
                  have cA1 : wn5.cell? ⟨P, 1, none⟩ = some (.slice none 0 0) := cell_blk hp
                  have fA : ∀ o, wn5.frozen? ⟨P, o, none⟩ = false := fun o => frozen_blk hp
                  clear hp
                  go_simp
                  refine hK.out _ _ MK.out.1 (fun _ => ?_)
                  clear hK
                  refine wpAnyH_ready (rs := [13]) (by kernel_rfl) (by simp) ?_
                  refine AllReadyH.cons rfl (fun K hK => ?_) AllReadyH.nil
                  go_simp
                  refine hK.out _ _ MK.out.1 (fun _ => ?_)
                  clear hK
                  refine wpAnyH_done (by kernel_rfl) ?_ _
                  clear cA0 cA1 fA
                  go_wp2_with fail
                  go_meet
                  case rel => exact ⟨_, _, _, _, _, _, _, _, rfl, rfl, MK⟩
              · go_simp
                have R3 := hideP (R2.out.var)
                refine hK.out _ _ R3.out.bel (fun _ => ?_)
                clear hK R2
                generalize wn2.alloc (.cells #[.slice none 0 0, .slice none 0 0] 27) = wn3 at *
                generalize wn2.heap.size = P at *
                refine wpAnyH_ready (rs := [6]) (by kernel_rfl) (by simp) ?_
                refine AllReadyH.cons rfl (fun K hK => ?_) AllReadyH.nil
                go_simp
                have R4 := hideP (R3.out.lit)
                refine hK.out _ _ R4.out.bel (fun _ => ?_)
                clear hK R3
                generalize wn3.alloc (.cells #[] 3) = wn4 at *
                generalize wn3.heap.size = gb at *
                refine wpAnyH_ready (rs := [7]) (by kernel_rfl) (by simp) ?_
                refine AllReadyH.cons rfl (fun K hK => ?_) AllReadyH.nil
                go_simp
                refine (l2Made_two wn4.heap.size _ _ _ _ _ sh _ (by omega) (own_of_any (R4.out.c _ _ rfl)).rd (Nat.le_refl _)).mono ?_
                rintro e wn5 ⟨q0, n0, c0, q1, n1, c1, cc, rfl, hb, hor⟩
                have R5 := hideP (R4.out.keep hb)
                have M := hideP hor
                clear hb hor
                refine hK.out _ _ R5.out.bel (fun _ => ?_)
                clear hK R4
                refine wpAnyH_take (i := 8) (v := .tuple #[.agg #[.slice q0 n0 c0, .slice q1 n1 c1], .int .i64 cc]) rfl (by kernel_rfl) (by kernel_rfl) (by kernel_rfl) (fun _ _ _ h => h) (Or.inl ⟨by rfl, ?_⟩) R5.out.bel ?_
                · intro w' hS
                  clear hS
                  go_simp
                refine wpAnyH_take (i := 9) (v := .agg #[.slice q0 n0 c0, .slice q1 n1 c1]) rfl (by kernel_rfl) (by kernel_rfl) (by kernel_rfl) (fun _ _ _ h => h) (Or.inl ⟨by rfl, ?_⟩) R5.out.bel ?_
                · intro w' hS
                  clear hS
                  go_simp
                refine wpAnyH_take (i := 10) (v := .int .i64 cc) rfl (by kernel_rfl) (by kernel_rfl) (by kernel_rfl) (fun _ _ _ h => h) (Or.inl ⟨by rfl, ?_⟩) R5.out.bel ?_
                · intro w' hS
                  clear hS
                  go_simp
                refine wpAnyH_ready (rs := [12]) (by kernel_rfl) (by simp) ?_
                refine AllReadyH.cons rfl (fun K hK => ?_) AllReadyH.nil
                have MK := hideP (R5.out.done M.out)
                have hp := (R5.out.p _ rfl).2
                have hA1 := (Array.getElem?_eq_some_iff.1 hp).1
                have cA0 : wn5.cell? ⟨P, 0, none⟩ = some (.slice none 0 0) := cell_blk hp
                have cA1 : wn5.cell? ⟨P, 1, none⟩ = some (.slice none 0 0) := cell_blk hp
                have fA : ∀ o, wn5.frozen? ⟨P, o, none⟩ = false := fun o => frozen_blk hp
                clear hp
                go_simp
                refine hK.out _ _ MK.out.1 (fun _ => ?_)
                clear hK
                refine wpAnyH_ready (rs := [13]) (by kernel_rfl) (by simp) ?_
                refine AllReadyH.cons rfl (fun K hK => ?_) AllReadyH.nil
                go_simp
                refine hK.out _ _ MK.out.1 (fun _ => ?_)
                clear hK
                refine wpAnyH_done (by kernel_rfl) ?_ _
                clear cA0 cA1 fA
                go_wp2_with fail
                go_meet
                case rel => exact ⟨_, _, _, _, _, _, _, _, rfl, rfl, MK⟩
            · go_simp
              have R2 := hideP (R1.out.lit)
              refine hK.out _ _ R2.out.bel (fun _ => ?_)
              clear hK R1
              generalize wn1.alloc (.cells #[] 3) = wn2 at *
              generalize wn1.heap.size = gb at *
              refine wpAnyH_ready (rs := [5, 11]) (by kernel_rfl) (by simp) ?_
              refine AllReadyH.cons rfl (fun K hK => ?_) (AllReadyH.cons rfl (fun K hK => ?_) AllReadyH.nil)
              · refine step_append_at (base := w2.heap.size) _ rfl _ _ rfl _ _ rfl rfl sa.length _ _ (R2.out.c _ _ rfl) (RV.out _ R2.out.bel).2 (by omega) R2.out.bel.size ?_
                intro v' wn3 ho' hg' hat'
                have R3 := hideP (R2.out.app HSH.out ho' hg' hat')
                obtain ⟨xa, ya, ea⟩ := owns_form (R3.out.c _ _ rfl)
                subst ea
                clear ho' hg' hat'
                refine hK.out _ _ R3.out.bel (fun _ => ?_)
                clear hK R2
                refine wpAnyH_ready (rs := [7, 11]) (by kernel_rfl) (by simp) ?_
                refine AllReadyH.cons rfl (fun K hK => ?_) (AllReadyH.cons rfl (fun K hK => ?_) AllReadyH.nil)
                · go_simp
                  refine (l2Made_two wn3.heap.size _ _ _ _ _ sh _ (by omega) (own_of_any (R3.out.c _ _ rfl)).rd (Nat.le_refl _)).mono ?_
                  rintro e wn4 ⟨q0, n0, c0, q1, n1, c1, cc, rfl, hb, hor⟩
                  have R4 := hideP (R3.out.keep hb)
                  have M := hideP hor
                  clear hb hor
                  refine hK.out _ _ R4.out.bel (fun _ => ?_)
                  clear hK R3
                  refine wpAnyH_take (i := 8) (v := .tuple #[.agg #[.slice q0 n0 c0, .slice q1 n1 c1], .int .i64 cc]) rfl (by kernel_rfl) (by kernel_rfl) (by kernel_rfl) (fun _ _ _ h => h) (Or.inl ⟨by rfl, ?_⟩) R4.out.bel ?_
                  · intro w' hS
                    clear hS
                    go_simp
                  refine wpAnyH_take (i := 9) (v := .agg #[.slice q0 n0 c0, .slice q1 n1 c1]) rfl (by kernel_rfl) (by kernel_rfl) (by kernel_rfl) (fun _ _ _ h => h) (Or.inl ⟨by rfl, ?_⟩) R4.out.bel ?_
                  · intro w' hS
                    clear hS
                    go_simp
                  refine wpAnyH_take (i := 10) (v := .int .i64 cc) rfl (by kernel_rfl) (by kernel_rfl) (by kernel_rfl) (fun _ _ _ h => h) (Or.inl ⟨by rfl, ?_⟩) R4.out.bel ?_
                  · intro w' hS
                    clear hS
                    go_simp
                  refine wpAnyH_ready (rs := [11]) (by kernel_rfl) (by simp) ?_
                  refine AllReadyH.cons rfl (fun K hK => ?_) AllReadyH.nil
                  go_simp
                  have R5 := hideP (R4.out.var)
                  refine hK.out _ _ R5.out.bel (fun _ => ?_)
                  clear hK R4
                  generalize wn4.alloc (.cells #[.slice none 0 0, .slice none 0 0] 27) = wn5 at *
                  generalize wn4.heap.size = P at *
                  refine wpAnyH_ready (rs := [12]) (by kernel_rfl) (by simp) ?_
                  refine AllReadyH.cons rfl (fun K hK => ?_) AllReadyH.nil
                  have MK := hideP (R5.out.done M.out)
                  have hp := (R5.out.p _ rfl).2
                  have hA1 := (Array.getElem?_eq_some_iff.1 hp).1
                  have cA0 : wn5.cell? ⟨P, 0, none⟩ = some (.slice none 0 0) := cell_blk hp
                  have cA1 : wn5.cell? ⟨P, 1, none⟩ = some (.slice none 0 0) := cell_blk hp
                  have fA : ∀ o, wn5.frozen? ⟨P, o, none⟩ = false := fun o => frozen_blk hp
                  clear hp
                  go_simp
                  refine hK.out _ _ MK.out.1 (fun _ => ?_)
                  clear hK
                  refine wpAnyH_ready (rs := [13]) (by kernel_rfl) (by simp) ?_
                  refine AllReadyH.cons rfl (fun K hK => ?_) AllReadyH.nil
                  go_simp
                  refine hK.out _ _ MK.out.1 (fun _ => ?_)
                  clear hK
                  refine wpAnyH_done (by kernel_rfl) ?_ _
                  clear cA0 cA1 fA
                  go_wp2_with fail
                  go_meet
                  case rel => exact ⟨_, _, _, _, _, _, _, _, rfl, rfl, MK⟩
                · go_simp
                  have R4 := hideP (R3.out.var)
                  refine hK.out _ _ R4.out.bel (fun _ => ?_)
                  clear hK R3
                  generalize wn3.alloc (.cells #[.slice none 0 0, .slice none 0 0] 27) = wn4 at *
                  generalize wn3.heap.size = P at *
                  refine wpAnyH_ready (rs := [7]) (by kernel_rfl) (by simp) ?_
                  refine AllReadyH.cons rfl (fun K hK => ?_) AllReadyH.nil
                  go_simp
                  refine (l2Made_two wn4.heap.size _ _ _ _ _ sh _ (by omega) (own_of_any (R4.out.c _ _ rfl)).rd (Nat.le_refl _)).mono ?_
                  rintro e wn5 ⟨q0, n0, c0, q1, n1, c1, cc, rfl, hb, hor⟩
                  have R5 := hideP (R4.out.keep hb)
                  have M := hideP hor
                  clear hb hor
                  refine hK.out _ _ R5.out.bel (fun _ => ?_)
                  clear hK R4
                  refine wpAnyH_take (i := 8) (v := .tuple #[.agg #[.slice q0 n0 c0, .slice q1 n1 c1], .int .i64 cc]) rfl (by kernel_rfl) (by kernel_rfl) (by kernel_rfl) (fun _ _ _ h => h) (Or.inl ⟨by rfl, ?_⟩) R5.out.bel ?_
                  · intro w' hS
                    clear hS
                    go_simp
                  refine wpAnyH_take (i := 9) (v := .agg #[.slice q0 n0 c0, .slice q1 n1 c1]) rfl (by kernel_rfl) (by kernel_rfl) (by kernel_rfl) (fun _ _ _ h => h) (Or.inl ⟨by rfl, ?_⟩) R5.out.bel ?_
                  · intro w' hS
                    clear hS
                    go_simp
                  refine wpAnyH_take (i := 10) (v := .int .i64 cc) rfl (by kernel_rfl) (by kernel_rfl) (by kernel_rfl) (fun _ _ _ h => h) (Or.inl ⟨by rfl, ?_⟩) R5.out.bel ?_
                  · intro w' hS
                    clear hS
                    go_simp
                  refine wpAnyH_ready (rs := [12]) (by kernel_rfl) (by simp) ?_
                  refine AllReadyH.cons rfl (fun K hK => ?_) AllReadyH.nil
                  have MK := hideP (R5.out.done M.out)
                  have hp := (R5.out.p _ rfl).2
                  have hA1 := (Array.getElem?_eq_some_iff.1 hp).1
                  have cA0 : wn5.cell? ⟨P, 0, none⟩ = some (.slice none 0 0) := cell_blk hp
                  have cA1 : wn5.cell? ⟨P, 1, none⟩ = some (.slice none 0 0) := cell_blk hp
                  have fA : ∀ o, wn5.frozen? ⟨P, o, none⟩ = false := fun o => frozen_blk hp
                  clear hp
                  go_simp
                  refine hK.out _ _ MK.out.1 (fun _ => ?_)
                  clear hK
                  refine wpAnyH_ready (rs := [13]) (by kernel_rfl) (by simp) ?_
                  refine AllReadyH.cons rfl (fun K hK => ?_) AllReadyH.nil
                  go_simp
                  refine hK.out _ _ MK.out.1 (fun _ => ?_)
                  clear hK
                  refine wpAnyH_done (by kernel_rfl) ?_ _
                  clear cA0 cA1 fA
                  go_wp2_with fail
                  go_meet
                  case rel => exact ⟨_, _, _, _, _, _, _, _, rfl, rfl, MK⟩
              · go_simp
                have R3 := hideP (R2.out.var)
                refine hK.out _ _ R3.out.bel (fun _ => ?_)
                clear hK R2
                generalize wn2.alloc (.cells #[.slice none 0 0, .slice none 0 0] 27) = wn3 at *
                generalize wn2.heap.size = P at *
                refine wpAnyH_ready (rs := [5]) (by kernel_rfl) (by simp) ?_
                refine AllReadyH.cons rfl (fun K hK => ?_) AllReadyH.nil
                refine step_append_at (base := w2.heap.size) _ rfl _ _ rfl _ _ rfl rfl sa.length _ _ (R3.out.c _ _ rfl) (RV.out _ R3.out.bel).2 (by omega) R3.out.bel.size ?_
                intro v' wn4 ho' hg' hat'
                have R4 := hideP (R3.out.app HSH.out ho' hg' hat')
                obtain ⟨xa, ya, ea⟩ := owns_form (R4.out.c _ _ rfl)
                subst ea
                clear ho' hg' hat'
                refine hK.out _ _ R4.out.bel (fun _ => ?_)
                clear hK R3
                refine wpAnyH_ready (rs := [7]) (by kernel_rfl) (by simp) ?_
                refine AllReadyH.cons rfl (fun K hK => ?_) AllReadyH.nil
                go_simp
                refine (l2Made_two wn4.heap.size _ _ _ _ _ sh _ (by omega) (own_of_any (R4.out.c _ _ rfl)).rd (Nat.le_refl _)).mono ?_
                rintro e wn5 ⟨q0, n0, c0, q1, n1, c1, cc, rfl, hb, hor⟩
                have R5 := hideP (R4.out.keep hb)
                have M := hideP hor
                clear hb hor
                refine hK.out _ _ R5.out.bel (fun _ => ?_)
                clear hK R4
                refine wpAnyH_take (i := 8) (v := .tuple #[.agg #[.slice q0 n0 c0, .slice q1 n1 c1], .int .i64 cc]) rfl (by kernel_rfl) (by kernel_rfl) (by kernel_rfl) (fun _ _ _ h => h) (Or.inl ⟨by rfl, ?_⟩) R5.out.bel ?_
                · intro w' hS
                  clear hS
                  go_simp
                refine wpAnyH_take (i := 9) (v := .agg #[.slice q0 n0 c0, .slice q1 n1 c1]) rfl (by kernel_rfl) (by kernel_rfl) (by kernel_rfl) (fun _ _ _ h => h) (Or.inl ⟨by rfl, ?_⟩) R5.out.bel ?_
                · intro w' hS
                  clear hS
                  go_simp
                refine wpAnyH_take (i := 10) (v := .int .i64 cc) rfl (by kernel_rfl) (by kernel_rfl) (by kernel_rfl) (fun _ _ _ h => h) (Or.inl ⟨by rfl, ?_⟩) R5.out.bel ?_
                · intro w' hS
                  clear hS
                  go_simp
                refine wpAnyH_ready (rs := [12]) (by kernel_rfl) (by simp) ?_
                refine AllReadyH.cons rfl (fun K hK => ?_) AllReadyH.nil
                have MK := hideP (R5.out.done M.out)
                have hp := (R5.out.p _ rfl).2
                have hA1 := (Array.getElem?_eq_some_iff.1 hp).1
                have cA0 : wn5.cell? ⟨P, 0, none⟩ = some (.slice none 0 0) := cell_blk hp
                have cA1 : wn5.cell? ⟨P, 1, none⟩ = some (.slice none 0 0) := cell_blk hp
                have fA : ∀ o, wn5.frozen? ⟨P, o, none⟩ = false := fun o => frozen_blk hp
                clear hp
                go_simp
                refine hK.out _ _ MK.out.1 (fun _ => ?_)
                clear hK
                refine wpAnyH_ready (rs := [13]) (by kernel_rfl) (by simp) ?_
                refine AllReadyH.cons rfl (fun K hK => ?_) AllReadyH.nil
                go_simp
                refine hK.out _ _ MK.out.1 (fun _ => ?_)
                clear hK
                refine wpAnyH_done (by kernel_rfl) ?_ _
                clear cA0 cA1 fA
                go_wp2_with fail
                go_meet
                case rel => exact ⟨_, _, _, _, _, _, _, _, rfl, rfl, MK⟩
            · go_simp
              have R2 := hideP (R1.out.var)
              refine hK.out _ _ R2.out.bel (fun _ => ?_)
              clear hK R1
              generalize wn1.alloc (.cells #[.slice none 0 0, .slice none 0 0] 27) = wn2 at *
              generalize wn1.heap.size = P at *
              refine wpAnyH_ready (rs := [5, 6]) (by kernel_rfl) (by simp) ?_
              refine AllReadyH.cons rfl (fun K hK => ?_) (AllReadyH.cons rfl (fun K hK => ?_) AllReadyH.nil)
              · refine step_append_at (base := w2.heap.size) _ rfl _ _ rfl _ _ rfl rfl sa.length _ _ (R2.out.c _ _ rfl) (RV.out _ R2.out.bel).2 (by omega) R2.out.bel.size ?_
                intro v' wn3 ho' hg' hat'
                have R3 := hideP (R2.out.app HSH.out ho' hg' hat')
                obtain ⟨xa, ya, ea⟩ := owns_form (R3.out.c _ _ rfl)
                subst ea
                clear ho' hg' hat'
                refine hK.out _ _ R3.out.bel (fun _ => ?_)
                clear hK R2
                refine wpAnyH_ready (rs := [6]) (by kernel_rfl) (by simp) ?_
                refine AllReadyH.cons rfl (fun K hK => ?_) AllReadyH.nil
                go_simp
                have R4 := hideP (R3.out.lit)
                refine hK.out _ _ R4.out.bel (fun _ => ?_)
                clear hK R3
                generalize wn3.alloc (.cells #[] 3) = wn4 at *
                generalize wn3.heap.size = gb at *
                refine wpAnyH_ready (rs := [7]) (by kernel_rfl) (by simp) ?_
                refine AllReadyH.cons rfl (fun K hK => ?_) AllReadyH.nil
                go_simp
                refine (l2Made_two wn4.heap.size _ _ _ _ _ sh _ (by omega) (own_of_any (R4.out.c _ _ rfl)).rd (Nat.le_refl _)).mono ?_
                rintro e wn5 ⟨q0, n0, c0, q1, n1, c1, cc, rfl, hb, hor⟩
                have R5 := hideP (R4.out.keep hb)
                have M := hideP hor
                clear hb hor
                refine hK.out _ _ R5.out.bel (fun _ => ?_)
                clear hK R4
                refine wpAnyH_take (i := 8) (v := .tuple #[.agg #[.slice q0 n0 c0, .slice q1 n1 c1], .int .i64 cc]) rfl (by kernel_rfl) (by kernel_rfl) (by kernel_rfl) (fun _ _ _ h => h) (Or.inl ⟨by rfl, ?_⟩) R5.out.bel ?_
                · intro w' hS
                  clear hS
                  go_simp
                refine wpAnyH_take (i := 9) (v := .agg #[.slice q0 n0 c0, .slice q1 n1 c1]) rfl (by kernel_rfl) (by kernel_rfl) (by kernel_rfl) (fun _ _ _ h => h) (Or.inl ⟨by rfl, ?_⟩) R5.out.bel ?_
                · intro w' hS
                  clear hS
                  go_simp
                refine wpAnyH_take (i := 10) (v := .int .i64 cc) rfl (by kernel_rfl) (by kernel_rfl) (by kernel_rfl) (fun _ _ _ h => h) (Or.inl ⟨by rfl, ?_⟩) R5.out.bel ?_
                · intro w' hS
                  clear hS
                  go_simp
                refine wpAnyH_ready (rs := [12]) (by kernel_rfl) (by simp) ?_
                refine AllReadyH.cons rfl (fun K hK => ?_) AllReadyH.nil
                have MK := hideP (R5.out.done M.out)
                have hp := (R5.out.p _ rfl).2
                have hA1 := (Array.getElem?_eq_some_iff.1 hp).1
                have cA0 : wn5.cell? ⟨P, 0, none⟩ = some (.slice none 0 0) := cell_blk hp
                have cA1 : wn5.cell? ⟨P, 1, none⟩ = some (.slice none 0 0) := cell_blk hp
                have fA : ∀ o, wn5.frozen? ⟨P, o, none⟩ = false := fun o => frozen_blk hp
                clear hp
                go_simp
                refine hK.out _ _ MK.out.1 (fun _ => ?_)
                clear hK
                refine wpAnyH_ready (rs := [13]) (by kernel_rfl) (by simp) ?_
                refine AllReadyH.cons rfl (fun K hK => ?_) AllReadyH.nil
                go_simp
                refine hK.out _ _ MK.out.1 (fun _ => ?_)
                clear hK
                refine wpAnyH_done (by kernel_rfl) ?_ _
                clear cA0 cA1 fA
                go_wp2_with fail
                go_meet
                case rel => exact ⟨_, _, _, _, _, _, _, _, rfl, rfl, MK⟩
              · go_simp
                have R3 := hideP (R2.out.lit)
                refine hK.out _ _ R3.out.bel (fun _ => ?_)
                clear hK R2
                generalize wn2.alloc (.cells #[] 3) = wn3 at *
                generalize wn2.heap.size = gb at *
                refine wpAnyH_ready (rs := [5]) (by kernel_rfl) (by simp) ?_
                refine AllReadyH.cons rfl (fun K hK => ?_) AllReadyH.nil
                refine step_append_at (base := w2.heap.size) _ rfl _ _ rfl _ _ rfl rfl sa.length _ _ (R3.out.c _ _ rfl) (RV.out _ R3.out.bel).2 (by omega) R3.out.bel.size ?_
                intro v' wn4 ho' hg' hat'
                have R4 := hideP (R3.out.app HSH.out ho' hg' hat')
                obtain ⟨xa, ya, ea⟩ := owns_form (R4.out.c _ _ rfl)
                subst ea
                clear ho' hg' hat'
                refine hK.out _ _ R4.out.bel (fun _ => ?_)
                clear hK R3
                refine wpAnyH_ready (rs := [7]) (by kernel_rfl) (by simp) ?_
                refine AllReadyH.cons rfl (fun K hK => ?_) AllReadyH.nil
                go_simp
                refine (l2Made_two wn4.heap.size _ _ _ _ _ sh _ (by omega) (own_of_any (R4.out.c _ _ rfl)).rd (Nat.le_refl _)).mono ?_
                rintro e wn5 ⟨q0, n0, c0, q1, n1, c1, cc, rfl, hb, hor⟩
                have R5 := hideP (R4.out.keep hb)
                have M := hideP hor
                clear hb hor
                refine hK.out _ _ R5.out.bel (fun _ => ?_)
                clear hK R4
                refine wpAnyH_take (i := 8) (v := .tuple #[.agg #[.slice q0 n0 c0, .slice q1 n1 c1], .int .i64 cc]) rfl (by kernel_rfl) (by kernel_rfl) (by kernel_rfl) (fun _ _ _ h => h) (Or.inl ⟨by rfl, ?_⟩) R5.out.bel ?_
                · intro w' hS
                  clear hS
                  go_simp
                refine wpAnyH_take (i := 9) (v := .agg #[.slice q0 n0 c0, .slice q1 n1 c1]) rfl (by kernel_rfl) (by kernel_rfl) (by kernel_rfl) (fun _ _ _ h => h) (Or.inl ⟨by rfl, ?_⟩) R5.out.bel ?_
                · intro w' hS
                  clear hS
                  go_simp
                refine wpAnyH_take (i := 10) (v := .int .i64 cc) rfl (by kernel_rfl) (by kernel_rfl) (by kernel_rfl) (fun _ _ _ h => h) (Or.inl ⟨by rfl, ?_⟩) R5.out.bel ?_
                · intro w' hS
                  clear hS
                  go_simp
                refine wpAnyH_ready (rs := [12]) (by kernel_rfl) (by simp) ?_
                refine AllReadyH.cons rfl (fun K hK => ?_) AllReadyH.nil
                have MK := hideP (R5.out.done M.out)
                have hp := (R5.out.p _ rfl).2
                have hA1 := (Array.getElem?_eq_some_iff.1 hp).1
                have cA0 : wn5.cell? ⟨P, 0, none⟩ = some (.slice none 0 0) := cell_blk hp
                have cA1 : wn5.cell? ⟨P, 1, none⟩ = some (.slice none 0 0) := cell_blk hp
                have fA : ∀ o, wn5.frozen? ⟨P, o, none⟩ = false := fun o => frozen_blk hp
                clear hp
                go_simp
                refine hK.out _ _ MK.out.1 (fun _ => ?_)
                clear hK
                refine wpAnyH_ready (rs := [13]) (by kernel_rfl) (by simp) ?_
                refine AllReadyH.cons rfl (fun K hK => ?_) AllReadyH.nil
                go_simp
                refine hK.out _ _ MK.out.1 (fun _ => ?_)
                clear hK
                refine wpAnyH_done (by kernel_rfl) ?_ _
                clear cA0 cA1 fA
                go_wp2_with fail
                go_meet
                case rel => exact ⟨_, _, _, _, _, _, _, _, rfl, rfl, MK⟩
          · go_simp
            have R1 := hideP (R0.out.lit)
            refine hK.out _ _ R1.out.bel (fun _ => ?_)
            clear hK R0
            generalize wn0.alloc (.cells #[] 3) = wn1 at *
            generalize wn0.heap.size = gb at *
            refine wpAnyH_ready (rs := [2, 11]) (by kernel_rfl) (by simp) ?_
            refine AllReadyH.cons rfl (fun K hK => ?_) (AllReadyH.cons rfl (fun K hK => ?_) AllReadyH.nil)
            · go_simp
              refine (l2Copy_any _ sa _ (by omega) (RV.out _ R1.out.bel).1).mono ?_
              rintro e wn2 ⟨v2, rfl, ho2, hb2⟩
              have R2 := hideP (R1.out.copy ho2 hb2)
              obtain ⟨xc, yc, ec⟩ := owns_form ho2
              subst ec
              clear ho2 hb2
              refine hK.out _ _ R2.out.bel (fun _ => ?_)
              clear hK R1
              refine wpAnyH_ready (rs := [5, 11]) (by kernel_rfl) (by simp) ?_
              refine AllReadyH.cons rfl (fun K hK => ?_) (AllReadyH.cons rfl (fun K hK => ?_) AllReadyH.nil)
              · refine step_append_at (base := w2.heap.size) _ rfl _ _ rfl _ _ rfl rfl sa.length _ _ (R2.out.c _ _ rfl) (RV.out _ R2.out.bel).2 (by omega) R2.out.bel.size ?_
                intro v' wn3 ho' hg' hat'
                have R3 := hideP (R2.out.app HSH.out ho' hg' hat')
                obtain ⟨xa, ya, ea⟩ := owns_form (R3.out.c _ _ rfl)
                subst ea
                clear ho' hg' hat'
                refine hK.out _ _ R3.out.bel (fun _ => ?_)
                clear hK R2
                refine wpAnyH_ready (rs := [7, 11]) (by kernel_rfl) (by simp) ?_
                refine AllReadyH.cons rfl (fun K hK => ?_) (AllReadyH.cons rfl (fun K hK => ?_) AllReadyH.nil)
                · go_simp
                  refine (l2Made_two wn3.heap.size _ _ _ _ _ sh _ (by omega) (own_of_any (R3.out.c _ _ rfl)).rd (Nat.le_refl _)).mono ?_
                  rintro e wn4 ⟨q0, n0, c0, q1, n1, c1, cc, rfl, hb, hor⟩
                  have R4 := hideP (R3.out.keep hb)
                  have M := hideP hor
                  clear hb hor
                  refine hK.out _ _ R4.out.bel (fun _ => ?_)
                  clear hK R3
                  refine wpAnyH_take (i := 8) (v := .tuple #[.agg #[.slice q0 n0 c0, .slice q1 n1 c1], .int .i64 cc]) rfl (by kernel_rfl) (by kernel_rfl) (by kernel_rfl) (fun _ _ _ h => h) (Or.inl ⟨by rfl, ?_⟩) R4.out.bel ?_
                  · intro w' hS
                    clear hS
                    go_simp
                  refine wpAnyH_take (i := 9) (v := .agg #[.slice q0 n0 c0, .slice q1 n1 c1]) rfl (by kernel_rfl) (by kernel_rfl) (by kernel_rfl) (fun _ _ _ h => h) (Or.inl ⟨by rfl, ?_⟩) R4.out.bel ?_
                  · intro w' hS
                    clear hS
                    go_simp
                  refine wpAnyH_take (i := 10) (v := .int .i64 cc) rfl (by kernel_rfl) (by kernel_rfl) (by kernel_rfl) (fun _ _ _ h => h) (Or.inl ⟨by rfl, ?_⟩) R4.out.bel ?_
                  · intro w' hS
                    clear hS
                    go_simp
                  refine wpAnyH_ready (rs := [11]) (by kernel_rfl) (by simp) ?_
                  refine AllReadyH.cons rfl (fun K hK => ?_) AllReadyH.nil
                  go_simp
                  have R5 := hideP (R4.out.var)
                  refine hK.out _ _ R5.out.bel (fun _ => ?_)
                  clear hK R4
                  generalize wn4.alloc (.cells #[.slice none 0 0, .slice none 0 0] 27) = wn5 at *
                  generalize wn4.heap.size = P at *
                  refine wpAnyH_ready (rs := [12]) (by kernel_rfl) (by simp) ?_
                  refine AllReadyH.cons rfl (fun K hK => ?_) AllReadyH.nil
                  have MK := hideP (R5.out.done M.out)
                  have hp := (R5.out.p _ rfl).2
                  have hA1 := (Array.getElem?_eq_some_iff.1 hp).1
                  have cA0 : wn5.cell? ⟨P, 0, none⟩ = some (.slice none 0 0) := cell_blk hp
                  have cA1 : wn5.cell? ⟨P, 1, none⟩ = some (.slice none 0 0) := cell_blk hp
                  have fA : ∀ o, wn5.frozen? ⟨P, o, none⟩ = false := fun o => frozen_blk hp
                  clear hp
                  go_simp
                  refine hK.out _ _ MK.out.1 (fun _ => ?_)
                  clear hK
                  refine wpAnyH_ready (rs := [13]) (by kernel_rfl) (by simp) ?_
                  refine AllReadyH.cons rfl (fun K hK => ?_) AllReadyH.nil
                  go_simp
                  refine hK.out _ _ MK.out.1 (fun _ => ?_)
                  clear hK
                  refine wpAnyH_done (by kernel_rfl) ?_ _
                  clear cA0 cA1 fA
                  go_wp2_with fail
                  go_meet
                  case rel => exact ⟨_, _, _, _, _, _, _, _, rfl, rfl, MK⟩
                · go_simp
                  have R4 := hideP (R3.out.var)
                  refine hK.out _ _ R4.out.bel (fun _ => ?_)
                  clear hK R3
                  generalize wn3.alloc (.cells #[.slice none 0 0, .slice none 0 0] 27) = wn4 at *
                  generalize wn3.heap.size = P at *
                  refine wpAnyH_ready (rs := [7]) (by kernel_rfl) (by simp) ?_
                  refine AllReadyH.cons rfl (fun K hK => ?_) AllReadyH.nil
                  go_simp
                  refine (l2Made_two wn4.heap.size _ _ _ _ _ sh _ (by omega) (own_of_any (R4.out.c _ _ rfl)).rd (Nat.le_refl _)).mono ?_
                  rintro e wn5 ⟨q0, n0, c0, q1, n1, c1, cc, rfl, hb, hor⟩
                  have R5 := hideP (R4.out.keep hb)
                  have M := hideP hor
                  clear hb hor
                  refine hK.out _ _ R5.out.bel (fun _ => ?_)
                  clear hK R4
                  refine wpAnyH_take (i := 8) (v := .tuple #[.agg #[.slice q0 n0 c0, .slice q1 n1 c1], .int .i64 cc]) rfl (by kernel_rfl) (by kernel_rfl) (by kernel_rfl) (fun _ _ _ h => h) (Or.inl ⟨by rfl, ?_⟩) R5.out.bel ?_
                  · intro w' hS
                    clear hS
                    go_simp
                  refine wpAnyH_take (i := 9) (v := .agg #[.slice q0 n0 c0, .slice q1 n1 c1]) rfl (by kernel_rfl) (by kernel_rfl) (by kernel_rfl) (fun _ _ _ h => h) (Or.inl ⟨by rfl, ?_⟩) R5.out.bel ?_
                  · intro w' hS
                    clear hS
                    go_simp
                  refine wpAnyH_take (i := 10) (v := .int .i64 cc) rfl (by kernel_rfl) (by kernel_rfl) (by kernel_rfl) (fun _ _ _ h => h) (Or.inl ⟨by rfl, ?_⟩) R5.out.bel ?_
                  · intro w' hS
                    clear hS
                    go_simp
                  refine wpAnyH_ready (rs := [12]) (by kernel_rfl) (by simp) ?_
                  refine AllReadyH.cons rfl (fun K hK => ?_) AllReadyH.nil
                  have MK := hideP (R5.out.done M.out)
                  have hp := (R5.out.p _ rfl).2
                  have hA1 := (Array.getElem?_eq_some_iff.1 hp).1
                  have cA0 : wn5.cell? ⟨P, 0, none⟩ = some (.slice none 0 0) := cell_blk hp
                  have cA1 : wn5.cell? ⟨P, 1, none⟩ = some (.slice none 0 0) := cell_blk hp
                  have fA : ∀ o, wn5.frozen? ⟨P, o, none⟩ = false := fun o => frozen_blk hp
                  clear hp
                  go_simp
                  refine hK.out _ _ MK.out.1 (fun _ => ?_)
                  clear hK
                  refine wpAnyH_ready (rs := [13]) (by kernel_rfl) (by simp) ?_
                  refine AllReadyH.cons rfl (fun K hK => ?_) AllReadyH.nil
                  go_simp
                  refine hK.out _ _ MK.out.1 (fun _ => ?_)
                  clear hK
                  refine wpAnyH_done (by kernel_rfl) ?_ _
                  clear cA0 cA1 fA
                  go_wp2_with fail
                  go_meet
                  case rel => exact ⟨_, _, _, _, _, _, _, _, rfl, rfl, MK⟩
              · go_simp
                have R3 := hideP (R2.out.var)
                refine hK.out _ _ R3.out.bel (fun _ => ?_)
                clear hK R2
                generalize wn2.alloc (.cells #[.slice none 0 0, .slice none 0 0] 27) = wn3 at *
                generalize wn2.heap.size = P at *
                refine wpAnyH_ready (rs := [5]) (by kernel_rfl) (by simp) ?_
                refine AllReadyH.cons rfl (fun K hK => ?_) AllReadyH.nil
                refine step_append_at (base := w2.heap.size) _ rfl _ _ rfl _ _ rfl rfl sa.length _ _ (R3.out.c _ _ rfl) (RV.out _ R3.out.bel).2 (by omega) R3.out.bel.size ?_
                intro v' wn4 ho' hg' hat'
                have R4 := hideP (R3.out.app HSH.out ho' hg' hat')
                obtain ⟨xa, ya, ea⟩ := owns_form (R4.out.c _ _ rfl)
                subst ea
                clear ho' hg' hat'
                refine hK.out _ _ R4.out.bel (fun _ => ?_)
                clear hK R3
                refine wpAnyH_ready (rs := [7]) (by kernel_rfl) (by simp) ?_
                refine AllReadyH.cons rfl (fun K hK => ?_) AllReadyH.nil
                go_simp
                refine (l2Made_two wn4.heap.size _ _ _ _ _ sh _ (by omega) (own_of_any (R4.out.c _ _ rfl)).rd (Nat.le_refl _)).mono ?_
                rintro e wn5 ⟨q0, n0, c0, q1, n1, c1, cc, rfl, hb, hor⟩
                have R5 := hideP (R4.out.keep hb)
                have M := hideP hor
                clear hb hor
                refine hK.out _ _ R5.out.bel (fun _ => ?_)
                clear hK R4
                refine wpAnyH_take (i := 8) (v := .tuple #[.agg #[.slice q0 n0 c0, .slice q1 n1 c1], .int .i64 cc]) rfl (by kernel_rfl) (by kernel_rfl) (by kernel_rfl) (fun _ _ _ h => h) (Or.inl ⟨by rfl, ?_⟩) R5.out.bel ?_
                · intro w' hS
                  clear hS
                  go_simp
                refine wpAnyH_take (i := 9) (v := .agg #[.slice q0 n0 c0, .slice q1 n1 c1]) rfl (by kernel_rfl) (by kernel_rfl) (by kernel_rfl) (fun _ _ _ h => h) (Or.inl ⟨by rfl, ?_⟩) R5.out.bel ?_
                · intro w' hS
                  clear hS
                  go_simp
                refine wpAnyH_take (i := 10) (v := .int .i64 cc) rfl (by kernel_rfl) (by kernel_rfl) (by kernel_rfl) (fun _ _ _ h => h) (Or.inl ⟨by rfl, ?_⟩) R5.out.bel ?_
                · intro w' hS
                  clear hS
                  go_simp
                refine wpAnyH_ready (rs := [12]) (by kernel_rfl) (by simp) ?_
                refine AllReadyH.cons rfl (fun K hK => ?_) AllReadyH.nil
                have MK := hideP (R5.out.done M.out)
                have hp := (R5.out.p _ rfl).2
                have hA1 := (Array.getElem?_eq_some_iff.1 hp).1
                have cA0 : wn5.cell? ⟨P, 0, none⟩ = some (.slice none 0 0) := cell_blk hp
                have cA1 : wn5.cell? ⟨P, 1, none⟩ = some (.slice none 0 0) := cell_blk hp
                have fA : ∀ o, wn5.frozen? ⟨P, o, none⟩ = false := fun o => frozen_blk hp
                clear hp
                go_simp
                refine hK.out _ _ MK.out.1 (fun _ => ?_)
                clear hK
                refine wpAnyH_ready (rs := [13]) (by kernel_rfl) (by simp) ?_
                refine AllReadyH.cons rfl (fun K hK => ?_) AllReadyH.nil
                go_simp
                refine hK.out _ _ MK.out.1 (fun _ => ?_)
                clear hK
                refine wpAnyH_done (by kernel_rfl) ?_ _
                clear cA0 cA1 fA
                go_wp2_with fail
                go_meet
                case rel => exact ⟨_, _, _, _, _, _, _, _, rfl, rfl, MK⟩
            · go_simp
              have R2 := hideP (R1.out.var)
              refine hK.out _ _ R2.out.bel (fun _ => ?_)
              clear hK R1
              generalize wn1.alloc (.cells #[.slice none 0 0, .slice none 0 0] 27) = wn2 at *
              generalize wn1.heap.size = P at *
              refine wpAnyH_ready (rs := [2]) (by kernel_rfl) (by simp) ?_
              refine AllReadyH.cons rfl (fun K hK => ?_) AllReadyH.nil
              go_simp
              refine (l2Copy_any _ sa _ (by omega) (RV.out _ R2.out.bel).1).mono ?_
              rintro e wn3 ⟨v2, rfl, ho2, hb2⟩
              have R3 := hideP (R2.out.copy ho2 hb2)
              obtain ⟨xc, yc, ec⟩ := owns_form ho2
              subst ec
              clear ho2 hb2
              refine hK.out _ _ R3.out.bel (fun _ => ?_)
              clear hK R2
              refine wpAnyH_ready (rs := [5]) (by kernel_rfl) (by simp) ?_
              refine AllReadyH.cons rfl (fun K hK => ?_) AllReadyH.nil
              refine step_append_at (base := w2.heap.size) _ rfl _ _ rfl _ _ rfl rfl sa.length _ _ (R3.out.c _ _ rfl) (RV.out _ R3.out.bel).2 (by omega) R3.out.bel.size ?_
              intro v' wn4 ho' hg' hat'
              have R4 := hideP (R3.out.app HSH.out ho' hg' hat')
              obtain ⟨xa, ya, ea⟩ := owns_form (R4.out.c _ _ rfl)
              subst ea
              clear ho' hg' hat'
              refine hK.out _ _ R4.out.bel (fun _ => ?_)
              clear hK R3
              refine wpAnyH_ready (rs := [7]) (by kernel_rfl) (by simp) ?_
              refine AllReadyH.cons rfl (fun K hK => ?_) AllReadyH.nil
              go_simp
              refine (l2Made_two wn4.heap.size _ _ _ _ _ sh _ (by omega) (own_of_any (R4.out.c _ _ rfl)).rd (Nat.le_refl _)).mono ?_
              rintro e wn5 ⟨q0, n0, c0, q1, n1, c1, cc, rfl, hb, hor⟩
              have R5 := hideP (R4.out.keep hb)
              have M := hideP hor
              clear hb hor
              refine hK.out _ _ R5.out.bel (fun _ => ?_)
              clear hK R4
              refine wpAnyH_take (i := 8) (v := .tuple #[.agg #[.slice q0 n0 c0, .slice q1 n1 c1], .int .i64 cc]) rfl (by kernel_rfl) (by kernel_rfl) (by kernel_rfl) (fun _ _ _ h => h) (Or.inl ⟨by rfl, ?_⟩) R5.out.bel ?_
              · intro w' hS
                clear hS
                go_simp
              refine wpAnyH_take (i := 9) (v := .agg #[.slice q0 n0 c0, .slice q1 n1 c1]) rfl (by kernel_rfl) (by kernel_rfl) (by kernel_rfl) (fun _ _ _ h => h) (Or.inl ⟨by rfl, ?_⟩) R5.out.bel ?_
              · intro w' hS
                clear hS
                go_simp
              refine wpAnyH_take (i := 10) (v := .int .i64 cc) rfl (by kernel_rfl) (by kernel_rfl) (by kernel_rfl) (fun _ _ _ h => h) (Or.inl ⟨by rfl, ?_⟩) R5.out.bel ?_
              · intro w' hS
                clear hS
                go_simp
              refine wpAnyH_ready (rs := [12]) (by kernel_rfl) (by simp) ?_
              refine AllReadyH.cons rfl (fun K hK => ?_) AllReadyH.nil
              have MK := hideP (R5.out.done M.out)
              have hp := (R5.out.p _ rfl).2
              have hA1 := (Array.getElem?_eq_some_iff.1 hp).1
              have cA0 : wn5.cell? ⟨P, 0, none⟩ = some (.slice none 0 0) := cell_blk hp
              have cA1 : wn5.cell? ⟨P, 1, none⟩ = some (.slice none 0 0) := cell_blk hp
              have fA : ∀ o, wn5.frozen? ⟨P, o, none⟩ = false := fun o => frozen_blk hp
              clear hp
              go_simp
              refine hK.out _ _ MK.out.1 (fun _ => ?_)
              clear hK
              refine wpAnyH_ready (rs := [13]) (by kernel_rfl) (by simp) ?_
              refine AllReadyH.cons rfl (fun K hK => ?_) AllReadyH.nil
              go_simp
              refine hK.out _ _ MK.out.1 (fun _ => ?_)
              clear hK
              refine wpAnyH_done (by kernel_rfl) ?_ _
              clear cA0 cA1 fA
              go_wp2_with fail
              go_meet
              case rel => exact ⟨_, _, _, _, _, _, _, _, rfl, rfl, MK⟩
          · go_simp
            have R1 := hideP (R0.out.var)
            refine hK.out _ _ R1.out.bel (fun _ => ?_)
            clear hK R0
            generalize wn0.alloc (.cells #[.slice none 0 0, .slice none 0 0] 27) = wn1 at *
            generalize wn0.heap.size = P at *
            refine wpAnyH_ready (rs := [2, 6]) (by kernel_rfl) (by simp) ?_
            refine AllReadyH.cons rfl (fun K hK => ?_) (AllReadyH.cons rfl (fun K hK => ?_) AllReadyH.nil)
            · go_simp
              refine (l2Copy_any _ sa _ (by omega) (RV.out _ R1.out.bel).1).mono ?_
              rintro e wn2 ⟨v2, rfl, ho2, hb2⟩
              have R2 := hideP (R1.out.copy ho2 hb2)
              obtain ⟨xc, yc, ec⟩ := owns_form ho2
              subst ec
              clear ho2 hb2
              refine hK.out _ _ R2.out.bel (fun _ => ?_)
              clear hK R1
              refine wpAnyH_ready (rs := [5, 6]) (by kernel_rfl) (by simp) ?_
              refine AllReadyH.cons rfl (fun K hK => ?_) (AllReadyH.cons rfl (fun K hK => ?_) AllReadyH.nil)
              · refine step_append_at (base := w2.heap.size) _ rfl _ _ rfl _ _ rfl rfl sa.length _ _ (R2.out.c _ _ rfl) (RV.out _ R2.out.bel).2 (by omega) R2.out.bel.size ?_
                intro v' wn3 ho' hg' hat'
                have R3 := hideP (R2.out.app HSH.out ho' hg' hat')
                obtain ⟨xa, ya, ea⟩ := owns_form (R3.out.c _ _ rfl)
                subst ea
                clear ho' hg' hat'
                refine hK.out _ _ R3.out.bel (fun _ => ?_)
                clear hK R2
                refine wpAnyH_ready (rs := [6]) (by kernel_rfl) (by simp) ?_
                refine AllReadyH.cons rfl (fun K hK => ?_) AllReadyH.nil
                go_simp
                have R4 := hideP (R3.out.lit)
                refine hK.out _ _ R4.out.bel (fun _ => ?_)
                clear hK R3
                generalize wn3.alloc (.cells #[] 3) = wn4 at *
                generalize wn3.heap.size = gb at *
                refine wpAnyH_ready (rs := [7]) (by kernel_rfl) (by simp) ?_
                refine AllReadyH.cons rfl (fun K hK => ?_) AllReadyH.nil
                go_simp
                refine (l2Made_two wn4.heap.size _ _ _ _ _ sh _ (by omega) (own_of_any (R4.out.c _ _ rfl)).rd (Nat.le_refl _)).mono ?_
                rintro e wn5 ⟨q0, n0, c0, q1, n1, c1, cc, rfl, hb, hor⟩
                have R5 := hideP (R4.out.keep hb)
                have M := hideP hor
                clear hb hor
                refine hK.out _ _ R5.out.bel (fun _ => ?_)
                clear hK R4
                refine wpAnyH_take (i := 8) (v := .tuple #[.agg #[.slice q0 n0 c0, .slice q1 n1 c1], .int .i64 cc]) rfl (by kernel_rfl) (by kernel_rfl) (by kernel_rfl) (fun _ _ _ h => h) (Or.inl ⟨by rfl, ?_⟩) R5.out.bel ?_
                · intro w' hS
                  clear hS
                  go_simp
                refine wpAnyH_take (i := 9) (v := .agg #[.slice q0 n0 c0, .slice q1 n1 c1]) rfl (by kernel_rfl) (by kernel_rfl) (by kernel_rfl) (fun _ _ _ h => h) (Or.inl ⟨by rfl, ?_⟩) R5.out.bel ?_
                · intro w' hS
                  clear hS
                  go_simp
                refine wpAnyH_take (i := 10) (v := .int .i64 cc) rfl (by kernel_rfl) (by kernel_rfl) (by kernel_rfl) (fun _ _ _ h => h) (Or.inl ⟨by rfl, ?_⟩) R5.out.bel ?_
                · intro w' hS
                  clear hS
                  go_simp
                refine wpAnyH_ready (rs := [12]) (by kernel_rfl) (by simp) ?_
                refine AllReadyH.cons rfl (fun K hK => ?_) AllReadyH.nil
                have MK := hideP (R5.out.done M.out)
                have hp := (R5.out.p _ rfl).2
                have hA1 := (Array.getElem?_eq_some_iff.1 hp).1
                have cA0 : wn5.cell? ⟨P, 0, none⟩ = some (.slice none 0 0) := cell_blk hp
                have cA1 : wn5.cell? ⟨P, 1, none⟩ = some (.slice none 0 0) := cell_blk hp
                have fA : ∀ o, wn5.frozen? ⟨P, o, none⟩ = false := fun o => frozen_blk hp
                clear hp
                go_simp
                refine hK.out _ _ MK.out.1 (fun _ => ?_)
                clear hK
                refine wpAnyH_ready (rs := [13]) (by kernel_rfl) (by simp) ?_
                refine AllReadyH.cons rfl (fun K hK => ?_) AllReadyH.nil
                go_simp
                refine hK.out _ _ MK.out.1 (fun _ => ?_)
                clear hK
                refine wpAnyH_done (by kernel_rfl) ?_ _
                clear cA0 cA1 fA
                go_wp2_with fail
                go_meet
                case rel => exact ⟨_, _, _, _, _, _, _, _, rfl, rfl, MK⟩
              · go_simp
                have R3 := hideP (R2.out.lit)
                refine hK.out _ _ R3.out.bel (fun _ => ?_)
                clear hK R2
                generalize wn2.alloc (.cells #[] 3) = wn3 at *
                generalize wn2.heap.size = gb at *
                refine wpAnyH_ready (rs := [5]) (by kernel_rfl) (by simp) ?_
                refine AllReadyH.cons rfl (fun K hK => ?_) AllReadyH.nil
                refine step_append_at (base := w2.heap.size) _ rfl _ _ rfl _ _ rfl rfl sa.length _ _ (R3.out.c _ _ rfl) (RV.out _ R3.out.bel).2 (by omega) R3.out.bel.size ?_
                intro v' wn4 ho' hg' hat'
                have R4 := hideP (R3.out.app HSH.out ho' hg' hat')
                obtain ⟨xa, ya, ea⟩ := owns_form (R4.out.c _ _ rfl)
                subst ea
                clear ho' hg' hat'
                refine hK.out _ _ R4.out.bel (fun _ => ?_)
                clear hK R3
                refine wpAnyH_ready (rs := [7]) (by kernel_rfl) (by simp) ?_
                refine AllReadyH.cons rfl (fun K hK => ?_) AllReadyH.nil
                go_simp
                refine (l2Made_two wn4.heap.size _ _ _ _ _ sh _ (by omega) (own_of_any (R4.out.c _ _ rfl)).rd (Nat.le_refl _)).mono ?_
                rintro e wn5 ⟨q0, n0, c0, q1, n1, c1, cc, rfl, hb, hor⟩
                have R5 := hideP (R4.out.keep hb)
                have M := hideP hor
                clear hb hor
                refine hK.out _ _ R5.out.bel (fun _ => ?_)
                clear hK R4
                refine wpAnyH_take (i := 8) (v := .tuple #[.agg #[.slice q0 n0 c0, .slice q1 n1 c1], .int .i64 cc]) rfl (by kernel_rfl) (by kernel_rfl) (by kernel_rfl) (fun _ _ _ h => h) (Or.inl ⟨by rfl, ?_⟩) R5.out.bel ?_
                · intro w' hS
                  clear hS
                  go_simp
                refine wpAnyH_take (i := 9) (v := .agg #[.slice q0 n0 c0, .slice q1 n1 c1]) rfl (by kernel_rfl) (by kernel_rfl) (by kernel_rfl) (fun _ _ _ h => h) (Or.inl ⟨by rfl, ?_⟩) R5.out.bel ?_
                · intro w' hS
                  clear hS
                  go_simp
                refine wpAnyH_take (i := 10) (v := .int .i64 cc) rfl (by kernel_rfl) (by kernel_rfl) (by kernel_rfl) (fun _ _ _ h => h) (Or.inl ⟨by rfl, ?_⟩) R5.out.bel ?_
                · intro w' hS
                  clear hS
                  go_simp
                refine wpAnyH_ready (rs := [12]) (by kernel_rfl) (by simp) ?_
                refine AllReadyH.cons rfl (fun K hK => ?_) AllReadyH.nil
                have MK := hideP (R5.out.done M.out)
                have hp := (R5.out.p _ rfl).2
                have hA1 := (Array.getElem?_eq_some_iff.1 hp).1
                have cA0 : wn5.cell? ⟨P, 0, none⟩ = some (.slice none 0 0) := cell_blk hp
                have cA1 : wn5.cell? ⟨P, 1, none⟩ = some (.slice none 0 0) := cell_blk hp
                have fA : ∀ o, wn5.frozen? ⟨P, o, none⟩ = false := fun o => frozen_blk hp
                clear hp
                go_simp
                refine hK.out _ _ MK.out.1 (fun _ => ?_)
                clear hK
                refine wpAnyH_ready (rs := [13]) (by kernel_rfl) (by simp) ?_
                refine AllReadyH.cons rfl (fun K hK => ?_) AllReadyH.nil
                go_simp
                refine hK.out _ _ MK.out.1 (fun _ => ?_)
                clear hK
                refine wpAnyH_done (by kernel_rfl) ?_ _
                clear cA0 cA1 fA
                go_wp2_with fail
                go_meet
                case rel => exact ⟨_, _, _, _, _, _, _, _, rfl, rfl, MK⟩
            · go_simp
              have R2 := hideP (R1.out.lit)
              refine hK.out _ _ R2.out.bel (fun _ => ?_)
              clear hK R1
              generalize wn1.alloc (.cells #[] 3) = wn2 at *
              generalize wn1.heap.size = gb at *
              refine wpAnyH_ready (rs := [2]) (by kernel_rfl) (by simp) ?_
              refine AllReadyH.cons rfl (fun K hK => ?_) AllReadyH.nil
              go_simp
              refine (l2Copy_any _ sa _ (by omega) (RV.out _ R2.out.bel).1).mono ?_
              rintro e wn3 ⟨v2, rfl, ho2, hb2⟩
              have R3 := hideP (R2.out.copy ho2 hb2)
              obtain ⟨xc, yc, ec⟩ := owns_form ho2
              subst ec
              clear ho2 hb2
              refine hK.out _ _ R3.out.bel (fun _ => ?_)
              clear hK R2
              refine wpAnyH_ready (rs := [5]) (by kernel_rfl) (by simp) ?_
              refine AllReadyH.cons rfl (fun K hK => ?_) AllReadyH.nil
              refine step_append_at (base := w2.heap.size) _ rfl _ _ rfl _ _ rfl rfl sa.length _ _ (R3.out.c _ _ rfl) (RV.out _ R3.out.bel).2 (by omega) R3.out.bel.size ?_
              intro v' wn4 ho' hg' hat'
              have R4 := hideP (R3.out.app HSH.out ho' hg' hat')
              obtain ⟨xa, ya, ea⟩ := owns_form (R4.out.c _ _ rfl)
              subst ea
              clear ho' hg' hat'
              refine hK.out _ _ R4.out.bel (fun _ => ?_)
              clear hK R3
              refine wpAnyH_ready (rs := [7]) (by kernel_rfl) (by simp) ?_
              refine AllReadyH.cons rfl (fun K hK => ?_) AllReadyH.nil
              go_simp
              refine (l2Made_two wn4.heap.size _ _ _ _ _ sh _ (by omega) (own_of_any (R4.out.c _ _ rfl)).rd (Nat.le_refl _)).mono ?_
              rintro e wn5 ⟨q0, n0, c0, q1, n1, c1, cc, rfl, hb, hor⟩
              have R5 := hideP (R4.out.keep hb)
              have M := hideP hor
              clear hb hor
              refine hK.out _ _ R5.out.bel (fun _ => ?_)
              clear hK R4
              refine wpAnyH_take (i := 8) (v := .tuple #[.agg #[.slice q0 n0 c0, .slice q1 n1 c1], .int .i64 cc]) rfl (by kernel_rfl) (by kernel_rfl) (by kernel_rfl) (fun _ _ _ h => h) (Or.inl ⟨by rfl, ?_⟩) R5.out.bel ?_
              · intro w' hS
                clear hS
                go_simp
              refine wpAnyH_take (i := 9) (v := .agg #[.slice q0 n0 c0, .slice q1 n1 c1]) rfl (by kernel_rfl) (by kernel_rfl) (by kernel_rfl) (fun _ _ _ h => h) (Or.inl ⟨by rfl, ?_⟩) R5.out.bel ?_
              · intro w' hS
                clear hS
                go_simp
              refine wpAnyH_take (i := 10) (v := .int .i64 cc) rfl (by kernel_rfl) (by kernel_rfl) (by kernel_rfl) (fun _ _ _ h => h) (Or.inl ⟨by rfl, ?_⟩) R5.out.bel ?_
              · intro w' hS
                clear hS
                go_simp
              refine wpAnyH_ready (rs := [12]) (by kernel_rfl) (by simp) ?_
              refine AllReadyH.cons rfl (fun K hK => ?_) AllReadyH.nil
              have MK := hideP (R5.out.done M.out)
              have hp := (R5.out.p _ rfl).2
              have hA1 := (Array.getElem?_eq_some_iff.1 hp).1
              have cA0 : wn5.cell? ⟨P, 0, none⟩ = some (.slice none 0 0) := cell_blk hp
              have cA1 : wn5.cell? ⟨P, 1, none⟩ = some (.slice none 0 0) := cell_blk hp
              have fA : ∀ o, wn5.frozen? ⟨P, o, none⟩ = false := fun o => frozen_blk hp
              clear hp
              go_simp
              refine hK.out _ _ MK.out.1 (fun _ => ?_)
              clear hK
              refine wpAnyH_ready (rs := [13]) (by kernel_rfl) (by simp) ?_
              refine AllReadyH.cons rfl (fun K hK => ?_) AllReadyH.nil
              go_simp
              refine hK.out _ _ MK.out.1 (fun _ => ?_)
              clear hK
              refine wpAnyH_done (by kernel_rfl) ?_ _
              clear cA0 cA1 fA
              go_wp2_with fail
              go_meet
              case rel => exact ⟨_, _, _, _, _, _, _, _, rfl, rfl, MK⟩
        case rest =>
          obtain ⟨P, cc, q0, n0, c0, q1, n1, c1, rfl, rfl, MK⟩ := hcut
          rename World => wx
          clear RV PL H0 H2
          have hm := MK.out.2
          rcases hm with ⟨hf, rfl, hL⟩ | ⟨hf, rfl, hle, hP⟩
          · have HL := hideP hL
            have e := HE.out
            unfold Pl.outerM at e
            rw [HSH.out, if_pos hf] at e
            generalize hC : Pl.firstG (Pl.pairF F) (Pl.pairs da db) = C at e
            have PC := hideP hC
            have PE := hideP e
            clear hC e HE HSH hf MK hL
            generalize hn : da.length = n at *
            have Hn : Hid (da.length = n) := hn
            generalize hm : db.length = m at *
            have Hm : Hid (db.length = m) := hm
            clear hn hm
            go_wp2_with fail
            go_loopw [10, 11, 12, 13] (fun i _ _ _ wr => ∃ k : Nat, k ≤ n ∧ i = .int .i64 k ∧ Hid (∀ p ∈ Pl.pairs (da.take k) db, (Pl.pairF F p).2 = 0) ∧ ∃ nv, Hid (Lp w2 sh P (.slice q0 n0 c0) nv ((Pl.pairs (da.take k) db).map (fun p => (Pl.pairF F p).1)) wr)) (fun i _ _ _ _ => n - (intOf i).toNat)
            case atStart =>
              refine ⟨0, Nat.zero_le _, rfl, by intro x hx; rw [Pl.upP_zero] at hx; simp at hx, .slice q1 n1 c1, ?_⟩
              show Lp _ _ _ _ _ _ _
              rw [Pl.upP_zero]
              exact HL.out
            case round =>
              clear HL
              obtain ⟨k, hk, rfl, hz, nv, hL⟩ := hrel
              have WR := hideP (W2.out.keep hL.out.bel)
              have q1 := WR.out.2.2.1.2.1
              by_cases hlt : k < n
              · have hlen : k < da.length := by rw [Hn.out]; exact hlt
                have hlt' : (k : Int) < (n : Int) := by omega
                go_wp2_with fail
                rename World => wk
                clear q1 WR
                go_loopw [11, 12, 13] (fun j _ _ wq => ∃ l : Nat, l ≤ m ∧ j = .int .i64 l ∧ Hid (∀ p ∈ Pl.upP da db k l, (Pl.pairF F p).2 = 0) ∧ ∃ nv, Hid (Lp w2 sh P (.slice q0 n0 c0) nv ((Pl.upP da db k l).map (fun p => (Pl.pairF F p).1)) wq)) (fun j _ _ _ => m - (intOf j).toNat)
                case atStart =>
                  refine ⟨0, Nat.zero_le _, rfl, ?_, nv, ?_⟩
                  · intro p hp
                    rw [Pl.upP_start] at hp
                    exact hz.out p hp
                  · show Lp _ _ _ _ _ _ _
                    rw [Pl.upP_start]
                    exact hL.out
                case round =>
                  clear hz hL
                  obtain ⟨l, hl, rfl, hz, nv, hL⟩ := hrel
                  have WR := hideP (W2.out.keep hL.out.bel)
                  have HBW := hideP WR.out.1
                  have q3 := WR.out.2.2.1.2.2.2
                  by_cases hlt2 : l < m
                  · have q1 := WR.out.2.2.1.2.1
                    have hlen' : l < db.length := by rw [Hm.out]; exact hlt2
                    have hao1 := P1.out.1 (by omega)
                    have hao3 := P3.out.1 (by omega)
                    have hck1 : wr.cell? ⟨b1, o1 + k, none⟩ = some (.int .i64 (da.getD k 0)) := (HBW.out.cell (p := ⟨b1, o1 + k, none⟩) (P1.out.2.1 (by omega))).trans (P1.out.2.2 k (by omega))
                    have hck3 : wr.cell? ⟨b3, o3 + l, none⟩ = some (.int .i64 (db.getD l 0)) := (HBW.out.cell (p := ⟨b3, o3 + l, none⟩) (P3.out.2.1 (by omega))).trans (P3.out.2.2 l (by omega))
                    clear P1 P3 HBW
                    subst hao1
                    subst hao3
                    have X := OX.out (da.getD k 0) (by
                      have : da.getD k 0 = da[k] := by simp [List.getD, hlen]
                      rw [this]; exact List.getElem_mem hlen)
                    have Y := OY.out (db.getD l 0) (by
                      have : db.getD l 0 = db[l] := by simp [List.getD, hlen']
                      rw [this]; exact List.getElem_mem hlen')
                    have T : Hid (Pl.upP da db k (l + 1) = Pl.upP da db k l ++ [(da.getD k 0, db.getD l 0)]) := Pl.upP_snoc da db k l hlen'
                    have FA : Hid (¬ (F (da.getD k 0) (db.getD l 0)).2 = 0 → Pl.firstG (Pl.pairF F) (Pl.pairs da db) = (F (da.getD k 0) (db.getD l 0)).2) := Pl.pairs_first F da db k l hlen hlen' hz.out
                    have UB : Hid ((Pl.upP da db k l).length + 1 ≤ 16777216) := by
                      show _ ≤ _
                      rw [Pl.upP_len da db k l (by omega) (by omega)]
                      have := Nat.mul_le_mul (show k ≤ 1000 by omega) (show db.length ≤ 1000 by rw [Hm.out]; omega)
                      omega
                    generalize da.getD k 0 = x at *
                    generalize db.getD l 0 = y at *
                    have L : Hid (∀ w, Calls Try.prog 79 #[.int .i64 op, .int .i64 x, .int .i64 y] w fun e w' => e = .returned (.tuple #[.int .i64 (F x y).1, .int .i64 (F x y).2]) ∧ w' = w) := fun w => HF.out x y w X.1 X.2 Y.1 Y.2
                    clear X Y hlen'
                    have hltl : (l : Int) < (m : Int) := by omega
                    have QL : Hid (∀ q, Lp w2 sh P (.slice q0 n0 c0) nv ((Pl.upP da db k l).map (fun p => (Pl.pairF F p).1)) (wr.drewN q)) := fun q => hL.out.quiet (below_drewN (Below.refl _ _) q)
                    by_cases hr : (F x y).2 = 0
                    · have Z : Hid (∀ p ∈ Pl.upP da db k (l + 1), (Pl.pairF F p).2 = 0) := by
                        intro p hp
                        rw [T.out] at hp
                        simp at hp
                        rcases hp with hp | rfl
                        · exact hz.out p hp
                        · exact hr
                      rw [hr] at L
                      have V : Hid ((Pl.upP da db k (l + 1)).map (fun p => (Pl.pairF F p).1) = (Pl.upP da db k l).map (fun p => (Pl.pairF F p).1) ++ [(F x y).1]) := by show _ = _; rw [T.out]; simp [Pl.pairF]
                      have UZ : Hid (((Pl.upP da db k l).map (fun p => (Pl.pairF F p).1)).length + 1 ≤ 16777216) := by show _ ≤ _; rw [List.length_map]; exact UB.out
                      clear hr FA UB
                      generalize (F x y).1 = r at *
                      generalize (Pl.upP da db k l).map (fun p => (Pl.pairF F p).1) = zs at *
                      go_wp2_with fail
                      go_quiet ((go_at_call 79; exact Calls.quiet_of_same (L.out _)))
                      have LQ := hideP (QL.out nq)
                      clear QL hck1 hck3 q1 q3 WR hL
                      generalize wr.drewN nq = wq at *
                      obtain ⟨xo, yo, eo⟩ := owns_form LQ.out.d
                      subst eo
                      have hsz : w2.heap.size ≤ wq.heap.size := LQ.out.bel.size
                      have hPq : P < wq.heap.size := (Array.getElem?_eq_some_iff.1 LQ.out.blk).1
                      have p1 : wq.cell? ⟨P, 1, none⟩ = some (.slice xo zs.length yo) := cell_blk LQ.out.blk
                      go_wp2_with (at_builtin; refine wpList_append_one_at (base := w2.heap.size) _ _ _ rfl _ _ rfl _ rfl rfl _ _ LQ.out.d UZ.out hsz ?_)
                      intro v' w9 ho' hg hat
                      have ho9 : w9.ownsRow w2.heap.size 3 1 v' (zs.length + 1) ((zs ++ [r]).map (Value.int .i64)) := by
                        rw [List.map_append]
                        exact ho'
                      have OS := hideP (LQ.out.step hg ho9 hat)
                      obtain ⟨x9, y9, e9⟩ := owns_form ho9
                      subst e9
                      have hs9 : P < w9.heap.size := (Array.getElem?_eq_some_iff.1 OS.out.1).1
                      have p9 : w9.cell? ⟨P, 1, none⟩ = some (.slice xo zs.length yo) := cell_blk OS.out.1
                      have f9 : w9.frozen? ⟨P, 1, none⟩ = false := frozen_blk OS.out.1
                      clear ho' ho9 hg hat p1
                      go_wp2_with fail
                      go_roundw
                      case rel => exact ⟨l + 1, by omega, by go_num, Z, _, by show Lp _ _ _ _ _ _ _; rw [V.out]; exact OS.out.2⟩
                      case measure => simp [intOf]; omega
                    · have EC := FA.out hr
                      rw [PC.out] at EC
                      have e := PE.out
                      rw [if_neg (by rw [EC]; exact hr)] at e
                      simp only [Prod.mk.injEq] at e
                      obtain ⟨rfl, rfl, rfl⟩ := e
                      have HEC := hideP EC
                      have hne : ((F x y).2 != 0) = true := by rw [bne_iff_ne]; exact hr
                      clear FA EC T PE PC hr UB
                      generalize (F x y).1 = r at *
                      generalize (F x y).2 = cc at *
                      go_wp2_with fail
                      go_quiet ((go_at_call 79; exact Calls.quiet_of_same (L.out _)))
                      have WQ := hideP (W2.out.keep (QL.out nq).bel)
                      clear QL hck1 hck3 q1 q3 WR hL
                      generalize wr.drewN nq = wq at *
                      have hsq := WQ.out.2.1
                      have r0 := WQ.out.2.2.2.1.1
                      have r1 := WQ.out.2.2.2.1.2.1
                      have f2 := WQ.out.2.2.2.1.2.2
                      go_wp2_with fail
                      refine bodyPost_ret (v := .tuple #[.agg #[.slice none 0 0, .slice none 0 0], .int .i64 cc]) (by simp [results, Try.results30, go_sem, r0, r1]) rfl ?_
                      show FPost _ _ _ _ _ _
                      rw [HEC.out]
                      exact ⟨(WQ.out.1.setCell (by simp; omega) _).setCell (by simp; omega) _, _, _, rfl, Own.nil _ _, Own.nil _ _, .inl rfl⟩
                  · have lm : l = m := by omega
                    subst lm
                    have RW : Hid (Pl.upP da db k l = Pl.pairs (da.take (k + 1)) db) := Pl.upP_row da db k l hlen (by rw [Hm.out]; exact Nat.le_refl _)
                    go_wp2_with fail
                    go_roundw
                    case rel => exact ⟨k + 1, by omega, by go_num, by intro p hp; rw [← RW.out] at hp; exact hz.out p hp, _, by show Lp _ _ _ _ _ _ _; rw [← RW.out]; exact hL.out⟩
                    case measure => simp [intOf]; omega
              · have kn : k = n := by omega
                subst kn
                have EC : Pl.firstG (Pl.pairF F) (Pl.pairs da db) = 0 := Pl.firstG_zero (Pl.pairF F) (Pl.pairs da db) (by
                  have := hz.out
                  rw [Pl.pairs_all _ _ _ (by rw [Hn.out]; exact Nat.le_refl _)] at this
                  exact this)
                rw [PC.out] at EC
                have e := PE.out
                rw [if_pos EC] at e
                simp only [Prod.mk.injEq] at e
                have LD : Hid (Lp w2 sh P (.slice q0 n0 c0) nv D wr) := by
                  have := hL.out
                  rw [Pl.pairs_all _ _ _ (by rw [Hn.out]; exact Nat.le_refl _), e.2.2] at this
                  exact this
                have HE := hideP e
                obtain ⟨xo, yo, eo⟩ := owns_form LD.out.d
                subst eo
                obtain ⟨xs0, ys0, es0⟩ := owns_form LD.out.c
                have p0 : wr.cell? ⟨P, 0, none⟩ = some (.slice q0 n0 c0) := cell_blk LD.out.blk
                have p1 : wr.cell? ⟨P, 1, none⟩ = some (.slice xo D.length yo) := cell_blk LD.out.blk
                have hPr : P < wr.heap.size := (Array.getElem?_eq_some_iff.1 LD.out.blk).1
                have hsr := WR.out.2.1
                have r0 := WR.out.2.2.2.1.1
                have r1 := WR.out.2.2.2.1.2.1
                have f2 := WR.out.2.2.2.1.2.2
                have ES := hideP es0
                clear EC e hL es0
                go_wp2_with fail
                refine bodyPost_ret (v := .tuple #[.agg #[.slice q0 n0 c0, .slice xo D.length yo], .int .i64 0]) (by simp [results, Try.results30, go_sem, r0, r1]) rfl ?_
                show FPost _ _ _ _ _ _
                rw [← HE.out.1, ← HE.out.2.1]
                refine ⟨(WR.out.1.setCell (by simp; omega) _).setCell (by simp; omega) _, _, _, rfl, ?_, ?_, ?_⟩
                · exact Own.base (Own.store (Own.store (own_of_any LD.out.c) (by omega) _) (by omega) _) (by omega)
                · exact Own.base (Own.store (Own.store (own_of_any LD.out.d) (by omega) _) (by omega) _) (by omega)
                · exact .inr (.inr fun b e0 e1 => LD.out.ap b e0 e1)
          · have e := HE.out
            unfold Pl.outerM at e
            rw [HSH.out, if_neg (by rw [hf]; decide)] at e
            simp only [Prod.mk.injEq] at e
            obtain ⟨rfl, rfl, rfl⟩ := e
            have WX := hideP (W2.out.keep MK.out.1)
            clear HE HSH hf MK W2 OX OY
            have p0 : wx.cell? ⟨P, 0, none⟩ = some (.slice none 0 0) := cell_blk hP
            have p1 : wx.cell? ⟨P, 1, none⟩ = some (.slice none 0 0) := cell_blk hP
            have hPr : P < wx.heap.size := (Array.getElem?_eq_some_iff.1 hP).1
            have hsr := WX.out.2.1
            have r0 := WX.out.2.2.2.1.1
            have r1 := WX.out.2.2.2.1.2.1
            have f2 := WX.out.2.2.2.1.2.2
            clear hP
            go_wp2_with fail
            refine bodyPost_ret (v := .tuple #[.agg #[.slice none 0 0, .slice none 0 0], .int .i64 6]) (by simp [results, Try.results30, go_sem, r0, r1]) rfl ⟨(WX.out.1.setCell (by simp; omega) _).setCell (by simp; omega) _, _, _, rfl, Own.nil _ _, Own.nil _ _, .inl rfl⟩
      · have okb' : Pl.okB sb db = false := by simpa using okb
        rw [okb'] at KB
        clear okb'
        go_wp2_with (go_at_call 49; refine (KO'.out _).mono ?_; rintro e w' ⟨rfl, rfl⟩)
        refine (KA.out _ (B.out _ _ _)).mono ?_
        rintro e w1 ⟨rfl, hb1⟩
        have W1 := hideP ((W0.out _ _ _).keep hb1)
        clear hb1
        have c2 := W1.out.2.2.1.2.2.1
        have c3 := W1.out.2.2.1.2.2.2
        go_wp2_with fail
        clear c2 c3
        refine (KB.out _ W1.out.1).mono ?_
        rintro e w2 ⟨rfl, hb2⟩
        have W2 := hideP (W1.out.keep hb2)
        clear hb2
        have hs := W2.out.2.1
        have r0 := W2.out.2.2.2.1.1
        have r1 := W2.out.2.2.2.1.2.1
        have f2 := W2.out.2.2.2.1.2.2
        have e := HR.out
        rw [Pl.dyM_no (by intro h; exact okb h.2.2.2)] at e
        simp only [Prod.mk.injEq] at e
        obtain ⟨rfl, rfl, rfl⟩ := e
        clear oka okb
        go_wp2_with fail
        refine bodyPost_ret (v := .tuple #[.agg #[.slice none 0 0, .slice none 0 0], .int .i64 9]) (by simp [results, Try.results30, go_sem, r0, r1]) rfl ⟨(W2.out.1.setCell (by simp; omega) _).setCell (by simp; omega) _, _, _, rfl, Own.nil _ _, Own.nil _ _, .inl rfl⟩
    · have oka' : Pl.okB sa da = false := by simpa using oka
      rw [oka'] at KA
      clear oka'
      go_wp2_with (go_at_call 49; refine (KO'.out _).mono ?_; rintro e w' ⟨rfl, rfl⟩)
      refine (KA.out _ (B.out _ _ _)).mono ?_
      rintro e w1 ⟨rfl, hb1⟩
      have W1 := hideP ((W0.out _ _ _).keep hb1)
      clear hb1
      have hs := W1.out.2.1
      have r0 := W1.out.2.2.2.1.1
      have r1 := W1.out.2.2.2.1.2.1
      have f2 := W1.out.2.2.2.1.2.2
      have e := HR.out
      rw [Pl.dyM_no (by intro h; exact oka h.2.2.1)] at e
      simp only [Prod.mk.injEq] at e
      obtain ⟨rfl, rfl, rfl⟩ := e
      clear oka
      go_wp2_with fail
      refine bodyPost_ret (v := .tuple #[.agg #[.slice none 0 0, .slice none 0 0], .int .i64 9]) (by simp [results, Try.results30, go_sem, r0, r1]) rfl ⟨(W1.out.1.setCell (by simp; omega) _).setCell (by simp; omega) _, _, _, rfl, Own.nil _ _, Own.nil _ _, .inl rfl⟩
  · have KO' : Hid (∀ w, Calls Try.prog 49 #[.int .i64 op] w fun e w' => e = .returned (.bool false) ∧ w' = w) := fun w => by have := KO.out w; rw [decide_eq_false hop] at this; exact this
    go_enter Try.func30, Try.ntmps30
    have W1 := hideP (W0.out 27 27 27)
    have e := HR.out
    rw [Pl.dyM_no (by intro h; exact hop ⟨h.1, h.2.1⟩)] at e
    simp only [Prod.mk.injEq] at e
    obtain ⟨rfl, rfl, rfl⟩ := e
    clear hop
    go_wp2_with (go_at_call 49; refine (KO'.out _).mono ?_; rintro e w' ⟨rfl, rfl⟩)
    refine bodyPost_ret (v := .tuple #[.agg #[.slice none 0 0, .slice none 0 0], .int .i64 9]) (by simp [results, Try.results30, go_sem]) rfl ⟨B.out _ _ _, _, _, rfl, Own.nil _ _, Own.nil _ _, .inl rfl⟩

end Go.Proofs.Ytmobjomebmipdaa
