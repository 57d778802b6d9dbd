import Derived.Test.YtjhflbhbegocdaaLies
import Derived.Test.YtjhflbhbegocdaaPlain5
import Derived.Test.YtjhflbhbegocdaaInC
namespace Go.Proofs.Ytjhflbhbegocdaa
open Go.RowKit
set_option linter.unusedVariables false

end Go.Proofs.Ytjhflbhbegocdaa

namespace Go.Proofs.Ytjhflbhbegocdaa
open Go.RowKit
set_option linter.unusedVariables false

/-- the middle array in its variable -/
structure Md (wk : World) (A : Nat) (u0 u1 : Value) (S1 D1 : List Int) (w : World) : Prop where
  bel : Below wk.heap.size wk w
  le : wk.heap.size ≤ A
  blk : w.heap[A]? = some (.cells #[u0, u1] 26 (0, 0))
  o0 : Own wk.heap.size w u0 S1
  o1 : Own wk.heap.size w u1 D1

set_option maxRecDepth 100000 in
set_option maxHeartbeats 16000000 in
/-- spec.Inner of valid arrays whose lengths fit -/
theorem specI_core (kf kg : Nat) (f0 : 1 ≤ kf) (f1 : kf < 11) (g0 : 1 ≤ kg) (g1 : kg < 11) (b0 b1 b2 b3 : Nat) (ta da tb db : List Int) (n : Nat) (w : World)
    (h0 : Rd w.heap.size w (.slice (some ⟨b0, 0, none⟩) (ta.length + 1) (ta.length + 1)) (ta ++ [(n : Int)])) (h1 : Rd w.heap.size w (.slice (some ⟨b1, 0, none⟩) da.length da.length) da)
    (h2 : Rd w.heap.size w (.slice (some ⟨b2, 0, none⟩) (tb.length + 1) (tb.length + 1)) ((n : Int) :: tb)) (h3 : Rd w.heap.size w (.slice (some ⟨b3, 0, none⟩) db.length db.length) db)
    (oka : Pl.okB (ta ++ [(n : Int)]) da = true) (okb : Pl.okB ((n : Int) :: tb) db = true)
    (H T : Nat) (hH : Pl.prodC ta = H) (hT : Pl.prodC tb = T) (hH' : H ≤ 1001) (hT' : T ≤ 1001) (hn' : n ≤ 1000) (hla : da.length = H * n) (hlb : db.length = n * T)
    (Q : Nat → Int × Int) (hQ : Q = Pl.innQ (Pl.twoM kf) (Pl.noneV kf) (Pl.noneB kf) (Pl.twoM kg) n T da db)
    (c : Int) (S D : List Int) (hres : (if Pl.fitsB (ta ++ tb) = true then (if Pl.firstG Q (List.range (H * T)) = 0 then (0, ta ++ tb, (List.range (H * T)).map (fun i => (Q i).1)) else (Pl.firstG Q (List.range (H * T)), [], [])) else (6, [], [])) = (c, S, D)) :
    Calls Try.prog 6 #[.int .i64 (kf : Int), .int .i64 (kg : Int), .agg #[.slice (some ⟨b0, 0, none⟩) (ta.length + 1) (ta.length + 1), .slice (some ⟨b1, 0, none⟩) da.length da.length], .agg #[.slice (some ⟨b2, 0, none⟩) (tb.length + 1) (tb.length + 1), .slice (some ⟨b3, 0, none⟩) db.length db.length]] w (FPost w c S D) := by
  have B : Hid (∀ o o' o'', Below w.heap.size w (((w.alloc o).alloc o').alloc o'')) := fun o o' o'' => below3 w o o' o''
  have m0 := Pl.ok_max oka
  have m2 := Pl.ok_max okb
  have hta : ta.length ≤ 2 := by have := m0.1; simp at this; omega
  have htb : tb.length ≤ 2 := by have := m2.1; simp at this; omega
  have KA : Hid (∀ w', Below w.heap.size w w' → Calls Try.prog 17 #[.agg #[.slice (some ⟨b0, 0, none⟩) (ta.length + 1) (ta.length + 1), .slice (some ⟨b1, 0, none⟩) da.length da.length]] w' fun e w'' => e = .returned (.bool true) ∧ Below w'.heap.size w' w'') := fun w' h => by
    have := specOk_any _ _ (ta ++ [(n : Int)]) da w' (by simp; omega) (by omega) ((h0.keep h).up h.size) ((h1.keep h).up h.size)
    rw [oka] at this
    exact this
  have KB : Hid (∀ w', Below w.heap.size w w' → Calls Try.prog 17 #[.agg #[.slice (some ⟨b2, 0, none⟩) (tb.length + 1) (tb.length + 1), .slice (some ⟨b3, 0, none⟩) db.length db.length]] w' fun e w'' => e = .returned (.bool true) ∧ Below w'.heap.size w' w'') := fun w' h => by
    have := specOk_any _ _ ((n : Int) :: tb) db w' (by simp; omega) (by omega) ((h2.keep h).up h.size) ((h3.keep h).up h.size)
    rw [okb] at this
    exact this
  have KF : Hid (∀ w, Calls Try.prog 16 #[.int .i64 (kf : Int)] w fun e w' => e = .returned (.bool true) ∧ w' = w) := fun w => by have := opOk_any kf w; rw [decide_eq_true ⟨by omega, by omega⟩] at this; exact this
  have KG : Hid (∀ w, Calls Try.prog 16 #[.int .i64 (kg : Int)] w fun e w' => e = .returned (.bool true) ∧ w' = w) := fun w => by have := opOk_any kg w; rw [decide_eq_true ⟨by omega, by omega⟩] at this; exact this
  have W0 := hideP (wid_new w h0 h1 h2 h3)
  obtain ⟨o2, ho2⟩ : ∃ o2 : Nat, o2 = if tb.length = 0 then 0 else 1 := ⟨_, rfl⟩
  have r0 : Rd w.heap.size w (.slice (some ⟨b0, 0, none⟩) ta.length (ta.length + 1)) ta := by
    have e : (ta ++ [(n : Int)]).length = ta.length + 1 := by simp
    have h := h0
    rw [← e] at h
    have := h.sub 0 ta.length (Nat.zero_le _) (by simp) (ta.length + 1)
    simpa using this
  have r2 : Rd w.heap.size w (.slice (some ⟨b2, o2, none⟩) tb.length tb.length) tb := by
    by_cases ht : tb.length = 0
    · rw [ht]
      exact rd_zero _ _ _ _ _ ht
    · rw [if_neg ht] at ho2
      subst ho2
      have e : ((n : Int) :: tb).length = tb.length + 1 := by simp
      have h := h2
      rw [← e] at h
      have := h.sub 1 (tb.length + 1) (by omega) (by simp) tb.length
      simpa using this
  have hca : b0 < w.heap.size ∧ w.cell? ⟨b0, ta.length, none⟩ = some (.int .i64 (n : Int)) := by
    have e : (ta ++ [(n : Int)]).length = ta.length + 1 := by simp
    have h := h0
    rw [← e] at h
    have := rd_cell h (i := ta.length) (by simp)
    simpa using this
  have hcb : b2 < w.heap.size ∧ w.cell? ⟨b2, 0, none⟩ = some (.int .i64 (n : Int)) := by
    have e : ((n : Int) :: tb).length = tb.length + 1 := by simp
    have h := h2
    rw [← e] at h
    have := rd_cell h (i := 0) (by simp)
    simpa using this
  have CA := hideP hca
  have CB := hideP hcb
  have H0 := hideP r0
  have H2 := hideP r2
  have H1 := hideP h1
  have H3 := hideP h3
  have OX := hideP (fun x (hx : x ∈ da) => Pl.ok_cell oka hx)
  have OY := hideP (fun x (hx : x ∈ db) => Pl.ok_cell okb hx)
  have hra : ta.all Pl.inR = true := by
    have := (Pl.ok_len oka).2
    simp only [Pl.fitsB, Pl.baseB, Bool.and_eq_true, List.all_append] at this
    exact this.1.2.1
  have hrb : tb.all Pl.inR = true := by
    have := (Pl.ok_len okb).2
    simp only [Pl.fitsB, Pl.baseB, Bool.and_eq_true, List.all_cons] at this
    exact this.1.2.2
  have KH : Hid (∀ w' v, Rd w'.heap.size w' v ta → Calls Try.prog 20 #[v] w' fun e w'' => e = .returned (.int .i64 (H : Int)) ∧ w'' = w') := fun w' v h => by
    have := l1Product_any _ v ta w' (by omega) hra h
    rw [hH] at this
    exact this
  have KT : Hid (∀ w' v, Rd w'.heap.size w' v tb → Calls Try.prog 20 #[v] w' fun e w'' => e = .returned (.int .i64 (T : Int)) ∧ w'' = w') := fun w' v h => by
    have := l1Product_any _ v tb w' (by omega) hrb h
    rw [hT] at this
    exact this
  have HR := hideP hres
  have HQ := hideP hQ
  obtain ⟨sh, hsh⟩ : ∃ sh, ta ++ tb = sh := ⟨_, rfl⟩
  have hlh : sh.length ≤ 4 := by rw [← hsh, List.length_append]; omega
  have HSH := hideP hsh
  have HO2 := hideP ho2
  have hld := m0.2
  have hle := m2.2
  have HLA := hideP hla
  have HLB := hideP hlb
  clear h0 h1 h2 h3 oka okb hres hQ hsh r0 r2 hca hcb hra hrb hH hT m0 m2 hla hlb ho2
  have test0 : (((ta.length : Int) + 1) == 0) = false := by rw [beq_eq_false_iff_ne]; omega
  have test2 : (((tb.length : Int) + 1) == 0) = false := by rw [beq_eq_false_iff_ne]; omega
  go_enter Try.func6, Try.ntmps6
  go_wp2_with (first | (go_at_call 16; refine (KF.out _).mono ?_; rintro e w' ⟨rfl, rfl⟩) | (go_at_call 16; refine (KG.out _).mono ?_; rintro e w' ⟨rfl, rfl⟩))
  refine (KA.out _ (B.out _ _ _)).mono ?_
  rintro e w1 ⟨rfl, hb1⟩
  have W1 := hideP ((W0.out _ _ _).keep hb1)
  clear hb1
  have c2 := W1.out.2.2.1.2.2.1
  have c3 := W1.out.2.2.1.2.2.2
  go_wp2_with fail
  clear c2 c3
  refine (KB.out _ W1.out.1).mono ?_
  rintro e w2 ⟨rfl, hb2⟩
  have W2 := hideP (W1.out.keep hb2)
  have hs2 := W2.out.2.1
  clear hb2 W1 W0 KA KB KF KG
  have RV : Hid (∀ W, Below w2.heap.size w2 W → Rd W.heap.size W (.slice (some ⟨b0, 0, none⟩) ta.length (ta.length + 1)) ta ∧ Rd W.heap.size W (.slice (some ⟨b2, o2, none⟩) tb.length tb.length) tb) := fun W hb => by
    have k := (W2.out.keep hb).1
    exact ⟨(H0.out.keep k).up k.size, (H2.out.keep k).up k.size⟩
  have PL : Hid (∀ W, Below w2.heap.size w2 W → W.cell? ⟨w.heap.size, 0, none⟩ = some (.slice (some ⟨b0, 0, none⟩) (ta.length + 1) (ta.length + 1)) ∧ W.cell? ⟨w.heap.size + 1, 0, none⟩ = some (.slice (some ⟨b2, 0, none⟩) (tb.length + 1) (tb.length + 1))) := fun W hb => ⟨(W2.out.keep hb).2.2.1.1, (W2.out.keep hb).2.2.1.2.2.1⟩
  have c0 := W2.out.2.2.1.1
  have c2 := W2.out.2.2.1.2.2.1
  have ca : w2.cell? ⟨b0, ta.length, none⟩ = some (.int .i64 (n : Int)) := (W2.out.1.cell (p := ⟨b0, ta.length, none⟩) CA.out.1).trans CA.out.2
  have cb : w2.cell? ⟨b2, 0, none⟩ = some (.int .i64 (n : Int)) := (W2.out.1.cell (p := ⟨b2, 0, none⟩) CB.out.1).trans CB.out.2
  go_upto_region 9 with fail
  clear c0 c2 ca cb
  go_cut [12, 13] (fun s8 s9 wx => ∃ P cc q0 n0 c0 q1 n1 c1, s8 = .pointer (some ⟨P, 0, none⟩) ∧ s9 = .int .i64 cc ∧ Hid (Mk w2 sh P cc (.slice q0 n0 c0) (.slice q1 n1 c1) wx))
  case first =>
    refine wp_region_held (S := fun w' => Below w2.heap.size w2 w') (by kernel_rfl) ?_
    change wpAnyH _ _ _ _ _ _ _ _ (World.drew _)
    have R0 := hideP (Rg.start w2)
    generalize World.drew w2 = wn0 at R0 ⊢
    refine wpAnyH_take (i := 0) (v := .pointer (some ⟨w.heap.size, 0, none⟩)) rfl (by kernel_rfl) (by kernel_rfl) (by kernel_rfl) (fun _ _ _ h => h) (Or.inl ⟨by rfl, ?_⟩) R0.out.bel ?_
    · intro w' hS
      clear hS
      go_simp
    refine wpAnyH_take (i := 1) (v := .slice (some ⟨b0, 0, none⟩) (ta.length + 1) (ta.length + 1)) rfl (by kernel_rfl) (by kernel_rfl) (by kernel_rfl) (fun _ _ _ h => h) (Or.inl ⟨by rfl, ?_⟩) R0.out.bel ?_
    · intro w' hS
      have y0 := (PL.out w' hS).1
      clear hS
      go_simp
    refine wpAnyH_take (i := 2) (v := .int .i64 (ta.length : Int)) rfl (by kernel_rfl) (by kernel_rfl) (by kernel_rfl) (fun _ _ _ h => h) (Or.inl ⟨by rfl, fun w' _ => exec_move (.tmp 11) _ (by kernel_rfl) (by kernel_rfl) w'⟩) R0.out.bel ?_
    refine wpAnyH_take (i := 3) (v := .slice (some ⟨b0, 0, none⟩) ta.length (ta.length + 1)) rfl (by kernel_rfl) (by kernel_rfl) (by kernel_rfl) (fun _ _ _ h => h) (Or.inl ⟨by rfl, fun w' _ => exec_hi (.tmp 70) (.tmp 71) b0 (ta.length + 1) ta.length (by kernel_rfl) (by kernel_rfl) (by kernel_rfl) (Nat.le_succ _) (Nat.succ_pos _) w'⟩) R0.out.bel ?_
    refine wpAnyH_take (i := 5) (v := .pointer (some ⟨w.heap.size + 1, 0, none⟩)) rfl (by kernel_rfl) (by kernel_rfl) (by kernel_rfl) (fun _ _ _ h => h) (Or.inl ⟨by rfl, ?_⟩) R0.out.bel ?_
    · intro w' hS
      clear hS
      go_simp
    refine wpAnyH_take (i := 6) (v := .slice (some ⟨b2, 0, none⟩) (tb.length + 1) (tb.length + 1)) rfl (by kernel_rfl) (by kernel_rfl) (by kernel_rfl) (fun _ _ _ h => h) (Or.inl ⟨by rfl, ?_⟩) R0.out.bel ?_
    · intro w' hS
      have y0 := (PL.out w' hS).2
      clear hS
      go_simp
    refine wpAnyH_take (i := 7) (v := .slice (some ⟨b2, o2, none⟩) tb.length tb.length) rfl (by kernel_rfl) (by kernel_rfl) (by kernel_rfl) (fun _ _ _ h => h) (Or.inl ⟨by rfl, fun w' _ => exec_lo1 (.tmp 75) (.const (.int .i64 1)) b2 tb.length o2 HO2.out (by kernel_rfl) (by kernel_rfl) (by kernel_rfl) w'⟩) R0.out.bel ?_
    refine wpAnyH_ready (rs := [4, 9, 14]) (by kernel_rfl) (by simp) ?_
    refine AllReadyH.cons rfl (fun K hK => ?_) (AllReadyH.cons rfl (fun K hK => ?_) (AllReadyH.cons rfl (fun K hK => ?_) AllReadyH.nil))
    · go_simp
      refine (l2Copy_any _ ta _ (by omega) (RV.out _ R0.out.bel).1).mono ?_
      rintro e wn1 ⟨v2, rfl, ho2, hb2⟩
      have R1 := hideP (R0.out.copy ho2 hb2)
      obtain ⟨xc, yc, ec⟩ := owns_form ho2
      subst ec
      clear ho2 hb2
      refine hK.out _ _ R1.out.bel (fun _ => ?_)
      clear hK R0
      refine wpAnyH_ready (rs := [8, 9, 14]) (by kernel_rfl) (by simp) ?_
      refine AllReadyH.cons rfl (fun K hK => ?_) (AllReadyH.cons rfl (fun K hK => ?_) (AllReadyH.cons rfl (fun K hK => ?_) AllReadyH.nil))
      · refine step_append_at (base := w2.heap.size) _ rfl _ _ rfl (.slice xc ta.length yc) (.slice (some ⟨b2, o2, none⟩) tb.length tb.length) rfl rfl ta.length ta tb (R1.out.c _ _ rfl) (RV.out _ R1.out.bel).2 (by omega) R1.out.bel.size ?_
        intro v' wn2 ho' hg' hat'
        have R2 := hideP (R1.out.app HSH.out ho' hg' hat')
        obtain ⟨xa, ya, ea⟩ := owns_form (R2.out.c _ _ rfl)
        subst ea
        clear ho' hg' hat'
        refine hK.out _ _ R2.out.bel (fun _ => ?_)
        clear hK R1
        refine wpAnyH_ready (rs := [9, 14]) (by kernel_rfl) (by simp) ?_
        refine AllReadyH.cons rfl (fun K hK => ?_) (AllReadyH.cons rfl (fun K hK => ?_) AllReadyH.nil)
        · go_simp
          have R3 := hideP (R2.out.lit)
          refine hK.out _ _ R3.out.bel (fun _ => ?_)
          clear hK R2
          generalize wn2.alloc (.cells #[] 3) = wn3 at *
          generalize wn2.heap.size = gb at *
          refine wpAnyH_ready (rs := [10, 14]) (by kernel_rfl) (by simp) ?_
          refine AllReadyH.cons rfl (fun K hK => ?_) (AllReadyH.cons rfl (fun K hK => ?_) AllReadyH.nil)
          · go_simp
            refine (l2Made_two wn3.heap.size _ _ _ _ _ sh _ (by omega) (own_of_any (R3.out.c _ _ rfl)).rd (Nat.le_refl _)).mono ?_
            rintro e wn4 ⟨q0, n0, c0, q1, n1, c1, cc, rfl, hb, hor⟩
            have R4 := hideP (R3.out.keep hb)
            have M := hideP hor
            clear hb hor
            refine hK.out _ _ R4.out.bel (fun _ => ?_)
            clear hK R3
            refine wpAnyH_take (i := 11) (v := .tuple #[.agg #[.slice q0 n0 c0, .slice q1 n1 c1], .int .i64 cc]) rfl (by kernel_rfl) (by kernel_rfl) (by kernel_rfl) (fun _ _ _ h => h) (Or.inl ⟨by rfl, ?_⟩) R4.out.bel ?_
            · intro w' hS
              clear hS
              go_simp
            refine wpAnyH_take (i := 12) (v := .agg #[.slice q0 n0 c0, .slice q1 n1 c1]) rfl (by kernel_rfl) (by kernel_rfl) (by kernel_rfl) (fun _ _ _ h => h) (Or.inl ⟨by rfl, ?_⟩) R4.out.bel ?_
            · intro w' hS
              clear hS
              go_simp
            refine wpAnyH_take (i := 13) (v := .int .i64 cc) rfl (by kernel_rfl) (by kernel_rfl) (by kernel_rfl) (fun _ _ _ h => h) (Or.inl ⟨by rfl, ?_⟩) R4.out.bel ?_
            · intro w' hS
              clear hS
              go_simp
            refine wpAnyH_ready (rs := [14]) (by kernel_rfl) (by simp) ?_
            refine AllReadyH.cons rfl (fun K hK => ?_) AllReadyH.nil
            go_simp
            have R5 := hideP (R4.out.var)
            refine hK.out _ _ R5.out.bel (fun _ => ?_)
            clear hK R4
            generalize wn4.alloc (.cells #[.slice none 0 0, .slice none 0 0] 26) = wn5 at *
            generalize wn4.heap.size = P at *
            refine wpAnyH_ready (rs := [15]) (by kernel_rfl) (by simp) ?_
            refine AllReadyH.cons rfl (fun K hK => ?_) AllReadyH.nil
            have MK := hideP (R5.out.done M.out)
            have hp := (R5.out.p _ rfl).2
            have hA1 := (Array.getElem?_eq_some_iff.1 hp).1
            have cA0 : wn5.cell? ⟨P, 0, none⟩ = some (.slice none 0 0) := cell_blk hp
            have cA1 : wn5.cell? ⟨P, 1, none⟩ = some (.slice none 0 0) := cell_blk hp
            have fA : ∀ o, wn5.frozen? ⟨P, o, none⟩ = false := fun o => frozen_blk hp
            clear hp
            go_simp
            refine hK.out _ _ MK.out.1 (fun _ => ?_)
            clear hK
            refine wpAnyH_ready (rs := [16]) (by kernel_rfl) (by simp) ?_
            refine AllReadyH.cons rfl (fun K hK => ?_) AllReadyH.nil
            go_simp
            refine hK.out _ _ MK.out.1 (fun _ => ?_)
            clear hK
            refine wpAnyH_done (by kernel_rfl) ?_ _
            clear cA0 cA1 fA
            go_wp2_with fail
            go_meet
            case rel => exact ⟨_, _, _, _, _, _, _, _, rfl, rfl, MK⟩
          · go_simp
            have R4 := hideP (R3.out.var)
            refine hK.out _ _ R4.out.bel (fun _ => ?_)
            clear hK R3
            generalize wn3.alloc (.cells #[.slice none 0 0, .slice none 0 0] 26) = wn4 at *
            generalize wn3.heap.size = P at *
            refine wpAnyH_ready (rs := [10]) (by kernel_rfl) (by simp) ?_
            refine AllReadyH.cons rfl (fun K hK => ?_) AllReadyH.nil
            go_simp
            refine (l2Made_two wn4.heap.size _ _ _ _ _ sh _ (by omega) (own_of_any (R4.out.c _ _ rfl)).rd (Nat.le_refl _)).mono ?_
            rintro e wn5 ⟨q0, n0, c0, q1, n1, c1, cc, rfl, hb, hor⟩
            have R5 := hideP (R4.out.keep hb)
            have M := hideP hor
            clear hb hor
            refine hK.out _ _ R5.out.bel (fun _ => ?_)
            clear hK R4
            refine wpAnyH_take (i := 11) (v := .tuple #[.agg #[.slice q0 n0 c0, .slice q1 n1 c1], .int .i64 cc]) rfl (by kernel_rfl) (by kernel_rfl) (by kernel_rfl) (fun _ _ _ h => h) (Or.inl ⟨by rfl, ?_⟩) R5.out.bel ?_
            · intro w' hS
              clear hS
              go_simp
            refine wpAnyH_take (i := 12) (v := .agg #[.slice q0 n0 c0, .slice q1 n1 c1]) rfl (by kernel_rfl) (by kernel_rfl) (by kernel_rfl) (fun _ _ _ h => h) (Or.inl ⟨by rfl, ?_⟩) R5.out.bel ?_
            · intro w' hS
              clear hS
              go_simp
            refine wpAnyH_take (i := 13) (v := .int .i64 cc) rfl (by kernel_rfl) (by kernel_rfl) (by kernel_rfl) (fun _ _ _ h => h) (Or.inl ⟨by rfl, ?_⟩) R5.out.bel ?_
            · intro w' hS
              clear hS
              go_simp
            refine wpAnyH_ready (rs := [15]) (by kernel_rfl) (by simp) ?_
            refine AllReadyH.cons rfl (fun K hK => ?_) AllReadyH.nil
            have MK := hideP (R5.out.done M.out)
            have hp := (R5.out.p _ rfl).2
            have hA1 := (Array.getElem?_eq_some_iff.1 hp).1
            have cA0 : wn5.cell? ⟨P, 0, none⟩ = some (.slice none 0 0) := cell_blk hp
            have cA1 : wn5.cell? ⟨P, 1, none⟩ = some (.slice none 0 0) := cell_blk hp
            have fA : ∀ o, wn5.frozen? ⟨P, o, none⟩ = false := fun o => frozen_blk hp
            clear hp
            go_simp
            refine hK.out _ _ MK.out.1 (fun _ => ?_)
            clear hK
            refine wpAnyH_ready (rs := [16]) (by kernel_rfl) (by simp) ?_
            refine AllReadyH.cons rfl (fun K hK => ?_) AllReadyH.nil
            go_simp
            refine hK.out _ _ MK.out.1 (fun _ => ?_)
            clear hK
            refine wpAnyH_done (by kernel_rfl) ?_ _
            clear cA0 cA1 fA
            go_wp2_with fail
            go_meet
            case rel => exact ⟨_, _, _, _, _, _, _, _, rfl, rfl, MK⟩
        · go_simp
          have R3 := hideP (R2.out.var)
          refine hK.out _ _ R3.out.bel (fun _ => ?_)
          clear hK R2
          generalize wn2.alloc (.cells #[.slice none 0 0, .slice none 0 0] 26) = wn3 at *
          generalize wn2.heap.size = P at *
          refine wpAnyH_ready (rs := [9]) (by kernel_rfl) (by simp) ?_
          refine AllReadyH.cons rfl (fun K hK => ?_) AllReadyH.nil
          go_simp
          have R4 := hideP (R3.out.lit)
          refine hK.out _ _ R4.out.bel (fun _ => ?_)
          clear hK R3
          generalize wn3.alloc (.cells #[] 3) = wn4 at *
          generalize wn3.heap.size = gb at *
          refine wpAnyH_ready (rs := [10]) (by kernel_rfl) (by simp) ?_
          refine AllReadyH.cons rfl (fun K hK => ?_) AllReadyH.nil
          go_simp
          refine (l2Made_two wn4.heap.size _ _ _ _ _ sh _ (by omega) (own_of_any (R4.out.c _ _ rfl)).rd (Nat.le_refl _)).mono ?_
          rintro e wn5 ⟨q0, n0, c0, q1, n1, c1, cc, rfl, hb, hor⟩
          have R5 := hideP (R4.out.keep hb)
          have M := hideP hor
          clear hb hor
          refine hK.out _ _ R5.out.bel (fun _ => ?_)
          clear hK R4
          refine wpAnyH_take (i := 11) (v := .tuple #[.agg #[.slice q0 n0 c0, .slice q1 n1 c1], .int .i64 cc]) rfl (by kernel_rfl) (by kernel_rfl) (by kernel_rfl) (fun _ _ _ h => h) (Or.inl ⟨by rfl, ?_⟩) R5.out.bel ?_
          · intro w' hS
            clear hS
            go_simp
          refine wpAnyH_take (i := 12) (v := .agg #[.slice q0 n0 c0, .slice q1 n1 c1]) rfl (by kernel_rfl) (by kernel_rfl) (by kernel_rfl) (fun _ _ _ h => h) (Or.inl ⟨by rfl, ?_⟩) R5.out.bel ?_
          · intro w' hS
            clear hS
            go_simp
          refine wpAnyH_take (i := 13) (v := .int .i64 cc) rfl (by kernel_rfl) (by kernel_rfl) (by kernel_rfl) (fun _ _ _ h => h) (Or.inl ⟨by rfl, ?_⟩) R5.out.bel ?_
          · intro w' hS
            clear hS
            go_simp
          refine wpAnyH_ready (rs := [15]) (by kernel_rfl) (by simp) ?_
          refine AllReadyH.cons rfl (fun K hK => ?_) AllReadyH.nil
          have MK := hideP (R5.out.done M.out)
          have hp := (R5.out.p _ rfl).2
          have hA1 := (Array.getElem?_eq_some_iff.1 hp).1
          have cA0 : wn5.cell? ⟨P, 0, none⟩ = some (.slice none 0 0) := cell_blk hp
          have cA1 : wn5.cell? ⟨P, 1, none⟩ = some (.slice none 0 0) := cell_blk hp
          have fA : ∀ o, wn5.frozen? ⟨P, o, none⟩ = false := fun o => frozen_blk hp
          clear hp
          go_simp
          refine hK.out _ _ MK.out.1 (fun _ => ?_)
          clear hK
          refine wpAnyH_ready (rs := [16]) (by kernel_rfl) (by simp) ?_
          refine AllReadyH.cons rfl (fun K hK => ?_) AllReadyH.nil
          go_simp
          refine hK.out _ _ MK.out.1 (fun _ => ?_)
          clear hK
          refine wpAnyH_done (by kernel_rfl) ?_ _
          clear cA0 cA1 fA
          go_wp2_with fail
          go_meet
          case rel => exact ⟨_, _, _, _, _, _, _, _, rfl, rfl, MK⟩
      · go_simp
        have R2 := hideP (R1.out.lit)
        refine hK.out _ _ R2.out.bel (fun _ => ?_)
        clear hK R1
        generalize wn1.alloc (.cells #[] 3) = wn2 at *
        generalize wn1.heap.size = gb at *
        refine wpAnyH_ready (rs := [8, 14]) (by kernel_rfl) (by simp) ?_
        refine AllReadyH.cons rfl (fun K hK => ?_) (AllReadyH.cons rfl (fun K hK => ?_) AllReadyH.nil)
        · refine step_append_at (base := w2.heap.size) _ rfl _ _ rfl (.slice xc ta.length yc) (.slice (some ⟨b2, o2, none⟩) tb.length tb.length) rfl rfl ta.length ta tb (R2.out.c _ _ rfl) (RV.out _ R2.out.bel).2 (by omega) R2.out.bel.size ?_
          intro v' wn3 ho' hg' hat'
          have R3 := hideP (R2.out.app HSH.out ho' hg' hat')
          obtain ⟨xa, ya, ea⟩ := owns_form (R3.out.c _ _ rfl)
          subst ea
          clear ho' hg' hat'
          refine hK.out _ _ R3.out.bel (fun _ => ?_)
          clear hK R2
          refine wpAnyH_ready (rs := [10, 14]) (by kernel_rfl) (by simp) ?_
          refine AllReadyH.cons rfl (fun K hK => ?_) (AllReadyH.cons rfl (fun K hK => ?_) AllReadyH.nil)
          · go_simp
            refine (l2Made_two wn3.heap.size _ _ _ _ _ sh _ (by omega) (own_of_any (R3.out.c _ _ rfl)).rd (Nat.le_refl _)).mono ?_
            rintro e wn4 ⟨q0, n0, c0, q1, n1, c1, cc, rfl, hb, hor⟩
            have R4 := hideP (R3.out.keep hb)
            have M := hideP hor
            clear hb hor
            refine hK.out _ _ R4.out.bel (fun _ => ?_)
            clear hK R3
            refine wpAnyH_take (i := 11) (v := .tuple #[.agg #[.slice q0 n0 c0, .slice q1 n1 c1], .int .i64 cc]) rfl (by kernel_rfl) (by kernel_rfl) (by kernel_rfl) (fun _ _ _ h => h) (Or.inl ⟨by rfl, ?_⟩) R4.out.bel ?_
            · intro w' hS
              clear hS
              go_simp
            refine wpAnyH_take (i := 12) (v := .agg #[.slice q0 n0 c0, .slice q1 n1 c1]) rfl (by kernel_rfl) (by kernel_rfl) (by kernel_rfl) (fun _ _ _ h => h) (Or.inl ⟨by rfl, ?_⟩) R4.out.bel ?_
            · intro w' hS
              clear hS
              go_simp
            refine wpAnyH_take (i := 13) (v := .int .i64 cc) rfl (by kernel_rfl) (by kernel_rfl) (by kernel_rfl) (fun _ _ _ h => h) (Or.inl ⟨by rfl, ?_⟩) R4.out.bel ?_
            · intro w' hS
              clear hS
              go_simp
            refine wpAnyH_ready (rs := [14]) (by kernel_rfl) (by simp) ?_
            refine AllReadyH.cons rfl (fun K hK => ?_) AllReadyH.nil
            go_simp
            have R5 := hideP (R4.out.var)
            refine hK.out _ _ R5.out.bel (fun _ => ?_)
            clear hK R4
            generalize wn4.alloc (.cells #[.slice none 0 0, .slice none 0 0] 26) = wn5 at *
            generalize wn4.heap.size = P at *
            refine wpAnyH_ready (rs := [15]) (by kernel_rfl) (by simp) ?_
            refine AllReadyH.cons rfl (fun K hK => ?_) AllReadyH.nil
            have MK := hideP (R5.out.done M.out)
            have hp := (R5.out.p _ rfl).2
            have hA1 := (Array.getElem?_eq_some_iff.1 hp).1
            have cA0 : wn5.cell? ⟨P, 0, none⟩ = some (.slice none 0 0) := cell_blk hp
            have cA1 : wn5.cell? ⟨P, 1, none⟩ = some (.slice none 0 0) := cell_blk hp
            have fA : ∀ o, wn5.frozen? ⟨P, o, none⟩ = false := fun o => frozen_blk hp
            clear hp
            go_simp
            refine hK.out _ _ MK.out.1 (fun _ => ?_)
            clear hK
            refine wpAnyH_ready (rs := [16]) (by kernel_rfl) (by simp) ?_
            refine AllReadyH.cons rfl (fun K hK => ?_) AllReadyH.nil
            go_simp
            refine hK.out _ _ MK.out.1 (fun _ => ?_)
            clear hK
            refine wpAnyH_done (by kernel_rfl) ?_ _
            clear cA0 cA1 fA
            go_wp2_with fail
            go_meet
            case rel => exact ⟨_, _, _, _, _, _, _, _, rfl, rfl, MK⟩
          · go_simp
            have R4 := hideP (R3.out.var)
            refine hK.out _ _ R4.out.bel (fun _ => ?_)
            clear hK R3
            generalize wn3.alloc (.cells #[.slice none 0 0, .slice none 0 0] 26) = wn4 at *
            generalize wn3.heap.size = P at *
            refine wpAnyH_ready (rs := [10]) (by kernel_rfl) (by simp) ?_
            refine AllReadyH.cons rfl (fun K hK => ?_) AllReadyH.nil
            go_simp
            refine (l2Made_two wn4.heap.size _ _ _ _ _ sh _ (by omega) (own_of_any (R4.out.c _ _ rfl)).rd (Nat.le_refl _)).mono ?_
            rintro e wn5 ⟨q0, n0, c0, q1, n1, c1, cc, rfl, hb, hor⟩
            have R5 := hideP (R4.out.keep hb)
            have M := hideP hor
            clear hb hor
            refine hK.out _ _ R5.out.bel (fun _ => ?_)
            clear hK R4
            refine wpAnyH_take (i := 11) (v := .tuple #[.agg #[.slice q0 n0 c0, .slice q1 n1 c1], .int .i64 cc]) rfl (by kernel_rfl) (by kernel_rfl) (by kernel_rfl) (fun _ _ _ h => h) (Or.inl ⟨by rfl, ?_⟩) R5.out.bel ?_
            · intro w' hS
              clear hS
              go_simp
            refine wpAnyH_take (i := 12) (v := .agg #[.slice q0 n0 c0, .slice q1 n1 c1]) rfl (by kernel_rfl) (by kernel_rfl) (by kernel_rfl) (fun _ _ _ h => h) (Or.inl ⟨by rfl, ?_⟩) R5.out.bel ?_
            · intro w' hS
              clear hS
              go_simp
            refine wpAnyH_take (i := 13) (v := .int .i64 cc) rfl (by kernel_rfl) (by kernel_rfl) (by kernel_rfl) (fun _ _ _ h => h) (Or.inl ⟨by rfl, ?_⟩) R5.out.bel ?_
            · intro w' hS
              clear hS
              go_simp
            refine wpAnyH_ready (rs := [15]) (by kernel_rfl) (by simp) ?_
            refine AllReadyH.cons rfl (fun K hK => ?_) AllReadyH.nil
            have MK := hideP (R5.out.done M.out)
            have hp := (R5.out.p _ rfl).2
            have hA1 := (Array.getElem?_eq_some_iff.1 hp).1
            have cA0 : wn5.cell? ⟨P, 0, none⟩ = some (.slice none 0 0) := cell_blk hp
            have cA1 : wn5.cell? ⟨P, 1, none⟩ = some (.slice none 0 0) := cell_blk hp
            have fA : ∀ o, wn5.frozen? ⟨P, o, none⟩ = false := fun o => frozen_blk hp
            clear hp
            go_simp
            refine hK.out _ _ MK.out.1 (fun _ => ?_)
            clear hK
            refine wpAnyH_ready (rs := [16]) (by kernel_rfl) (by simp) ?_
            refine AllReadyH.cons rfl (fun K hK => ?_) AllReadyH.nil
            go_simp
            refine hK.out _ _ MK.out.1 (fun _ => ?_)
            clear hK
            refine wpAnyH_done (by kernel_rfl) ?_ _
            clear cA0 cA1 fA
            go_wp2_with fail
            go_meet
            case rel => exact ⟨_, _, _, _, _, _, _, _, rfl, rfl, MK⟩
        · go_simp
          have R3 := hideP (R2.out.var)
          refine hK.out _ _ R3.out.bel (fun _ => ?_)
          clear hK R2
          generalize wn2.alloc (.cells #[.slice none 0 0, .slice none 0 0] 26) = wn3 at *
          generalize wn2.heap.size = P at *
          refine wpAnyH_ready (rs := [8]) (by kernel_rfl) (by simp) ?_
          refine AllReadyH.cons rfl (fun K hK => ?_) AllReadyH.nil
          refine step_append_at (base := w2.heap.size) _ rfl _ _ rfl (.slice xc ta.length yc) (.slice (some ⟨b2, o2, none⟩) tb.length tb.length) rfl rfl ta.length ta tb (R3.out.c _ _ rfl) (RV.out _ R3.out.bel).2 (by omega) R3.out.bel.size ?_
          intro v' wn4 ho' hg' hat'
          have R4 := hideP (R3.out.app HSH.out ho' hg' hat')
          obtain ⟨xa, ya, ea⟩ := owns_form (R4.out.c _ _ rfl)
          subst ea
          clear ho' hg' hat'
          refine hK.out _ _ R4.out.bel (fun _ => ?_)
          clear hK R3
          refine wpAnyH_ready (rs := [10]) (by kernel_rfl) (by simp) ?_
          refine AllReadyH.cons rfl (fun K hK => ?_) AllReadyH.nil
          go_simp
          refine (l2Made_two wn4.heap.size _ _ _ _ _ sh _ (by omega) (own_of_any (R4.out.c _ _ rfl)).rd (Nat.le_refl _)).mono ?_
          rintro e wn5 ⟨q0, n0, c0, q1, n1, c1, cc, rfl, hb, hor⟩
          have R5 := hideP (R4.out.keep hb)
          have M := hideP hor
          clear hb hor
          refine hK.out _ _ R5.out.bel (fun _ => ?_)
          clear hK R4
          refine wpAnyH_take (i := 11) (v := .tuple #[.agg #[.slice q0 n0 c0, .slice q1 n1 c1], .int .i64 cc]) rfl (by kernel_rfl) (by kernel_rfl) (by kernel_rfl) (fun _ _ _ h => h) (Or.inl ⟨by rfl, ?_⟩) R5.out.bel ?_
          · intro w' hS
            clear hS
            go_simp
          refine wpAnyH_take (i := 12) (v := .agg #[.slice q0 n0 c0, .slice q1 n1 c1]) rfl (by kernel_rfl) (by kernel_rfl) (by kernel_rfl) (fun _ _ _ h => h) (Or.inl ⟨by rfl, ?_⟩) R5.out.bel ?_
          · intro w' hS
            clear hS
            go_simp
          refine wpAnyH_take (i := 13) (v := .int .i64 cc) rfl (by kernel_rfl) (by kernel_rfl) (by kernel_rfl) (fun _ _ _ h => h) (Or.inl ⟨by rfl, ?_⟩) R5.out.bel ?_
          · intro w' hS
            clear hS
            go_simp
          refine wpAnyH_ready (rs := [15]) (by kernel_rfl) (by simp) ?_
          refine AllReadyH.cons rfl (fun K hK => ?_) AllReadyH.nil
          have MK := hideP (R5.out.done M.out)
          have hp := (R5.out.p _ rfl).2
          have hA1 := (Array.getElem?_eq_some_iff.1 hp).1
          have cA0 : wn5.cell? ⟨P, 0, none⟩ = some (.slice none 0 0) := cell_blk hp
          have cA1 : wn5.cell? ⟨P, 1, none⟩ = some (.slice none 0 0) := cell_blk hp
          have fA : ∀ o, wn5.frozen? ⟨P, o, none⟩ = false := fun o => frozen_blk hp
          clear hp
          go_simp
          refine hK.out _ _ MK.out.1 (fun _ => ?_)
          clear hK
          refine wpAnyH_ready (rs := [16]) (by kernel_rfl) (by simp) ?_
          refine AllReadyH.cons rfl (fun K hK => ?_) AllReadyH.nil
          go_simp
          refine hK.out _ _ MK.out.1 (fun _ => ?_)
          clear hK
          refine wpAnyH_done (by kernel_rfl) ?_ _
          clear cA0 cA1 fA
          go_wp2_with fail
          go_meet
          case rel => exact ⟨_, _, _, _, _, _, _, _, rfl, rfl, MK⟩
      · go_simp
        have R2 := hideP (R1.out.var)
        refine hK.out _ _ R2.out.bel (fun _ => ?_)
        clear hK R1
        generalize wn1.alloc (.cells #[.slice none 0 0, .slice none 0 0] 26) = wn2 at *
        generalize wn1.heap.size = P at *
        refine wpAnyH_ready (rs := [8, 9]) (by kernel_rfl) (by simp) ?_
        refine AllReadyH.cons rfl (fun K hK => ?_) (AllReadyH.cons rfl (fun K hK => ?_) AllReadyH.nil)
        · refine step_append_at (base := w2.heap.size) _ rfl _ _ rfl (.slice xc ta.length yc) (.slice (some ⟨b2, o2, none⟩) tb.length tb.length) rfl rfl ta.length ta tb (R2.out.c _ _ rfl) (RV.out _ R2.out.bel).2 (by omega) R2.out.bel.size ?_
          intro v' wn3 ho' hg' hat'
          have R3 := hideP (R2.out.app HSH.out ho' hg' hat')
          obtain ⟨xa, ya, ea⟩ := owns_form (R3.out.c _ _ rfl)
          subst ea
          clear ho' hg' hat'
          refine hK.out _ _ R3.out.bel (fun _ => ?_)
          clear hK R2
          refine wpAnyH_ready (rs := [9]) (by kernel_rfl) (by simp) ?_
          refine AllReadyH.cons rfl (fun K hK => ?_) AllReadyH.nil
          go_simp
          have R4 := hideP (R3.out.lit)
          refine hK.out _ _ R4.out.bel (fun _ => ?_)
          clear hK R3
          generalize wn3.alloc (.cells #[] 3) = wn4 at *
          generalize wn3.heap.size = gb at *
          refine wpAnyH_ready (rs := [10]) (by kernel_rfl) (by simp) ?_
          refine AllReadyH.cons rfl (fun K hK => ?_) AllReadyH.nil
          go_simp
          refine (l2Made_two wn4.heap.size _ _ _ _ _ sh _ (by omega) (own_of_any (R4.out.c _ _ rfl)).rd (Nat.le_refl _)).mono ?_
          rintro e wn5 ⟨q0, n0, c0, q1, n1, c1, cc, rfl, hb, hor⟩
          have R5 := hideP (R4.out.keep hb)
          have M := hideP hor
          clear hb hor
          refine hK.out _ _ R5.out.bel (fun _ => ?_)
          clear hK R4
          refine wpAnyH_take (i := 11) (v := .tuple #[.agg #[.slice q0 n0 c0, .slice q1 n1 c1], .int .i64 cc]) rfl (by kernel_rfl) (by kernel_rfl) (by kernel_rfl) (fun _ _ _ h => h) (Or.inl ⟨by rfl, ?_⟩) R5.out.bel ?_
          · intro w' hS
            clear hS
            go_simp
          refine wpAnyH_take (i := 12) (v := .agg #[.slice q0 n0 c0, .slice q1 n1 c1]) rfl (by kernel_rfl) (by kernel_rfl) (by kernel_rfl) (fun _ _ _ h => h) (Or.inl ⟨by rfl, ?_⟩) R5.out.bel ?_
          · intro w' hS
            clear hS
            go_simp
          refine wpAnyH_take (i := 13) (v := .int .i64 cc) rfl (by kernel_rfl) (by kernel_rfl) (by kernel_rfl) (fun _ _ _ h => h) (Or.inl ⟨by rfl, ?_⟩) R5.out.bel ?_
          · intro w' hS
            clear hS
            go_simp
          refine wpAnyH_ready (rs := [15]) (by kernel_rfl) (by simp) ?_
          refine AllReadyH.cons rfl (fun K hK => ?_) AllReadyH.nil
          have MK := hideP (R5.out.done M.out)
          have hp := (R5.out.p _ rfl).2
          have hA1 := (Array.getElem?_eq_some_iff.1 hp).1
          have cA0 : wn5.cell? ⟨P, 0, none⟩ = some (.slice none 0 0) := cell_blk hp
          have cA1 : wn5.cell? ⟨P, 1, none⟩ = some (.slice none 0 0) := cell_blk hp
          have fA : ∀ o, wn5.frozen? ⟨P, o, none⟩ = false := fun o => frozen_blk hp
          clear hp
          go_simp
          refine hK.out _ _ MK.out.1 (fun _ => ?_)
          clear hK
          refine wpAnyH_ready (rs := [16]) (by kernel_rfl) (by simp) ?_
          refine AllReadyH.cons rfl (fun K hK => ?_) AllReadyH.nil
          go_simp
          refine hK.out _ _ MK.out.1 (fun _ => ?_)
          clear hK
          refine wpAnyH_done (by kernel_rfl) ?_ _
          clear cA0 cA1 fA
          go_wp2_with fail
          go_meet
          case rel => exact ⟨_, _, _, _, _, _, _, _, rfl, rfl, MK⟩
        · go_simp
          have R3 := hideP (R2.out.lit)
          refine hK.out _ _ R3.out.bel (fun _ => ?_)
          clear hK R2
          generalize wn2.alloc (.cells #[] 3) = wn3 at *
          generalize wn2.heap.size = gb at *
          refine wpAnyH_ready (rs := [8]) (by kernel_rfl) (by simp) ?_
          refine AllReadyH.cons rfl (fun K hK => ?_) AllReadyH.nil
          refine step_append_at (base := w2.heap.size) _ rfl _ _ rfl (.slice xc ta.length yc) (.slice (some ⟨b2, o2, none⟩) tb.length tb.length) rfl rfl ta.length ta tb (R3.out.c _ _ rfl) (RV.out _ R3.out.bel).2 (by omega) R3.out.bel.size ?_
          intro v' wn4 ho' hg' hat'
          have R4 := hideP (R3.out.app HSH.out ho' hg' hat')
          obtain ⟨xa, ya, ea⟩ := owns_form (R4.out.c _ _ rfl)
          subst ea
          clear ho' hg' hat'
          refine hK.out _ _ R4.out.bel (fun _ => ?_)
          clear hK R3
          refine wpAnyH_ready (rs := [10]) (by kernel_rfl) (by simp) ?_
          refine AllReadyH.cons rfl (fun K hK => ?_) AllReadyH.nil
          go_simp
          refine (l2Made_two wn4.heap.size _ _ _ _ _ sh _ (by omega) (own_of_any (R4.out.c _ _ rfl)).rd (Nat.le_refl _)).mono ?_
          rintro e wn5 ⟨q0, n0, c0, q1, n1, c1, cc, rfl, hb, hor⟩
          have R5 := hideP (R4.out.keep hb)
          have M := hideP hor
          clear hb hor
          refine hK.out _ _ R5.out.bel (fun _ => ?_)
          clear hK R4
          refine wpAnyH_take (i := 11) (v := .tuple #[.agg #[.slice q0 n0 c0, .slice q1 n1 c1], .int .i64 cc]) rfl (by kernel_rfl) (by kernel_rfl) (by kernel_rfl) (fun _ _ _ h => h) (Or.inl ⟨by rfl, ?_⟩) R5.out.bel ?_
          · intro w' hS
            clear hS
            go_simp
          refine wpAnyH_take (i := 12) (v := .agg #[.slice q0 n0 c0, .slice q1 n1 c1]) rfl (by kernel_rfl) (by kernel_rfl) (by kernel_rfl) (fun _ _ _ h => h) (Or.inl ⟨by rfl, ?_⟩) R5.out.bel ?_
          · intro w' hS
            clear hS
            go_simp
          refine wpAnyH_take (i := 13) (v := .int .i64 cc) rfl (by kernel_rfl) (by kernel_rfl) (by kernel_rfl) (fun _ _ _ h => h) (Or.inl ⟨by rfl, ?_⟩) R5.out.bel ?_
          · intro w' hS
            clear hS
            go_simp
          refine wpAnyH_ready (rs := [15]) (by kernel_rfl) (by simp) ?_
          refine AllReadyH.cons rfl (fun K hK => ?_) AllReadyH.nil
          have MK := hideP (R5.out.done M.out)
          have hp := (R5.out.p _ rfl).2
          have hA1 := (Array.getElem?_eq_some_iff.1 hp).1
          have cA0 : wn5.cell? ⟨P, 0, none⟩ = some (.slice none 0 0) := cell_blk hp
          have cA1 : wn5.cell? ⟨P, 1, none⟩ = some (.slice none 0 0) := cell_blk hp
          have fA : ∀ o, wn5.frozen? ⟨P, o, none⟩ = false := fun o => frozen_blk hp
          clear hp
          go_simp
          refine hK.out _ _ MK.out.1 (fun _ => ?_)
          clear hK
          refine wpAnyH_ready (rs := [16]) (by kernel_rfl) (by simp) ?_
          refine AllReadyH.cons rfl (fun K hK => ?_) AllReadyH.nil
          go_simp
          refine hK.out _ _ MK.out.1 (fun _ => ?_)
          clear hK
          refine wpAnyH_done (by kernel_rfl) ?_ _
          clear cA0 cA1 fA
          go_wp2_with fail
          go_meet
          case rel => exact ⟨_, _, _, _, _, _, _, _, rfl, rfl, MK⟩
    · go_simp
      have R1 := hideP (R0.out.lit)
      refine hK.out _ _ R1.out.bel (fun _ => ?_)
      clear hK R0
      generalize wn0.alloc (.cells #[] 3) = wn1 at *
      generalize wn0.heap.size = gb at *
      refine wpAnyH_ready (rs := [4, 14]) (by kernel_rfl) (by simp) ?_
      refine AllReadyH.cons rfl (fun K hK => ?_) (AllReadyH.cons rfl (fun K hK => ?_) AllReadyH.nil)
      · go_simp
        refine (l2Copy_any _ ta _ (by omega) (RV.out _ R1.out.bel).1).mono ?_
        rintro e wn2 ⟨v2, rfl, ho2, hb2⟩
        have R2 := hideP (R1.out.copy ho2 hb2)
        obtain ⟨xc, yc, ec⟩ := owns_form ho2
        subst ec
        clear ho2 hb2
        refine hK.out _ _ R2.out.bel (fun _ => ?_)
        clear hK R1
        refine wpAnyH_ready (rs := [8, 14]) (by kernel_rfl) (by simp) ?_
        refine AllReadyH.cons rfl (fun K hK => ?_) (AllReadyH.cons rfl (fun K hK => ?_) AllReadyH.nil)
        · refine step_append_at (base := w2.heap.size) _ rfl _ _ rfl (.slice xc ta.length yc) (.slice (some ⟨b2, o2, none⟩) tb.length tb.length) rfl rfl ta.length ta tb (R2.out.c _ _ rfl) (RV.out _ R2.out.bel).2 (by omega) R2.out.bel.size ?_
          intro v' wn3 ho' hg' hat'
          have R3 := hideP (R2.out.app HSH.out ho' hg' hat')
          obtain ⟨xa, ya, ea⟩ := owns_form (R3.out.c _ _ rfl)
          subst ea
          clear ho' hg' hat'
          refine hK.out _ _ R3.out.bel (fun _ => ?_)
          clear hK R2
          refine wpAnyH_ready (rs := [10, 14]) (by kernel_rfl) (by simp) ?_
          refine AllReadyH.cons rfl (fun K hK => ?_) (AllReadyH.cons rfl (fun K hK => ?_) AllReadyH.nil)
          · go_simp
            refine (l2Made_two wn3.heap.size _ _ _ _ _ sh _ (by omega) (own_of_any (R3.out.c _ _ rfl)).rd (Nat.le_refl _)).mono ?_
            rintro e wn4 ⟨q0, n0, c0, q1, n1, c1, cc, rfl, hb, hor⟩
            have R4 := hideP (R3.out.keep hb)
            have M := hideP hor
            clear hb hor
            refine hK.out _ _ R4.out.bel (fun _ => ?_)
            clear hK R3
            refine wpAnyH_take (i := 11) (v := .tuple #[.agg #[.slice q0 n0 c0, .slice q1 n1 c1], .int .i64 cc]) rfl (by kernel_rfl) (by kernel_rfl) (by kernel_rfl) (fun _ _ _ h => h) (Or.inl ⟨by rfl, ?_⟩) R4.out.bel ?_
            · intro w' hS
              clear hS
              go_simp
            refine wpAnyH_take (i := 12) (v := .agg #[.slice q0 n0 c0, .slice q1 n1 c1]) rfl (by kernel_rfl) (by kernel_rfl) (by kernel_rfl) (fun _ _ _ h => h) (Or.inl ⟨by rfl, ?_⟩) R4.out.bel ?_
            · intro w' hS
              clear hS
              go_simp
            refine wpAnyH_take (i := 13) (v := .int .i64 cc) rfl (by kernel_rfl) (by kernel_rfl) (by kernel_rfl) (fun _ _ _ h => h) (Or.inl ⟨by rfl, ?_⟩) R4.out.bel ?_
            · intro w' hS
              clear hS
              go_simp
            refine wpAnyH_ready (rs := [14]) (by kernel_rfl) (by simp) ?_
            refine AllReadyH.cons rfl (fun K hK => ?_) AllReadyH.nil
            go_simp
            have R5 := hideP (R4.out.var)
            refine hK.out _ _ R5.out.bel (fun _ => ?_)
            clear hK R4
            generalize wn4.alloc (.cells #[.slice none 0 0, .slice none 0 0] 26) = wn5 at *
            generalize wn4.heap.size = P at *
            refine wpAnyH_ready (rs := [15]) (by kernel_rfl) (by simp) ?_
            refine AllReadyH.cons rfl (fun K hK => ?_) AllReadyH.nil
            have MK := hideP (R5.out.done M.out)
            have hp := (R5.out.p _ rfl).2
            have hA1 := (Array.getElem?_eq_some_iff.1 hp).1
            have cA0 : wn5.cell? ⟨P, 0, none⟩ = some (.slice none 0 0) := cell_blk hp
            have cA1 : wn5.cell? ⟨P, 1, none⟩ = some (.slice none 0 0) := cell_blk hp
            have fA : ∀ o, wn5.frozen? ⟨P, o, none⟩ = false := fun o => frozen_blk hp
            clear hp
            go_simp
            refine hK.out _ _ MK.out.1 (fun _ => ?_)
            clear hK
            refine wpAnyH_ready (rs := [16]) (by kernel_rfl) (by simp) ?_
            refine AllReadyH.cons rfl (fun K hK => ?_) AllReadyH.nil
            go_simp
            refine hK.out _ _ MK.out.1 (fun _ => ?_)
            clear hK
            refine wpAnyH_done (by kernel_rfl) ?_ _
            clear cA0 cA1 fA
            go_wp2_with fail
            go_meet
            case rel => exact ⟨_, _, _, _, _, _, _, _, rfl, rfl, MK⟩
          · go_simp
            have R4 := hideP (R3.out.var)
            refine hK.out _ _ R4.out.bel (fun _ => ?_)
            clear hK R3
            generalize wn3.alloc (.cells #[.slice none 0 0, .slice none 0 0] 26) = wn4 at *
            generalize wn3.heap.size = P at *
            refine wpAnyH_ready (rs := [10]) (by kernel_rfl) (by simp) ?_
            refine AllReadyH.cons rfl (fun K hK => ?_) AllReadyH.nil
            go_simp
            refine (l2Made_two wn4.heap.size _ _ _ _ _ sh _ (by omega) (own_of_any (R4.out.c _ _ rfl)).rd (Nat.le_refl _)).mono ?_
            rintro e wn5 ⟨q0, n0, c0, q1, n1, c1, cc, rfl, hb, hor⟩
            have R5 := hideP (R4.out.keep hb)
            have M := hideP hor
            clear hb hor
            refine hK.out _ _ R5.out.bel (fun _ => ?_)
            clear hK R4
            refine wpAnyH_take (i := 11) (v := .tuple #[.agg #[.slice q0 n0 c0, .slice q1 n1 c1], .int .i64 cc]) rfl (by kernel_rfl) (by kernel_rfl) (by kernel_rfl) (fun _ _ _ h => h) (Or.inl ⟨by rfl, ?_⟩) R5.out.bel ?_
            · intro w' hS
              clear hS
              go_simp
            refine wpAnyH_take (i := 12) (v := .agg #[.slice q0 n0 c0, .slice q1 n1 c1]) rfl (by kernel_rfl) (by kernel_rfl) (by kernel_rfl) (fun _ _ _ h => h) (Or.inl ⟨by rfl, ?_⟩) R5.out.bel ?_
            · intro w' hS
              clear hS
              go_simp
            refine wpAnyH_take (i := 13) (v := .int .i64 cc) rfl (by kernel_rfl) (by kernel_rfl) (by kernel_rfl) (fun _ _ _ h => h) (Or.inl ⟨by rfl, ?_⟩) R5.out.bel ?_
            · intro w' hS
              clear hS
              go_simp
            refine wpAnyH_ready (rs := [15]) (by kernel_rfl) (by simp) ?_
            refine AllReadyH.cons rfl (fun K hK => ?_) AllReadyH.nil
            have MK := hideP (R5.out.done M.out)
            have hp := (R5.out.p _ rfl).2
            have hA1 := (Array.getElem?_eq_some_iff.1 hp).1
            have cA0 : wn5.cell? ⟨P, 0, none⟩ = some (.slice none 0 0) := cell_blk hp
            have cA1 : wn5.cell? ⟨P, 1, none⟩ = some (.slice none 0 0) := cell_blk hp
            have fA : ∀ o, wn5.frozen? ⟨P, o, none⟩ = false := fun o => frozen_blk hp
            clear hp
            go_simp
            refine hK.out _ _ MK.out.1 (fun _ => ?_)
            clear hK
            refine wpAnyH_ready (rs := [16]) (by kernel_rfl) (by simp) ?_
            refine AllReadyH.cons rfl (fun K hK => ?_) AllReadyH.nil
            go_simp
            refine hK.out _ _ MK.out.1 (fun _ => ?_)
            clear hK
            refine wpAnyH_done (by kernel_rfl) ?_ _
            clear cA0 cA1 fA
            go_wp2_with fail
            go_meet
            case rel => exact ⟨_, _, _, _, _, _, _, _, rfl, rfl, MK⟩
        · go_simp
          have R3 := hideP (R2.out.var)
          refine hK.out _ _ R3.out.bel (fun _ => ?_)
          clear hK R2
          generalize wn2.alloc (.cells #[.slice none 0 0, .slice none 0 0] 26) = wn3 at *
          generalize wn2.heap.size = P at *
          refine wpAnyH_ready (rs := [8]) (by kernel_rfl) (by simp) ?_
          refine AllReadyH.cons rfl (fun K hK => ?_) AllReadyH.nil
          refine step_append_at (base := w2.heap.size) _ rfl _ _ rfl (.slice xc ta.length yc) (.slice (some ⟨b2, o2, none⟩) tb.length tb.length) rfl rfl ta.length ta tb (R3.out.c _ _ rfl) (RV.out _ R3.out.bel).2 (by omega) R3.out.bel.size ?_
          intro v' wn4 ho' hg' hat'
          have R4 := hideP (R3.out.app HSH.out ho' hg' hat')
          obtain ⟨xa, ya, ea⟩ := owns_form (R4.out.c _ _ rfl)
          subst ea
          clear ho' hg' hat'
          refine hK.out _ _ R4.out.bel (fun _ => ?_)
          clear hK R3
          refine wpAnyH_ready (rs := [10]) (by kernel_rfl) (by simp) ?_
          refine AllReadyH.cons rfl (fun K hK => ?_) AllReadyH.nil
          go_simp
          refine (l2Made_two wn4.heap.size _ _ _ _ _ sh _ (by omega) (own_of_any (R4.out.c _ _ rfl)).rd (Nat.le_refl _)).mono ?_
          rintro e wn5 ⟨q0, n0, c0, q1, n1, c1, cc, rfl, hb, hor⟩
          have R5 := hideP (R4.out.keep hb)
          have M := hideP hor
          clear hb hor
          refine hK.out _ _ R5.out.bel (fun _ => ?_)
          clear hK R4
          refine wpAnyH_take (i := 11) (v := .tuple #[.agg #[.slice q0 n0 c0, .slice q1 n1 c1], .int .i64 cc]) rfl (by kernel_rfl) (by kernel_rfl) (by kernel_rfl) (fun _ _ _ h => h) (Or.inl ⟨by rfl, ?_⟩) R5.out.bel ?_
          · intro w' hS
            clear hS
            go_simp
          refine wpAnyH_take (i := 12) (v := .agg #[.slice q0 n0 c0, .slice q1 n1 c1]) rfl (by kernel_rfl) (by kernel_rfl) (by kernel_rfl) (fun _ _ _ h => h) (Or.inl ⟨by rfl, ?_⟩) R5.out.bel ?_
          · intro w' hS
            clear hS
            go_simp
          refine wpAnyH_take (i := 13) (v := .int .i64 cc) rfl (by kernel_rfl) (by kernel_rfl) (by kernel_rfl) (fun _ _ _ h => h) (Or.inl ⟨by rfl, ?_⟩) R5.out.bel ?_
          · intro w' hS
            clear hS
            go_simp
          refine wpAnyH_ready (rs := [15]) (by kernel_rfl) (by simp) ?_
          refine AllReadyH.cons rfl (fun K hK => ?_) AllReadyH.nil
          have MK := hideP (R5.out.done M.out)
          have hp := (R5.out.p _ rfl).2
          have hA1 := (Array.getElem?_eq_some_iff.1 hp).1
          have cA0 : wn5.cell? ⟨P, 0, none⟩ = some (.slice none 0 0) := cell_blk hp
          have cA1 : wn5.cell? ⟨P, 1, none⟩ = some (.slice none 0 0) := cell_blk hp
          have fA : ∀ o, wn5.frozen? ⟨P, o, none⟩ = false := fun o => frozen_blk hp
          clear hp
          go_simp
          refine hK.out _ _ MK.out.1 (fun _ => ?_)
          clear hK
          refine wpAnyH_ready (rs := [16]) (by kernel_rfl) (by simp) ?_
          refine AllReadyH.cons rfl (fun K hK => ?_) AllReadyH.nil
          go_simp
          refine hK.out _ _ MK.out.1 (fun _ => ?_)
          clear hK
          refine wpAnyH_done (by kernel_rfl) ?_ _
          clear cA0 cA1 fA
          go_wp2_with fail
          go_meet
          case rel => exact ⟨_, _, _, _, _, _, _, _, rfl, rfl, MK⟩
      · go_simp
        have R2 := hideP (R1.out.var)
        refine hK.out _ _ R2.out.bel (fun _ => ?_)
        clear hK R1
        generalize wn1.alloc (.cells #[.slice none 0 0, .slice none 0 0] 26) = wn2 at *
        generalize wn1.heap.size = P at *
        refine wpAnyH_ready (rs := [4]) (by kernel_rfl) (by simp) ?_
        refine AllReadyH.cons rfl (fun K hK => ?_) AllReadyH.nil
        go_simp
        refine (l2Copy_any _ ta _ (by omega) (RV.out _ R2.out.bel).1).mono ?_
        rintro e wn3 ⟨v2, rfl, ho2, hb2⟩
        have R3 := hideP (R2.out.copy ho2 hb2)
        obtain ⟨xc, yc, ec⟩ := owns_form ho2
        subst ec
        clear ho2 hb2
        refine hK.out _ _ R3.out.bel (fun _ => ?_)
        clear hK R2
        refine wpAnyH_ready (rs := [8]) (by kernel_rfl) (by simp) ?_
        refine AllReadyH.cons rfl (fun K hK => ?_) AllReadyH.nil
        refine step_append_at (base := w2.heap.size) _ rfl _ _ rfl (.slice xc ta.length yc) (.slice (some ⟨b2, o2, none⟩) tb.length tb.length) rfl rfl ta.length ta tb (R3.out.c _ _ rfl) (RV.out _ R3.out.bel).2 (by omega) R3.out.bel.size ?_
        intro v' wn4 ho' hg' hat'
        have R4 := hideP (R3.out.app HSH.out ho' hg' hat')
        obtain ⟨xa, ya, ea⟩ := owns_form (R4.out.c _ _ rfl)
        subst ea
        clear ho' hg' hat'
        refine hK.out _ _ R4.out.bel (fun _ => ?_)
        clear hK R3
        refine wpAnyH_ready (rs := [10]) (by kernel_rfl) (by simp) ?_
        refine AllReadyH.cons rfl (fun K hK => ?_) AllReadyH.nil
        go_simp
        refine (l2Made_two wn4.heap.size _ _ _ _ _ sh _ (by omega) (own_of_any (R4.out.c _ _ rfl)).rd (Nat.le_refl _)).mono ?_
        rintro e wn5 ⟨q0, n0, c0, q1, n1, c1, cc, rfl, hb, hor⟩
        have R5 := hideP (R4.out.keep hb)
        have M := hideP hor
        clear hb hor
        refine hK.out _ _ R5.out.bel (fun _ => ?_)
        clear hK R4
        refine wpAnyH_take (i := 11) (v := .tuple #[.agg #[.slice q0 n0 c0, .slice q1 n1 c1], .int .i64 cc]) rfl (by kernel_rfl) (by kernel_rfl) (by kernel_rfl) (fun _ _ _ h => h) (Or.inl ⟨by rfl, ?_⟩) R5.out.bel ?_
        · intro w' hS
          clear hS
          go_simp
        refine wpAnyH_take (i := 12) (v := .agg #[.slice q0 n0 c0, .slice q1 n1 c1]) rfl (by kernel_rfl) (by kernel_rfl) (by kernel_rfl) (fun _ _ _ h => h) (Or.inl ⟨by rfl, ?_⟩) R5.out.bel ?_
        · intro w' hS
          clear hS
          go_simp
        refine wpAnyH_take (i := 13) (v := .int .i64 cc) rfl (by kernel_rfl) (by kernel_rfl) (by kernel_rfl) (fun _ _ _ h => h) (Or.inl ⟨by rfl, ?_⟩) R5.out.bel ?_
        · intro w' hS
          clear hS
          go_simp
        refine wpAnyH_ready (rs := [15]) (by kernel_rfl) (by simp) ?_
        refine AllReadyH.cons rfl (fun K hK => ?_) AllReadyH.nil
        have MK := hideP (R5.out.done M.out)
        have hp := (R5.out.p _ rfl).2
        have hA1 := (Array.getElem?_eq_some_iff.1 hp).1
        have cA0 : wn5.cell? ⟨P, 0, none⟩ = some (.slice none 0 0) := cell_blk hp
        have cA1 : wn5.cell? ⟨P, 1, none⟩ = some (.slice none 0 0) := cell_blk hp
        have fA : ∀ o, wn5.frozen? ⟨P, o, none⟩ = false := fun o => frozen_blk hp
        clear hp
        go_simp
        refine hK.out _ _ MK.out.1 (fun _ => ?_)
        clear hK
        refine wpAnyH_ready (rs := [16]) (by kernel_rfl) (by simp) ?_
        refine AllReadyH.cons rfl (fun K hK => ?_) AllReadyH.nil
        go_simp
        refine hK.out _ _ MK.out.1 (fun _ => ?_)
        clear hK
        refine wpAnyH_done (by kernel_rfl) ?_ _
        clear cA0 cA1 fA
        go_wp2_with fail
        go_meet
        case rel => exact ⟨_, _, _, _, _, _, _, _, rfl, rfl, MK⟩
    · go_simp
      have R1 := hideP (R0.out.var)
      refine hK.out _ _ R1.out.bel (fun _ => ?_)
      clear hK R0
      generalize wn0.alloc (.cells #[.slice none 0 0, .slice none 0 0] 26) = wn1 at *
      generalize wn0.heap.size = P at *
      refine wpAnyH_ready (rs := [4, 9]) (by kernel_rfl) (by simp) ?_
      refine AllReadyH.cons rfl (fun K hK => ?_) (AllReadyH.cons rfl (fun K hK => ?_) AllReadyH.nil)
      · go_simp
        refine (l2Copy_any _ ta _ (by omega) (RV.out _ R1.out.bel).1).mono ?_
        rintro e wn2 ⟨v2, rfl, ho2, hb2⟩
        have R2 := hideP (R1.out.copy ho2 hb2)
        obtain ⟨xc, yc, ec⟩ := owns_form ho2
        subst ec
        clear ho2 hb2
        refine hK.out _ _ R2.out.bel (fun _ => ?_)
        clear hK R1
        refine wpAnyH_ready (rs := [8, 9]) (by kernel_rfl) (by simp) ?_
        refine AllReadyH.cons rfl (fun K hK => ?_) (AllReadyH.cons rfl (fun K hK => ?_) AllReadyH.nil)
        · refine step_append_at (base := w2.heap.size) _ rfl _ _ rfl (.slice xc ta.length yc) (.slice (some ⟨b2, o2, none⟩) tb.length tb.length) rfl rfl ta.length ta tb (R2.out.c _ _ rfl) (RV.out _ R2.out.bel).2 (by omega) R2.out.bel.size ?_
          intro v' wn3 ho' hg' hat'
          have R3 := hideP (R2.out.app HSH.out ho' hg' hat')
          obtain ⟨xa, ya, ea⟩ := owns_form (R3.out.c _ _ rfl)
          subst ea
          clear ho' hg' hat'
          refine hK.out _ _ R3.out.bel (fun _ => ?_)
          clear hK R2
          refine wpAnyH_ready (rs := [9]) (by kernel_rfl) (by simp) ?_
          refine AllReadyH.cons rfl (fun K hK => ?_) AllReadyH.nil
          go_simp
          have R4 := hideP (R3.out.lit)
          refine hK.out _ _ R4.out.bel (fun _ => ?_)
          clear hK R3
          generalize wn3.alloc (.cells #[] 3) = wn4 at *
          generalize wn3.heap.size = gb at *
          refine wpAnyH_ready (rs := [10]) (by kernel_rfl) (by simp) ?_
          refine AllReadyH.cons rfl (fun K hK => ?_) AllReadyH.nil
          go_simp
          refine (l2Made_two wn4.heap.size _ _ _ _ _ sh _ (by omega) (own_of_any (R4.out.c _ _ rfl)).rd (Nat.le_refl _)).mono ?_
          rintro e wn5 ⟨q0, n0, c0, q1, n1, c1, cc, rfl, hb, hor⟩
          have R5 := hideP (R4.out.keep hb)
          have M := hideP hor
          clear hb hor
          refine hK.out _ _ R5.out.bel (fun _ => ?_)
          clear hK R4
          refine wpAnyH_take (i := 11) (v := .tuple #[.agg #[.slice q0 n0 c0, .slice q1 n1 c1], .int .i64 cc]) rfl (by kernel_rfl) (by kernel_rfl) (by kernel_rfl) (fun _ _ _ h => h) (Or.inl ⟨by rfl, ?_⟩) R5.out.bel ?_
          · intro w' hS
            clear hS
            go_simp
          refine wpAnyH_take (i := 12) (v := .agg #[.slice q0 n0 c0, .slice q1 n1 c1]) rfl (by kernel_rfl) (by kernel_rfl) (by kernel_rfl) (fun _ _ _ h => h) (Or.inl ⟨by rfl, ?_⟩) R5.out.bel ?_
          · intro w' hS
            clear hS
            go_simp
          refine wpAnyH_take (i := 13) (v := .int .i64 cc) rfl (by kernel_rfl) (by kernel_rfl) (by kernel_rfl) (fun _ _ _ h => h) (Or.inl ⟨by rfl, ?_⟩) R5.out.bel ?_
          · intro w' hS
            clear hS
            go_simp
          refine wpAnyH_ready (rs := [15]) (by kernel_rfl) (by simp) ?_
          refine AllReadyH.cons rfl (fun K hK => ?_) AllReadyH.nil
          have MK := hideP (R5.out.done M.out)
          have hp := (R5.out.p _ rfl).2
          have hA1 := (Array.getElem?_eq_some_iff.1 hp).1
          have cA0 : wn5.cell? ⟨P, 0, none⟩ = some (.slice none 0 0) := cell_blk hp
          have cA1 : wn5.cell? ⟨P, 1, none⟩ = some (.slice none 0 0) := cell_blk hp
          have fA : ∀ o, wn5.frozen? ⟨P, o, none⟩ = false := fun o => frozen_blk hp
          clear hp
          go_simp
          refine hK.out _ _ MK.out.1 (fun _ => ?_)
          clear hK
          refine wpAnyH_ready (rs := [16]) (by kernel_rfl) (by simp) ?_
          refine AllReadyH.cons rfl (fun K hK => ?_) AllReadyH.nil
          go_simp
          refine hK.out _ _ MK.out.1 (fun _ => ?_)
          clear hK
          refine wpAnyH_done (by kernel_rfl) ?_ _
          clear cA0 cA1 fA
          go_wp2_with fail
          go_meet
          case rel => exact ⟨_, _, _, _, _, _, _, _, rfl, rfl, MK⟩
        · go_simp
          have R3 := hideP (R2.out.lit)
          refine hK.out _ _ R3.out.bel (fun _ => ?_)
          clear hK R2
          generalize wn2.alloc (.cells #[] 3) = wn3 at *
          generalize wn2.heap.size = gb at *
          refine wpAnyH_ready (rs := [8]) (by kernel_rfl) (by simp) ?_
          refine AllReadyH.cons rfl (fun K hK => ?_) AllReadyH.nil
          refine step_append_at (base := w2.heap.size) _ rfl _ _ rfl (.slice xc ta.length yc) (.slice (some ⟨b2, o2, none⟩) tb.length tb.length) rfl rfl ta.length ta tb (R3.out.c _ _ rfl) (RV.out _ R3.out.bel).2 (by omega) R3.out.bel.size ?_
          intro v' wn4 ho' hg' hat'
          have R4 := hideP (R3.out.app HSH.out ho' hg' hat')
          obtain ⟨xa, ya, ea⟩ := owns_form (R4.out.c _ _ rfl)
          subst ea
          clear ho' hg' hat'
          refine hK.out _ _ R4.out.bel (fun _ => ?_)
          clear hK R3
          refine wpAnyH_ready (rs := [10]) (by kernel_rfl) (by simp) ?_
          refine AllReadyH.cons rfl (fun K hK => ?_) AllReadyH.nil
          go_simp
          refine (l2Made_two wn4.heap.size _ _ _ _ _ sh _ (by omega) (own_of_any (R4.out.c _ _ rfl)).rd (Nat.le_refl _)).mono ?_
          rintro e wn5 ⟨q0, n0, c0, q1, n1, c1, cc, rfl, hb, hor⟩
          have R5 := hideP (R4.out.keep hb)
          have M := hideP hor
          clear hb hor
          refine hK.out _ _ R5.out.bel (fun _ => ?_)
          clear hK R4
          refine wpAnyH_take (i := 11) (v := .tuple #[.agg #[.slice q0 n0 c0, .slice q1 n1 c1], .int .i64 cc]) rfl (by kernel_rfl) (by kernel_rfl) (by kernel_rfl) (fun _ _ _ h => h) (Or.inl ⟨by rfl, ?_⟩) R5.out.bel ?_
          · intro w' hS
            clear hS
            go_simp
          refine wpAnyH_take (i := 12) (v := .agg #[.slice q0 n0 c0, .slice q1 n1 c1]) rfl (by kernel_rfl) (by kernel_rfl) (by kernel_rfl) (fun _ _ _ h => h) (Or.inl ⟨by rfl, ?_⟩) R5.out.bel ?_
          · intro w' hS
            clear hS
            go_simp
          refine wpAnyH_take (i := 13) (v := .int .i64 cc) rfl (by kernel_rfl) (by kernel_rfl) (by kernel_rfl) (fun _ _ _ h => h) (Or.inl ⟨by rfl, ?_⟩) R5.out.bel ?_
          · intro w' hS
            clear hS
            go_simp
          refine wpAnyH_ready (rs := [15]) (by kernel_rfl) (by simp) ?_
          refine AllReadyH.cons rfl (fun K hK => ?_) AllReadyH.nil
          have MK := hideP (R5.out.done M.out)
          have hp := (R5.out.p _ rfl).2
          have hA1 := (Array.getElem?_eq_some_iff.1 hp).1
          have cA0 : wn5.cell? ⟨P, 0, none⟩ = some (.slice none 0 0) := cell_blk hp
          have cA1 : wn5.cell? ⟨P, 1, none⟩ = some (.slice none 0 0) := cell_blk hp
          have fA : ∀ o, wn5.frozen? ⟨P, o, none⟩ = false := fun o => frozen_blk hp
          clear hp
          go_simp
          refine hK.out _ _ MK.out.1 (fun _ => ?_)
          clear hK
          refine wpAnyH_ready (rs := [16]) (by kernel_rfl) (by simp) ?_
          refine AllReadyH.cons rfl (fun K hK => ?_) AllReadyH.nil
          go_simp
          refine hK.out _ _ MK.out.1 (fun _ => ?_)
          clear hK
          refine wpAnyH_done (by kernel_rfl) ?_ _
          clear cA0 cA1 fA
          go_wp2_with fail
          go_meet
          case rel => exact ⟨_, _, _, _, _, _, _, _, rfl, rfl, MK⟩
      · go_simp
        have R2 := hideP (R1.out.lit)
        refine hK.out _ _ R2.out.bel (fun _ => ?_)
        clear hK R1
        generalize wn1.alloc (.cells #[] 3) = wn2 at *
        generalize wn1.heap.size = gb at *
        refine wpAnyH_ready (rs := [4]) (by kernel_rfl) (by simp) ?_
        refine AllReadyH.cons rfl (fun K hK => ?_) AllReadyH.nil
        go_simp
        refine (l2Copy_any _ ta _ (by omega) (RV.out _ R2.out.bel).1).mono ?_
        rintro e wn3 ⟨v2, rfl, ho2, hb2⟩
        have R3 := hideP (R2.out.copy ho2 hb2)
        obtain ⟨xc, yc, ec⟩ := owns_form ho2
        subst ec
        clear ho2 hb2
        refine hK.out _ _ R3.out.bel (fun _ => ?_)
        clear hK R2
        refine wpAnyH_ready (rs := [8]) (by kernel_rfl) (by simp) ?_
        refine AllReadyH.cons rfl (fun K hK => ?_) AllReadyH.nil
        refine step_append_at (base := w2.heap.size) _ rfl _ _ rfl (.slice xc ta.length yc) (.slice (some ⟨b2, o2, none⟩) tb.length tb.length) rfl rfl ta.length ta tb (R3.out.c _ _ rfl) (RV.out _ R3.out.bel).2 (by omega) R3.out.bel.size ?_
        intro v' wn4 ho' hg' hat'
        have R4 := hideP (R3.out.app HSH.out ho' hg' hat')
        obtain ⟨xa, ya, ea⟩ := owns_form (R4.out.c _ _ rfl)
        subst ea
        clear ho' hg' hat'
        refine hK.out _ _ R4.out.bel (fun _ => ?_)
        clear hK R3
        refine wpAnyH_ready (rs := [10]) (by kernel_rfl) (by simp) ?_
        refine AllReadyH.cons rfl (fun K hK => ?_) AllReadyH.nil
        go_simp
        refine (l2Made_two wn4.heap.size _ _ _ _ _ sh _ (by omega) (own_of_any (R4.out.c _ _ rfl)).rd (Nat.le_refl _)).mono ?_
        rintro e wn5 ⟨q0, n0, c0, q1, n1, c1, cc, rfl, hb, hor⟩
        have R5 := hideP (R4.out.keep hb)
        have M := hideP hor
        clear hb hor
        refine hK.out _ _ R5.out.bel (fun _ => ?_)
        clear hK R4
        refine wpAnyH_take (i := 11) (v := .tuple #[.agg #[.slice q0 n0 c0, .slice q1 n1 c1], .int .i64 cc]) rfl (by kernel_rfl) (by kernel_rfl) (by kernel_rfl) (fun _ _ _ h => h) (Or.inl ⟨by rfl, ?_⟩) R5.out.bel ?_
        · intro w' hS
          clear hS
          go_simp
        refine wpAnyH_take (i := 12) (v := .agg #[.slice q0 n0 c0, .slice q1 n1 c1]) rfl (by kernel_rfl) (by kernel_rfl) (by kernel_rfl) (fun _ _ _ h => h) (Or.inl ⟨by rfl, ?_⟩) R5.out.bel ?_
        · intro w' hS
          clear hS
          go_simp
        refine wpAnyH_take (i := 13) (v := .int .i64 cc) rfl (by kernel_rfl) (by kernel_rfl) (by kernel_rfl) (fun _ _ _ h => h) (Or.inl ⟨by rfl, ?_⟩) R5.out.bel ?_
        · intro w' hS
          clear hS
          go_simp
        refine wpAnyH_ready (rs := [15]) (by kernel_rfl) (by simp) ?_
        refine AllReadyH.cons rfl (fun K hK => ?_) AllReadyH.nil
        have MK := hideP (R5.out.done M.out)
        have hp := (R5.out.p _ rfl).2
        have hA1 := (Array.getElem?_eq_some_iff.1 hp).1
        have cA0 : wn5.cell? ⟨P, 0, none⟩ = some (.slice none 0 0) := cell_blk hp
        have cA1 : wn5.cell? ⟨P, 1, none⟩ = some (.slice none 0 0) := cell_blk hp
        have fA : ∀ o, wn5.frozen? ⟨P, o, none⟩ = false := fun o => frozen_blk hp
        clear hp
        go_simp
        refine hK.out _ _ MK.out.1 (fun _ => ?_)
        clear hK
        refine wpAnyH_ready (rs := [16]) (by kernel_rfl) (by simp) ?_
        refine AllReadyH.cons rfl (fun K hK => ?_) AllReadyH.nil
        go_simp
        refine hK.out _ _ MK.out.1 (fun _ => ?_)
        clear hK
        refine wpAnyH_done (by kernel_rfl) ?_ _
        clear cA0 cA1 fA
        go_wp2_with fail
        go_meet
        case rel => exact ⟨_, _, _, _, _, _, _, _, rfl, rfl, MK⟩
  case rest =>
    obtain ⟨P, cc, q0, n0, z0, q1, n1, z1, rfl, rfl, MK⟩ := hcut
    rename World => wx
    clear PL
    have hm := MK.out.2
    rcases hm with ⟨hf, rfl, hL⟩ | ⟨hf, rfl, hle', hP⟩
    · have HL := hideP hL
      have e := HR.out
      rw [HSH.out, if_pos hf] at e
      generalize hC : Pl.firstG Q (List.range (H * T)) = C at e
      have PC := hideP hC
      have PE := hideP e
      have WX := hideP (W2.out.keep HL.out.bel)
      have RX := hideP (RV.out _ HL.out.bel)
      have ca0 := WX.out.2.2.1.1
      have cb0 := WX.out.2.2.1.2.2.1
      clear hC e HR hf MK hL RV
      generalize hlbt : tb.length = lb at *
      have HLT : Hid (tb.length = lb) := hlbt
      clear hlbt
      go_upto_region 13 with (go_at_call 20; refine (KH.out _ _ RX.out.1).mono ?_; rintro e wx ⟨rfl, rfl⟩)
      go_cut [15] (fun s15 wy => s15 = .int .i64 (T : Int) ∧ wy = wx)
      case first =>
        by_cases ht : lb = 0
        · have RZ : Hid (Rd wx.heap.size wx (.slice (some ⟨b2, 0, none⟩) 0 0) tb) := rd_zero _ _ _ _ _ (HLT.out.trans ht)
          clear HLT HO2 RX WX
          subst ht
          go_wp2_with (go_at_call 20; refine (KT.out _ _ RZ.out).mono ?_; rintro e wx ⟨rfl, rfl⟩)
          go_meet
          case rel => exact ⟨rfl, rfl⟩
        · have RZ : Hid (Rd wx.heap.size wx (.slice (some ⟨b2, 1, none⟩) lb lb) tb) := by
            have := RX.out.2
            rw [HO2.out, if_neg ht] at this
            exact this
          go_wp2_with (go_at_call 20; refine (KT.out _ _ RZ.out).mono ?_; rintro e wx ⟨rfl, rfl⟩)
          go_meet
          case rel => exact ⟨rfl, rfl⟩
      case rest =>
        obtain ⟨rfl, rfl⟩ := hcut
        rename World => wx
        clear ca0 cb0 RX WX KH KT test0 test2 H0 H2 CA CB HO2
        go_wp2_with fail
        go_loopw [16, 17, 18, 19, 20, 21] (fun s16 _ _ _ _ _ wr => ∃ i : Nat, i ≤ H ∧ s16 = .int .i64 i ∧ Hid (∀ j ∈ List.range (i * T), (Q j).2 = 0) ∧ ∃ nv, Hid (Lp w2 sh P (.slice q0 n0 z0) nv ((List.range (i * T)).map (fun j => (Q j).1)) wr)) (fun s16 _ _ _ _ _ _ => H - (intOf s16).toNat)
        case atStart =>
          refine ⟨0, Nat.zero_le _, rfl, by intro x hx; simp at hx, .slice q1 n1 z1, ?_⟩
          show Lp _ _ _ _ _ _ _
          rw [Nat.zero_mul]
          exact HL.out
        case round =>
          clear HL
          obtain ⟨i, hi, rfl, hz, nv, hL⟩ := hrel
          by_cases hlt : i < H
          · have hlt' : (i : Int) < (H : Int) := by omega
            go_wp2_with fail
            rename World => wj
            go_loopw [17, 18, 19, 20, 21] (fun s17 _ _ _ _ wq => ∃ k : Nat, k ≤ T ∧ s17 = .int .i64 k ∧ Hid (∀ j ∈ List.range (i * T + k), (Q j).2 = 0) ∧ ∃ nv, Hid (Lp w2 sh P (.slice q0 n0 z0) nv ((List.range (i * T + k)).map (fun j => (Q j).1)) wq)) (fun s17 _ _ _ _ _ => T - (intOf s17).toNat)
            case atStart => exact ⟨0, Nat.zero_le _, rfl, hz, nv, hL⟩
            case round =>
              clear hz hL
              obtain ⟨k, hk, rfl, hz, nv, hL⟩ := hrel
              by_cases hlt2 : k < T
              · have hlt2' : (k : Int) < (T : Int) := by omega
                have CCs := hideP (Pl.cell_cases (Pl.twoM kf) (Pl.twoM kg) (Pl.noneV kf) (Pl.noneB kf) hn' HLA.out HLB.out hlt hlt2 (fun x y x0 x1 y0 y1 => Pl.two_bd kg g0 g1 x y x0 x1 y0 y1) OX.out OY.out)
                rw [← HQ.out] at CCs
                have hat : i * T + k < H * T := by
                  have := Nat.mul_le_mul_right T (show i + 1 ≤ H from hlt)
                  rw [Nat.succ_mul] at this
                  omega
                have hpn : i * n + n ≤ da.length := by
                  rw [HLA.out, ← Nat.succ_mul]
                  exact Nat.mul_le_mul_right n hlt
                have FA : Hid (¬ (Q (i * T + k)).2 = 0 → Pl.firstG Q (List.range (H * T)) = (Q (i * T + k)).2) := fun h => Pl.range_first Q (H * T) (i * T + k) hat hz.out h
                rw [PC.out] at FA
                have UB : Hid ((List.range (i * T + k)).length + 1 ≤ 16777216) := by
                  show _ ≤ _
                  rw [List.length_range]
                  have := Nat.mul_le_mul hH' hT'
                  omega
                go_wp2_with fail
                rename World => wk
                clear hat
                go_loopw [18, 19] (fun s18 s19 wq => ∃ m : Nat, m ≤ n ∧ s19 = .int .i64 m ∧ Hid (wq.ownsRow wk.heap.size 3 1 s18 m ((Pl.innV db m T k).map (Value.int .i64))) ∧ Hid (Below wk.heap.size wk wq)) (fun _ s19 _ => n - (intOf s19).toNat)
                case atStart => exact ⟨0, Nat.zero_le _, rfl, owns_empty wk wk.heap.size (Nat.le_refl _), (Below.refl _ _).alloc (Nat.le_refl _) _⟩
                case round =>
                  obtain ⟨m, hm, rfl, ho, hb⟩ := hrel
                  have LQ := hideP (hL.out.quiet hb.out)
                  have WQ := hideP (W2.out.keep LQ.out.bel)
                  obtain ⟨xo, yo, eo⟩ := owns_form ho.out
                  subst eo
                  have hsz := hb.out.size
                  by_cases hlt3 : m < n
                  · have hlt3' : (m : Int) < (n : Int) := by omega
                    have cq3 := WQ.out.2.2.1.2.2.2
                    have hix : m * T + k < db.length := by
                      rw [HLB.out]
                      have := Nat.mul_le_mul_right T (show m + 1 ≤ n from hlt3)
                      rw [Nat.succ_mul] at this
                      omega
                    have hck : wr.cell? ⟨b3, m * T + k, none⟩ = some (.int .i64 (db.getD (m * T + k) 0)) := by
                      have := rd_cell H3.out hix
                      rw [Nat.zero_add] at this
                      exact (WQ.out.1.cell (p := ⟨b3, m * T + k, none⟩) this.1).trans this.2
                    have VS : Hid (Pl.innV db (m + 1) T k = Pl.innV db m T k ++ [db.getD (m * T + k) 0]) := Pl.innV_snoc db m T k
                    have e1 : ((m : Int) * (T : Int)) = ((m * T : Nat) : Int) := by simp
                    generalize db.getD (m * T + k) 0 = x at *
                    generalize m * T = q at *
                    go_wp2_with (at_builtin; refine wpList_append_one (base := wk.heap.size) _ _ _ rfl _ _ rfl _ rfl rfl m _ ho.out (by omega) (by omega) ?_)
                    intro v' w9 ho' hg
                    have ho9 : Hid (w9.ownsRow wk.heap.size 3 1 v' (m + 1) ((Pl.innV db (m + 1) T k).map (Value.int .i64))) := by
                      show World.ownsRow _ _ _ _ _ _ _
                      rw [VS.out, List.map_append]
                      exact ho'
                    have hb9 : Hid (Below wk.heap.size wk w9) := (hb.out.alloc hsz _).grown hg (by simp; omega) (fun k hk => (ho.out.lt k hk).1)
                    clear ho' hg cq3 hck
                    go_wp2_with fail
                    go_roundw
                    case rel => exact ⟨m + 1, by omega, by go_num, ho9, hb9⟩
                    case measure => simp [intOf]; omega
                  · have mn : m = n := by omega
                    subst mn
                    obtain ⟨c1, S1, D1, hE⟩ : ∃ c1 S1 D1, Pl.each2M (Pl.twoM kg) [(m : Int)] (Pl.rowAt da m i) [(m : Int)] (Pl.innV db m T k) = (c1, S1, D1) := ⟨_, _, _, rfl⟩
                    have KE : Hid (∀ x0 x1 y0 y1 W, Rd W.heap.size W x0 [(m : Int)] → Rd W.heap.size W x1 (Pl.rowAt da m i) → Rd W.heap.size W y0 [(m : Int)] → Rd W.heap.size W y1 (Pl.innV db m T k) → Calls Try.prog 21 #[.int .i64 (kg : Int), .agg #[x0, x1], .agg #[y0, y1]] W (FPostF W c1 S1 D1)) := fun x0 x1 y0 y1 W r0 r1 r2 r3 =>
                      l2Each_frm kg (Pl.twoM kg) x0 x1 y0 y1 _ _ _ _ W (fun x y w'' z0 z1 z2 z3 => l2Two_any kg x y w'' g0 g1 z0 z1 z2 z3) r0 r1 r2 r3 CCs.out.1 CCs.out.2.1 c1 S1 D1 hE
                    have HEE := hideP hE
                    have cq1 := WQ.out.2.2.1.2.1
                    have RLn : Hid ((Pl.rowAt da m i).length = m) := Pl.rowAt_len (by rw [Nat.succ_mul]; exact hpn)
                    have VLn : Hid ((Pl.innV db m T k).length = m) := Pl.innV_len db m T k
                    have RC := hideP (own_of_any ho.out).rd
                    have RR : Hid (∀ c', Rd wr.heap.size wr (.slice (some ⟨b1, i * m, none⟩) m c') (Pl.rowAt da m i)) := fun c' => by
                      have := ((H1.out.keep WQ.out.1).up WQ.out.1.size).sub (i * m) (i * m + m) (by omega) hpn c'
                      rw [Nat.zero_add, Nat.add_sub_cancel_left] at this
                      exact this
                    have e2 : ((i : Int) * (m : Int)) = ((i * m : Nat) : Int) := by simp
                    have hdl : da.length = H * m := HLA.out
                    clear hE
                    go_upto_region 25 with fail
                    go_cut [20, 21] (fun s20 s21 wy => ∃ A u0 u1, s20 = .pointer (some ⟨A, 0, none⟩) ∧ s21 = .int .i64 c1 ∧ Hid (Md wk A u0 u1 S1 D1 wy) ∧ Hid (c1 = 0 → Frm u0 S1.length ∧ Frm u1 D1.length))
                    case first =>
                      by_cases hm0 : m = 0
                      · have hd0 : da.length = 0 := by rw [hdl, hm0, Nat.mul_zero]
                        have RZ : Hid (Rd wr.heap.size wr (.slice (some ⟨b1, 0, none⟩) 0 0) (Pl.rowAt da m i)) := rd_zero _ _ _ _ _ (RLn.out.trans hm0)
                        clear RR hpn HLA HLB hdl e2
                        generalize da.length = la at *
                        subst hd0
                        subst hm0
                        have rdr := RZ.out
                        go_wp2_with fail
                        refine (l2Vector_any _ (Pl.rowAt da 0 i) _ (by rw [RLn.out]; omega) rdr).mono ?_
                        rintro e wa ⟨ga, gb, capa, rfl, _, _, resa, hba⟩
                        rw [RLn.out] at resa
                        clear cq1 rdr
                        go_wp2_with fail
                        refine (l2Vector_any _ (Pl.innV db 0 T k) _ (by rw [VLn.out]; omega) ((RC.out.keep hba).up hba.size)).mono ?_
                        rintro e wb ⟨gc, gd, capb, rfl, _, _, resb, hbb⟩
                        rw [VLn.out] at resb
                        have ra0 := hideP ((resa.1.rd.keep hbb).up hbb.size)
                        have ra1 := hideP ((resa.2.1.rd.keep hbb).up hbb.size)
                        have rb0 := hideP resb.1.rd
                        have rb1 := hideP resb.2.1.rd
                        have BB : Hid (Below wk.heap.size wk wb) := hb.out.trans ((hba.mono hsz).trans (hbb.mono (by have := hba.size; omega)))
                        clear resa resb hba hbb
                        rw [RLn.out]
                        rw [VLn.out]
                        go_wp2_with fail
                        refine (KE.out _ _ _ _ _ ra0.out ra1.out rb0.out rb1.out).mono ?_
                        rintro e we ⟨hbe, u0, u1, rfl, rese, frm⟩
                        obtain ⟨x0, y0, x1, y1, eu, ev⟩ := rese.forms
                        subst eu
                        subst ev
                        have hsb := BB.out.size
                        have BE : Hid (Below wk.heap.size wk we) := BB.out.trans (hbe.mono hsb)
                        have RE := hideP rese
                        have FE := hideP frm
                        clear hbe rese frm ra0 ra1 rb0 rb1
                        go_wp2_with fail
                        go_meet
                        case rel => exact ⟨_, _, _, rfl, rfl, ⟨BE.out.alloc BE.out.size _, BE.out.size, heap_alloc_new _ _, (RE.out.1.keep ((Below.refl _ _).alloc (Nat.le_refl _) _)).base hsb, (RE.out.2.1.keep ((Below.refl _ _).alloc (Nat.le_refl _) _)).base hsb⟩, FE⟩
                      · have hpl : i * m < da.length := by omega
                        generalize hpp : i * m = pp at *
                        clear hpp hdl
                        have rdr := RR.out (da.length - pp)
                        go_wp2_with fail
                        refine (l2Vector_any _ (Pl.rowAt da m i) _ (by rw [RLn.out]; omega) rdr).mono ?_
                        rintro e wa ⟨ga, gb, capa, rfl, _, _, resa, hba⟩
                        rw [RLn.out] at resa
                        clear cq1 rdr
                        go_wp2_with fail
                        refine (l2Vector_any _ (Pl.innV db m T k) _ (by rw [VLn.out]; omega) ((RC.out.keep hba).up hba.size)).mono ?_
                        rintro e wb ⟨gc, gd, capb, rfl, _, _, resb, hbb⟩
                        rw [VLn.out] at resb
                        have ra0 := hideP ((resa.1.rd.keep hbb).up hbb.size)
                        have ra1 := hideP ((resa.2.1.rd.keep hbb).up hbb.size)
                        have rb0 := hideP resb.1.rd
                        have rb1 := hideP resb.2.1.rd
                        have BB : Hid (Below wk.heap.size wk wb) := hb.out.trans ((hba.mono hsz).trans (hbb.mono (by have := hba.size; omega)))
                        clear resa resb hba hbb
                        rw [RLn.out]
                        rw [VLn.out]
                        go_wp2_with fail
                        refine (KE.out _ _ _ _ _ ra0.out ra1.out rb0.out rb1.out).mono ?_
                        rintro e we ⟨hbe, u0, u1, rfl, rese, frm⟩
                        obtain ⟨x0, y0, x1, y1, eu, ev⟩ := rese.forms
                        subst eu
                        subst ev
                        have hsb := BB.out.size
                        have BE : Hid (Below wk.heap.size wk we) := BB.out.trans (hbe.mono hsb)
                        have RE := hideP rese
                        have FE := hideP frm
                        clear hbe rese frm ra0 ra1 rb0 rb1
                        go_wp2_with fail
                        go_meet
                        case rel => exact ⟨_, _, _, rfl, rfl, ⟨BE.out.alloc BE.out.size _, BE.out.size, heap_alloc_new _ _, (RE.out.1.keep ((Below.refl _ _).alloc (Nat.le_refl _) _)).base hsb, (RE.out.2.1.keep ((Below.refl _ _).alloc (Nat.le_refl _) _)).base hsb⟩, FE⟩
                    case rest =>
                      obtain ⟨A, u0, u1, rfl, rfl, MD, FR⟩ := hcut
                      rename World => wy
                      clear KE RC RR cq1 e2 hdl
                      have hkw := hL.out.bel.size
                      have hPk : P < wk.heap.size := (Array.getElem?_eq_some_iff.1 hL.out.blk).1
                      have hAy : A < wy.heap.size := (Array.getElem?_eq_some_iff.1 MD.out.blk).1
                      have hyk := MD.out.bel.size
                      have hAk := MD.out.le
                      rcases CCs.out.2.2 with ⟨D1', v, e1, ok1, hr1, hq⟩ | ⟨D1', c2, e1, ok1, hc2, hr1, hq⟩ | ⟨c1', hc1, e1, hq⟩
                      · rw [HEE.out] at e1
                        simp only [Prod.mk.injEq] at e1
                        obtain ⟨rfl, rfl, rfl⟩ := e1
                        obtain ⟨⟨ga, capa, eu, ha1, ha2⟩, ⟨gb, capb, ev, hb1', hb2'⟩⟩ := FR.out rfl
                        have eu' : u0 = .slice (some ⟨ga, 0, none⟩) 1 capa := eu
                        clear eu
                        subst eu'
                        subst ev
                        have KR : Hid (Calls Try.prog 23 #[.int .i64 (kf : Int), .agg #[.slice (some ⟨ga, 0, none⟩) 1 capa, .slice (some ⟨gb, 0, none⟩) D1.length capb]] wy (FPost wy 0 [] [v])) := l2Reduce_any kf f0 f1 ga 0 capa gb 0 capb [(m : Int)] D1 wy MD.out.o0.rd MD.out.o1.rd ha1 ha2 hb1' hb2' ok1 0 [] [v] hr1
                        have pA0 : wy.cell? ⟨A, 0, none⟩ = some (.slice (some ⟨ga, 0, none⟩) 1 capa) := cell_blk MD.out.blk
                        have pA1 : wy.cell? ⟨A, 1, none⟩ = some (.slice (some ⟨gb, 0, none⟩) D1.length capb) := cell_blk MD.out.blk
                        have FB : Hid (∀ o, wy.frozen? ⟨A, o, none⟩ = false) := fun o => frozen_blk MD.out.blk
                        have PA0 := hideP pA0
                        have PA1 := hideP pA1
                        have tt : ((0 : Int) == 0) = true := rfl
                        go_wp2_with fail
                        refine KR.out.mono ?_
                        rintro e wz ⟨hbz, t0, t1, rfl, resz⟩
                        have cA0 : wz.cell? ⟨A, 0, none⟩ = some (.slice (some ⟨ga, 0, none⟩) 1 capa) := (hbz.cell (p := ⟨A, 0, none⟩) hAy).trans PA0.out
                        have cA1 : wz.cell? ⟨A, 1, none⟩ = some (.slice (some ⟨gb, 0, none⟩) D1.length capb) := (hbz.cell (p := ⟨A, 1, none⟩) hAy).trans PA1.out
                        have fA : ∀ o, wz.frozen? ⟨A, o, none⟩ = false := fun o => (hbz.frozen (p := ⟨A, o, none⟩) hAy).trans (FB.out o)
                        have hsz' := hbz.size
                        have BS : Hid (∀ a b, Below wk.heap.size wk ((wz.setCell ⟨A, 0, none⟩ a).setCell ⟨A, 1, none⟩ b)) := fun a b => ((MD.out.bel.trans (hbz.mono hyk)).setCell MD.out.le _).setCell MD.out.le _
                        obtain ⟨x0, y0, e0⟩ := resz.1.form
                        subst e0
                        clear pA0 pA1 hbz
                        obtain ⟨ao, dcap, e1, hor⟩ := resz.2.1
                        obtain ⟨dg, doff, hdg, hdz, rfl, hdc⟩ := hor.resolve_left (by simp)
                        have e1' : t1 = .slice (some ⟨dg, doff, none⟩) 1 dcap := e1
                        clear e1
                        subst e1'
                        have hdc0 : wz.cell? ⟨dg, doff, none⟩ = some (.int .i64 v) := (hdc 0 (by simp)).1
                        have mA1 : ((wz.setCell ⟨A, 0, none⟩ (.slice x0 0 y0)).setCell ⟨A, 1, none⟩ (.slice (some ⟨dg, doff, none⟩) 1 dcap)).cell? ⟨A, 1, none⟩ = some (.slice (some ⟨dg, doff, none⟩) 1 dcap) := by simp [go_sem, cA1]
                        have hne : ¬ dg = A := by omega
                        have mD : ((wz.setCell ⟨A, 0, none⟩ (.slice x0 0 y0)).setCell ⟨A, 1, none⟩ (.slice (some ⟨dg, doff, none⟩) 1 dcap)).cell? ⟨dg, doff, none⟩ = some (.int .i64 v) := by
                          rw [World.cell?_of_block (heap_setCell_other _ _ _ _ hne), World.cell?_of_block (heap_setCell_other _ _ _ _ hne)]
                          exact hdc0
                        have LS := hideP (hL.out.quiet (BS.out (.slice x0 0 y0) (.slice (some ⟨dg, doff, none⟩) 1 dcap)))
                        have CM1 := hideP mA1
                        have CMD := hideP mD
                        have hPd : ¬ dg = P := by omega
                        have hPA : ¬ A = P := by omega
                        have VZ : Hid ((List.range (i * T + (k + 1))).map (fun j => (Q j).1) = (List.range (i * T + k)).map (fun j => (Q j).1) ++ [v]) := by
                          show _ = _
                          rw [← Nat.add_assoc, List.range_succ, List.map_append]
                          simp [hq]
                        have ZZ : Hid (∀ j ∈ List.range (i * T + (k + 1)), (Q j).2 = 0) := by
                          intro j hj
                          rw [← Nat.add_assoc, List.range_succ] at hj
                          simp only [List.mem_append, List.mem_cons, List.not_mem_nil, or_false] at hj
                          rcases hj with hj | rfl
                          · exact hz.out j hj
                          · rw [hq]
                        have UZ : Hid (((List.range (i * T + k)).map (fun j => (Q j).1)).length + 1 ≤ 16777216) := by show _ ≤ _; rw [List.length_map]; exact UB.out
                        have NB : Hid (∀ b, nv.ownBlock = some b → b < wk.heap.size) := fun b h => (hL.out.d.lt b h).2
                        clear mA1 mD hdc hdc0 hor resz KR MD FR PA0 PA1 FB hr1 ok1 HEE hz hL CCs UB FA
                        generalize (List.range (i * T + k)).map (fun j => (Q j).1) = zs at *
                        go_wp2_with fail
                        clear cA0 cA1 fA BS
                        generalize (wz.setCell ⟨A, 0, none⟩ (.slice x0 0 y0)).setCell ⟨A, 1, none⟩ (.slice (some ⟨dg, doff, none⟩) 1 dcap) = ws at *
                        obtain ⟨xo', yo', eo'⟩ := owns_form LS.out.d
                        subst eo'
                        have rA : Hid (¬ (Value.slice xo' zs.length yo').ownBlock = some A) := fun h => by have := NB.out A h; omega
                        have rD : Hid (¬ (Value.slice xo' zs.length yo').ownBlock = some dg) := fun h => by have := NB.out dg h; omega
                        have LQ := hideP (LS.out.quiet ((Below.refl ws.heap.size ws).drew))
                        have CM1' : Hid (ws.drew.cell? ⟨A, 1, none⟩ = some (.slice (some ⟨dg, doff, none⟩) 1 dcap)) := CM1.out
                        have CMD' : Hid (ws.drew.cell? ⟨dg, doff, none⟩ = some (.int .i64 v)) := CMD.out
                        have SK := hideP (Keep.refl ws.drew P (Value.slice xo' zs.length yo').ownBlock)
                        refine wp_region_held (S := fun w' => Keep ws.drew P (Value.slice xo' zs.length yo').ownBlock w') (by kernel_rfl) ?_
                        change wpAnyH _ _ _ _ _ _ _ _ (World.drew _)
                        clear LS CM1 CMD
                        generalize World.drew ws = wn0 at *
                        have HSZ : Hid (∀ o, w2.heap.size ≤ (wn0.alloc o).heap.size) := fun o => by have := LQ.out.bel.size; simp; omega
                        have OA : Hid (∀ o, (wn0.alloc o).ownsRow w2.heap.size 3 1 (.slice xo' zs.length yo') zs.length (zs.map (Value.int .i64))) := fun o => LQ.out.d.alloc o
                        have RN : Hid (Rd (wn0.alloc (.cells #[.int .i64 v] 3)).heap.size (wn0.alloc (.cells #[.int .i64 v] 3)) (.slice (some ⟨wn0.heap.size, 0, none⟩) 1 1) [v]) := (own_of_any (owns_one wn0 v 0 (Nat.zero_le _))).rd
                        have hPn : P < wn0.heap.size := (Array.getElem?_eq_some_iff.1 LQ.out.blk).1
                        have p1 : wn0.cell? ⟨P, 1, none⟩ = some (.slice xo' zs.length yo') := cell_blk LQ.out.blk
                        refine wpAnyH_take (i := 0) (v := .pointer (some ⟨P, 1, none⟩)) rfl (by kernel_rfl) (by kernel_rfl) (by kernel_rfl) (fun _ _ _ h => h) (Or.inl ⟨by rfl, ?_⟩) SK.out ?_
                        · intro w' hS
                          clear hS
                          go_simp
                        refine wpAnyH_take (i := 2) (v := .pointer (some ⟨A, 1, none⟩)) rfl (by kernel_rfl) (by kernel_rfl) (by kernel_rfl) (fun _ _ _ h => h) (Or.inl ⟨by rfl, ?_⟩) SK.out ?_
                        · intro w' hS
                          clear hS
                          go_simp
                        refine wpAnyH_take (i := 3) (v := .slice (some ⟨dg, doff, none⟩) 1 dcap) rfl (by kernel_rfl) (by kernel_rfl) (by kernel_rfl) (fun _ _ _ h => h) (Or.inl ⟨by rfl, ?_⟩) SK.out ?_
                        · intro w' hS
                          have := hS.cell hPA rA.out CM1'.out
                          clear hS
                          go_simp
                        refine wpAnyH_take (i := 4) (v := .pointer (some ⟨dg, doff, none⟩)) rfl (by kernel_rfl) (by kernel_rfl) (by kernel_rfl) (fun _ _ _ h => h) (Or.inl ⟨by rfl, ?_⟩) SK.out ?_
                        · intro w' hS
                          clear hS
                          go_simp
                        refine wpAnyH_take (i := 5) (v := .int .i64 v) rfl (by kernel_rfl) (by kernel_rfl) (by kernel_rfl) (fun _ _ _ h => h) (Or.inl ⟨by rfl, ?_⟩) SK.out ?_
                        · intro w' hS
                          have := hS.cell hPd rD.out CMD'.out
                          clear hS
                          go_simp
                        refine wpAnyH_ready (rs := [1, 6]) (by kernel_rfl) (by simp) ?_
                        refine AllReadyH.cons rfl (fun K hK => ?_) (AllReadyH.cons rfl (fun K hK => ?_) AllReadyH.nil)
                        · go_simp
                          refine hK.out _ _ SK.out (fun _ => ?_)
                          clear hK
                          refine wpAnyH_ready (rs := [6]) (by kernel_rfl) (by simp) ?_
                          refine AllReadyH.cons rfl (fun K hK => ?_) AllReadyH.nil
                          go_simp
                          refine hK.out _ _ (SK.out.alloc _) (fun _ => ?_)
                          clear hK
                          refine wpAnyH_ready (rs := [7]) (by kernel_rfl) (by simp) ?_
                          refine AllReadyH.cons rfl (fun K hK => ?_) AllReadyH.nil
                          refine step_append_at (base := w2.heap.size) _ rfl _ _ rfl (.slice xo' zs.length yo') (.slice (some ⟨wn0.heap.size, 0, none⟩) 1 1) rfl rfl zs.length zs [v] (OA.out _) RN.out (by simpa using UZ.out) (HSZ.out _) ?_
                          intro v' w9 ho' hg hat'
                          have ho9 : w9.ownsRow w2.heap.size 3 1 v' (zs.length + 1) ((zs ++ [v]).map (Value.int .i64)) := ho'
                          have OS := hideP (LQ.out.step hg ho9 (by simpa using hat'))
                          have K9 := hideP ((SK.out.alloc _).grown hg)
                          obtain ⟨x9, y9, e9⟩ := owns_form ho9
                          subst e9
                          have hs9 : P < w9.heap.size := (Array.getElem?_eq_some_iff.1 OS.out.1).1
                          have p9 : w9.cell? ⟨P, 1, none⟩ = some (.slice xo' zs.length yo') := cell_blk OS.out.1
                          have f9 : w9.frozen? ⟨P, 1, none⟩ = false := frozen_blk OS.out.1
                          clear ho' ho9 hg hat'
                          refine hK.out _ _ K9.out (fun _ => ?_)
                          clear hK
                          refine wpAnyH_ready (rs := [8]) (by kernel_rfl) (by simp) ?_
                          refine AllReadyH.cons rfl (fun K hK => ?_) AllReadyH.nil
                          go_simp
                          refine hK.out _ _ K9.out (fun _ => ?_)
                          clear hK
                          refine wpAnyH_ready (rs := [9]) (by kernel_rfl) (by simp) ?_
                          refine AllReadyH.cons rfl (fun K hK => ?_) AllReadyH.nil
                          go_simp
                          refine hK.out _ _ (K9.out.set _) (fun _ => ?_)
                          clear hK
                          refine wpAnyH_done (by kernel_rfl) ?_ _
                          clear p9 f9
                          go_wp2_with fail
                          go_roundw
                          case rel => exact ⟨k + 1, by omega, by go_num, ZZ, _, by show Lp _ _ _ _ _ _ _; rw [VZ.out]; exact OS.out.2⟩
                          case measure => simp [intOf]; omega
                        · go_simp
                          refine hK.out _ _ (SK.out.alloc _) (fun _ => ?_)
                          clear hK
                          refine wpAnyH_ready (rs := [1]) (by kernel_rfl) (by simp) ?_
                          refine AllReadyH.cons rfl (fun K hK => ?_) AllReadyH.nil
                          go_simp
                          refine hK.out _ _ (SK.out.alloc _) (fun _ => ?_)
                          clear hK
                          refine wpAnyH_ready (rs := [7]) (by kernel_rfl) (by simp) ?_
                          refine AllReadyH.cons rfl (fun K hK => ?_) AllReadyH.nil
                          refine step_append_at (base := w2.heap.size) _ rfl _ _ rfl (.slice xo' zs.length yo') (.slice (some ⟨wn0.heap.size, 0, none⟩) 1 1) rfl rfl zs.length zs [v] (OA.out _) RN.out (by simpa using UZ.out) (HSZ.out _) ?_
                          intro v' w9 ho' hg hat'
                          have ho9 : w9.ownsRow w2.heap.size 3 1 v' (zs.length + 1) ((zs ++ [v]).map (Value.int .i64)) := ho'
                          have OS := hideP (LQ.out.step hg ho9 (by simpa using hat'))
                          have K9 := hideP ((SK.out.alloc _).grown hg)
                          obtain ⟨x9, y9, e9⟩ := owns_form ho9
                          subst e9
                          have hs9 : P < w9.heap.size := (Array.getElem?_eq_some_iff.1 OS.out.1).1
                          have p9 : w9.cell? ⟨P, 1, none⟩ = some (.slice xo' zs.length yo') := cell_blk OS.out.1
                          have f9 : w9.frozen? ⟨P, 1, none⟩ = false := frozen_blk OS.out.1
                          clear ho' ho9 hg hat'
                          refine hK.out _ _ K9.out (fun _ => ?_)
                          clear hK
                          refine wpAnyH_ready (rs := [8]) (by kernel_rfl) (by simp) ?_
                          refine AllReadyH.cons rfl (fun K hK => ?_) AllReadyH.nil
                          go_simp
                          refine hK.out _ _ K9.out (fun _ => ?_)
                          clear hK
                          refine wpAnyH_ready (rs := [9]) (by kernel_rfl) (by simp) ?_
                          refine AllReadyH.cons rfl (fun K hK => ?_) AllReadyH.nil
                          go_simp
                          refine hK.out _ _ (K9.out.set _) (fun _ => ?_)
                          clear hK
                          refine wpAnyH_done (by kernel_rfl) ?_ _
                          clear p9 f9
                          go_wp2_with fail
                          go_roundw
                          case rel => exact ⟨k + 1, by omega, by go_num, ZZ, _, by show Lp _ _ _ _ _ _ _; rw [VZ.out]; exact OS.out.2⟩
                          case measure => simp [intOf]; omega
                      · rw [HEE.out] at e1
                        simp only [Prod.mk.injEq] at e1
                        obtain ⟨rfl, rfl, rfl⟩ := e1
                        obtain ⟨⟨ga, capa, eu, ha1, ha2⟩, ⟨gb, capb, ev, hb1', hb2'⟩⟩ := FR.out rfl
                        have eu' : u0 = .slice (some ⟨ga, 0, none⟩) 1 capa := eu
                        clear eu
                        subst eu'
                        subst ev
                        have KR : Hid (Calls Try.prog 23 #[.int .i64 (kf : Int), .agg #[.slice (some ⟨ga, 0, none⟩) 1 capa, .slice (some ⟨gb, 0, none⟩) D1.length capb]] wy (FPost wy c2 [] [])) := l2Reduce_any kf f0 f1 ga 0 capa gb 0 capb [(m : Int)] D1 wy MD.out.o0.rd MD.out.o1.rd ha1 ha2 hb1' hb2' ok1 c2 [] [] hr1
                        have pA0 : wy.cell? ⟨A, 0, none⟩ = some (.slice (some ⟨ga, 0, none⟩) 1 capa) := cell_blk MD.out.blk
                        have pA1 : wy.cell? ⟨A, 1, none⟩ = some (.slice (some ⟨gb, 0, none⟩) D1.length capb) := cell_blk MD.out.blk
                        have FB : Hid (∀ o, wy.frozen? ⟨A, o, none⟩ = false) := fun o => frozen_blk MD.out.blk
                        have PA0 := hideP pA0
                        have PA1 := hideP pA1
                        have tt : ((0 : Int) == 0) = true := rfl
                        go_wp2_with fail
                        refine KR.out.mono ?_
                        rintro e wz ⟨hbz, t0, t1, rfl, resz⟩
                        have cA0 : wz.cell? ⟨A, 0, none⟩ = some (.slice (some ⟨ga, 0, none⟩) 1 capa) := (hbz.cell (p := ⟨A, 0, none⟩) hAy).trans PA0.out
                        have cA1 : wz.cell? ⟨A, 1, none⟩ = some (.slice (some ⟨gb, 0, none⟩) D1.length capb) := (hbz.cell (p := ⟨A, 1, none⟩) hAy).trans PA1.out
                        have fA : ∀ o, wz.frozen? ⟨A, o, none⟩ = false := fun o => (hbz.frozen (p := ⟨A, o, none⟩) hAy).trans (FB.out o)
                        have hsz' := hbz.size
                        have BS : Hid (∀ a b, Below wk.heap.size wk ((wz.setCell ⟨A, 0, none⟩ a).setCell ⟨A, 1, none⟩ b)) := fun a b => ((MD.out.bel.trans (hbz.mono hyk)).setCell MD.out.le _).setCell MD.out.le _
                        obtain ⟨x0, y0, e0⟩ := resz.1.form
                        subst e0
                        clear pA0 pA1 hbz
                        obtain ⟨x1, y1, e1⟩ := resz.2.1.form
                        subst e1
                        have LS := hideP (hL.out.quiet (BS.out (.slice x0 0 y0) (.slice x1 0 y1)))
                        have WS := hideP (W2.out.keep LS.out.bel)
                        have EC := FA.out (by rw [hq]; exact hc2)
                        rw [hq] at EC
                        have e := PE.out
                        rw [if_neg (by rw [EC]; exact hc2)] at e
                        simp only [Prod.mk.injEq] at e
                        obtain ⟨rfl, rfl, rfl⟩ := e
                        have HEC := hideP EC
                        have hne : (c2 != 0) = true := by rw [bne_iff_ne]; exact hc2
                        clear FA EC PE PC hq hc2 hr1 KR MD FR HEE LS resz CCs
                        have hsq := WS.out.2.1
                        have r0 := WS.out.2.2.2.1.1
                        have r1 := WS.out.2.2.2.1.2.1
                        have f2 := WS.out.2.2.2.1.2.2
                        go_wp2_with fail
                        refine bodyPost_ret (v := .tuple #[.agg #[.slice none 0 0, .slice none 0 0], .int .i64 c2]) (by simp [results, Try.results6, go_sem, r0, r1]) rfl ?_
                        show FPost _ _ _ _ _ _
                        rw [HEC.out]
                        exact ⟨(WS.out.1.setCell (by simp; omega) _).setCell (by simp; omega) _, _, _, rfl, Own.nil _ _, Own.nil _ _, .inl rfl⟩
                      · rw [HEE.out] at e1
                        simp only [Prod.mk.injEq] at e1
                        obtain ⟨rfl, rfl, rfl⟩ := e1
                        have WS := hideP (W2.out.keep (hL.out.quiet MD.out.bel).bel)
                        have EC := FA.out (by rw [hq]; exact hc1)
                        rw [hq] at EC
                        have e := PE.out
                        rw [if_neg (by rw [EC]; exact hc1)] at e
                        simp only [Prod.mk.injEq] at e
                        obtain ⟨rfl, rfl, rfl⟩ := e
                        have HEC := hideP EC
                        have hne : (c1 != 0) = true := by rw [bne_iff_ne]; exact hc1
                        have hnf : (c1 == 0) = false := by rw [beq_eq_false_iff_ne]; exact hc1
                        clear FA EC PE PC hq hc1 MD FR HEE CCs
                        have hsq := WS.out.2.1
                        have r0 := WS.out.2.2.2.1.1
                        have r1 := WS.out.2.2.2.1.2.1
                        have f2 := WS.out.2.2.2.1.2.2
                        go_wp2_with fail
                        refine bodyPost_ret (v := .tuple #[.agg #[.slice none 0 0, .slice none 0 0], .int .i64 c1]) (by simp [results, Try.results6, go_sem, r0, r1]) rfl ?_
                        show FPost _ _ _ _ _ _
                        rw [HEC.out]
                        exact ⟨(WS.out.1.setCell (by simp; omega) _).setCell (by simp; omega) _, _, _, rfl, Own.nil _ _, Own.nil _ _, .inl rfl⟩
              · have kn : k = T := by omega
                subst kn
                go_wp2_with fail
                go_roundw
                case rel => exact ⟨i + 1, by omega, by go_num, by rw [Nat.succ_mul]; exact hz, _, by rw [Nat.succ_mul]; exact hL⟩
                case measure => simp [intOf]; omega
          · have kn : i = H := by omega
            subst kn
            have EC : Pl.firstG Q (List.range (i * T)) = 0 := Pl.firstG_zero Q _ hz.out
            rw [PC.out] at EC
            have e := PE.out
            rw [if_pos EC] at e
            simp only [Prod.mk.injEq] at e
            have LD : Hid (Lp w2 sh P (.slice q0 n0 z0) nv D wr) := by
              have := hL.out
              rw [e.2.2] at this
              exact this
            have HE := hideP e
            have WR := hideP (W2.out.keep LD.out.bel)
            obtain ⟨xo, yo, eo⟩ := owns_form LD.out.d
            subst eo
            have p0 : wr.cell? ⟨P, 0, none⟩ = some (.slice q0 n0 z0) := cell_blk LD.out.blk
            have p1 : wr.cell? ⟨P, 1, none⟩ = some (.slice xo D.length yo) := cell_blk LD.out.blk
            have hPr : P < wr.heap.size := (Array.getElem?_eq_some_iff.1 LD.out.blk).1
            have hsr := WR.out.2.1
            have r0 := WR.out.2.2.2.1.1
            have r1 := WR.out.2.2.2.1.2.1
            have f2 := WR.out.2.2.2.1.2.2
            clear EC e hL
            go_wp2_with fail
            refine bodyPost_ret (v := .tuple #[.agg #[.slice q0 n0 z0, .slice xo D.length yo], .int .i64 0]) (by simp [results, Try.results6, go_sem, r0, r1]) rfl ?_
            show FPost _ _ _ _ _ _
            rw [← HE.out.1, ← HE.out.2.1]
            refine ⟨(WR.out.1.setCell (by simp; omega) _).setCell (by simp; omega) _, _, _, rfl, ?_, ?_, ?_⟩
            · exact Own.base (Own.store (Own.store (own_of_any LD.out.c) (by omega) _) (by omega) _) (by omega)
            · exact Own.base (Own.store (Own.store (own_of_any LD.out.d) (by omega) _) (by omega) _) (by omega)
            · exact .inr (.inr fun b e0 e1 => LD.out.ap b e0 e1)
    · have e := HR.out
      rw [HSH.out, if_neg (by rw [hf]; decide)] at e
      simp only [Prod.mk.injEq] at e
      obtain ⟨rfl, rfl, rfl⟩ := e
      have WX := hideP (W2.out.keep MK.out.1)
      clear HR HSH hf MK W2 OX OY
      have p0 : wx.cell? ⟨P, 0, none⟩ = some (.slice none 0 0) := cell_blk hP
      have p1 : wx.cell? ⟨P, 1, none⟩ = some (.slice none 0 0) := cell_blk hP
      have hPr : P < wx.heap.size := (Array.getElem?_eq_some_iff.1 hP).1
      have hsr := WX.out.2.1
      have r0 := WX.out.2.2.2.1.1
      have r1 := WX.out.2.2.2.1.2.1
      have f2 := WX.out.2.2.2.1.2.2
      clear hP
      go_wp2_with fail
      refine bodyPost_ret (v := .tuple #[.agg #[.slice none 0 0, .slice none 0 0], .int .i64 6]) (by simp [results, Try.results6, go_sem, r0, r1]) rfl ⟨(WX.out.1.setCell (by simp; omega) _).setCell (by simp; omega) _, _, _, rfl, Own.nil _ _, Own.nil _ _, .inl rfl⟩

  end Go.Proofs.Ytjhflbhbegocdaa

