import Derived.Test.YtmobjomebmipdaaDy3
import Derived.Test.YtmobjomebmipdaaLies
import Derived.Test.YtmobjomebmipdaaFold
import Derived.Deep.RegionWith
namespace Go.Proofs.Ytmobjomebmipdaa
open Go.RowKit
set_option linter.unusedVariables false

/-- all blocks but two are as they were -/
def Keep (w0 : World) (P : Nat) (row : Option Nat) (w : World) : Prop := w0.heap.size ≤ w.heap.size ∧ ∀ b, b < w0.heap.size → ¬ b = P → ¬ row = some b → w.heap[b]? = w0.heap[b]?
theorem Keep.refl (w0 : World) (P : Nat) (row : Option Nat) : Keep w0 P row w0 := ⟨Nat.le_refl _, fun _ _ _ _ => rfl⟩
theorem Keep.grown {w0 w w' : World} {P : Nat} {row : Option Nat} (h : Keep w0 P row w) (hg : w.grownBy w' row) : Keep w0 P row w' := by
  refine ⟨Nat.le_trans h.1 hg.size, fun b hb h1 h2 => ?_⟩
  rw [← h.2 b hb h1 h2]
  exact hg.block b (by have := h.1; omega) (fun e => h2 e.symm)
theorem Keep.below {w0 w w' : World} {P : Nat} {row : Option Nat} (h : Keep w0 P row w) (hb : Below w.heap.size w w') : Keep w0 P row w' := by
  refine ⟨Nat.le_trans h.1 hb.size, fun b hlt h1 h2 => ?_⟩
  rw [← h.2 b hlt h1 h2]
  exact (grown_of_below hb).block b (by have := h.1; omega) (by simp)
theorem Keep.set {w0 w : World} {P o : Nat} {row : Option Nat} (h : Keep w0 P row w) (v : Value) : Keep w0 P row (w.setCell ⟨P, o, none⟩ v) := by
  refine ⟨by simpa using h.1, fun b hb h1 h2 => ?_⟩
  rw [← h.2 b hb h1 h2]
  exact heap_setCell_other _ _ _ _ h1
theorem Keep.cell {w0 w : World} {P b o : Nat} {row : Option Nat} {v : Value} (h : Keep w0 P row w) (h1 : ¬ b = P) (h2 : ¬ row = some b) (hc : w0.cell? ⟨b, o, none⟩ = some v) : w.cell? ⟨b, o, none⟩ = some v := by
  have hb := World.block_lt_of_cell? w0 _ hc
  rw [← hc]
  exact World.cell?_of_block (h.2 b hb h1 h2)

theorem fieldB (a0 a1 : Option Addr) (n0 c0 n1 c1 : Nat) (w : World) : (Instr.field 27 (.agg #[.slice a0 n0 c0, .slice a1 n1 c1]) 1).run Try.prog w = .ok (.slice a1 n1 c1) w := by kernel_rfl

/-- a list more -/
theorem Lp.stepL {wv wr w9 : World} {sh zs xs : List Int} {P : Nat} {u0 nv v' : Value} (h : Lp wv sh P u0 nv zs wr) (hg : wr.grownBy w9 nv.ownBlock)
    (ho : w9.ownsRow wv.heap.size 3 1 v' (zs.length + xs.length) ((zs ++ xs).map (Value.int .i64))) (hat : v'.ownBlock = nv.ownBlock ∨ v'.ownBlock = some wr.heap.size) :
    w9.heap[P]? = some (.cells #[u0, nv] 27 (0, 0)) ∧ Lp wv sh P u0 v' (zs ++ xs) (w9.setCell ⟨P, 1, none⟩ v') := by
  have hs := h.bel.size
  have hPlt : P < wr.heap.size := (Array.getElem?_eq_some_iff.1 h.blk).1
  have hne : ¬ nv.ownBlock = some P := fun e => own_ne h.d h.blk (by decide) e
  have h1 : w9.heap[P]? = some (.cells #[u0, nv] 27 (0, 0)) := by
    rw [hg.block P hPlt (fun e => hne e.symm)]
    exact h.blk
  have hc : w9.ownsRow wv.heap.size 3 1 u0 sh.length (sh.map (Value.int .i64)) := by
    refine h.c.kept hg ?_
    rcases hb : u0.ownBlock with _ | b
    · exact .inl rfl
    · right
      intro e
      exact h.ap b hb e.symm
  refine ⟨h1, (h.bel.grown hg hs (fun k hk => (h.d.lt k hk).1)).setCell h.le _, h.le, heap_setCell_same w9 P 1 #[u0, nv] 27 v' h1, ?_, ?_, ?_⟩
  · exact hc.kept (grown_setCell w9 P 1 v') (.inr (own_ne hc h1 (by decide)))
  · rw [List.length_append]
    exact ho.kept (grown_setCell w9 P 1 v') (.inr (own_ne ho h1 (by decide)))
  · intro b e e2
    rcases hat with hat | hat
    · rw [hat] at e2
      exact h.ap b e e2
    · rw [hat] at e2
      have := (h.c.lt b e).2
      simp only [Option.some.injEq] at e2
      omega

set_option maxRecDepth 100000 in
set_option maxHeartbeats 16000000 in
/-- spec.l2From of valid arrays, the right one with axes -/
theorem l2From_core (b0 b1 b2 b3 : Nat) (sa da tb db : List Int) (n : Nat) (w : World)
    (h0 : Rd w.heap.size w (.slice (some ⟨b0, 0, none⟩) sa.length sa.length) sa) (h1 : Rd w.heap.size w (.slice (some ⟨b1, 0, none⟩) da.length da.length) da) (h2 : Rd w.heap.size w (.slice (some ⟨b2, 0, none⟩) (tb.length + 1) (tb.length + 1)) ((n : Int) :: tb)) (h3 : Rd w.heap.size w (.slice (some ⟨b3, 0, none⟩) db.length db.length) db)
    (oka : Pl.okB sa da = true) (okb : Pl.okB ((n : Int) :: tb) db = true)
    (c : Int) (S D : List Int) (hres : (if Pl.fitsB (sa ++ tb) = true then (if da.all (Pl.inB n) = true then (0, sa ++ tb, Pl.flat db (Pl.prodC tb).toNat da) else (4, [], [])) else (6, [], [])) = (c, S, D)) :
    Calls Try.prog 65 #[.agg #[.slice (some ⟨b0, 0, none⟩) sa.length sa.length, .slice (some ⟨b1, 0, none⟩) da.length da.length], .agg #[.slice (some ⟨b2, 0, none⟩) (tb.length + 1) (tb.length + 1), .slice (some ⟨b3, 0, none⟩) db.length db.length]] w (FPost w c S D) := by
  have m0 := Pl.ok_max oka
  have m2 := Pl.ok_max okb
  have hsa := m0.1
  have hld := m0.2
  have hle := m2.2
  have htb : tb.length ≤ 2 := by have := m2.1; simp at this; omega
  have W0 := hideP (wid_new w h0 h1 h2 h3 27 27 27)
  obtain ⟨o2, ho2⟩ : ∃ o2 : Nat, o2 = if tb.length = 0 then 0 else 1 := ⟨_, rfl⟩
  have HO2 := hideP ho2
  have H2 := hideP (rd_one ho2 h2)
  have CB := hideP (rd_head h2)
  have H0 := hideP h0
  have H1 := hideP h1
  have H3 := hideP h3
  have HS := hideP h2
  have hrr : ((n : Int) :: tb).all Pl.inR = true := by
    have := (Pl.ok_len okb).2
    simp only [Pl.fitsB, Pl.baseB, Bool.and_eq_true] at this
    exact this.1.2
  have hn1 : n ≤ 1000 := by
    have := (Pl.ok_len okb).2
    simp only [Pl.fitsB, Pl.baseB, Bool.and_eq_true, List.all_cons] at this
    have := Pl.inR_bd this.1.2.1
    omega
  have ROWS : Hid (1 ≤ n → ∃ s : Nat, Pl.prodC tb = s ∧ db.length = n * s) := fun hn => by
    obtain ⟨hft, n', s, e1, e2, _, _, e3⟩ := Pl.ok_rows okb (by simp) (by show ¬ (n : Int) = 0; omega)
    have en : n' = n := by
      have : (n : Int) = n' := e1
      omega
    exact ⟨s, e2, by rw [e3, en]⟩
  have KRB : Hid (∀ (q s : Nat) (W : World), Below w.heap.size w W → Pl.prodC tb = s → (q + 1) * s ≤ db.length → q ≤ 1000 → Calls Try.prog 106 #[.agg #[.slice (some ⟨b2, 0, none⟩) (tb.length + 1) (tb.length + 1), .slice (some ⟨b3, 0, none⟩) db.length db.length], .int .i64 (q : Int)] W fun e w' => ∃ u0 u1, e = .returned (.agg #[u0, u1]) ∧ Res W.heap.size w' u0 u1 tb (Pl.rowAt db s q) ∧ Below W.heap.size W w') := fun q s W hb hs hq hq2 => by
    have e : ((n : Int) :: tb).length = tb.length + 1 := by simp
    have hh := (HS.out.keep hb).up hb.size
    rw [← e] at hh
    have := l2Row_any b2 0 ((n : Int) :: tb).length b3 0 db.length q s ((n : Int) :: tb) db W hh ((H3.out.keep hb).up hb.size) (by simp) (by simp; omega) hle (Nat.le_refl _) (by simp; omega) (Nat.le_refl _) (by omega) hrr hs hq hq2
    rw [e] at this
    exact this
  have HR := hideP hres
  obtain ⟨sh, hsh⟩ : ∃ sh, sa ++ tb = sh := ⟨_, rfl⟩
  have hlh : sh.length ≤ 5 := by rw [← hsh, List.length_append]; omega
  have HSH := hideP hsh
  clear h0 h1 h2 h3 oka okb hres hsh m0 m2 ho2 hrr
  have test2 : (((tb.length : Int) + 1) == 0) = false := by rw [beq_eq_false_iff_ne]; omega
  go_enter Try.func65, Try.ntmps65
  go_upto_region 3 with fail
  generalize hw2 : (((w.alloc (.cells #[.slice (some ⟨b0, 0, none⟩) sa.length sa.length, .slice (some ⟨b1, 0, none⟩) da.length da.length] 27)).alloc (.cells #[.slice (some ⟨b2, 0, none⟩) (tb.length + 1) (tb.length + 1), .slice (some ⟨b3, 0, none⟩) db.length db.length] 27)).alloc (.cells #[.slice none 0 0, .slice none 0 0] 27)) = w2 at *
  have W2 : Hid (Wid w sa da ((n : Int) :: tb) db (.slice (some ⟨b0, 0, none⟩) sa.length sa.length) (.slice (some ⟨b1, 0, none⟩) da.length da.length) (.slice (some ⟨b2, 0, none⟩) (tb.length + 1) (tb.length + 1)) (.slice (some ⟨b3, 0, none⟩) db.length db.length) w2) := W0
  have hs2 := W2.out.2.1
  clear W0 hw2
  have RV : Hid (∀ W, Below w2.heap.size w2 W → Rd W.heap.size W (.slice (some ⟨b0, 0, none⟩) sa.length sa.length) sa ∧ Rd W.heap.size W (.slice (some ⟨b2, o2, none⟩) tb.length tb.length) tb) := fun W hb => by
    have k := (W2.out.keep hb).1
    exact ⟨(H0.out.keep k).up k.size, (H2.out.keep k).up k.size⟩
  have PL : Hid (∀ W, Below w2.heap.size w2 W → W.cell? ⟨w.heap.size, 0, none⟩ = some (.slice (some ⟨b0, 0, none⟩) sa.length sa.length) ∧ W.cell? ⟨w.heap.size + 1, 0, none⟩ = some (.slice (some ⟨b2, 0, none⟩) (tb.length + 1) (tb.length + 1))) := fun W hb => ⟨(W2.out.keep hb).2.2.1.1, (W2.out.keep hb).2.2.1.2.2.1⟩
  go_cut [6, 7] (fun s8 s9 wx => ∃ P cc q0 n0 c0 q1 n1 c1, s8 = .pointer (some ⟨P, 0, none⟩) ∧ s9 = .int .i64 cc ∧ Hid (Mk w2 sh P cc (.slice q0 n0 c0) (.slice q1 n1 c1) wx))
  case first =>
    refine wp_region_held (S := fun w' => Below w2.heap.size w2 w') (by kernel_rfl) ?_
    change wpAnyH _ _ _ _ _ _ _ _ (World.drew _)
    have R0 := hideP (Rg.start w2)
    generalize World.drew w2 = wn0 at R0 ⊢
    refine wpAnyH_take (i := 0) (v := .pointer (some ⟨w.heap.size, 0, none⟩)) rfl (by kernel_rfl) (by kernel_rfl) (by kernel_rfl) (fun _ _ _ h => h) (Or.inl ⟨by rfl, ?_⟩) R0.out.bel ?_
    · intro w' hS
      clear hS
      go_simp
    refine wpAnyH_take (i := 1) (v := .slice (some ⟨b0, 0, none⟩) sa.length sa.length) rfl (by kernel_rfl) (by kernel_rfl) (by kernel_rfl) (fun _ _ _ h => h) (Or.inl ⟨by rfl, ?_⟩) R0.out.bel ?_
    · intro w' hS
      have y0 := (PL.out w' hS).1
      clear hS
      go_simp
    refine wpAnyH_take (i := 3) (v := .pointer (some ⟨w.heap.size + 1, 0, none⟩)) rfl (by kernel_rfl) (by kernel_rfl) (by kernel_rfl) (fun _ _ _ h => h) (Or.inl ⟨by rfl, ?_⟩) R0.out.bel ?_
    · intro w' hS
      clear hS
      go_simp
    refine wpAnyH_take (i := 4) (v := .slice (some ⟨b2, 0, none⟩) (tb.length + 1) (tb.length + 1)) rfl (by kernel_rfl) (by kernel_rfl) (by kernel_rfl) (fun _ _ _ h => h) (Or.inl ⟨by rfl, ?_⟩) R0.out.bel ?_
    · intro w' hS
      have y0 := (PL.out w' hS).2
      clear hS
      go_simp
    refine wpAnyH_take (i := 5) (v := .slice (some ⟨b2, o2, none⟩) tb.length tb.length) rfl (by kernel_rfl) (by kernel_rfl) (by kernel_rfl) (fun _ _ _ h => h) (Or.inl ⟨by rfl, fun w' _ => exec_lo1 (.tmp 19) (.const (.int .i64 1)) b2 tb.length o2 HO2.out (by kernel_rfl) (by kernel_rfl) (by kernel_rfl) w'⟩) R0.out.bel ?_
    refine wpAnyH_ready (rs := [2, 7, 12]) (by kernel_rfl) (by simp) ?_
    refine AllReadyH.cons rfl (fun K hK => ?_) (AllReadyH.cons rfl (fun K hK => ?_) (AllReadyH.cons rfl (fun K hK => ?_) AllReadyH.nil))
    · go_simp
      refine (l2Copy_any _ sa _ (by omega) (RV.out _ R0.out.bel).1).mono ?_
      rintro e wn1 ⟨v2, rfl, ho2, hb2⟩
      have R1 := hideP (R0.out.copy ho2 hb2)
      obtain ⟨xc, yc, ec⟩ := owns_form ho2
      subst ec
      clear ho2 hb2
      refine hK.out _ _ R1.out.bel (fun _ => ?_)
      clear hK R0
      refine wpAnyH_ready (rs := [6, 7, 12]) (by kernel_rfl) (by simp) ?_
      refine AllReadyH.cons rfl (fun K hK => ?_) (AllReadyH.cons rfl (fun K hK => ?_) (AllReadyH.cons rfl (fun K hK => ?_) AllReadyH.nil))
      · refine step_append_at (base := w2.heap.size) _ rfl _ _ rfl (.slice xc sa.length yc) (.slice (some ⟨b2, o2, none⟩) tb.length tb.length) rfl rfl sa.length sa tb (R1.out.c _ _ rfl) (RV.out _ R1.out.bel).2 (by omega) R1.out.bel.size ?_
        intro v' wn2 ho' hg' hat'
        have R2 := hideP (R1.out.app HSH.out ho' hg' hat')
        obtain ⟨xa, ya, ea⟩ := owns_form (R2.out.c _ _ rfl)
        subst ea
        clear ho' hg' hat'
        refine hK.out _ _ R2.out.bel (fun _ => ?_)
        clear hK R1
        refine wpAnyH_ready (rs := [7, 12]) (by kernel_rfl) (by simp) ?_
        refine AllReadyH.cons rfl (fun K hK => ?_) (AllReadyH.cons rfl (fun K hK => ?_) AllReadyH.nil)
        · go_simp
          have R3 := hideP (R2.out.lit)
          refine hK.out _ _ R3.out.bel (fun _ => ?_)
          clear hK R2
          generalize wn2.alloc (.cells #[] 3) = wn3 at *
          generalize wn2.heap.size = gb at *
          refine wpAnyH_ready (rs := [8, 12]) (by kernel_rfl) (by simp) ?_
          refine AllReadyH.cons rfl (fun K hK => ?_) (AllReadyH.cons rfl (fun K hK => ?_) AllReadyH.nil)
          · go_simp
            refine (l2Made_two wn3.heap.size _ _ _ _ _ sh _ (by omega) (own_of_any (R3.out.c _ _ rfl)).rd (Nat.le_refl _)).mono ?_
            rintro e wn4 ⟨q0, n0, c0, q1, n1, c1, cc, rfl, hb, hor⟩
            have R4 := hideP (R3.out.keep hb)
            have M := hideP hor
            clear hb hor
            refine hK.out _ _ R4.out.bel (fun _ => ?_)
            clear hK R3
            refine wpAnyH_take (i := 9) (v := .tuple #[.agg #[.slice q0 n0 c0, .slice q1 n1 c1], .int .i64 cc]) rfl (by kernel_rfl) (by kernel_rfl) (by kernel_rfl) (fun _ _ _ h => h) (Or.inl ⟨by rfl, ?_⟩) R4.out.bel ?_
            · intro w' hS
              clear hS
              go_simp
            refine wpAnyH_take (i := 10) (v := .agg #[.slice q0 n0 c0, .slice q1 n1 c1]) rfl (by kernel_rfl) (by kernel_rfl) (by kernel_rfl) (fun _ _ _ h => h) (Or.inl ⟨by rfl, ?_⟩) R4.out.bel ?_
            · intro w' hS
              clear hS
              go_simp
            refine wpAnyH_take (i := 11) (v := .int .i64 cc) rfl (by kernel_rfl) (by kernel_rfl) (by kernel_rfl) (fun _ _ _ h => h) (Or.inl ⟨by rfl, ?_⟩) R4.out.bel ?_
            · intro w' hS
              clear hS
              go_simp
            refine wpAnyH_ready (rs := [12]) (by kernel_rfl) (by simp) ?_
            refine AllReadyH.cons rfl (fun K hK => ?_) AllReadyH.nil
            go_simp
            have R5 := hideP (R4.out.var)
            refine hK.out _ _ R5.out.bel (fun _ => ?_)
            clear hK R4
            generalize wn4.alloc (.cells #[.slice none 0 0, .slice none 0 0] 27) = wn5 at *
            generalize wn4.heap.size = P at *
            refine wpAnyH_ready (rs := [13]) (by kernel_rfl) (by simp) ?_
            refine AllReadyH.cons rfl (fun K hK => ?_) AllReadyH.nil
            have MK := hideP (R5.out.done M.out)
            have hp := (R5.out.p _ rfl).2
            have hA1 := (Array.getElem?_eq_some_iff.1 hp).1
            have cA0 : wn5.cell? ⟨P, 0, none⟩ = some (.slice none 0 0) := cell_blk hp
            have cA1 : wn5.cell? ⟨P, 1, none⟩ = some (.slice none 0 0) := cell_blk hp
            have fA : ∀ o, wn5.frozen? ⟨P, o, none⟩ = false := fun o => frozen_blk hp
            clear hp
            go_simp
            refine hK.out _ _ MK.out.1 (fun _ => ?_)
            clear hK
            refine wpAnyH_ready (rs := [14]) (by kernel_rfl) (by simp) ?_
            refine AllReadyH.cons rfl (fun K hK => ?_) AllReadyH.nil
            go_simp
            refine hK.out _ _ MK.out.1 (fun _ => ?_)
            clear hK
            refine wpAnyH_done (by kernel_rfl) ?_ _
            clear cA0 cA1 fA
            go_wp2_with fail
            go_meet
            case rel => exact ⟨_, _, _, _, _, _, _, _, rfl, rfl, MK⟩
          · go_simp
            have R4 := hideP (R3.out.var)
            refine hK.out _ _ R4.out.bel (fun _ => ?_)
            clear hK R3
            generalize wn3.alloc (.cells #[.slice none 0 0, .slice none 0 0] 27) = wn4 at *
            generalize wn3.heap.size = P at *
            refine wpAnyH_ready (rs := [8]) (by kernel_rfl) (by simp) ?_
            refine AllReadyH.cons rfl (fun K hK => ?_) AllReadyH.nil
            go_simp
            refine (l2Made_two wn4.heap.size _ _ _ _ _ sh _ (by omega) (own_of_any (R4.out.c _ _ rfl)).rd (Nat.le_refl _)).mono ?_
            rintro e wn5 ⟨q0, n0, c0, q1, n1, c1, cc, rfl, hb, hor⟩
            have R5 := hideP (R4.out.keep hb)
            have M := hideP hor
            clear hb hor
            refine hK.out _ _ R5.out.bel (fun _ => ?_)
            clear hK R4
            refine wpAnyH_take (i := 9) (v := .tuple #[.agg #[.slice q0 n0 c0, .slice q1 n1 c1], .int .i64 cc]) rfl (by kernel_rfl) (by kernel_rfl) (by kernel_rfl) (fun _ _ _ h => h) (Or.inl ⟨by rfl, ?_⟩) R5.out.bel ?_
            · intro w' hS
              clear hS
              go_simp
            refine wpAnyH_take (i := 10) (v := .agg #[.slice q0 n0 c0, .slice q1 n1 c1]) rfl (by kernel_rfl) (by kernel_rfl) (by kernel_rfl) (fun _ _ _ h => h) (Or.inl ⟨by rfl, ?_⟩) R5.out.bel ?_
            · intro w' hS
              clear hS
              go_simp
            refine wpAnyH_take (i := 11) (v := .int .i64 cc) rfl (by kernel_rfl) (by kernel_rfl) (by kernel_rfl) (fun _ _ _ h => h) (Or.inl ⟨by rfl, ?_⟩) R5.out.bel ?_
            · intro w' hS
              clear hS
              go_simp
            refine wpAnyH_ready (rs := [13]) (by kernel_rfl) (by simp) ?_
            refine AllReadyH.cons rfl (fun K hK => ?_) AllReadyH.nil
            have MK := hideP (R5.out.done M.out)
            have hp := (R5.out.p _ rfl).2
            have hA1 := (Array.getElem?_eq_some_iff.1 hp).1
            have cA0 : wn5.cell? ⟨P, 0, none⟩ = some (.slice none 0 0) := cell_blk hp
            have cA1 : wn5.cell? ⟨P, 1, none⟩ = some (.slice none 0 0) := cell_blk hp
            have fA : ∀ o, wn5.frozen? ⟨P, o, none⟩ = false := fun o => frozen_blk hp
            clear hp
            go_simp
            refine hK.out _ _ MK.out.1 (fun _ => ?_)
            clear hK
            refine wpAnyH_ready (rs := [14]) (by kernel_rfl) (by simp) ?_
            refine AllReadyH.cons rfl (fun K hK => ?_) AllReadyH.nil
            go_simp
            refine hK.out _ _ MK.out.1 (fun _ => ?_)
            clear hK
            refine wpAnyH_done (by kernel_rfl) ?_ _
            clear cA0 cA1 fA
            go_wp2_with fail
            go_meet
            case rel => exact ⟨_, _, _, _, _, _, _, _, rfl, rfl, MK⟩
        · go_simp
          have R3 := hideP (R2.out.var)
          refine hK.out _ _ R3.out.bel (fun _ => ?_)
          clear hK R2
          generalize wn2.alloc (.cells #[.slice none 0 0, .slice none 0 0] 27) = wn3 at *
          generalize wn2.heap.size = P at *
          refine wpAnyH_ready (rs := [7]) (by kernel_rfl) (by simp) ?_
          refine AllReadyH.cons rfl (fun K hK => ?_) AllReadyH.nil
          go_simp
          have R4 := hideP (R3.out.lit)
          refine hK.out _ _ R4.out.bel (fun _ => ?_)
          clear hK R3
          generalize wn3.alloc (.cells #[] 3) = wn4 at *
          generalize wn3.heap.size = gb at *
          refine wpAnyH_ready (rs := [8]) (by kernel_rfl) (by simp) ?_
          refine AllReadyH.cons rfl (fun K hK => ?_) AllReadyH.nil
          go_simp
          refine (l2Made_two wn4.heap.size _ _ _ _ _ sh _ (by omega) (own_of_any (R4.out.c _ _ rfl)).rd (Nat.le_refl _)).mono ?_
          rintro e wn5 ⟨q0, n0, c0, q1, n1, c1, cc, rfl, hb, hor⟩
          have R5 := hideP (R4.out.keep hb)
          have M := hideP hor
          clear hb hor
          refine hK.out _ _ R5.out.bel (fun _ => ?_)
          clear hK R4
          refine wpAnyH_take (i := 9) (v := .tuple #[.agg #[.slice q0 n0 c0, .slice q1 n1 c1], .int .i64 cc]) rfl (by kernel_rfl) (by kernel_rfl) (by kernel_rfl) (fun _ _ _ h => h) (Or.inl ⟨by rfl, ?_⟩) R5.out.bel ?_
          · intro w' hS
            clear hS
            go_simp
          refine wpAnyH_take (i := 10) (v := .agg #[.slice q0 n0 c0, .slice q1 n1 c1]) rfl (by kernel_rfl) (by kernel_rfl) (by kernel_rfl) (fun _ _ _ h => h) (Or.inl ⟨by rfl, ?_⟩) R5.out.bel ?_
          · intro w' hS
            clear hS
            go_simp
          refine wpAnyH_take (i := 11) (v := .int .i64 cc) rfl (by kernel_rfl) (by kernel_rfl) (by kernel_rfl) (fun _ _ _ h => h) (Or.inl ⟨by rfl, ?_⟩) R5.out.bel ?_
          · intro w' hS
            clear hS
            go_simp
          refine wpAnyH_ready (rs := [13]) (by kernel_rfl) (by simp) ?_
          refine AllReadyH.cons rfl (fun K hK => ?_) AllReadyH.nil
          have MK := hideP (R5.out.done M.out)
          have hp := (R5.out.p _ rfl).2
          have hA1 := (Array.getElem?_eq_some_iff.1 hp).1
          have cA0 : wn5.cell? ⟨P, 0, none⟩ = some (.slice none 0 0) := cell_blk hp
          have cA1 : wn5.cell? ⟨P, 1, none⟩ = some (.slice none 0 0) := cell_blk hp
          have fA : ∀ o, wn5.frozen? ⟨P, o, none⟩ = false := fun o => frozen_blk hp
          clear hp
          go_simp
          refine hK.out _ _ MK.out.1 (fun _ => ?_)
          clear hK
          refine wpAnyH_ready (rs := [14]) (by kernel_rfl) (by simp) ?_
          refine AllReadyH.cons rfl (fun K hK => ?_) AllReadyH.nil
          go_simp
          refine hK.out _ _ MK.out.1 (fun _ => ?_)
          clear hK
          refine wpAnyH_done (by kernel_rfl) ?_ _
          clear cA0 cA1 fA
          go_wp2_with fail
          go_meet
          case rel => exact ⟨_, _, _, _, _, _, _, _, rfl, rfl, MK⟩
      · go_simp
        have R2 := hideP (R1.out.lit)
        refine hK.out _ _ R2.out.bel (fun _ => ?_)
        clear hK R1
        generalize wn1.alloc (.cells #[] 3) = wn2 at *
        generalize wn1.heap.size = gb at *
        refine wpAnyH_ready (rs := [6, 12]) (by kernel_rfl) (by simp) ?_
        refine AllReadyH.cons rfl (fun K hK => ?_) (AllReadyH.cons rfl (fun K hK => ?_) AllReadyH.nil)
        · refine step_append_at (base := w2.heap.size) _ rfl _ _ rfl (.slice xc sa.length yc) (.slice (some ⟨b2, o2, none⟩) tb.length tb.length) rfl rfl sa.length sa tb (R2.out.c _ _ rfl) (RV.out _ R2.out.bel).2 (by omega) R2.out.bel.size ?_
          intro v' wn3 ho' hg' hat'
          have R3 := hideP (R2.out.app HSH.out ho' hg' hat')
          obtain ⟨xa, ya, ea⟩ := owns_form (R3.out.c _ _ rfl)
          subst ea
          clear ho' hg' hat'
          refine hK.out _ _ R3.out.bel (fun _ => ?_)
          clear hK R2
          refine wpAnyH_ready (rs := [8, 12]) (by kernel_rfl) (by simp) ?_
          refine AllReadyH.cons rfl (fun K hK => ?_) (AllReadyH.cons rfl (fun K hK => ?_) AllReadyH.nil)
          · go_simp
            refine (l2Made_two wn3.heap.size _ _ _ _ _ sh _ (by omega) (own_of_any (R3.out.c _ _ rfl)).rd (Nat.le_refl _)).mono ?_
            rintro e wn4 ⟨q0, n0, c0, q1, n1, c1, cc, rfl, hb, hor⟩
            have R4 := hideP (R3.out.keep hb)
            have M := hideP hor
            clear hb hor
            refine hK.out _ _ R4.out.bel (fun _ => ?_)
            clear hK R3
            refine wpAnyH_take (i := 9) (v := .tuple #[.agg #[.slice q0 n0 c0, .slice q1 n1 c1], .int .i64 cc]) rfl (by kernel_rfl) (by kernel_rfl) (by kernel_rfl) (fun _ _ _ h => h) (Or.inl ⟨by rfl, ?_⟩) R4.out.bel ?_
            · intro w' hS
              clear hS
              go_simp
            refine wpAnyH_take (i := 10) (v := .agg #[.slice q0 n0 c0, .slice q1 n1 c1]) rfl (by kernel_rfl) (by kernel_rfl) (by kernel_rfl) (fun _ _ _ h => h) (Or.inl ⟨by rfl, ?_⟩) R4.out.bel ?_
            · intro w' hS
              clear hS
              go_simp
            refine wpAnyH_take (i := 11) (v := .int .i64 cc) rfl (by kernel_rfl) (by kernel_rfl) (by kernel_rfl) (fun _ _ _ h => h) (Or.inl ⟨by rfl, ?_⟩) R4.out.bel ?_
            · intro w' hS
              clear hS
              go_simp
            refine wpAnyH_ready (rs := [12]) (by kernel_rfl) (by simp) ?_
            refine AllReadyH.cons rfl (fun K hK => ?_) AllReadyH.nil
            go_simp
            have R5 := hideP (R4.out.var)
            refine hK.out _ _ R5.out.bel (fun _ => ?_)
            clear hK R4
            generalize wn4.alloc (.cells #[.slice none 0 0, .slice none 0 0] 27) = wn5 at *
            generalize wn4.heap.size = P at *
            refine wpAnyH_ready (rs := [13]) (by kernel_rfl) (by simp) ?_
            refine AllReadyH.cons rfl (fun K hK => ?_) AllReadyH.nil
            have MK := hideP (R5.out.done M.out)
            have hp := (R5.out.p _ rfl).2
            have hA1 := (Array.getElem?_eq_some_iff.1 hp).1
            have cA0 : wn5.cell? ⟨P, 0, none⟩ = some (.slice none 0 0) := cell_blk hp
            have cA1 : wn5.cell? ⟨P, 1, none⟩ = some (.slice none 0 0) := cell_blk hp
            have fA : ∀ o, wn5.frozen? ⟨P, o, none⟩ = false := fun o => frozen_blk hp
            clear hp
            go_simp
            refine hK.out _ _ MK.out.1 (fun _ => ?_)
            clear hK
            refine wpAnyH_ready (rs := [14]) (by kernel_rfl) (by simp) ?_
            refine AllReadyH.cons rfl (fun K hK => ?_) AllReadyH.nil
            go_simp
            refine hK.out _ _ MK.out.1 (fun _ => ?_)
            clear hK
            refine wpAnyH_done (by kernel_rfl) ?_ _
            clear cA0 cA1 fA
            go_wp2_with fail
            go_meet
            case rel => exact ⟨_, _, _, _, _, _, _, _, rfl, rfl, MK⟩
          · go_simp
            have R4 := hideP (R3.out.var)
            refine hK.out _ _ R4.out.bel (fun _ => ?_)
            clear hK R3
            generalize wn3.alloc (.cells #[.slice none 0 0, .slice none 0 0] 27) = wn4 at *
            generalize wn3.heap.size = P at *
            refine wpAnyH_ready (rs := [8]) (by kernel_rfl) (by simp) ?_
            refine AllReadyH.cons rfl (fun K hK => ?_) AllReadyH.nil
            go_simp
            refine (l2Made_two wn4.heap.size _ _ _ _ _ sh _ (by omega) (own_of_any (R4.out.c _ _ rfl)).rd (Nat.le_refl _)).mono ?_
            rintro e wn5 ⟨q0, n0, c0, q1, n1, c1, cc, rfl, hb, hor⟩
            have R5 := hideP (R4.out.keep hb)
            have M := hideP hor
            clear hb hor
            refine hK.out _ _ R5.out.bel (fun _ => ?_)
            clear hK R4
            refine wpAnyH_take (i := 9) (v := .tuple #[.agg #[.slice q0 n0 c0, .slice q1 n1 c1], .int .i64 cc]) rfl (by kernel_rfl) (by kernel_rfl) (by kernel_rfl) (fun _ _ _ h => h) (Or.inl ⟨by rfl, ?_⟩) R5.out.bel ?_
            · intro w' hS
              clear hS
              go_simp
            refine wpAnyH_take (i := 10) (v := .agg #[.slice q0 n0 c0, .slice q1 n1 c1]) rfl (by kernel_rfl) (by kernel_rfl) (by kernel_rfl) (fun _ _ _ h => h) (Or.inl ⟨by rfl, ?_⟩) R5.out.bel ?_
            · intro w' hS
              clear hS
              go_simp
            refine wpAnyH_take (i := 11) (v := .int .i64 cc) rfl (by kernel_rfl) (by kernel_rfl) (by kernel_rfl) (fun _ _ _ h => h) (Or.inl ⟨by rfl, ?_⟩) R5.out.bel ?_
            · intro w' hS
              clear hS
              go_simp
            refine wpAnyH_ready (rs := [13]) (by kernel_rfl) (by simp) ?_
            refine AllReadyH.cons rfl (fun K hK => ?_) AllReadyH.nil
            have MK := hideP (R5.out.done M.out)
            have hp := (R5.out.p _ rfl).2
            have hA1 := (Array.getElem?_eq_some_iff.1 hp).1
            have cA0 : wn5.cell? ⟨P, 0, none⟩ = some (.slice none 0 0) := cell_blk hp
            have cA1 : wn5.cell? ⟨P, 1, none⟩ = some (.slice none 0 0) := cell_blk hp
            have fA : ∀ o, wn5.frozen? ⟨P, o, none⟩ = false := fun o => frozen_blk hp
            clear hp
            go_simp
            refine hK.out _ _ MK.out.1 (fun _ => ?_)
            clear hK
            refine wpAnyH_ready (rs := [14]) (by kernel_rfl) (by simp) ?_
            refine AllReadyH.cons rfl (fun K hK => ?_) AllReadyH.nil
            go_simp
            refine hK.out _ _ MK.out.1 (fun _ => ?_)
            clear hK
            refine wpAnyH_done (by kernel_rfl) ?_ _
            clear cA0 cA1 fA
            go_wp2_with fail
            go_meet
            case rel => exact ⟨_, _, _, _, _, _, _, _, rfl, rfl, MK⟩
        · go_simp
          have R3 := hideP (R2.out.var)
          refine hK.out _ _ R3.out.bel (fun _ => ?_)
          clear hK R2
          generalize wn2.alloc (.cells #[.slice none 0 0, .slice none 0 0] 27) = wn3 at *
          generalize wn2.heap.size = P at *
          refine wpAnyH_ready (rs := [6]) (by kernel_rfl) (by simp) ?_
          refine AllReadyH.cons rfl (fun K hK => ?_) AllReadyH.nil
          refine step_append_at (base := w2.heap.size) _ rfl _ _ rfl (.slice xc sa.length yc) (.slice (some ⟨b2, o2, none⟩) tb.length tb.length) rfl rfl sa.length sa tb (R3.out.c _ _ rfl) (RV.out _ R3.out.bel).2 (by omega) R3.out.bel.size ?_
          intro v' wn4 ho' hg' hat'
          have R4 := hideP (R3.out.app HSH.out ho' hg' hat')
          obtain ⟨xa, ya, ea⟩ := owns_form (R4.out.c _ _ rfl)
          subst ea
          clear ho' hg' hat'
          refine hK.out _ _ R4.out.bel (fun _ => ?_)
          clear hK R3
          refine wpAnyH_ready (rs := [8]) (by kernel_rfl) (by simp) ?_
          refine AllReadyH.cons rfl (fun K hK => ?_) AllReadyH.nil
          go_simp
          refine (l2Made_two wn4.heap.size _ _ _ _ _ sh _ (by omega) (own_of_any (R4.out.c _ _ rfl)).rd (Nat.le_refl _)).mono ?_
          rintro e wn5 ⟨q0, n0, c0, q1, n1, c1, cc, rfl, hb, hor⟩
          have R5 := hideP (R4.out.keep hb)
          have M := hideP hor
          clear hb hor
          refine hK.out _ _ R5.out.bel (fun _ => ?_)
          clear hK R4
          refine wpAnyH_take (i := 9) (v := .tuple #[.agg #[.slice q0 n0 c0, .slice q1 n1 c1], .int .i64 cc]) rfl (by kernel_rfl) (by kernel_rfl) (by kernel_rfl) (fun _ _ _ h => h) (Or.inl ⟨by rfl, ?_⟩) R5.out.bel ?_
          · intro w' hS
            clear hS
            go_simp
          refine wpAnyH_take (i := 10) (v := .agg #[.slice q0 n0 c0, .slice q1 n1 c1]) rfl (by kernel_rfl) (by kernel_rfl) (by kernel_rfl) (fun _ _ _ h => h) (Or.inl ⟨by rfl, ?_⟩) R5.out.bel ?_
          · intro w' hS
            clear hS
            go_simp
          refine wpAnyH_take (i := 11) (v := .int .i64 cc) rfl (by kernel_rfl) (by kernel_rfl) (by kernel_rfl) (fun _ _ _ h => h) (Or.inl ⟨by rfl, ?_⟩) R5.out.bel ?_
          · intro w' hS
            clear hS
            go_simp
          refine wpAnyH_ready (rs := [13]) (by kernel_rfl) (by simp) ?_
          refine AllReadyH.cons rfl (fun K hK => ?_) AllReadyH.nil
          have MK := hideP (R5.out.done M.out)
          have hp := (R5.out.p _ rfl).2
          have hA1 := (Array.getElem?_eq_some_iff.1 hp).1
          have cA0 : wn5.cell? ⟨P, 0, none⟩ = some (.slice none 0 0) := cell_blk hp
          have cA1 : wn5.cell? ⟨P, 1, none⟩ = some (.slice none 0 0) := cell_blk hp
          have fA : ∀ o, wn5.frozen? ⟨P, o, none⟩ = false := fun o => frozen_blk hp
          clear hp
          go_simp
          refine hK.out _ _ MK.out.1 (fun _ => ?_)
          clear hK
          refine wpAnyH_ready (rs := [14]) (by kernel_rfl) (by simp) ?_
          refine AllReadyH.cons rfl (fun K hK => ?_) AllReadyH.nil
          go_simp
          refine hK.out _ _ MK.out.1 (fun _ => ?_)
          clear hK
          refine wpAnyH_done (by kernel_rfl) ?_ _
          clear cA0 cA1 fA
          go_wp2_with fail
          go_meet
          case rel => exact ⟨_, _, _, _, _, _, _, _, rfl, rfl, MK⟩
      · go_simp
        have R2 := hideP (R1.out.var)
        refine hK.out _ _ R2.out.bel (fun _ => ?_)
        clear hK R1
        generalize wn1.alloc (.cells #[.slice none 0 0, .slice none 0 0] 27) = wn2 at *
        generalize wn1.heap.size = P at *
        refine wpAnyH_ready (rs := [6, 7]) (by kernel_rfl) (by simp) ?_
        refine AllReadyH.cons rfl (fun K hK => ?_) (AllReadyH.cons rfl (fun K hK => ?_) AllReadyH.nil)
        · refine step_append_at (base := w2.heap.size) _ rfl _ _ rfl (.slice xc sa.length yc) (.slice (some ⟨b2, o2, none⟩) tb.length tb.length) rfl rfl sa.length sa tb (R2.out.c _ _ rfl) (RV.out _ R2.out.bel).2 (by omega) R2.out.bel.size ?_
          intro v' wn3 ho' hg' hat'
          have R3 := hideP (R2.out.app HSH.out ho' hg' hat')
          obtain ⟨xa, ya, ea⟩ := owns_form (R3.out.c _ _ rfl)
          subst ea
          clear ho' hg' hat'
          refine hK.out _ _ R3.out.bel (fun _ => ?_)
          clear hK R2
          refine wpAnyH_ready (rs := [7]) (by kernel_rfl) (by simp) ?_
          refine AllReadyH.cons rfl (fun K hK => ?_) AllReadyH.nil
          go_simp
          have R4 := hideP (R3.out.lit)
          refine hK.out _ _ R4.out.bel (fun _ => ?_)
          clear hK R3
          generalize wn3.alloc (.cells #[] 3) = wn4 at *
          generalize wn3.heap.size = gb at *
          refine wpAnyH_ready (rs := [8]) (by kernel_rfl) (by simp) ?_
          refine AllReadyH.cons rfl (fun K hK => ?_) AllReadyH.nil
          go_simp
          refine (l2Made_two wn4.heap.size _ _ _ _ _ sh _ (by omega) (own_of_any (R4.out.c _ _ rfl)).rd (Nat.le_refl _)).mono ?_
          rintro e wn5 ⟨q0, n0, c0, q1, n1, c1, cc, rfl, hb, hor⟩
          have R5 := hideP (R4.out.keep hb)
          have M := hideP hor
          clear hb hor
          refine hK.out _ _ R5.out.bel (fun _ => ?_)
          clear hK R4
          refine wpAnyH_take (i := 9) (v := .tuple #[.agg #[.slice q0 n0 c0, .slice q1 n1 c1], .int .i64 cc]) rfl (by kernel_rfl) (by kernel_rfl) (by kernel_rfl) (fun _ _ _ h => h) (Or.inl ⟨by rfl, ?_⟩) R5.out.bel ?_
          · intro w' hS
            clear hS
            go_simp
          refine wpAnyH_take (i := 10) (v := .agg #[.slice q0 n0 c0, .slice q1 n1 c1]) rfl (by kernel_rfl) (by kernel_rfl) (by kernel_rfl) (fun _ _ _ h => h) (Or.inl ⟨by rfl, ?_⟩) R5.out.bel ?_
          · intro w' hS
            clear hS
            go_simp
          refine wpAnyH_take (i := 11) (v := .int .i64 cc) rfl (by kernel_rfl) (by kernel_rfl) (by kernel_rfl) (fun _ _ _ h => h) (Or.inl ⟨by rfl, ?_⟩) R5.out.bel ?_
          · intro w' hS
            clear hS
            go_simp
          refine wpAnyH_ready (rs := [13]) (by kernel_rfl) (by simp) ?_
          refine AllReadyH.cons rfl (fun K hK => ?_) AllReadyH.nil
          have MK := hideP (R5.out.done M.out)
          have hp := (R5.out.p _ rfl).2
          have hA1 := (Array.getElem?_eq_some_iff.1 hp).1
          have cA0 : wn5.cell? ⟨P, 0, none⟩ = some (.slice none 0 0) := cell_blk hp
          have cA1 : wn5.cell? ⟨P, 1, none⟩ = some (.slice none 0 0) := cell_blk hp
          have fA : ∀ o, wn5.frozen? ⟨P, o, none⟩ = false := fun o => frozen_blk hp
          clear hp
          go_simp
          refine hK.out _ _ MK.out.1 (fun _ => ?_)
          clear hK
          refine wpAnyH_ready (rs := [14]) (by kernel_rfl) (by simp) ?_
          refine AllReadyH.cons rfl (fun K hK => ?_) AllReadyH.nil
          go_simp
          refine hK.out _ _ MK.out.1 (fun _ => ?_)
          clear hK
          refine wpAnyH_done (by kernel_rfl) ?_ _
          clear cA0 cA1 fA
          go_wp2_with fail
          go_meet
          case rel => exact ⟨_, _, _, _, _, _, _, _, rfl, rfl, MK⟩
        · go_simp
          have R3 := hideP (R2.out.lit)
          refine hK.out _ _ R3.out.bel (fun _ => ?_)
          clear hK R2
          generalize wn2.alloc (.cells #[] 3) = wn3 at *
          generalize wn2.heap.size = gb at *
          refine wpAnyH_ready (rs := [6]) (by kernel_rfl) (by simp) ?_
          refine AllReadyH.cons rfl (fun K hK => ?_) AllReadyH.nil
          refine step_append_at (base := w2.heap.size) _ rfl _ _ rfl (.slice xc sa.length yc) (.slice (some ⟨b2, o2, none⟩) tb.length tb.length) rfl rfl sa.length sa tb (R3.out.c _ _ rfl) (RV.out _ R3.out.bel).2 (by omega) R3.out.bel.size ?_
          intro v' wn4 ho' hg' hat'
          have R4 := hideP (R3.out.app HSH.out ho' hg' hat')
          obtain ⟨xa, ya, ea⟩ := owns_form (R4.out.c _ _ rfl)
          subst ea
          clear ho' hg' hat'
          refine hK.out _ _ R4.out.bel (fun _ => ?_)
          clear hK R3
          refine wpAnyH_ready (rs := [8]) (by kernel_rfl) (by simp) ?_
          refine AllReadyH.cons rfl (fun K hK => ?_) AllReadyH.nil
          go_simp
          refine (l2Made_two wn4.heap.size _ _ _ _ _ sh _ (by omega) (own_of_any (R4.out.c _ _ rfl)).rd (Nat.le_refl _)).mono ?_
          rintro e wn5 ⟨q0, n0, c0, q1, n1, c1, cc, rfl, hb, hor⟩
          have R5 := hideP (R4.out.keep hb)
          have M := hideP hor
          clear hb hor
          refine hK.out _ _ R5.out.bel (fun _ => ?_)
          clear hK R4
          refine wpAnyH_take (i := 9) (v := .tuple #[.agg #[.slice q0 n0 c0, .slice q1 n1 c1], .int .i64 cc]) rfl (by kernel_rfl) (by kernel_rfl) (by kernel_rfl) (fun _ _ _ h => h) (Or.inl ⟨by rfl, ?_⟩) R5.out.bel ?_
          · intro w' hS
            clear hS
            go_simp
          refine wpAnyH_take (i := 10) (v := .agg #[.slice q0 n0 c0, .slice q1 n1 c1]) rfl (by kernel_rfl) (by kernel_rfl) (by kernel_rfl) (fun _ _ _ h => h) (Or.inl ⟨by rfl, ?_⟩) R5.out.bel ?_
          · intro w' hS
            clear hS
            go_simp
          refine wpAnyH_take (i := 11) (v := .int .i64 cc) rfl (by kernel_rfl) (by kernel_rfl) (by kernel_rfl) (fun _ _ _ h => h) (Or.inl ⟨by rfl, ?_⟩) R5.out.bel ?_
          · intro w' hS
            clear hS
            go_simp
          refine wpAnyH_ready (rs := [13]) (by kernel_rfl) (by simp) ?_
          refine AllReadyH.cons rfl (fun K hK => ?_) AllReadyH.nil
          have MK := hideP (R5.out.done M.out)
          have hp := (R5.out.p _ rfl).2
          have hA1 := (Array.getElem?_eq_some_iff.1 hp).1
          have cA0 : wn5.cell? ⟨P, 0, none⟩ = some (.slice none 0 0) := cell_blk hp
          have cA1 : wn5.cell? ⟨P, 1, none⟩ = some (.slice none 0 0) := cell_blk hp
          have fA : ∀ o, wn5.frozen? ⟨P, o, none⟩ = false := fun o => frozen_blk hp
          clear hp
          go_simp
          refine hK.out _ _ MK.out.1 (fun _ => ?_)
          clear hK
          refine wpAnyH_ready (rs := [14]) (by kernel_rfl) (by simp) ?_
          refine AllReadyH.cons rfl (fun K hK => ?_) AllReadyH.nil
          go_simp
          refine hK.out _ _ MK.out.1 (fun _ => ?_)
          clear hK
          refine wpAnyH_done (by kernel_rfl) ?_ _
          clear cA0 cA1 fA
          go_wp2_with fail
          go_meet
          case rel => exact ⟨_, _, _, _, _, _, _, _, rfl, rfl, MK⟩
    · go_simp
      have R1 := hideP (R0.out.lit)
      refine hK.out _ _ R1.out.bel (fun _ => ?_)
      clear hK R0
      generalize wn0.alloc (.cells #[] 3) = wn1 at *
      generalize wn0.heap.size = gb at *
      refine wpAnyH_ready (rs := [2, 12]) (by kernel_rfl) (by simp) ?_
      refine AllReadyH.cons rfl (fun K hK => ?_) (AllReadyH.cons rfl (fun K hK => ?_) AllReadyH.nil)
      · go_simp
        refine (l2Copy_any _ sa _ (by omega) (RV.out _ R1.out.bel).1).mono ?_
        rintro e wn2 ⟨v2, rfl, ho2, hb2⟩
        have R2 := hideP (R1.out.copy ho2 hb2)
        obtain ⟨xc, yc, ec⟩ := owns_form ho2
        subst ec
        clear ho2 hb2
        refine hK.out _ _ R2.out.bel (fun _ => ?_)
        clear hK R1
        refine wpAnyH_ready (rs := [6, 12]) (by kernel_rfl) (by simp) ?_
        refine AllReadyH.cons rfl (fun K hK => ?_) (AllReadyH.cons rfl (fun K hK => ?_) AllReadyH.nil)
        · refine step_append_at (base := w2.heap.size) _ rfl _ _ rfl (.slice xc sa.length yc) (.slice (some ⟨b2, o2, none⟩) tb.length tb.length) rfl rfl sa.length sa tb (R2.out.c _ _ rfl) (RV.out _ R2.out.bel).2 (by omega) R2.out.bel.size ?_
          intro v' wn3 ho' hg' hat'
          have R3 := hideP (R2.out.app HSH.out ho' hg' hat')
          obtain ⟨xa, ya, ea⟩ := owns_form (R3.out.c _ _ rfl)
          subst ea
          clear ho' hg' hat'
          refine hK.out _ _ R3.out.bel (fun _ => ?_)
          clear hK R2
          refine wpAnyH_ready (rs := [8, 12]) (by kernel_rfl) (by simp) ?_
          refine AllReadyH.cons rfl (fun K hK => ?_) (AllReadyH.cons rfl (fun K hK => ?_) AllReadyH.nil)
          · go_simp
            refine (l2Made_two wn3.heap.size _ _ _ _ _ sh _ (by omega) (own_of_any (R3.out.c _ _ rfl)).rd (Nat.le_refl _)).mono ?_
            rintro e wn4 ⟨q0, n0, c0, q1, n1, c1, cc, rfl, hb, hor⟩
            have R4 := hideP (R3.out.keep hb)
            have M := hideP hor
            clear hb hor
            refine hK.out _ _ R4.out.bel (fun _ => ?_)
            clear hK R3
            refine wpAnyH_take (i := 9) (v := .tuple #[.agg #[.slice q0 n0 c0, .slice q1 n1 c1], .int .i64 cc]) rfl (by kernel_rfl) (by kernel_rfl) (by kernel_rfl) (fun _ _ _ h => h) (Or.inl ⟨by rfl, ?_⟩) R4.out.bel ?_
            · intro w' hS
              clear hS
              go_simp
            refine wpAnyH_take (i := 10) (v := .agg #[.slice q0 n0 c0, .slice q1 n1 c1]) rfl (by kernel_rfl) (by kernel_rfl) (by kernel_rfl) (fun _ _ _ h => h) (Or.inl ⟨by rfl, ?_⟩) R4.out.bel ?_
            · intro w' hS
              clear hS
              go_simp
            refine wpAnyH_take (i := 11) (v := .int .i64 cc) rfl (by kernel_rfl) (by kernel_rfl) (by kernel_rfl) (fun _ _ _ h => h) (Or.inl ⟨by rfl, ?_⟩) R4.out.bel ?_
            · intro w' hS
              clear hS
              go_simp
            refine wpAnyH_ready (rs := [12]) (by kernel_rfl) (by simp) ?_
            refine AllReadyH.cons rfl (fun K hK => ?_) AllReadyH.nil
            go_simp
            have R5 := hideP (R4.out.var)
            refine hK.out _ _ R5.out.bel (fun _ => ?_)
            clear hK R4
            generalize wn4.alloc (.cells #[.slice none 0 0, .slice none 0 0] 27) = wn5 at *
            generalize wn4.heap.size = P at *
            refine wpAnyH_ready (rs := [13]) (by kernel_rfl) (by simp) ?_
            refine AllReadyH.cons rfl (fun K hK => ?_) AllReadyH.nil
            have MK := hideP (R5.out.done M.out)
            have hp := (R5.out.p _ rfl).2
            have hA1 := (Array.getElem?_eq_some_iff.1 hp).1
            have cA0 : wn5.cell? ⟨P, 0, none⟩ = some (.slice none 0 0) := cell_blk hp
            have cA1 : wn5.cell? ⟨P, 1, none⟩ = some (.slice none 0 0) := cell_blk hp
            have fA : ∀ o, wn5.frozen? ⟨P, o, none⟩ = false := fun o => frozen_blk hp
            clear hp
            go_simp
            refine hK.out _ _ MK.out.1 (fun _ => ?_)
            clear hK
            refine wpAnyH_ready (rs := [14]) (by kernel_rfl) (by simp) ?_
            refine AllReadyH.cons rfl (fun K hK => ?_) AllReadyH.nil
            go_simp
            refine hK.out _ _ MK.out.1 (fun _ => ?_)
            clear hK
            refine wpAnyH_done (by kernel_rfl) ?_ _
            clear cA0 cA1 fA
            go_wp2_with fail
            go_meet
            case rel => exact ⟨_, _, _, _, _, _, _, _, rfl, rfl, MK⟩
          · go_simp
            have R4 := hideP (R3.out.var)
            refine hK.out _ _ R4.out.bel (fun _ => ?_)
            clear hK R3
            generalize wn3.alloc (.cells #[.slice none 0 0, .slice none 0 0] 27) = wn4 at *
            generalize wn3.heap.size = P at *
            refine wpAnyH_ready (rs := [8]) (by kernel_rfl) (by simp) ?_
            refine AllReadyH.cons rfl (fun K hK => ?_) AllReadyH.nil
            go_simp
            refine (l2Made_two wn4.heap.size _ _ _ _ _ sh _ (by omega) (own_of_any (R4.out.c _ _ rfl)).rd (Nat.le_refl _)).mono ?_
            rintro e wn5 ⟨q0, n0, c0, q1, n1, c1, cc, rfl, hb, hor⟩
            have R5 := hideP (R4.out.keep hb)
            have M := hideP hor
            clear hb hor
            refine hK.out _ _ R5.out.bel (fun _ => ?_)
            clear hK R4
            refine wpAnyH_take (i := 9) (v := .tuple #[.agg #[.slice q0 n0 c0, .slice q1 n1 c1], .int .i64 cc]) rfl (by kernel_rfl) (by kernel_rfl) (by kernel_rfl) (fun _ _ _ h => h) (Or.inl ⟨by rfl, ?_⟩) R5.out.bel ?_
            · intro w' hS
              clear hS
              go_simp
            refine wpAnyH_take (i := 10) (v := .agg #[.slice q0 n0 c0, .slice q1 n1 c1]) rfl (by kernel_rfl) (by kernel_rfl) (by kernel_rfl) (fun _ _ _ h => h) (Or.inl ⟨by rfl, ?_⟩) R5.out.bel ?_
            · intro w' hS
              clear hS
              go_simp
            refine wpAnyH_take (i := 11) (v := .int .i64 cc) rfl (by kernel_rfl) (by kernel_rfl) (by kernel_rfl) (fun _ _ _ h => h) (Or.inl ⟨by rfl, ?_⟩) R5.out.bel ?_
            · intro w' hS
              clear hS
              go_simp
            refine wpAnyH_ready (rs := [13]) (by kernel_rfl) (by simp) ?_
            refine AllReadyH.cons rfl (fun K hK => ?_) AllReadyH.nil
            have MK := hideP (R5.out.done M.out)
            have hp := (R5.out.p _ rfl).2
            have hA1 := (Array.getElem?_eq_some_iff.1 hp).1
            have cA0 : wn5.cell? ⟨P, 0, none⟩ = some (.slice none 0 0) := cell_blk hp
            have cA1 : wn5.cell? ⟨P, 1, none⟩ = some (.slice none 0 0) := cell_blk hp
            have fA : ∀ o, wn5.frozen? ⟨P, o, none⟩ = false := fun o => frozen_blk hp
            clear hp
            go_simp
            refine hK.out _ _ MK.out.1 (fun _ => ?_)
            clear hK
            refine wpAnyH_ready (rs := [14]) (by kernel_rfl) (by simp) ?_
            refine AllReadyH.cons rfl (fun K hK => ?_) AllReadyH.nil
            go_simp
            refine hK.out _ _ MK.out.1 (fun _ => ?_)
            clear hK
            refine wpAnyH_done (by kernel_rfl) ?_ _
            clear cA0 cA1 fA
            go_wp2_with fail
            go_meet
            case rel => exact ⟨_, _, _, _, _, _, _, _, rfl, rfl, MK⟩
        · go_simp
          have R3 := hideP (R2.out.var)
          refine hK.out _ _ R3.out.bel (fun _ => ?_)
          clear hK R2
          generalize wn2.alloc (.cells #[.slice none 0 0, .slice none 0 0] 27) = wn3 at *
          generalize wn2.heap.size = P at *
          refine wpAnyH_ready (rs := [6]) (by kernel_rfl) (by simp) ?_
          refine AllReadyH.cons rfl (fun K hK => ?_) AllReadyH.nil
          refine step_append_at (base := w2.heap.size) _ rfl _ _ rfl (.slice xc sa.length yc) (.slice (some ⟨b2, o2, none⟩) tb.length tb.length) rfl rfl sa.length sa tb (R3.out.c _ _ rfl) (RV.out _ R3.out.bel).2 (by omega) R3.out.bel.size ?_
          intro v' wn4 ho' hg' hat'
          have R4 := hideP (R3.out.app HSH.out ho' hg' hat')
          obtain ⟨xa, ya, ea⟩ := owns_form (R4.out.c _ _ rfl)
          subst ea
          clear ho' hg' hat'
          refine hK.out _ _ R4.out.bel (fun _ => ?_)
          clear hK R3
          refine wpAnyH_ready (rs := [8]) (by kernel_rfl) (by simp) ?_
          refine AllReadyH.cons rfl (fun K hK => ?_) AllReadyH.nil
          go_simp
          refine (l2Made_two wn4.heap.size _ _ _ _ _ sh _ (by omega) (own_of_any (R4.out.c _ _ rfl)).rd (Nat.le_refl _)).mono ?_
          rintro e wn5 ⟨q0, n0, c0, q1, n1, c1, cc, rfl, hb, hor⟩
          have R5 := hideP (R4.out.keep hb)
          have M := hideP hor
          clear hb hor
          refine hK.out _ _ R5.out.bel (fun _ => ?_)
          clear hK R4
          refine wpAnyH_take (i := 9) (v := .tuple #[.agg #[.slice q0 n0 c0, .slice q1 n1 c1], .int .i64 cc]) rfl (by kernel_rfl) (by kernel_rfl) (by kernel_rfl) (fun _ _ _ h => h) (Or.inl ⟨by rfl, ?_⟩) R5.out.bel ?_
          · intro w' hS
            clear hS
            go_simp
          refine wpAnyH_take (i := 10) (v := .agg #[.slice q0 n0 c0, .slice q1 n1 c1]) rfl (by kernel_rfl) (by kernel_rfl) (by kernel_rfl) (fun _ _ _ h => h) (Or.inl ⟨by rfl, ?_⟩) R5.out.bel ?_
          · intro w' hS
            clear hS
            go_simp
          refine wpAnyH_take (i := 11) (v := .int .i64 cc) rfl (by kernel_rfl) (by kernel_rfl) (by kernel_rfl) (fun _ _ _ h => h) (Or.inl ⟨by rfl, ?_⟩) R5.out.bel ?_
          · intro w' hS
            clear hS
            go_simp
          refine wpAnyH_ready (rs := [13]) (by kernel_rfl) (by simp) ?_
          refine AllReadyH.cons rfl (fun K hK => ?_) AllReadyH.nil
          have MK := hideP (R5.out.done M.out)
          have hp := (R5.out.p _ rfl).2
          have hA1 := (Array.getElem?_eq_some_iff.1 hp).1
          have cA0 : wn5.cell? ⟨P, 0, none⟩ = some (.slice none 0 0) := cell_blk hp
          have cA1 : wn5.cell? ⟨P, 1, none⟩ = some (.slice none 0 0) := cell_blk hp
          have fA : ∀ o, wn5.frozen? ⟨P, o, none⟩ = false := fun o => frozen_blk hp
          clear hp
          go_simp
          refine hK.out _ _ MK.out.1 (fun _ => ?_)
          clear hK
          refine wpAnyH_ready (rs := [14]) (by kernel_rfl) (by simp) ?_
          refine AllReadyH.cons rfl (fun K hK => ?_) AllReadyH.nil
          go_simp
          refine hK.out _ _ MK.out.1 (fun _ => ?_)
          clear hK
          refine wpAnyH_done (by kernel_rfl) ?_ _
          clear cA0 cA1 fA
          go_wp2_with fail
          go_meet
          case rel => exact ⟨_, _, _, _, _, _, _, _, rfl, rfl, MK⟩
      · go_simp
        have R2 := hideP (R1.out.var)
        refine hK.out _ _ R2.out.bel (fun _ => ?_)
        clear hK R1
        generalize wn1.alloc (.cells #[.slice none 0 0, .slice none 0 0] 27) = wn2 at *
        generalize wn1.heap.size = P at *
        refine wpAnyH_ready (rs := [2]) (by kernel_rfl) (by simp) ?_
        refine AllReadyH.cons rfl (fun K hK => ?_) AllReadyH.nil
        go_simp
        refine (l2Copy_any _ sa _ (by omega) (RV.out _ R2.out.bel).1).mono ?_
        rintro e wn3 ⟨v2, rfl, ho2, hb2⟩
        have R3 := hideP (R2.out.copy ho2 hb2)
        obtain ⟨xc, yc, ec⟩ := owns_form ho2
        subst ec
        clear ho2 hb2
        refine hK.out _ _ R3.out.bel (fun _ => ?_)
        clear hK R2
        refine wpAnyH_ready (rs := [6]) (by kernel_rfl) (by simp) ?_
        refine AllReadyH.cons rfl (fun K hK => ?_) AllReadyH.nil
        refine step_append_at (base := w2.heap.size) _ rfl _ _ rfl (.slice xc sa.length yc) (.slice (some ⟨b2, o2, none⟩) tb.length tb.length) rfl rfl sa.length sa tb (R3.out.c _ _ rfl) (RV.out _ R3.out.bel).2 (by omega) R3.out.bel.size ?_
        intro v' wn4 ho' hg' hat'
        have R4 := hideP (R3.out.app HSH.out ho' hg' hat')
        obtain ⟨xa, ya, ea⟩ := owns_form (R4.out.c _ _ rfl)
        subst ea
        clear ho' hg' hat'
        refine hK.out _ _ R4.out.bel (fun _ => ?_)
        clear hK R3
        refine wpAnyH_ready (rs := [8]) (by kernel_rfl) (by simp) ?_
        refine AllReadyH.cons rfl (fun K hK => ?_) AllReadyH.nil
        go_simp
        refine (l2Made_two wn4.heap.size _ _ _ _ _ sh _ (by omega) (own_of_any (R4.out.c _ _ rfl)).rd (Nat.le_refl _)).mono ?_
        rintro e wn5 ⟨q0, n0, c0, q1, n1, c1, cc, rfl, hb, hor⟩
        have R5 := hideP (R4.out.keep hb)
        have M := hideP hor
        clear hb hor
        refine hK.out _ _ R5.out.bel (fun _ => ?_)
        clear hK R4
        refine wpAnyH_take (i := 9) (v := .tuple #[.agg #[.slice q0 n0 c0, .slice q1 n1 c1], .int .i64 cc]) rfl (by kernel_rfl) (by kernel_rfl) (by kernel_rfl) (fun _ _ _ h => h) (Or.inl ⟨by rfl, ?_⟩) R5.out.bel ?_
        · intro w' hS
          clear hS
          go_simp
        refine wpAnyH_take (i := 10) (v := .agg #[.slice q0 n0 c0, .slice q1 n1 c1]) rfl (by kernel_rfl) (by kernel_rfl) (by kernel_rfl) (fun _ _ _ h => h) (Or.inl ⟨by rfl, ?_⟩) R5.out.bel ?_
        · intro w' hS
          clear hS
          go_simp
        refine wpAnyH_take (i := 11) (v := .int .i64 cc) rfl (by kernel_rfl) (by kernel_rfl) (by kernel_rfl) (fun _ _ _ h => h) (Or.inl ⟨by rfl, ?_⟩) R5.out.bel ?_
        · intro w' hS
          clear hS
          go_simp
        refine wpAnyH_ready (rs := [13]) (by kernel_rfl) (by simp) ?_
        refine AllReadyH.cons rfl (fun K hK => ?_) AllReadyH.nil
        have MK := hideP (R5.out.done M.out)
        have hp := (R5.out.p _ rfl).2
        have hA1 := (Array.getElem?_eq_some_iff.1 hp).1
        have cA0 : wn5.cell? ⟨P, 0, none⟩ = some (.slice none 0 0) := cell_blk hp
        have cA1 : wn5.cell? ⟨P, 1, none⟩ = some (.slice none 0 0) := cell_blk hp
        have fA : ∀ o, wn5.frozen? ⟨P, o, none⟩ = false := fun o => frozen_blk hp
        clear hp
        go_simp
        refine hK.out _ _ MK.out.1 (fun _ => ?_)
        clear hK
        refine wpAnyH_ready (rs := [14]) (by kernel_rfl) (by simp) ?_
        refine AllReadyH.cons rfl (fun K hK => ?_) AllReadyH.nil
        go_simp
        refine hK.out _ _ MK.out.1 (fun _ => ?_)
        clear hK
        refine wpAnyH_done (by kernel_rfl) ?_ _
        clear cA0 cA1 fA
        go_wp2_with fail
        go_meet
        case rel => exact ⟨_, _, _, _, _, _, _, _, rfl, rfl, MK⟩
    · go_simp
      have R1 := hideP (R0.out.var)
      refine hK.out _ _ R1.out.bel (fun _ => ?_)
      clear hK R0
      generalize wn0.alloc (.cells #[.slice none 0 0, .slice none 0 0] 27) = wn1 at *
      generalize wn0.heap.size = P at *
      refine wpAnyH_ready (rs := [2, 7]) (by kernel_rfl) (by simp) ?_
      refine AllReadyH.cons rfl (fun K hK => ?_) (AllReadyH.cons rfl (fun K hK => ?_) AllReadyH.nil)
      · go_simp
        refine (l2Copy_any _ sa _ (by omega) (RV.out _ R1.out.bel).1).mono ?_
        rintro e wn2 ⟨v2, rfl, ho2, hb2⟩
        have R2 := hideP (R1.out.copy ho2 hb2)
        obtain ⟨xc, yc, ec⟩ := owns_form ho2
        subst ec
        clear ho2 hb2
        refine hK.out _ _ R2.out.bel (fun _ => ?_)
        clear hK R1
        refine wpAnyH_ready (rs := [6, 7]) (by kernel_rfl) (by simp) ?_
        refine AllReadyH.cons rfl (fun K hK => ?_) (AllReadyH.cons rfl (fun K hK => ?_) AllReadyH.nil)
        · refine step_append_at (base := w2.heap.size) _ rfl _ _ rfl (.slice xc sa.length yc) (.slice (some ⟨b2, o2, none⟩) tb.length tb.length) rfl rfl sa.length sa tb (R2.out.c _ _ rfl) (RV.out _ R2.out.bel).2 (by omega) R2.out.bel.size ?_
          intro v' wn3 ho' hg' hat'
          have R3 := hideP (R2.out.app HSH.out ho' hg' hat')
          obtain ⟨xa, ya, ea⟩ := owns_form (R3.out.c _ _ rfl)
          subst ea
          clear ho' hg' hat'
          refine hK.out _ _ R3.out.bel (fun _ => ?_)
          clear hK R2
          refine wpAnyH_ready (rs := [7]) (by kernel_rfl) (by simp) ?_
          refine AllReadyH.cons rfl (fun K hK => ?_) AllReadyH.nil
          go_simp
          have R4 := hideP (R3.out.lit)
          refine hK.out _ _ R4.out.bel (fun _ => ?_)
          clear hK R3
          generalize wn3.alloc (.cells #[] 3) = wn4 at *
          generalize wn3.heap.size = gb at *
          refine wpAnyH_ready (rs := [8]) (by kernel_rfl) (by simp) ?_
          refine AllReadyH.cons rfl (fun K hK => ?_) AllReadyH.nil
          go_simp
          refine (l2Made_two wn4.heap.size _ _ _ _ _ sh _ (by omega) (own_of_any (R4.out.c _ _ rfl)).rd (Nat.le_refl _)).mono ?_
          rintro e wn5 ⟨q0, n0, c0, q1, n1, c1, cc, rfl, hb, hor⟩
          have R5 := hideP (R4.out.keep hb)
          have M := hideP hor
          clear hb hor
          refine hK.out _ _ R5.out.bel (fun _ => ?_)
          clear hK R4
          refine wpAnyH_take (i := 9) (v := .tuple #[.agg #[.slice q0 n0 c0, .slice q1 n1 c1], .int .i64 cc]) rfl (by kernel_rfl) (by kernel_rfl) (by kernel_rfl) (fun _ _ _ h => h) (Or.inl ⟨by rfl, ?_⟩) R5.out.bel ?_
          · intro w' hS
            clear hS
            go_simp
          refine wpAnyH_take (i := 10) (v := .agg #[.slice q0 n0 c0, .slice q1 n1 c1]) rfl (by kernel_rfl) (by kernel_rfl) (by kernel_rfl) (fun _ _ _ h => h) (Or.inl ⟨by rfl, ?_⟩) R5.out.bel ?_
          · intro w' hS
            clear hS
            go_simp
          refine wpAnyH_take (i := 11) (v := .int .i64 cc) rfl (by kernel_rfl) (by kernel_rfl) (by kernel_rfl) (fun _ _ _ h => h) (Or.inl ⟨by rfl, ?_⟩) R5.out.bel ?_
          · intro w' hS
            clear hS
            go_simp
          refine wpAnyH_ready (rs := [13]) (by kernel_rfl) (by simp) ?_
          refine AllReadyH.cons rfl (fun K hK => ?_) AllReadyH.nil
          have MK := hideP (R5.out.done M.out)
          have hp := (R5.out.p _ rfl).2
          have hA1 := (Array.getElem?_eq_some_iff.1 hp).1
          have cA0 : wn5.cell? ⟨P, 0, none⟩ = some (.slice none 0 0) := cell_blk hp
          have cA1 : wn5.cell? ⟨P, 1, none⟩ = some (.slice none 0 0) := cell_blk hp
          have fA : ∀ o, wn5.frozen? ⟨P, o, none⟩ = false := fun o => frozen_blk hp
          clear hp
          go_simp
          refine hK.out _ _ MK.out.1 (fun _ => ?_)
          clear hK
          refine wpAnyH_ready (rs := [14]) (by kernel_rfl) (by simp) ?_
          refine AllReadyH.cons rfl (fun K hK => ?_) AllReadyH.nil
          go_simp
          refine hK.out _ _ MK.out.1 (fun _ => ?_)
          clear hK
          refine wpAnyH_done (by kernel_rfl) ?_ _
          clear cA0 cA1 fA
          go_wp2_with fail
          go_meet
          case rel => exact ⟨_, _, _, _, _, _, _, _, rfl, rfl, MK⟩
        · go_simp
          have R3 := hideP (R2.out.lit)
          refine hK.out _ _ R3.out.bel (fun _ => ?_)
          clear hK R2
          generalize wn2.alloc (.cells #[] 3) = wn3 at *
          generalize wn2.heap.size = gb at *
          refine wpAnyH_ready (rs := [6]) (by kernel_rfl) (by simp) ?_
          refine AllReadyH.cons rfl (fun K hK => ?_) AllReadyH.nil
          refine step_append_at (base := w2.heap.size) _ rfl _ _ rfl (.slice xc sa.length yc) (.slice (some ⟨b2, o2, none⟩) tb.length tb.length) rfl rfl sa.length sa tb (R3.out.c _ _ rfl) (RV.out _ R3.out.bel).2 (by omega) R3.out.bel.size ?_
          intro v' wn4 ho' hg' hat'
          have R4 := hideP (R3.out.app HSH.out ho' hg' hat')
          obtain ⟨xa, ya, ea⟩ := owns_form (R4.out.c _ _ rfl)
          subst ea
          clear ho' hg' hat'
          refine hK.out _ _ R4.out.bel (fun _ => ?_)
          clear hK R3
          refine wpAnyH_ready (rs := [8]) (by kernel_rfl) (by simp) ?_
          refine AllReadyH.cons rfl (fun K hK => ?_) AllReadyH.nil
          go_simp
          refine (l2Made_two wn4.heap.size _ _ _ _ _ sh _ (by omega) (own_of_any (R4.out.c _ _ rfl)).rd (Nat.le_refl _)).mono ?_
          rintro e wn5 ⟨q0, n0, c0, q1, n1, c1, cc, rfl, hb, hor⟩
          have R5 := hideP (R4.out.keep hb)
          have M := hideP hor
          clear hb hor
          refine hK.out _ _ R5.out.bel (fun _ => ?_)
          clear hK R4
          refine wpAnyH_take (i := 9) (v := .tuple #[.agg #[.slice q0 n0 c0, .slice q1 n1 c1], .int .i64 cc]) rfl (by kernel_rfl) (by kernel_rfl) (by kernel_rfl) (fun _ _ _ h => h) (Or.inl ⟨by rfl, ?_⟩) R5.out.bel ?_
          · intro w' hS
            clear hS
            go_simp
          refine wpAnyH_take (i := 10) (v := .agg #[.slice q0 n0 c0, .slice q1 n1 c1]) rfl (by kernel_rfl) (by kernel_rfl) (by kernel_rfl) (fun _ _ _ h => h) (Or.inl ⟨by rfl, ?_⟩) R5.out.bel ?_
          · intro w' hS
            clear hS
            go_simp
          refine wpAnyH_take (i := 11) (v := .int .i64 cc) rfl (by kernel_rfl) (by kernel_rfl) (by kernel_rfl) (fun _ _ _ h => h) (Or.inl ⟨by rfl, ?_⟩) R5.out.bel ?_
          · intro w' hS
            clear hS
            go_simp
          refine wpAnyH_ready (rs := [13]) (by kernel_rfl) (by simp) ?_
          refine AllReadyH.cons rfl (fun K hK => ?_) AllReadyH.nil
          have MK := hideP (R5.out.done M.out)
          have hp := (R5.out.p _ rfl).2
          have hA1 := (Array.getElem?_eq_some_iff.1 hp).1
          have cA0 : wn5.cell? ⟨P, 0, none⟩ = some (.slice none 0 0) := cell_blk hp
          have cA1 : wn5.cell? ⟨P, 1, none⟩ = some (.slice none 0 0) := cell_blk hp
          have fA : ∀ o, wn5.frozen? ⟨P, o, none⟩ = false := fun o => frozen_blk hp
          clear hp
          go_simp
          refine hK.out _ _ MK.out.1 (fun _ => ?_)
          clear hK
          refine wpAnyH_ready (rs := [14]) (by kernel_rfl) (by simp) ?_
          refine AllReadyH.cons rfl (fun K hK => ?_) AllReadyH.nil
          go_simp
          refine hK.out _ _ MK.out.1 (fun _ => ?_)
          clear hK
          refine wpAnyH_done (by kernel_rfl) ?_ _
          clear cA0 cA1 fA
          go_wp2_with fail
          go_meet
          case rel => exact ⟨_, _, _, _, _, _, _, _, rfl, rfl, MK⟩
      · go_simp
        have R2 := hideP (R1.out.lit)
        refine hK.out _ _ R2.out.bel (fun _ => ?_)
        clear hK R1
        generalize wn1.alloc (.cells #[] 3) = wn2 at *
        generalize wn1.heap.size = gb at *
        refine wpAnyH_ready (rs := [2]) (by kernel_rfl) (by simp) ?_
        refine AllReadyH.cons rfl (fun K hK => ?_) AllReadyH.nil
        go_simp
        refine (l2Copy_any _ sa _ (by omega) (RV.out _ R2.out.bel).1).mono ?_
        rintro e wn3 ⟨v2, rfl, ho2, hb2⟩
        have R3 := hideP (R2.out.copy ho2 hb2)
        obtain ⟨xc, yc, ec⟩ := owns_form ho2
        subst ec
        clear ho2 hb2
        refine hK.out _ _ R3.out.bel (fun _ => ?_)
        clear hK R2
        refine wpAnyH_ready (rs := [6]) (by kernel_rfl) (by simp) ?_
        refine AllReadyH.cons rfl (fun K hK => ?_) AllReadyH.nil
        refine step_append_at (base := w2.heap.size) _ rfl _ _ rfl (.slice xc sa.length yc) (.slice (some ⟨b2, o2, none⟩) tb.length tb.length) rfl rfl sa.length sa tb (R3.out.c _ _ rfl) (RV.out _ R3.out.bel).2 (by omega) R3.out.bel.size ?_
        intro v' wn4 ho' hg' hat'
        have R4 := hideP (R3.out.app HSH.out ho' hg' hat')
        obtain ⟨xa, ya, ea⟩ := owns_form (R4.out.c _ _ rfl)
        subst ea
        clear ho' hg' hat'
        refine hK.out _ _ R4.out.bel (fun _ => ?_)
        clear hK R3
        refine wpAnyH_ready (rs := [8]) (by kernel_rfl) (by simp) ?_
        refine AllReadyH.cons rfl (fun K hK => ?_) AllReadyH.nil
        go_simp
        refine (l2Made_two wn4.heap.size _ _ _ _ _ sh _ (by omega) (own_of_any (R4.out.c _ _ rfl)).rd (Nat.le_refl _)).mono ?_
        rintro e wn5 ⟨q0, n0, c0, q1, n1, c1, cc, rfl, hb, hor⟩
        have R5 := hideP (R4.out.keep hb)
        have M := hideP hor
        clear hb hor
        refine hK.out _ _ R5.out.bel (fun _ => ?_)
        clear hK R4
        refine wpAnyH_take (i := 9) (v := .tuple #[.agg #[.slice q0 n0 c0, .slice q1 n1 c1], .int .i64 cc]) rfl (by kernel_rfl) (by kernel_rfl) (by kernel_rfl) (fun _ _ _ h => h) (Or.inl ⟨by rfl, ?_⟩) R5.out.bel ?_
        · intro w' hS
          clear hS
          go_simp
        refine wpAnyH_take (i := 10) (v := .agg #[.slice q0 n0 c0, .slice q1 n1 c1]) rfl (by kernel_rfl) (by kernel_rfl) (by kernel_rfl) (fun _ _ _ h => h) (Or.inl ⟨by rfl, ?_⟩) R5.out.bel ?_
        · intro w' hS
          clear hS
          go_simp
        refine wpAnyH_take (i := 11) (v := .int .i64 cc) rfl (by kernel_rfl) (by kernel_rfl) (by kernel_rfl) (fun _ _ _ h => h) (Or.inl ⟨by rfl, ?_⟩) R5.out.bel ?_
        · intro w' hS
          clear hS
          go_simp
        refine wpAnyH_ready (rs := [13]) (by kernel_rfl) (by simp) ?_
        refine AllReadyH.cons rfl (fun K hK => ?_) AllReadyH.nil
        have MK := hideP (R5.out.done M.out)
        have hp := (R5.out.p _ rfl).2
        have hA1 := (Array.getElem?_eq_some_iff.1 hp).1
        have cA0 : wn5.cell? ⟨P, 0, none⟩ = some (.slice none 0 0) := cell_blk hp
        have cA1 : wn5.cell? ⟨P, 1, none⟩ = some (.slice none 0 0) := cell_blk hp
        have fA : ∀ o, wn5.frozen? ⟨P, o, none⟩ = false := fun o => frozen_blk hp
        clear hp
        go_simp
        refine hK.out _ _ MK.out.1 (fun _ => ?_)
        clear hK
        refine wpAnyH_ready (rs := [14]) (by kernel_rfl) (by simp) ?_
        refine AllReadyH.cons rfl (fun K hK => ?_) AllReadyH.nil
        go_simp
        refine hK.out _ _ MK.out.1 (fun _ => ?_)
        clear hK
        refine wpAnyH_done (by kernel_rfl) ?_ _
        clear cA0 cA1 fA
        go_wp2_with fail
        go_meet
        case rel => exact ⟨_, _, _, _, _, _, _, _, rfl, rfl, MK⟩
  case rest =>
    obtain ⟨P, cc, q0, n0, z0, q1, n1, z1, rfl, rfl, MK⟩ := hcut
    rename World => wx
    clear PL RV H0 H2 HO2
    have hm := MK.out.2
    rcases hm with ⟨hf, rfl, hL⟩ | ⟨hf, rfl, hle', hP⟩
    · have HL := hideP hL
      have e := HR.out
      rw [HSH.out, if_pos hf] at e
      obtain ⟨sN, hsN⟩ : ∃ sN, (Pl.prodC tb).toNat = sN := ⟨_, rfl⟩
      have HSN := hideP hsN
      rw [hsN] at e
      have PE := hideP e
      clear e HR hf MK hL hsN
      go_wp2_with fail
      go_loopw [8] (fun s8 wr => ∃ k : Nat, k ≤ da.length ∧ s8 = .int .i64 k ∧ Hid ((da.take k).all (Pl.inB n) = true) ∧ ∃ nv, Hid (Lp w2 sh P (.slice q0 n0 z0) nv (Pl.flat db sN (da.take k)) wr)) (fun s8 _ => da.length - (intOf s8).toNat)
      case atStart => exact ⟨0, Nat.zero_le _, rfl, (show (da.take 0).all (Pl.inB n) = true from rfl), .slice q1 n1 z1, HL⟩
      case round =>
        clear HL
        obtain ⟨k, hk, rfl, hz, nv, hL⟩ := hrel
        have WR := hideP (W2.out.keep hL.out.bel)
        have ca1 := WR.out.2.2.1.2.1
        by_cases hlt : k < da.length
        · have hlt' : (k : Int) < (da.length : Int) := by omega
          have hck : wr.cell? ⟨b1, k, none⟩ = some (.int .i64 (da.getD k 0)) := by
            have := rd_cell H1.out hlt
            rw [Nat.zero_add] at this
            exact (WR.out.1.cell (p := ⟨b1, k, none⟩) this.1).trans this.2
          have cb : wr.cell? ⟨b2, 0, none⟩ = some (.int .i64 (n : Int)) := (WR.out.1.cell (p := ⟨b2, 0, none⟩) CB.out.1).trans CB.out.2
          have cb0 := WR.out.2.2.1.2.2.1
          have TS := hideP (Pl.take_snoc da k hlt)
          have AS := hideP (Pl.all_snoc da (Pl.inB n) k hlt)
          have AF : Hid (Pl.inB n (da.getD k 0) = false → da.all (Pl.inB n) = false) := fun h => Pl.all_false hlt h
          have HCK := hideP hck
          generalize da.getD k 0 = x at *
          have QL : Hid (∀ q, Lp w2 sh P (.slice q0 n0 z0) nv (Pl.flat db sN (da.take k)) (wr.drewN q)) := fun q => hL.out.quiet (below_drewN (Below.refl _ _) q)
          have QX : Hid (∀ q, (wr.drewN q).cell? ⟨b1, k, none⟩ = some (.int .i64 x)) := fun q => HCK.out
          by_cases hin : 0 ≤ x ∧ x < n
          · obtain ⟨q, rfl⟩ := Int.eq_ofNat_of_zero_le hin.1
            have hqn : q < n := by omega
            obtain ⟨s, hs1, hs3'⟩ := ROWS.out (by omega)
            have es : s = sN := by rw [← HSN.out, hs1]; simp
            subst es
            have hq1 : (q + 1) * s ≤ db.length := by rw [hs3']; exact Nat.mul_le_mul_right s hqn
            have KRW : Hid (∀ W, Below w2.heap.size w2 W → Calls Try.prog 106 #[.agg #[.slice (some ⟨b2, 0, none⟩) (tb.length + 1) (tb.length + 1), .slice (some ⟨b3, 0, none⟩) db.length db.length], .int .i64 (q : Int)] W fun e w' => ∃ u0 u1, e = .returned (.agg #[u0, u1]) ∧ Res W.heap.size w' u0 u1 tb (Pl.rowAt db s q) ∧ Below W.heap.size W w') := fun W hb => KRB.out q s W (W2.out.keep hb).1 hs1 hq1 (by omega)
            have RLn : Hid ((Pl.rowAt db s q).length = s) := Pl.rowAt_len hq1
            have hsd : s ≤ 1000 := by
              have : 1 * s ≤ (q + 1) * s := Nat.mul_le_mul_right s (by omega)
              omega
            have FS : Hid (Pl.flat db s (da.take (k + 1)) = Pl.flat db s (da.take k) ++ Pl.rowAt db s q) := by
              show _ = _
              rw [TS.out, Pl.flat_snoc]
              simp
            have AL : Hid ((da.take (k + 1)).all (Pl.inB n) = true) := by
              show _ = _
              rw [AS.out, hz.out]
              unfold Pl.inB
              rw [Bool.true_and, decide_eq_true_eq]
              exact hin
            have UB : Hid ((Pl.flat db s (da.take k)).length + (Pl.rowAt db s q).length ≤ 16777216) := by
              show _ ≤ _
              have h1 := Pl.flat_len db s (da.take k)
              have h2 : (da.take k).length * s ≤ 1000 * 1000 := Nat.mul_le_mul (by rw [List.length_take]; omega) hsd
              rw [RLn.out]
              omega
            have t1 : ¬ (q : Int) < 0 := by omega
            have t2 : ¬ (n : Int) ≤ (q : Int) := by omega
            have t3 : ¬ n ≤ q := by omega
            clear TS AS AF hin hs1 hs3' HSN PE
            generalize Pl.flat db s (da.take k) = fl at *
            go_wp2_with fail
            go_quiet (fail)
            have LQ0 := hideP (QL.out nq)
            have CX0 := hideP (QX.out nq)
            clear QL QX hck HCK cb cb0 ca1 WR hL t1 t2 t3
            generalize wr.drewN nq = wq at *
            obtain ⟨xo', yo', eo'⟩ := owns_form LQ0.out.d
            subst eo'
            have hPq : w2.heap.size ≤ P := LQ0.out.le
            have rNo : Hid (∀ b, b < w2.heap.size → ¬ (Value.slice xo' fl.length yo').ownBlock = some b) := fun b hb h => by
              have := (LQ0.out.d.lt b h).1
              omega
            have LQ := hideP (LQ0.out.quiet ((Below.refl wq.heap.size wq).drew))
            have CX : Hid (wq.drew.cell? ⟨b1, k, none⟩ = some (.int .i64 (q : Int))) := CX0.out
            have SK := hideP (Keep.refl wq.drew P (Value.slice xo' fl.length yo').ownBlock)
            go_wp2_with fail
            refine wp_region_held (S := fun w' => Keep wq.drew P (Value.slice xo' fl.length yo').ownBlock w') (by kernel_rfl) ?_
            change wpAnyH _ _ _ _ _ _ _ _ (World.drew _)
            clear LQ0 CX0
            generalize World.drew wq = wn0 at *
            have LW : Hid (Below w2.heap.size w2 wn0) := LQ.out.bel
            have WN := hideP (W2.out.keep LW.out)
            have hb1w : b1 < w.heap.size := (rd_cell H1.out hlt).1
            have LB : Hid (∀ w', Keep wn0 P (Value.slice xo' fl.length yo').ownBlock w' → w'.cell? ⟨w.heap.size + 1, 0, none⟩ = some (.slice (some ⟨b2, 0, none⟩) (tb.length + 1) (tb.length + 1)) ∧ w'.cell? ⟨w.heap.size + 1, 1, none⟩ = some (.slice (some ⟨b3, 0, none⟩) db.length db.length)) := fun w' h => ⟨h.cell (by omega) (rNo.out _ (by omega)) WN.out.2.2.1.2.2.1, h.cell (by omega) (rNo.out _ (by omega)) WN.out.2.2.1.2.2.2⟩
            have LA : Hid (∀ w', Keep wn0 P (Value.slice xo' fl.length yo').ownBlock w' → w'.cell? ⟨w.heap.size, 1, none⟩ = some (.slice (some ⟨b1, 0, none⟩) da.length da.length)) := fun w' h => h.cell (by omega) (rNo.out _ (by omega)) WN.out.2.2.1.2.1
            have LX : Hid (∀ w', Keep wn0 P (Value.slice xo' fl.length yo').ownBlock w' → w'.cell? ⟨b1, k, none⟩ = some (.int .i64 (q : Int))) := fun w' h => h.cell (by omega) (rNo.out _ (by omega)) CX.out
            have p1 : wn0.cell? ⟨P, 1, none⟩ = some (.slice xo' fl.length yo') := cell_blk LQ.out.blk
            have hPn : P < wn0.heap.size := (Array.getElem?_eq_some_iff.1 LQ.out.blk).1
            refine wpAnyH_take (i := 0) (v := .pointer (some ⟨P, 1, none⟩)) rfl (by kernel_rfl) (by kernel_rfl) (by kernel_rfl) (fun _ _ _ h => h) (Or.inl ⟨by rfl, ?_⟩) SK.out ?_
            · intro w' hS
              clear hS
              go_simp
            refine wpAnyH_take (i := 2) (v := .agg #[.slice (some ⟨b2, 0, none⟩) (tb.length + 1) (tb.length + 1), .slice (some ⟨b3, 0, none⟩) db.length db.length]) rfl (by kernel_rfl) (by kernel_rfl) (by kernel_rfl) (fun _ _ _ h => h) (Or.inl ⟨by rfl, ?_⟩) SK.out ?_
            · intro w' hS
              have := LB.out w' hS
              clear hS
              go_simp
            refine wpAnyH_take (i := 3) (v := .pointer (some ⟨w.heap.size, 1, none⟩)) rfl (by kernel_rfl) (by kernel_rfl) (by kernel_rfl) (fun _ _ _ h => h) (Or.inl ⟨by rfl, ?_⟩) SK.out ?_
            · intro w' hS
              clear hS
              go_simp
            refine wpAnyH_take (i := 4) (v := .slice (some ⟨b1, 0, none⟩) da.length da.length) rfl (by kernel_rfl) (by kernel_rfl) (by kernel_rfl) (fun _ _ _ h => h) (Or.inl ⟨by rfl, ?_⟩) SK.out ?_
            · intro w' hS
              have := LA.out w' hS
              clear hS
              go_simp
            refine wpAnyH_take (i := 5) (v := .int .i64 (k : Int)) rfl (by kernel_rfl) (by kernel_rfl) (by kernel_rfl) (fun _ _ _ h => h) (Or.inl ⟨by rfl, ?_⟩) SK.out ?_
            · intro w' hS
              clear hS
              go_simp
            refine wpAnyH_take (i := 6) (v := .pointer (some ⟨b1, k, none⟩)) rfl (by kernel_rfl) (by kernel_rfl) (by kernel_rfl) (fun _ _ _ h => h) (Or.inl ⟨by rfl, ?_⟩) SK.out ?_
            · intro w' hS
              clear hS
              go_simp
            refine wpAnyH_take (i := 7) (v := .int .i64 (q : Int)) rfl (by kernel_rfl) (by kernel_rfl) (by kernel_rfl) (fun _ _ _ h => h) (Or.inl ⟨by rfl, ?_⟩) SK.out ?_
            · intro w' hS
              have := LX.out w' hS
              clear hS
              go_simp
            clear LB LA LX
            refine wpAnyH_ready (rs := [1, 8]) (by kernel_rfl) (by simp) ?_
            refine AllReadyH.cons rfl (fun K hK => ?_) (AllReadyH.cons rfl (fun K hK => ?_) AllReadyH.nil)
            · go_simp
              refine hK.out _ _ SK.out (fun _ => ?_)
              clear hK
              refine wpAnyH_ready (rs := [8]) (by kernel_rfl) (by simp) ?_
              refine AllReadyH.cons rfl (fun K hK => ?_) AllReadyH.nil
              go_simp
              refine (KRW.out _ (LW.out)).mono ?_
              rintro e wz ⟨u0, u1, rfl, resz, hbz⟩
              obtain ⟨x0, y0, e0⟩ := resz.1.form
              obtain ⟨x1, y1, e1⟩ := resz.2.1.form
              subst e0
              subst e1
              have KZ := hideP (SK.out.below hbz)
              have LZ := hideP (LQ.out.quiet hbz)
              have RZ := hideP resz.2.1.rd
              clear resz hbz
              refine hK.out _ _ KZ.out (fun _ => ?_)
              clear hK
              refine wpAnyH_take (i := 9) (v := .slice x1 (Pl.rowAt db s q).length y1) rfl (by kernel_rfl) (by kernel_rfl) (by kernel_rfl) (fun _ _ _ h => h) (Or.inl ⟨by rfl, ?_⟩) KZ.out ?_
              · intro w' hS
                have := fieldB x0 x1 tb.length y0 (Pl.rowAt db s q).length y1 w'
                clear hS
                go_simp
              refine wpAnyH_ready (rs := [10]) (by kernel_rfl) (by simp) ?_
              refine AllReadyH.cons rfl (fun K hK => ?_) AllReadyH.nil
              refine step_append_at (base := w2.heap.size) _ rfl _ _ rfl (.slice xo' fl.length yo') (.slice x1 (Pl.rowAt db s q).length y1) rfl rfl fl.length fl (Pl.rowAt db s q) LZ.out.d RZ.out UB.out LZ.out.bel.size ?_
              intro v' w9 ho' hg hat'
              have OS := hideP (LZ.out.stepL hg ho' hat')
              have K9 := hideP (KZ.out.grown hg)
              obtain ⟨x9, y9, e9⟩ := owns_form ho'
              subst e9
              have hs9 : P < w9.heap.size := (Array.getElem?_eq_some_iff.1 OS.out.1).1
              have p9 : w9.cell? ⟨P, 1, none⟩ = some (.slice xo' fl.length yo') := cell_blk OS.out.1
              have f9 : w9.frozen? ⟨P, 1, none⟩ = false := frozen_blk OS.out.1
              clear ho' hg hat'
              refine hK.out _ _ K9.out (fun _ => ?_)
              clear hK
              refine wpAnyH_ready (rs := [11]) (by kernel_rfl) (by simp) ?_
              refine AllReadyH.cons rfl (fun K hK => ?_) AllReadyH.nil
              go_simp
              refine hK.out _ _ K9.out (fun _ => ?_)
              clear hK
              refine wpAnyH_ready (rs := [12]) (by kernel_rfl) (by simp) ?_
              refine AllReadyH.cons rfl (fun K hK => ?_) AllReadyH.nil
              go_simp
              refine hK.out _ _ (K9.out.set _) (fun _ => ?_)
              clear hK
              refine wpAnyH_done (by kernel_rfl) ?_ _
              clear p9 f9
              go_wp2_with fail
              go_roundw
              case rel => exact ⟨k + 1, by omega, by go_num, AL, _, by show Lp _ _ _ _ _ _ _; rw [FS.out]; exact OS.out.2⟩
              case measure => simp [intOf]; omega
            · go_simp
              refine (KRW.out _ (LW.out)).mono ?_
              rintro e wz ⟨u0, u1, rfl, resz, hbz⟩
              obtain ⟨x0, y0, e0⟩ := resz.1.form
              obtain ⟨x1, y1, e1⟩ := resz.2.1.form
              subst e0
              subst e1
              have KZ := hideP (SK.out.below hbz)
              have LZ := hideP (LQ.out.quiet hbz)
              have RZ := hideP resz.2.1.rd
              clear resz hbz
              refine hK.out _ _ KZ.out (fun _ => ?_)
              clear hK
              refine wpAnyH_take (i := 9) (v := .slice x1 (Pl.rowAt db s q).length y1) rfl (by kernel_rfl) (by kernel_rfl) (by kernel_rfl) (fun _ _ _ h => h) (Or.inl ⟨by rfl, ?_⟩) KZ.out ?_
              · intro w' hS
                have := fieldB x0 x1 tb.length y0 (Pl.rowAt db s q).length y1 w'
                clear hS
                go_simp
              refine wpAnyH_ready (rs := [1]) (by kernel_rfl) (by simp) ?_
              refine AllReadyH.cons rfl (fun K hK => ?_) AllReadyH.nil
              have p1 : wz.cell? ⟨P, 1, none⟩ = some (.slice xo' fl.length yo') := cell_blk LZ.out.blk
              go_simp
              refine hK.out _ _ KZ.out (fun _ => ?_)
              clear hK p1
              refine wpAnyH_ready (rs := [10]) (by kernel_rfl) (by simp) ?_
              refine AllReadyH.cons rfl (fun K hK => ?_) AllReadyH.nil
              refine step_append_at (base := w2.heap.size) _ rfl _ _ rfl (.slice xo' fl.length yo') (.slice x1 (Pl.rowAt db s q).length y1) rfl rfl fl.length fl (Pl.rowAt db s q) LZ.out.d RZ.out UB.out LZ.out.bel.size ?_
              intro v' w9 ho' hg hat'
              have OS := hideP (LZ.out.stepL hg ho' hat')
              have K9 := hideP (KZ.out.grown hg)
              obtain ⟨x9, y9, e9⟩ := owns_form ho'
              subst e9
              have hs9 : P < w9.heap.size := (Array.getElem?_eq_some_iff.1 OS.out.1).1
              have p9 : w9.cell? ⟨P, 1, none⟩ = some (.slice xo' fl.length yo') := cell_blk OS.out.1
              have f9 : w9.frozen? ⟨P, 1, none⟩ = false := frozen_blk OS.out.1
              clear ho' hg hat'
              refine hK.out _ _ K9.out (fun _ => ?_)
              clear hK
              refine wpAnyH_ready (rs := [11]) (by kernel_rfl) (by simp) ?_
              refine AllReadyH.cons rfl (fun K hK => ?_) AllReadyH.nil
              go_simp
              refine hK.out _ _ K9.out (fun _ => ?_)
              clear hK
              refine wpAnyH_ready (rs := [12]) (by kernel_rfl) (by simp) ?_
              refine AllReadyH.cons rfl (fun K hK => ?_) AllReadyH.nil
              go_simp
              refine hK.out _ _ (K9.out.set _) (fun _ => ?_)
              clear hK
              refine wpAnyH_done (by kernel_rfl) ?_ _
              clear p9 f9
              go_wp2_with fail
              go_roundw
              case rel => exact ⟨k + 1, by omega, by go_num, AL, _, by show Lp _ _ _ _ _ _ _; rw [FS.out]; exact OS.out.2⟩
              case measure => simp [intOf]; omega
          · have hbad : Pl.inB n x = false := by unfold Pl.inB; rw [decide_eq_false_iff_not]; exact hin
            have e := PE.out
            rw [AF.out hbad, if_neg (by decide)] at e
            simp only [Prod.mk.injEq] at e
            obtain ⟨rfl, rfl, rfl⟩ := e
            clear TS AS AF hbad PE QX
            by_cases hx : x < 0
            · clear hin
              go_wp2_with fail
              go_quiet (fail)
              have WQ := hideP (W2.out.keep (QL.out nq).bel)
              clear QL hck HCK cb cb0 ca1 WR hL hx
              generalize wr.drewN nq = wq at *
              have hsq := WQ.out.2.1
              have r0 := WQ.out.2.2.2.1.1
              have r1 := WQ.out.2.2.2.1.2.1
              have f2 := WQ.out.2.2.2.1.2.2
              go_wp2_with fail
              refine bodyPost_ret (v := .tuple #[.agg #[.slice none 0 0, .slice none 0 0], .int .i64 4]) (by simp [results, Try.results65, go_sem, r0, r1]) rfl ⟨(WQ.out.1.setCell (by simp; omega) _).setCell (by simp; omega) _, _, _, rfl, Own.nil _ _, Own.nil _ _, .inl rfl⟩
            · have hx2 : (n : Int) ≤ x := by omega
              have hx3 : 0 ≤ x := by omega
              clear hin hx
              go_wp2_with fail
              go_quiet (fail)
              have WQ := hideP (W2.out.keep (QL.out nq).bel)
              clear QL hck HCK cb cb0 ca1 WR hL hx2 hx3
              generalize wr.drewN nq = wq at *
              have hsq := WQ.out.2.1
              have r0 := WQ.out.2.2.2.1.1
              have r1 := WQ.out.2.2.2.1.2.1
              have f2 := WQ.out.2.2.2.1.2.2
              go_wp2_with fail
              refine bodyPost_ret (v := .tuple #[.agg #[.slice none 0 0, .slice none 0 0], .int .i64 4]) (by simp [results, Try.results65, go_sem, r0, r1]) rfl ⟨(WQ.out.1.setCell (by simp; omega) _).setCell (by simp; omega) _, _, _, rfl, Own.nil _ _, Own.nil _ _, .inl rfl⟩
        · have kn : k = da.length := by omega
          subst kn
          rw [List.take_length] at hz hL
          have e := PE.out
          rw [if_pos hz.out] at e
          simp only [Prod.mk.injEq] at e
          have LD : Hid (Lp w2 sh P (.slice q0 n0 z0) nv D wr) := by
            have := hL.out
            rw [e.2.2] at this
            exact this
          have HE := hideP e
          obtain ⟨xo, yo, eo⟩ := owns_form LD.out.d
          subst eo
          have p0 : wr.cell? ⟨P, 0, none⟩ = some (.slice q0 n0 z0) := cell_blk LD.out.blk
          have p1 : wr.cell? ⟨P, 1, none⟩ = some (.slice xo D.length yo) := cell_blk LD.out.blk
          have hPr : P < wr.heap.size := (Array.getElem?_eq_some_iff.1 LD.out.blk).1
          have hsr := WR.out.2.1
          have r0 := WR.out.2.2.2.1.1
          have r1 := WR.out.2.2.2.1.2.1
          have f2 := WR.out.2.2.2.1.2.2
          clear e hL
          go_wp2_with fail
          refine bodyPost_ret (v := .tuple #[.agg #[.slice q0 n0 z0, .slice xo D.length yo], .int .i64 0]) (by simp [results, Try.results65, go_sem, r0, r1]) rfl ?_
          show FPost _ _ _ _ _ _
          rw [← HE.out.1, ← HE.out.2.1]
          refine ⟨(WR.out.1.setCell (by simp; omega) _).setCell (by simp; omega) _, _, _, rfl, ?_, ?_, ?_⟩
          · exact Own.base (Own.store (Own.store (own_of_any LD.out.c) (by omega) _) (by omega) _) (by omega)
          · exact Own.base (Own.store (Own.store (own_of_any LD.out.d) (by omega) _) (by omega) _) (by omega)
          · exact .inr (.inr fun b e0 e1 => LD.out.ap b e0 e1)
    · have e := HR.out
      rw [HSH.out, if_neg (by rw [hf]; decide)] at e
      simp only [Prod.mk.injEq] at e
      obtain ⟨rfl, rfl, rfl⟩ := e
      have WX := hideP (W2.out.keep MK.out.1)
      clear HR HSH hf MK W2
      have p0 : wx.cell? ⟨P, 0, none⟩ = some (.slice none 0 0) := cell_blk hP
      have p1 : wx.cell? ⟨P, 1, none⟩ = some (.slice none 0 0) := cell_blk hP
      have hPr : P < wx.heap.size := (Array.getElem?_eq_some_iff.1 hP).1
      have hsr := WX.out.2.1
      have r0 := WX.out.2.2.2.1.1
      have r1 := WX.out.2.2.2.1.2.1
      have f2 := WX.out.2.2.2.1.2.2
      clear hP
      go_wp2_with fail
      refine bodyPost_ret (v := .tuple #[.agg #[.slice none 0 0, .slice none 0 0], .int .i64 6]) (by simp [results, Try.results65, go_sem, r0, r1]) rfl ⟨(WX.out.1.setCell (by simp; omega) _).setCell (by simp; omega) _, _, _, rfl, Own.nil _ _, Own.nil _ _, .inl rfl⟩

end Go.Proofs.Ytmobjomebmipdaa
