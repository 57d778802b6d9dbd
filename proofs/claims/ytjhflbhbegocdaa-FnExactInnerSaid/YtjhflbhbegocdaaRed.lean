import Derived.Test.YtjhflbhbegocdaaAcc
import Derived.Test.YtjhflbhbegocdaaEach2
import Derived.Deep.DeepCutAuto
namespace Go.Proofs.Ytjhflbhbegocdaa
open Go.RowKit
set_option linter.unusedVariables false

theorem rd_cell {B b off cap : Nat} {w : World} {zs : List Int} (h : Rd B w (.slice (some ⟨b, off, none⟩) zs.length cap) zs) {i : Nat} (hi : i < zs.length) : b < B ∧ w.cell? ⟨b, off + i, none⟩ = some (.int .i64 (zs.getD i 0)) := by
  obtain ⟨ao, cp, e, g⟩ := h
  rcases g with g | ⟨b', off', hB, e2, hc⟩
  · omega
  · simp only [Value.slice.injEq] at e
    have e3 := e.1.trans e2
    simp only [Option.some.injEq, Addr.mk.injEq, and_true] at e3
    obtain ⟨rfl, rfl⟩ := e3
    exact ⟨hB, hc i hi⟩

/-- the argument's variable and the answer's -/
theorem boxes2 {w w1 : World} {x0 x1 : Value} (hb : Below (w.heap.size + 1 + 1) ((w.alloc (.cells #[x0, x1] 26)).alloc (.cells #[.slice none 0 0, .slice none 0 0] 26)) w1) :
    (w1.cell? ⟨w.heap.size, 0, none⟩ = some x0 ∧ w1.cell? ⟨w.heap.size, 1, none⟩ = some x1) ∧ (w1.cell? ⟨w.heap.size + 1, 0, none⟩ = some (.slice none 0 0) ∧ w1.cell? ⟨w.heap.size + 1, 1, none⟩ = some (.slice none 0 0) ∧ ∀ o, w1.frozen? ⟨w.heap.size + 1, o, none⟩ = false) ∧ Below w.heap.size w w1 := by
  have c : ∀ b o, b < w.heap.size + 1 + 1 → w1.cell? ⟨b, o, none⟩ = ((w.alloc (.cells #[x0, x1] 26)).alloc (.cells #[.slice none 0 0, .slice none 0 0] 26)).cell? ⟨b, o, none⟩ := fun b o h => hb.cell (p := ⟨b, o, none⟩) h
  have f : ∀ b o, b < w.heap.size + 1 + 1 → w1.frozen? ⟨b, o, none⟩ = ((w.alloc (.cells #[x0, x1] 26)).alloc (.cells #[.slice none 0 0, .slice none 0 0] 26)).frozen? ⟨b, o, none⟩ := fun b o h => hb.frozen (p := ⟨b, o, none⟩) h
  refine ⟨⟨?_, ?_⟩, ⟨?_, ?_, ?_⟩, ?_⟩
  · rw [c _ _ (by omega)]; simp [go_sem]
  · rw [c _ _ (by omega)]; simp [go_sem]
  · rw [c _ _ (by omega)]; simp [go_sem]
  · rw [c _ _ (by omega)]; simp [go_sem]
  · intro o; rw [f _ _ (by omega)]; simp [go_sem]
  · exact (((Below.refl _ _).alloc (Nat.le_refl _) _).alloc (by simp) _).trans (hb.mono (by omega))

set_option maxRecDepth 100000 in
set_option maxHeartbeats 4000000 in
/-- spec.l2Reduce: rows -/
theorem l2Reduce_rows (op : Int) (F : Int → Int → Int × Int) (b0 o0 c0 b1 o1 c1 n s : Nat) (sh da : List Int) (w : World)
    (hF : ∀ x y w', -3000000000 ≤ x → x ≤ 3000000000 → -3000000000 ≤ y → y ≤ 3000000000 → Calls Try.prog 37 #[.int .i64 op, .int .i64 x, .int .i64 y] w' fun e w'' => e = .returned (.tuple #[.int .i64 (F x y).1, .int .i64 (F x y).2]) ∧ w'' = w')
    (hFb : ∀ x y, -3000000000 ≤ x → x ≤ 3000000000 → -3000000000 ≤ y → y ≤ 3000000000 → (F x y).2 = 0 → -3000000000 ≤ (F x y).1 ∧ (F x y).1 ≤ 3000000000)
    (h0 : Rd w.heap.size w (.slice (some ⟨b0, o0, none⟩) sh.length c0) sh) (h1 : Rd w.heap.size w (.slice (some ⟨b1, o1, none⟩) da.length c1) da) (hc0 : sh.length ≤ c0) (hc0' : c0 ≤ 9223372036854775807) (hc1 : da.length ≤ c1) (hc1' : c1 ≤ 9223372036854775807)
    (hok : Pl.okB sh da = true) (hsl : ¬ sh.length = 0) (hft : Pl.fitsB sh.tail = true) (hn : sh.getD 0 0 = n) (hs : Pl.prodC sh.tail = s) (hn1 : 1 ≤ n) (hn2 : n ≤ 1000) (hl : da.length = n * s)
    (r : Int × List Int) (hres : Pl.foldM F da s n = r) (c : Int) (S D : List Int) (hr : (if r.1 = 0 then (0, sh.tail, r.2) else (r.1, [], [])) = (c, S, D)) :
    Calls Try.prog 23 #[.int .i64 op, .agg #[.slice (some ⟨b0, o0, none⟩) sh.length c0, .slice (some ⟨b1, o1, none⟩) da.length c1]] w (FPost w c S D) := by
  obtain ⟨hm0, hm1⟩ := Pl.ok_max hok
  have hrr : sh.all Pl.inR = true := by
    have := (Pl.ok_len hok).2
    simp only [Pl.fitsB, Pl.baseB, Bool.and_eq_true] at this
    exact this.1.2
  have KR : Hid (∀ (i : Nat) w', i < n → Below w.heap.size w w' → Calls Try.prog 39 #[.agg #[.slice (some ⟨b0, o0, none⟩) sh.length c0, .slice (some ⟨b1, o1, none⟩) da.length c1], .int .i64 (i : Int)] w' fun e w'' => ∃ u0 u1, e = .returned (.agg #[u0, u1]) ∧ Res w'.heap.size w'' u0 u1 sh.tail (Pl.rowAt da s i) ∧ Below w'.heap.size w' w'') := fun i w' hi hb =>
    l2Row_any b0 o0 c0 b1 o1 c1 i s sh da w' ((h0.keep hb).up hb.size) ((h1.keep hb).up hb.size) (by omega) hm0 hm1 hc0 hc0' hc1 hc1' hrr hs (by rw [hl]; exact Nat.mul_le_mul_right s hi) (by omega)
  have RO : Hid (∀ i, i < n → Pl.okB sh.tail (Pl.rowAt da s i) = true) := fun i hi => Pl.ok_row hok hft hs hl hi
  obtain ⟨hlt0, hce⟩ := rd_cell h0 (i := 0) (by omega)
  rw [Nat.add_zero, hn] at hce
  have HF := hideP hF
  have HB := hideP hFb
  have HR := hideP hres
  have HRR := hideP hr
  have test : ((sh.length : Int) == 0) = false := by rw [beq_eq_false_iff_ne]; omega
  have B : Hid (∀ o o', Below w.heap.size w ((w.alloc o).alloc o')) := fun o o' => ((Below.refl _ _).alloc (Nat.le_refl _) _).alloc (by simp) _
  obtain ⟨n', rfl⟩ : ∃ n', n = n' + 1 := ⟨n - 1, by omega⟩
  have test2 : (((n' : Int) + 1) == 0) = false := by rw [beq_eq_false_iff_ne]; omega
  clear hF hFb hres hr h0 h1 hok hft hs hl hrr hn hc0 hc1 hc0' hc1'
  generalize sh.tail = tl at *
  go_enter Try.func23, Try.ntmps23
  go_wp2_with fail
  refine (KR.out n' _ (by omega) (B.out _ _)).mono ?_
  rintro e w1 ⟨u0, u1, rfl, res1, hb1⟩
  have PB : Hid (∀ W, Below w1.heap.size w1 W → (W.cell? ⟨w.heap.size, 0, none⟩ = some (.slice (some ⟨b0, o0, none⟩) sh.length c0) ∧ W.cell? ⟨w.heap.size, 1, none⟩ = some (.slice (some ⟨b1, o1, none⟩) da.length c1)) ∧ (W.cell? ⟨w.heap.size + 1, 0, none⟩ = some (.slice none 0 0) ∧ W.cell? ⟨w.heap.size + 1, 1, none⟩ = some (.slice none 0 0) ∧ ∀ o, W.frozen? ⟨w.heap.size + 1, o, none⟩ = false) ∧ Below w.heap.size w W) := fun W hb => by
    have hs := hb1.size
    refine boxes2 (hb := ?_)
    have k : Below (w.heap.size + 1 + 1) _ w1 := hb1.mono (by simp)
    exact k.trans (hb.mono (by simp at hs; omega))
  have hs1 : w.heap.size + 1 + 1 ≤ w1.heap.size := by have := hb1.size; simpa using this
  have res1' : Res (w.heap.size + 1 + 1) w1 u0 u1 tl (Pl.rowAt da s n') := by simpa using res1
  have AC1 := hideP (Ac.new (w := w) res1')
  obtain ⟨xf, yf, xg, yg, eu, ev⟩ := res1.forms
  subst eu
  subst ev
  clear res1 res1' hb1 hce
  go_wp2_with fail
  go_loopw [12, 13, 14] (fun i _ _ wr => ∃ q : Nat, q ≤ n' ∧ i = .int .i64 ((q : Int) - 1) ∧ ∃ acc u0 u1, Hid (Pl.okB tl acc = true) ∧ Hid (Pl.foldL F (Pl.rowsDown da s q) acc = r) ∧ Hid (Ac w1 (w.heap.size + 1 + 1) w1.heap.size u0 u1 tl acc wr)) (fun i _ _ _ => (intOf i + 1).toNat)
  case atStart =>
    refine ⟨n', Nat.le_refl _, by go_num, Pl.rowAt da s n', _, _, RO.out n' (by omega), ?_, AC1⟩
    have := HR.out
    unfold Pl.foldM at this
    rw [Nat.add_sub_cancel] at this
    exact this
  case round =>
    clear AC1
    obtain ⟨q, hq, rfl, acc, u0, u1, hao, hfo, AC⟩ := hrel
    obtain ⟨xu, yu, xv, yv, eu, ev⟩ := AC.out.res.forms
    subst eu
    subst ev
    have HBW := hideP (PB.out wr AC.out.bel).2.2
    by_cases hq0 : q = 0
    · subst hq0
      have e : r = (0, acc) := hfo.out.symm
      have hre := HRR.out
      rw [e] at hre
      simp only [if_true, Prod.mk.injEq] at hre
      obtain ⟨rfl, rfl, rfl⟩ := hre
      have p0 : wr.cell? ⟨w1.heap.size, 0, none⟩ = some (.slice xu tl.length yu) := cell_blk AC.out.blk
      have p1 : wr.cell? ⟨w1.heap.size, 1, none⟩ = some (.slice xv acc.length yv) := cell_blk AC.out.blk
      have hsz : w1.heap.size < wr.heap.size := (Array.getElem?_eq_some_iff.1 AC.out.blk).1
      have r0 := (PB.out wr AC.out.bel).2.1.1
      have r1 := (PB.out wr AC.out.bel).2.1.2.1
      have f2 := (PB.out wr AC.out.bel).2.1.2.2
      clear e
      go_wp2_with fail
      refine bodyPost_ret (v := .tuple #[.agg #[.slice xu tl.length yu, .slice xv acc.length yv], .int .i64 0]) (by simp [results, Try.results23, go_sem, r0, r1]) rfl ⟨(HBW.out.setCell (by simp) _).setCell (by simp) _, _, _, rfl, ?_, ?_, AC.out.res.2.2⟩
      · exact Own.base (Own.store (Own.store AC.out.res.1 (by omega) _) (by omega) _) (by omega)
      · exact Own.base (Own.store (Own.store AC.out.res.2.1 (by omega) _) (by omega) _) (by omega)
    · obtain ⟨q', rfl⟩ : ∃ q', q = q' + 1 := ⟨q - 1, by omega⟩
      have eq1 : (((q' + 1 : Nat)) : Int) - 1 = (q' : Int) := by omega
      rw [eq1]
      clear eq1
      have HFO : Hid (Pl.foldL F (Pl.rowAt da s q' :: Pl.rowsDown da s q') acc = r) := hfo.out
      have HRO := hideP (RO.out q' (by omega))
      obtain ⟨cc, S9, D9, hM⟩ : ∃ cc S9 D9, Pl.each2M F tl (Pl.rowAt da s q') tl acc = (cc, S9, D9) := ⟨_, _, _, rfl⟩
      have HM := hideP hM
      have KE : Hid (∀ x0 x1 w', Below wr.heap.size wr w' → Rd w'.heap.size w' x0 tl → Rd w'.heap.size w' x1 (Pl.rowAt da s q') → Calls Try.prog 21 #[.int .i64 op, .agg #[x0, x1], .agg #[.slice xu tl.length yu, .slice xv acc.length yv]] w' (FPost w' cc S9 D9)) := fun x0 x1 w' hb g0 g1 =>
        l2Each_any op F x0 x1 _ _ tl (Pl.rowAt da s q') tl acc w' HF.out g0 g1 ((AC.out.keep hb).res.1.rd) ((AC.out.keep hb).res.2.1.rd) HRO.out hao.out cc S9 D9 HM.out
      have KQ := hideP (fun w' hb => KR.out q' w' (by omega) hb)
      clear hM hfo
      generalize Pl.rowAt da s q' = row at *
      go_upto_region 16 with fail
      go_cut [13, 14] (fun s13 s14 wx => ∃ P z0 y0 z1 y1, s13 = .pointer (some ⟨P, 0, none⟩) ∧ s14 = .int .i64 cc ∧ Hid (Ac wr wr.heap.size P (.slice z0 S9.length y0) (.slice z1 D9.length y1) S9 D9 wx))
      case first =>
        refine wp_region_held (S := fun w' => Below wr.heap.size wr w') (by kernel_rfl) ?_
        change wpAnyH _ _ _ _ _ _ _ _ (World.drew _)
        have R0 := hideP (Rn.start wr)
        generalize World.drew wr = wn0 at R0 ⊢
        refine wpAnyH_take (i := 0) (v := .int .i64 op) rfl (by kernel_rfl) (by kernel_rfl) (by kernel_rfl) (fun _ _ _ h => h) (Or.inl ⟨by rfl, ?_⟩) R0.out.bel ?_
        · intro w' hS
          clear hS
          go_simp
        refine wpAnyH_take (i := 1) (v := .agg #[.slice (some ⟨b0, o0, none⟩) sh.length c0, .slice (some ⟨b1, o1, none⟩) da.length c1]) rfl (by kernel_rfl) (by kernel_rfl) (by kernel_rfl) (fun _ _ _ h => h) (Or.inl ⟨by rfl, ?_⟩) R0.out.bel ?_
        · intro w' hS
          obtain ⟨g0, g1⟩ := (PB.out w' (AC.out.bel.trans (hS.mono AC.out.bel.size))).1
          clear hS
          go_simp
        refine wpAnyH_take (i := 2) (v := .int .i64 (q' : Int)) rfl (by kernel_rfl) (by kernel_rfl) (by kernel_rfl) (fun _ _ _ h => h) (Or.inl ⟨by rfl, ?_⟩) R0.out.bel ?_
        · intro w' hS
          clear hS
          go_simp
        refine wpAnyH_take (i := 4) (v := .agg #[.slice xu tl.length yu, .slice xv acc.length yv]) rfl (by kernel_rfl) (by kernel_rfl) (by kernel_rfl) (fun _ _ _ h => h) (Or.inl ⟨by rfl, ?_⟩) R0.out.bel ?_
        · intro w' hS
          have hk := (AC.out.keep hS).blk
          have g0 : w'.cell? ⟨w1.heap.size, 0, none⟩ = some (.slice xu tl.length yu) := cell_blk hk
          have g1 : w'.cell? ⟨w1.heap.size, 1, none⟩ = some (.slice xv acc.length yv) := cell_blk hk
          clear hk
          clear hS
          go_simp
        refine wpAnyH_ready (rs := [3, 9]) (by kernel_rfl) (by simp) ?_
        refine AllReadyH.cons rfl (fun K hK => ?_) (AllReadyH.cons rfl (fun K hK => ?_) AllReadyH.nil)
        · go_simp
          refine (KQ.out _ (HBW.out.trans (R0.out.bel.mono HBW.out.size))).mono ?_
          rintro e wn1 ⟨x0, x1, rfl, resa, hba⟩
          have R1 := hideP (R0.out.row resa hba)
          clear resa hba
          refine hK.out _ _ R1.out.bel (fun _ => ?_)
          clear hK R0
          refine wpAnyH_ready (rs := [5, 9]) (by kernel_rfl) (by simp) ?_
          refine AllReadyH.cons rfl (fun K hK => ?_) (AllReadyH.cons rfl (fun K hK => ?_) AllReadyH.nil)
          · go_simp
            refine (KE.out _ _ _ R1.out.bel (R1.out.x _ _ _ _ rfl).1 (R1.out.x _ _ _ _ rfl).2).mono ?_
            rintro e wn2 ⟨hbc, p0, p1, rfl, resc⟩
            have R2 := hideP (R1.out.each resc hbc)
            obtain ⟨z0, y0, z1, y1, ez0, ez1⟩ := resc.forms
            subst ez0
            subst ez1
            clear hbc resc
            refine hK.out _ _ R2.out.bel (fun _ => ?_)
            clear hK R1
            refine wpAnyH_take (i := 6) (v := .tuple #[.agg #[.slice z0 S9.length y0, .slice z1 D9.length y1], .int .i64 cc]) rfl (by kernel_rfl) (by kernel_rfl) (by kernel_rfl) (fun _ _ _ h => h) (Or.inl ⟨by rfl, ?_⟩) R2.out.bel ?_
            · intro w' hS
              clear hS
              go_simp
            refine wpAnyH_take (i := 7) (v := .agg #[.slice z0 S9.length y0, .slice z1 D9.length y1]) rfl (by kernel_rfl) (by kernel_rfl) (by kernel_rfl) (fun _ _ _ h => h) (Or.inl ⟨by rfl, ?_⟩) R2.out.bel ?_
            · intro w' hS
              clear hS
              go_simp
            refine wpAnyH_take (i := 8) (v := .int .i64 cc) rfl (by kernel_rfl) (by kernel_rfl) (by kernel_rfl) (fun _ _ _ h => h) (Or.inl ⟨by rfl, ?_⟩) R2.out.bel ?_
            · intro w' hS
              clear hS
              go_simp
            refine wpAnyH_ready (rs := [9]) (by kernel_rfl) (by simp) ?_
            refine AllReadyH.cons rfl (fun K hK => ?_) AllReadyH.nil
            go_simp
            have R3 := hideP (R2.out.var)
            refine hK.out _ _ R3.out.bel (fun _ => ?_)
            clear hK R2
            generalize wn2.alloc (.cells #[.slice none 0 0, .slice none 0 0] 26) = wn3 at *
            generalize wn2.heap.size = P at *
            refine wpAnyH_ready (rs := [10]) (by kernel_rfl) (by simp) ?_
            refine AllReadyH.cons rfl (fun K hK => ?_) AllReadyH.nil
            have MK := hideP (R3.out.done)
            have hp := (R3.out.v _ rfl).2
            have hA1 := (Array.getElem?_eq_some_iff.1 hp).1
            have cA0 : wn3.cell? ⟨P, 0, none⟩ = some (.slice none 0 0) := cell_blk hp
            have cA1 : wn3.cell? ⟨P, 1, none⟩ = some (.slice none 0 0) := cell_blk hp
            have fA : ∀ o, wn3.frozen? ⟨P, o, none⟩ = false := fun o => frozen_blk hp
            clear hp
            go_simp
            refine hK.out _ _ MK.out.bel (fun _ => ?_)
            clear hK
            refine wpAnyH_ready (rs := [11]) (by kernel_rfl) (by simp) ?_
            refine AllReadyH.cons rfl (fun K hK => ?_) AllReadyH.nil
            go_simp
            refine hK.out _ _ MK.out.bel (fun _ => ?_)
            clear hK
            refine wpAnyH_done (by kernel_rfl) ?_ _
            clear cA0 cA1 fA
            go_wp2_with fail
            go_meet
            case rel => exact ⟨_, _, _, _, _, rfl, rfl, MK⟩
          · go_simp
            have R2 := hideP (R1.out.var)
            refine hK.out _ _ R2.out.bel (fun _ => ?_)
            clear hK R1
            generalize wn1.alloc (.cells #[.slice none 0 0, .slice none 0 0] 26) = wn2 at *
            generalize wn1.heap.size = P at *
            refine wpAnyH_ready (rs := [5]) (by kernel_rfl) (by simp) ?_
            refine AllReadyH.cons rfl (fun K hK => ?_) AllReadyH.nil
            go_simp
            refine (KE.out _ _ _ R2.out.bel (R2.out.x _ _ _ _ rfl).1 (R2.out.x _ _ _ _ rfl).2).mono ?_
            rintro e wn3 ⟨hbc, p0, p1, rfl, resc⟩
            have R3 := hideP (R2.out.each resc hbc)
            obtain ⟨z0, y0, z1, y1, ez0, ez1⟩ := resc.forms
            subst ez0
            subst ez1
            clear hbc resc
            refine hK.out _ _ R3.out.bel (fun _ => ?_)
            clear hK R2
            refine wpAnyH_take (i := 6) (v := .tuple #[.agg #[.slice z0 S9.length y0, .slice z1 D9.length y1], .int .i64 cc]) rfl (by kernel_rfl) (by kernel_rfl) (by kernel_rfl) (fun _ _ _ h => h) (Or.inl ⟨by rfl, ?_⟩) R3.out.bel ?_
            · intro w' hS
              clear hS
              go_simp
            refine wpAnyH_take (i := 7) (v := .agg #[.slice z0 S9.length y0, .slice z1 D9.length y1]) rfl (by kernel_rfl) (by kernel_rfl) (by kernel_rfl) (fun _ _ _ h => h) (Or.inl ⟨by rfl, ?_⟩) R3.out.bel ?_
            · intro w' hS
              clear hS
              go_simp
            refine wpAnyH_take (i := 8) (v := .int .i64 cc) rfl (by kernel_rfl) (by kernel_rfl) (by kernel_rfl) (fun _ _ _ h => h) (Or.inl ⟨by rfl, ?_⟩) R3.out.bel ?_
            · intro w' hS
              clear hS
              go_simp
            refine wpAnyH_ready (rs := [10]) (by kernel_rfl) (by simp) ?_
            refine AllReadyH.cons rfl (fun K hK => ?_) AllReadyH.nil
            have MK := hideP (R3.out.done)
            have hp := (R3.out.v _ rfl).2
            have hA1 := (Array.getElem?_eq_some_iff.1 hp).1
            have cA0 : wn3.cell? ⟨P, 0, none⟩ = some (.slice none 0 0) := cell_blk hp
            have cA1 : wn3.cell? ⟨P, 1, none⟩ = some (.slice none 0 0) := cell_blk hp
            have fA : ∀ o, wn3.frozen? ⟨P, o, none⟩ = false := fun o => frozen_blk hp
            clear hp
            go_simp
            refine hK.out _ _ MK.out.bel (fun _ => ?_)
            clear hK
            refine wpAnyH_ready (rs := [11]) (by kernel_rfl) (by simp) ?_
            refine AllReadyH.cons rfl (fun K hK => ?_) AllReadyH.nil
            go_simp
            refine hK.out _ _ MK.out.bel (fun _ => ?_)
            clear hK
            refine wpAnyH_done (by kernel_rfl) ?_ _
            clear cA0 cA1 fA
            go_wp2_with fail
            go_meet
            case rel => exact ⟨_, _, _, _, _, rfl, rfl, MK⟩
        · go_simp
          have R1 := hideP (R0.out.var)
          refine hK.out _ _ R1.out.bel (fun _ => ?_)
          clear hK R0
          generalize wn0.alloc (.cells #[.slice none 0 0, .slice none 0 0] 26) = wn1 at *
          generalize wn0.heap.size = P at *
          refine wpAnyH_ready (rs := [3]) (by kernel_rfl) (by simp) ?_
          refine AllReadyH.cons rfl (fun K hK => ?_) AllReadyH.nil
          go_simp
          refine (KQ.out _ (HBW.out.trans (R1.out.bel.mono HBW.out.size))).mono ?_
          rintro e wn2 ⟨x0, x1, rfl, resa, hba⟩
          have R2 := hideP (R1.out.row resa hba)
          clear resa hba
          refine hK.out _ _ R2.out.bel (fun _ => ?_)
          clear hK R1
          refine wpAnyH_ready (rs := [5]) (by kernel_rfl) (by simp) ?_
          refine AllReadyH.cons rfl (fun K hK => ?_) AllReadyH.nil
          go_simp
          refine (KE.out _ _ _ R2.out.bel (R2.out.x _ _ _ _ rfl).1 (R2.out.x _ _ _ _ rfl).2).mono ?_
          rintro e wn3 ⟨hbc, p0, p1, rfl, resc⟩
          have R3 := hideP (R2.out.each resc hbc)
          obtain ⟨z0, y0, z1, y1, ez0, ez1⟩ := resc.forms
          subst ez0
          subst ez1
          clear hbc resc
          refine hK.out _ _ R3.out.bel (fun _ => ?_)
          clear hK R2
          refine wpAnyH_take (i := 6) (v := .tuple #[.agg #[.slice z0 S9.length y0, .slice z1 D9.length y1], .int .i64 cc]) rfl (by kernel_rfl) (by kernel_rfl) (by kernel_rfl) (fun _ _ _ h => h) (Or.inl ⟨by rfl, ?_⟩) R3.out.bel ?_
          · intro w' hS
            clear hS
            go_simp
          refine wpAnyH_take (i := 7) (v := .agg #[.slice z0 S9.length y0, .slice z1 D9.length y1]) rfl (by kernel_rfl) (by kernel_rfl) (by kernel_rfl) (fun _ _ _ h => h) (Or.inl ⟨by rfl, ?_⟩) R3.out.bel ?_
          · intro w' hS
            clear hS
            go_simp
          refine wpAnyH_take (i := 8) (v := .int .i64 cc) rfl (by kernel_rfl) (by kernel_rfl) (by kernel_rfl) (fun _ _ _ h => h) (Or.inl ⟨by rfl, ?_⟩) R3.out.bel ?_
          · intro w' hS
            clear hS
            go_simp
          refine wpAnyH_ready (rs := [10]) (by kernel_rfl) (by simp) ?_
          refine AllReadyH.cons rfl (fun K hK => ?_) AllReadyH.nil
          have MK := hideP (R3.out.done)
          have hp := (R3.out.v _ rfl).2
          have hA1 := (Array.getElem?_eq_some_iff.1 hp).1
          have cA0 : wn3.cell? ⟨P, 0, none⟩ = some (.slice none 0 0) := cell_blk hp
          have cA1 : wn3.cell? ⟨P, 1, none⟩ = some (.slice none 0 0) := cell_blk hp
          have fA : ∀ o, wn3.frozen? ⟨P, o, none⟩ = false := fun o => frozen_blk hp
          clear hp
          go_simp
          refine hK.out _ _ MK.out.bel (fun _ => ?_)
          clear hK
          refine wpAnyH_ready (rs := [11]) (by kernel_rfl) (by simp) ?_
          refine AllReadyH.cons rfl (fun K hK => ?_) AllReadyH.nil
          go_simp
          refine hK.out _ _ MK.out.bel (fun _ => ?_)
          clear hK
          refine wpAnyH_done (by kernel_rfl) ?_ _
          clear cA0 cA1 fA
          go_wp2_with fail
          go_meet
          case rel => exact ⟨_, _, _, _, _, rfl, rfl, MK⟩
      case rest =>
        obtain ⟨P, z0, y0, z1, y1, rfl, rfl, AX⟩ := hcut
        rename World => wx
        have hrows := HM.out
        rw [Pl.each2_rows F HRO.out hao.out] at hrows
        have hfold := HFO.out
        unfold Pl.foldL at hfold
        have MV := hideP (AC.out.move (Nat.le_refl _) (by have := AC.out.bel.size; omega) AX.out)
        have p0 : wx.cell? ⟨P, 0, none⟩ = some (.slice z0 S9.length y0) := cell_blk AX.out.blk
        have p1 : wx.cell? ⟨P, 1, none⟩ = some (.slice z1 D9.length y1) := cell_blk AX.out.blk
        have hPx : P < wx.heap.size := (Array.getElem?_eq_some_iff.1 AX.out.blk).1
        by_cases hz : Pl.firstG (Pl.pairF F) (row.zip acc) = 0
        · rw [if_pos hz] at hrows hfold
          simp only [Prod.mk.injEq] at hrows
          have OKM := hideP (Pl.ok_map F HB.out HRO.out hao.out hz)
          have HFD := hideP hfold
          obtain ⟨rfl, rfl, e3⟩ := hrows
          rw [e3] at OKM HFD
          clear hfold hz e3
          have a0 : wx.cell? ⟨w1.heap.size, 0, none⟩ = some (.slice xu tl.length yu) := cell_blk MV.out.1
          have a1 : wx.cell? ⟨w1.heap.size, 1, none⟩ = some (.slice xv acc.length yv) := cell_blk MV.out.1
          have fA : ∀ o, wx.frozen? ⟨w1.heap.size, o, none⟩ = false := fun o => frozen_blk MV.out.1
          have hAx : w1.heap.size < wx.heap.size := (Array.getElem?_eq_some_iff.1 MV.out.1).1
          go_wp2_with fail
          go_roundw
          case rel => exact ⟨q', by omega, by go_num, D9, _, _, OKM, HFD, MV.out.2⟩
          case measure => simp [intOf]
        · rw [if_neg hz] at hrows hfold
          simp only [Prod.mk.injEq] at hrows
          obtain ⟨e1, rfl, rfl⟩ := hrows
          have hne : (cc != 0) = true := by rw [bne_iff_ne, ← e1]; exact hz
          have hre := HRR.out
          rw [← hfold, if_neg (by exact hz)] at hre
          simp only [Prod.mk.injEq] at hre
          obtain ⟨hc9, rfl, rfl⟩ := hre
          have HC9 := hideP (hc9.symm.trans e1)
          clear hfold hz e1 hc9
          have BX := hideP (AC.out.bel.trans (AX.out.bel.mono AC.out.bel.size))
          have r0 := (PB.out wx BX.out).2.1.1
          have r1 := (PB.out wx BX.out).2.1.2.1
          have f2 := (PB.out wx BX.out).2.1.2.2
          have HBX := hideP (PB.out wx BX.out).2.2
          have hsx : w.heap.size + 1 < wx.heap.size := by have := BX.out.size; omega
          go_wp2_with fail
          refine bodyPost_ret (v := .tuple #[.agg #[.slice none 0 0, .slice none 0 0], .int .i64 cc]) (by simp [results, Try.results23, go_sem, r0, r1]) rfl ?_
          show FPost _ _ _ _ _ _
          rw [HC9.out]
          exact ⟨(HBX.out.setCell (by simp) _).setCell (by simp) _, _, _, rfl, Own.nil _ _, Own.nil _ _, .inl rfl⟩

end Go.Proofs.Ytjhflbhbegocdaa
