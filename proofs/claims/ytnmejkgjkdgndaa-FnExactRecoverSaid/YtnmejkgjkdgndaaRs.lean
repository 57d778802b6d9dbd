import Derived.Test.YtnmejkgjkdgndaaRi
namespace Go.Proofs.Ytnmejkgjkdgndaa
open Go.RowKit
set_option linter.unusedVariables false

theorem cell_blk {w : World} {P j : Nat} {c : Array Value} {t : TypeId} (h : w.heap[P]? = some (.cells c t (0, 0))) : w.cell? ⟨P, j, none⟩ = c[j]? := cell_of_row w P j c t (0, 0) h
theorem frozen_blk {w : World} {P j : Nat} {c : Array Value} {t : TypeId} (h : w.heap[P]? = some (.cells c t (0, 0))) : w.frozen? ⟨P, j, none⟩ = false := frozen_of_row w P j c t h
theorem grown_setCell (w : World) (P j : Nat) (v : Value) : w.grownBy (w.setCell ⟨P, j, none⟩ v) (some P) :=
  ⟨rfl, rfl, rfl, by simp, fun k _ hk => heap_setCell_other w ⟨P, j, none⟩ k v (fun e => hk (by simp [e]))⟩
theorem grown_drew {w w' : World} {r : Option Nat} (h : w.drew.grownBy w' r) : w.grownBy w' r := ⟨h.os, h.tape, h.output, h.size, h.block⟩
/-- a row of files is no block of another type -/
theorem own_ne {w : World} {B n sz P : Nat} {v : Value} {e t : TypeId} {xs : List Value} {c : Array Value} (h : w.ownsRow B e sz v n xs) (hP : w.heap[P]? = some (.cells c t (0, 0))) (ht : ¬ t = e) : ¬ v.ownBlock = some P := by
  intro hv
  rcases h.2 with ⟨rfl, _⟩ | ⟨g, cap, cur, rfl, _, hg, _⟩
  · simp [Value.ownBlock] at hv
  · simp [Value.ownBlock] at hv
    subst hv
    rw [hg] at hP
    injection hP with hP
    injection hP with _ h2
    exact ht h2.symm

/-- the disk that is built, out.Files grown -/
theorem out_stepF {E P : Nat} {W wr w' : World} {o : Obj} {nv v' : Value} {n m : Nat} {ys zs : List Value} (hP : wr.heap[P]? = some (.cells #[nv] 29 (0, 0))) (ho : wr.ownsRow E 38 2 nv n ys) (hE : E ≤ P) (hb : Below E W wr)
    (hg : (wr.alloc o).grownBy w' nv.ownBlock) (ho' : w'.ownsRow E 38 2 v' m zs) :
    w'.heap[P]? = some (.cells #[nv] 29 (0, 0)) ∧ (w'.setCell ⟨P, 0, none⟩ v').heap[P]? = some (.cells #[v'] 29 (0, 0)) ∧ (w'.setCell ⟨P, 0, none⟩ v').ownsRow E 38 2 v' m zs ∧ Below E W (w'.setCell ⟨P, 0, none⟩ v') := by
  have hlt : P < wr.heap.size := (Array.getElem?_eq_some_iff.1 hP).1
  have hE' : E ≤ wr.heap.size := by omega
  have h1 : w'.heap[P]? = some (.cells #[nv] 29 (0, 0)) := by
    rw [hg.block P (by simp; omega) (fun e => own_ne ho hP (by decide) e.symm)]
    rw [Below.heap_alloc wr _ P hlt]
    exact hP
  have h2 := heap_setCell_same w' P 0 #[nv] 29 v' h1
  refine ⟨h1, h2, ?_, ?_⟩
  · exact ho'.kept (grown_setCell w' P 0 v') (.inr (own_ne ho' h1 (by decide)))
  · refine Below.setCell ?_ hE _
    refine (hb.alloc hE' _).grown hg (by simp; omega) (fun k hk => (ho.lt k hk).1)

set_option maxRecDepth 100000 in
set_option maxHeartbeats 4000000 in
/-- spec.Recover -/
theorem specRec_any (v : Value) (fs : List Pl.Fl) (w : World) (hl : fs.length ≤ 1048576) (hz : ∀ f ∈ fs, f.1.size ≤ 9223372036854775807 ∧ f.2.size ≤ 9223372036854775807) (h : RdF w.heap.size w v fs) :
    Calls Try.prog 10 #[.agg #[v]] w (RecPost w fs) := by
  have H := hideP h
  have HZ := hideP hz
  have B2 : Hid (∀ o1 o2 : Obj, Below w.heap.size w ((w.alloc o1).alloc o2)) := fun o1 o2 => ((Below.refl _ _).alloc (Nat.le_refl _) _).alloc (by simp) _
  have K := hideP (fun o1 o2 => specDisk_any v fs ((w.alloc o1).alloc o2) (by omega) hz ((h.keep (B2.out o1 o2)).up (by simp; omega)))
  obtain ⟨ao, cap, e0, hrd⟩ := h
  subst e0
  clear hz
  cases hd : Pl.diskB fs
  · rw [hd] at K
    clear hrd
    have HD := hideP hd
    clear hd
    go_enter Try.func10, Try.ntmps10
    go_wp2_with fail
    refine (K.out _ _).mono ?_
    rintro e w1 ⟨rfl, hb1⟩
    have B1 := hideP ((B2.out _ _).trans (hb1.mono (by simp; omega)))
    have s1 := hb1.size
    simp at s1
    obtain ⟨hc, hf⟩ := bcell hb1
    have q0 : w1.cell? ⟨w.heap.size, 0, none⟩ = some (.slice ao fs.length cap) := by rw [hc w.heap.size 0 (by simp; omega)]; simp [go_sem]
    have r0 : w1.cell? ⟨w.heap.size + 1, 0, none⟩ = some (.slice none 0 0) := by rw [hc (w.heap.size + 1) 0 (by simp)]; simp [go_sem]
    have f0 : w1.frozen? ⟨w.heap.size + 1, 0, none⟩ = false := by rw [hf (w.heap.size + 1) 0 (by simp)]; simp [go_sem]
    clear hc hf hb1
    go_wp2_with fail
    refine (l7Copy_any _ fs _ hl ((H.out.keep B1.out).up (by omega))).mono ?_
    rintro e w2 ⟨u, rfl, ho, hb2⟩
    have B3 := hideP (B1.out.trans (hb2.mono (by omega)))
    have HO := hideP ho
    have r1 := (hb2.cell (p := ⟨w.heap.size + 1, 0, none⟩) (by show w.heap.size + 1 < _; omega)).trans r0
    have f1 := (hb2.frozen (p := ⟨w.heap.size + 1, 0, none⟩) (by show w.heap.size + 1 < _; omega)).trans f0
    obtain ⟨x2, y2, e2⟩ := ho.form
    subst e2
    clear ho hb2 q0 r0 f0
    go_wp2_with fail
    refine bodyPost_ret (v := .tuple #[.agg #[.slice x2 fs.length y2], .bool false]) (by simp [results, Try.results10, go_sem, r1]) rfl ?_
    refine ⟨B3.out.setCell (by simp) _, .slice x2 fs.length y2, by rw [HD.out], ?_⟩
    unfold Pl.recM
    rw [HD.out, if_neg (by decide)]
    exact (HO.out.store (by omega) _).base (by omega)
  · rw [hd] at K
    have hm := Pl.diskB_len hd
    have HD := hideP hd
    clear hd
    generalize hn : fs.length = n at *
    have Hn : Hid (fs.length = n) := hn
    clear hn
    have HR : Hid (∀ k, k < n → ∃ b off, ao = some ⟨b, off, none⟩ ∧ b < w.heap.size ∧ (w.cell? ⟨b, off + k * 2, none⟩ = some (.string (Pl.at' fs k).1) ∧ w.cell? ⟨b, off + k * 2 + 1, none⟩ = some (.string (Pl.at' fs k).2))) := by
      intro k hk
      rcases hrd with h0 | ⟨b, off, hb, e, hc⟩
      · omega
      · exact ⟨b, off, e, hb, hc k hk⟩
    clear hrd
    go_enter Try.func10, Try.ntmps10
    go_wp2_with fail
    refine (K.out _ _).mono ?_
    rintro e w1 ⟨rfl, hb1⟩
    have B1 := hideP ((B2.out _ _).trans (hb1.mono (by simp; omega)))
    have s1 := hb1.size
    simp at s1
    obtain ⟨hc, hf⟩ := bcell hb1
    have q0 : w1.cell? ⟨w.heap.size, 0, none⟩ = some (.slice ao n cap) := by rw [hc w.heap.size 0 (by simp; omega)]; simp [go_sem]
    have r0 : w1.cell? ⟨w.heap.size + 1, 0, none⟩ = some (.slice none 0 0) := by rw [hc (w.heap.size + 1) 0 (by simp)]; simp [go_sem]
    have f0 : w1.frozen? ⟨w.heap.size + 1, 0, none⟩ = false := by rw [hf (w.heap.size + 1) 0 (by simp)]; simp [go_sem]
    have R0 := hideP (And.intro r0 f0)
    have Q0 := hideP q0
    clear hc hf hb1 r0 f0 q0
    go_wp2_with fail
    go_loopw [5] (fun i wr => ∃ k : Nat, k ≤ n ∧ i = .int .i64 k ∧ ∃ nv, Hid (wr.heap[w1.heap.size + 1]? = some (.cells #[nv] 29 (0, 0))) ∧ Hid (OwnF w1.heap.size wr nv (Pl.left (fs.take k))) ∧ Hid (Below w1.heap.size w1 wr)) (fun i _ => n - (intOf i).toNat)
    case atStart =>
      refine ⟨0, Nat.zero_le _, rfl, .slice (some ⟨w1.heap.size, 0, none⟩) 0 0, ?_, ?_, ?_⟩
      · have := heap_alloc_new (w1.alloc (.cells #[] 38)) (.cells #[.slice (some ⟨w1.heap.size, 0, none⟩) 0 0] 29)
        show _ = _
        simpa using this
      · exact (owns_empty w1 w1.heap.size (Nat.le_refl _)).alloc _
      · exact ((Below.refl _ _).alloc (Nat.le_refl _) _).alloc (by simp) _
    case round =>
      obtain ⟨k, hk, rfl, nv, hP, ho, hbel⟩ := hrel
      have HBW := hideP (B1.out.trans (hbel.out.mono (by omega)))
      have hsz : w1.heap.size + 1 < wr.heap.size := (Array.getElem?_eq_some_iff.1 hP.out).1
      have q1 : wr.cell? ⟨w.heap.size, 0, none⟩ = some (.slice ao n cap) := (hbel.out.cell (p := ⟨w.heap.size, 0, none⟩) (by show w.heap.size < _; omega)).trans Q0.out
      have Q1 := hideP q1
      by_cases hlt : k < n
      · obtain ⟨b, off, e0, hb, hx0, hx1⟩ := HR.out k hlt
        subst e0
        have hx0 : wr.cell? ⟨b, off + k * 2, none⟩ = some (.string (Pl.at' fs k).1) := (HBW.out.cell (p := ⟨b, off + k * 2, none⟩) hb).trans hx0
        have hx1 : wr.cell? ⟨b, off + k * 2 + 1, none⟩ = some (.string (Pl.at' fs k).2) := (HBW.out.cell (p := ⟨b, off + k * 2 + 1, none⟩) hb).trans hx1
        have LY := hideP (Pl.left_yes fs k (by rw [Hn.out]; exact hlt))
        have LN := hideP (Pl.left_no fs k (by rw [Hn.out]; exact hlt))
        have LL := hideP (Pl.left_len fs k)
        have hzz := HZ.out _ (Pl.at_mem (l := fs) (k := k) (by rw [Hn.out]; exact hlt))
        generalize Pl.at' fs k = f at *
        obtain ⟨fa, fb⟩ := f
        simp only at hx0 hx1 hzz LY LN
        have KT := hideP (fun w => l7IsTmp_any fa w hzz.1)
        clear hzz
        obtain ⟨xo, yo, eo⟩ := own_form ho.out
        subst eo
        cases ht : Pl.tmpB fa
        · rw [ht] at KT
          have LE := hideP (LN.out ht)
          clear ht LN LY
          generalize Pl.left (fs.take k) = ls at *
          have hll := LL.out
          have L0 : Hid (∀ w', Below w1.heap.size wr w' → w'.cell? ⟨w.heap.size, 0, none⟩ = some (.slice (some ⟨b, off, none⟩) n cap)) := fun w' h => (h.cell (p := ⟨w.heap.size, 0, none⟩) (by show w.heap.size < _; omega)).trans Q1.out
          have X0 := hideP hx0
          have X1 := hideP hx1
          have L1 : Hid (∀ w', Below w1.heap.size wr w' → w'.cell? ⟨b, off + k * 2, none⟩ = some (.string fa) ∧ w'.cell? ⟨b, off + k * 2 + 1, none⟩ = some (.string fb)) := fun w' h => ⟨(h.cell (p := ⟨b, off + k * 2, none⟩) (by show b < _; omega)).trans X0.out, (h.cell (p := ⟨b, off + k * 2 + 1, none⟩) (by show b < _; omega)).trans X1.out⟩
          have p1 : wr.cell? ⟨w1.heap.size + 1, 0, none⟩ = some (.slice xo ls.length yo) := cell_blk hP.out
          have D := hideP (show Below w1.heap.size wr wr.drew from (Below.refl _ _).drew)
          have DA : Hid (∀ o, Below w1.heap.size wr (wr.alloc o).drew) := fun o => ((Below.refl _ _).alloc (by omega) _).drew
          have OA : Hid (∀ o, OwnF w1.heap.size (wr.alloc o).drew (.slice xo ls.length yo) ls) := fun o => ho.out.alloc o
          have RN := hideP (show RdF (wr.heap.size + 1) (wr.alloc (.cells #[.string fa, .string fb] 38)).drew (.slice (some ⟨wr.heap.size, 0, none⟩) 1 1) [(fa, fb)] from (rdF_new wr (fa, fb) 38).keep (Below.refl _ _).drew)
          go_wp2_with (go_at_call 20; refine (KT.out _).mono ?_; rintro e wr ⟨rfl, rfl⟩)
          clear q1 hx0 hx1
          refine wp_region_held (S := fun w' => Below w1.heap.size wr w') (by kernel_rfl) ?_
          change wpAnyH _ _ _ _ _ _ _ _ (World.drew _)
          refine wpAnyH_take (i := 0) (v := .pointer (some ⟨w1.heap.size + 1, 0, none⟩)) rfl (by kernel_rfl) (by kernel_rfl) (by kernel_rfl) (fun _ _ _ h => h) (Or.inl ⟨by rfl, ?_⟩) D.out ?_
          · intro w' hS
            clear hS
            go_simp
          refine wpAnyH_take (i := 2) (v := .pointer (some ⟨w.heap.size, 0, none⟩)) rfl (by kernel_rfl) (by kernel_rfl) (by kernel_rfl) (fun _ _ _ h => h) (Or.inl ⟨by rfl, ?_⟩) D.out ?_
          · intro w' hS
            clear hS
            go_simp
          refine wpAnyH_take (i := 3) (v := .slice (some ⟨b, off, none⟩) n cap) rfl (by kernel_rfl) (by kernel_rfl) (by kernel_rfl) (fun _ _ _ h => h) (Or.inl ⟨by rfl, ?_⟩) D.out ?_
          · intro w' hS
            have := L0.out w' hS
            clear hS
            go_simp
          refine wpAnyH_take (i := 4) (v := .int .i64 k) rfl (by kernel_rfl) (by kernel_rfl) (by kernel_rfl) (fun _ _ _ h => h) (Or.inl ⟨by rfl, ?_⟩) D.out ?_
          · intro w' hS
            clear hS
            go_simp
          refine wpAnyH_take (i := 5) (v := .pointer (some ⟨b, off + k * 2, none⟩)) rfl (by kernel_rfl) (by kernel_rfl) (by kernel_rfl) (fun _ _ _ h => h) (Or.inl ⟨by rfl, ?_⟩) D.out ?_
          · intro w' hS
            clear hS
            go_simp
          refine wpAnyH_take (i := 6) (v := .agg #[.string fa, .string fb]) rfl (by kernel_rfl) (by kernel_rfl) (by kernel_rfl) (fun _ _ _ h => h) (Or.inl ⟨by rfl, ?_⟩) D.out ?_
          · intro w' hS
            have h0 := (L1.out w' hS).1; have h1 := (L1.out w' hS).2
            clear hS
            go_simp
          refine wpAnyH_ready (rs := [1, 7]) (by kernel_rfl) (by simp) ?_
          refine AllReadyH.cons rfl (fun K hK => ?_) (AllReadyH.cons rfl (fun K hK => ?_) AllReadyH.nil)
          · go_simp
            refine hK.out _ _ D.out (fun _ => ?_)
            clear hK
            refine wpAnyH_ready (rs := [7]) (by kernel_rfl) (by simp) ?_
            refine AllReadyH.cons rfl (fun K hK => ?_) AllReadyH.nil
            go_simp
            refine hK.out _ _ (DA.out _) (fun _ => ?_)
            clear hK
            refine wpAnyH_ready (rs := [8]) (by kernel_rfl) (by simp) ?_
            refine AllReadyH.cons rfl (fun K hK => ?_) AllReadyH.nil
            refine step_append_F (base := w1.heap.size) _ rfl _ _ rfl _ _ rfl rfl ls [(fa, fb)] (OA.out _) RN.out (by simp; omega) (by simp [World.drew]; omega) ?_
            intro v' w9 ho9 hg _
            have OS := hideP (out_stepF hP.out ho.out (Nat.le_succ _) hbel.out (grown_drew hg) ho9)
            have D9 : Hid (Below w1.heap.size wr w9) := (DA.out _).grown hg (by simp [World.drew]; omega) (fun k hk => (ho.out.lt k hk).1)
            obtain ⟨x9, y9, e9⟩ := own_form ho9
            rw [show (ls ++ [(fa, fb)]).length = ls.length + 1 by simp] at e9
            subst e9
            have p9 : w9.cell? ⟨w1.heap.size + 1, 0, none⟩ = some (.slice xo ls.length yo) := cell_blk OS.out.1
            have f9 : w9.frozen? ⟨w1.heap.size + 1, 0, none⟩ = false := frozen_blk OS.out.1
            clear ho9 hg p1
            refine hK.out _ _ D9.out (fun _ => ?_)
            clear hK
            refine wpAnyH_ready (rs := [9]) (by kernel_rfl) (by simp) ?_
            refine AllReadyH.cons rfl (fun K hK => ?_) AllReadyH.nil
            go_simp
            refine hK.out _ _ D9.out (fun _ => ?_)
            clear hK
            refine wpAnyH_ready (rs := [10]) (by kernel_rfl) (by simp) ?_
            refine AllReadyH.cons rfl (fun K hK => ?_) AllReadyH.nil
            go_simp
            refine hK.out _ _ (D9.out.setCell (by simp) _) (fun _ => ?_)
            clear hK
            refine wpAnyH_done (by kernel_rfl) ?_ _
            clear p9 f9
            go_wp2_with fail
            go_roundw
            case rel => exact ⟨k + 1, by omega, by go_num, _, OS.out.2.1, by show OwnF _ _ _ _; rw [LE.out]; exact OS.out.2.2.1, OS.out.2.2.2⟩
            case measure => simp [intOf]; omega
          · go_simp
            refine hK.out _ _ (DA.out _) (fun _ => ?_)
            clear hK
            refine wpAnyH_ready (rs := [1]) (by kernel_rfl) (by simp) ?_
            refine AllReadyH.cons rfl (fun K hK => ?_) AllReadyH.nil
            go_simp
            refine hK.out _ _ (DA.out _) (fun _ => ?_)
            clear hK
            refine wpAnyH_ready (rs := [8]) (by kernel_rfl) (by simp) ?_
            refine AllReadyH.cons rfl (fun K hK => ?_) AllReadyH.nil
            refine step_append_F (base := w1.heap.size) _ rfl _ _ rfl _ _ rfl rfl ls [(fa, fb)] (OA.out _) RN.out (by simp; omega) (by simp [World.drew]; omega) ?_
            intro v' w9 ho9 hg _
            have OS := hideP (out_stepF hP.out ho.out (Nat.le_succ _) hbel.out (grown_drew hg) ho9)
            have D9 : Hid (Below w1.heap.size wr w9) := (DA.out _).grown hg (by simp [World.drew]; omega) (fun k hk => (ho.out.lt k hk).1)
            obtain ⟨x9, y9, e9⟩ := own_form ho9
            rw [show (ls ++ [(fa, fb)]).length = ls.length + 1 by simp] at e9
            subst e9
            have p9 : w9.cell? ⟨w1.heap.size + 1, 0, none⟩ = some (.slice xo ls.length yo) := cell_blk OS.out.1
            have f9 : w9.frozen? ⟨w1.heap.size + 1, 0, none⟩ = false := frozen_blk OS.out.1
            clear ho9 hg p1
            refine hK.out _ _ D9.out (fun _ => ?_)
            clear hK
            refine wpAnyH_ready (rs := [9]) (by kernel_rfl) (by simp) ?_
            refine AllReadyH.cons rfl (fun K hK => ?_) AllReadyH.nil
            go_simp
            refine hK.out _ _ D9.out (fun _ => ?_)
            clear hK
            refine wpAnyH_ready (rs := [10]) (by kernel_rfl) (by simp) ?_
            refine AllReadyH.cons rfl (fun K hK => ?_) AllReadyH.nil
            go_simp
            refine hK.out _ _ (D9.out.setCell (by simp) _) (fun _ => ?_)
            clear hK
            refine wpAnyH_done (by kernel_rfl) ?_ _
            clear p9 f9
            go_wp2_with fail
            go_roundw
            case rel => exact ⟨k + 1, by omega, by go_num, _, OS.out.2.1, by show OwnF _ _ _ _; rw [LE.out]; exact OS.out.2.2.1, OS.out.2.2.2⟩
            case measure => simp [intOf]; omega
        · rw [ht] at KT
          have LE := hideP (LY.out ht)
          clear ht LN LY
          go_wp2_with (go_at_call 20; refine (KT.out _).mono ?_; rintro e wr ⟨rfl, rfl⟩)
          go_roundw
          case rel => exact ⟨k + 1, by omega, by go_num, _, hP, by show OwnF _ _ _ _; rw [LE.out]; exact ho.out, hbel⟩
          case measure => simp [intOf]; omega
      · have r1 := (hbel.out.cell (p := ⟨w.heap.size + 1, 0, none⟩) (by show w.heap.size + 1 < _; omega)).trans R0.out.1
        have f1 := (hbel.out.frozen (p := ⟨w.heap.size + 1, 0, none⟩) (by show w.heap.size + 1 < _; omega)).trans R0.out.2
        have OE : Hid (OwnF w1.heap.size wr nv (Pl.left fs)) := by
          have := ho.out
          rw [List.take_of_length_le (by rw [Hn.out]; omega)] at this
          exact this
        obtain ⟨x2, y2, e2⟩ := own_form OE.out
        subst e2
        have p1 : wr.cell? ⟨w1.heap.size + 1, 0, none⟩ = some (.slice x2 (Pl.left fs).length y2) := cell_blk hP.out
        have OF := hideP (owF_of_own OE.out)
        clear ho OE
        go_wp2_with fail
        refine bodyPost_ret (v := .tuple #[.agg #[.slice x2 (Pl.left fs).length y2], .bool true]) (by simp [results, Try.results10, go_sem, r1]) rfl ?_
        refine ⟨HBW.out.setCell (by simp) _, .slice x2 (Pl.left fs).length y2, by rw [HD.out], ?_⟩
        unfold Pl.recM
        rw [HD.out, if_pos rfl]
        exact (OF.out.store (by omega) _).base (by omega)

end Go.Proofs.Ytnmejkgjkdgndaa
