import Derived.Test.YtmobjomebmipdaaFl7
namespace Go.Proofs.Ytmobjomebmipdaa
open Go.RowKit
set_option linter.unusedVariables false

theorem own_blk3 {w : World} {B n z P : Nat} {v : Value} {e t : TypeId} {xs : List Value} {c : Array Value} (h : w.ownsRow B e z v n xs) (hP : w.heap[P]? = some (.cells c t (0, 0))) (ht : ¬ t = e) : ¬ v.ownBlock = some P := by
  intro hv
  rcases h.2 with ⟨rfl, _⟩ | ⟨g, cap, cur, rfl, _, hg, _⟩
  · simp [Value.ownBlock] at hv
  · simp [Value.ownBlock] at hv
    subst hv
    rw [hg] at hP
    injection hP with hP
    injection hP with _ h2
    exact ht h2.symm
theorem blk_cell {w : World} {P j : Nat} {c : Array Value} {t : TypeId} (h : w.heap[P]? = some (.cells c t (0, 0))) : w.cell? ⟨P, j, none⟩ = c[j]? := cell_of_row w P j c t (0, 0) h

/-- the answer under way, in its variable -/
structure Fp (wb : World) (E P n : Nat) (sv nv : Value) (us zs : List Int) (W : World) : Prop where
  p : W.heap[P]? = some (.cells #[sv, nv] 27 (0, 0))
  o : W.ownsRow E 3 1 nv us.length (us.map (Value.int .i64))
  h : W.ownsRow wb.heap.size 3 1 sv n (zs.map (Value.int .i64))
  k : ∀ k, sv.ownBlock = some k → k < E
  b : Below wb.heap.size wb W
  e : wb.heap.size ≤ E
  pe : E ≤ P
theorem Fp.lt {wb W : World} {E P n : Nat} {sv nv : Value} {us zs : List Int} (h : Fp wb E P n sv nv us zs W) : P < W.heap.size := (Array.getElem?_eq_some_iff.1 h.p).1
theorem Fp.keep {wb W W' : World} {E P n : Nat} {sv nv : Value} {us zs : List Int} (h : Fp wb E P n sv nv us zs W) (hb : Below W.heap.size W W') : Fp wb E P n sv nv us zs W' :=
  ⟨(hb.block P h.lt).trans h.p, owns_keep h.o hb, owns_keep h.h hb, h.k, h.b.trans (hb.mono h.b.size), h.e, h.pe⟩
theorem Fp.step {wb W W' : World} {E P n : Nat} {sv nv v' : Value} {us us' zs : List Int} (h : Fp wb E P n sv nv us zs W) (hg : W.grownBy W' nv.ownBlock) (ho : W'.ownsRow E 3 1 v' us'.length (us'.map (Value.int .i64))) :
    W'.heap[P]? = some (.cells #[sv, nv] 27 (0, 0)) ∧ Fp wb E P n sv v' us' zs (W'.setCell ⟨P, 1, none⟩ v') := by
  have h1 : W'.heap[P]? = some (.cells #[sv, nv] 27 (0, 0)) := (hg.block P h.lt (fun e => own_blk3 h.o h.p (by decide) e.symm)).trans h.p
  have hs : Gr P W' (W'.setCell ⟨P, 1, none⟩ v') := Gr.set _ _ _ _
  have h2 : W'.ownsRow wb.heap.size 3 1 sv n (zs.map (Value.int .i64)) := h.h.kept hg (by
    cases hsv : sv.ownBlock with
    | none => exact .inl rfl
    | some k =>
      refine .inr fun e => ?_
      have a := h.k k hsv
      have b := (h.o.lt k e.symm).1
      omega)
  refine ⟨h1, ⟨?_, ho.kept hs (.inr (own_blk3 ho h1 (by decide))), h2.kept hs (.inr (own_blk3 h2 h1 (by decide))), h.k, ?_, h.e, h.pe⟩⟩
  · simp [World.setCell, Array.getElem?_modify, h1]
  · exact (h.b.grown hg h.b.size (fun k hk => by have := (h.o.lt k hk).1; have := h.e; omega)).setCell (show wb.heap.size ≤ P by have := h.e; have := h.pe; omega) _

/-- the cells of the answer so far -/
def flL (da : List Int) (ds : List Nat) (i : Nat) : List Int := (List.range i).map fun t => da.getD (Pl.ev ds (Pl.plR ds t)) 0
theorem flL_succ (da : List Int) (ds : List Nat) (i : Nat) : flL da ds (i + 1) = flL da ds i ++ [da.getD (Pl.ev ds (Pl.plR ds i)) 0] := by
  unfold flL
  rw [List.range_succ, List.map_append]
  rfl
theorem flL_len (da : List Int) (ds : List Nat) (i : Nat) : (flL da ds i).length = i := by unfold flL; simp

set_option maxRecDepth 100000 in
set_option maxHeartbeats 16000000 in
/-- spec.l2Flip -/
theorem l2Flip_any (b0 o0 c0 b1 o1 c1 : Nat) (sh da : List Int) (w : World) (h0 : Rd w.heap.size w (.slice (some ⟨b0, o0, none⟩) sh.length c0) sh) (h1 : Rd w.heap.size w (.slice (some ⟨b1, o1, none⟩) da.length c1) da) (hok : Pl.okB sh da = true) (S Dd : List Int) (hres : Pl.flipM sh da = (0, S, Dd)) :
    Calls Try.prog 57 #[.agg #[.slice (some ⟨b0, o0, none⟩) sh.length c0, .slice (some ⟨b1, o1, none⟩) da.length c1]] w fun e w' => ∃ u0 u1, e = .returned (.agg #[u0, u1]) ∧ Res w.heap.size w' u0 u1 S Dd ∧ Below w.heap.size w w' := by
  obtain ⟨hm0, hm1⟩ := Pl.ok_max hok
  obtain ⟨hlen, hfit⟩ := Pl.ok_len hok
  have hbs : Pl.baseB sh = true := by simp only [Pl.fitsB, Bool.and_eq_true] at hfit; exact hfit.1
  have hnn := Pl.base_nonneg hbs
  have HPN : Hid (Pl.prdN (Pl.shN sh) = da.length) := by
    have e1 := Pl.prdN_eq sh (fun x hx => (hnn x hx).1)
    rw [← Pl.prod_eq hfit, ← hlen] at e1
    exact_mod_cast e1
  have H0 := hideP h0
  have H1 := hideP h1
  unfold Pl.flipM at hres
  simp only [Prod.mk.injEq, true_and] at hres
  obtain ⟨hS, hDd⟩ := hres
  have HSH : Hid (sh = (Pl.shN sh).map fun (d : Nat) => (d : Int)) := by
    show _ = _
    unfold Pl.shN
    rw [List.map_map]
    refine (List.map_id sh).symm.trans (List.map_congr_left fun x hx => ?_)
    exact (Int.toNat_of_nonneg (hnn x hx).1).symm
  have HDS : Hid (flL da (Pl.shN sh) da.length = Dd) := hDd
  have HSS := hideP hS
  obtain ⟨ds, hds⟩ : ∃ ds, Pl.shN sh = ds := ⟨_, rfl⟩
  rw [hds] at HPN HSH HDS
  have HDL : Hid (ds.length = sh.length) := by show _ = _; rw [← hds]; unfold Pl.shN; simp
  clear hds hDd hS
  obtain ⟨wb, hwb⟩ : ∃ wb, wb = (w.alloc (.cells #[.slice (some ⟨b0, o0, none⟩) sh.length c0, .slice (some ⟨b1, o1, none⟩) da.length c1] 27)).alloc (.cells #[.slice none 0 0, .slice none 0 0] 27) := ⟨_, rfl⟩
  have WS : wb.heap.size = w.heap.size + 1 + 1 := by rw [hwb]; simp
  have PB : Hid (∀ W, Below wb.heap.size wb W → (W.cell? ⟨w.heap.size, 0, none⟩ = some (.slice (some ⟨b0, o0, none⟩) sh.length c0) ∧ W.cell? ⟨w.heap.size, 1, none⟩ = some (.slice (some ⟨b1, o1, none⟩) da.length c1)) ∧ (W.cell? ⟨w.heap.size + 1, 0, none⟩ = some (.slice none 0 0) ∧ W.cell? ⟨w.heap.size + 1, 1, none⟩ = some (.slice none 0 0) ∧ ∀ o, W.frozen? ⟨w.heap.size + 1, o, none⟩ = false) ∧ Below w.heap.size w W) := fun W hb => by
    subst hwb
    exact boxes2 (hb.mono (by simp))
  have KT := hideP (turned_any (.slice (some ⟨b0, o0, none⟩) sh.length c0) sh wb (by omega) (by have k := (PB.out wb (Below.refl _ _)).2.2; exact (H0.out.keep k).up k.size))
  have K108 : Hid (∀ (i : Nat) (v2 : Value) W, i < da.length → Below wb.heap.size wb W → Rd W.heap.size W v2 ((Pl.plR ds i).map fun (q : Nat) => (q : Int)) → Calls Try.prog 108 #[.agg #[.slice (some ⟨b0, o0, none⟩) sh.length c0, .slice (some ⟨b1, o1, none⟩) da.length c1], v2] W fun e w' => e = .returned (.int .i64 (da.getD (Pl.ev ds (Pl.plR ds i)) 0)) ∧ Below W.heap.size W w') := fun i v2 W hi hb hr => by
    have k := (PB.out W hb).2.2
    have hp : ∀ d ∈ ds, 0 < d := Pl.prd_zero (by rw [HPN.out]; omega)
    exact cell_any b0 o0 c0 b1 o1 c1 v2 sh da ds (Pl.plR ds i) W ((H0.out.keep k).up k.size) ((H1.out.keep k).up k.size) hr HSH.out (Pl.plR_len ds i) (fun t ht => Pl.plR_lt ds hp i t ht) hp HPN.out hm1 (by rw [HDL.out]; exact hm0)
  have K109 : Hid (∀ (i : Nat) (v : Value) W, i < da.length → Rd W.heap.size W v sh.reverse → Calls Try.prog 109 #[v, .int .i64 (i : Int)] W fun e w' => e = .returned (.slice (some ⟨W.heap.size, 0, none⟩) sh.length sh.length) ∧ Rd w'.heap.size w' (.slice (some ⟨W.heap.size, 0, none⟩) sh.length sh.length) ((Pl.plR ds i).map fun (q : Nat) => (q : Int)).reverse ∧ Below W.heap.size W w') := fun i v W hi hr => by
    have hp : ∀ d ∈ ds, 0 < d := Pl.prd_zero (by rw [HPN.out]; omega)
    have := places_any v ds sh.reverse i W (by rw [← HSH.out]) hp (by rw [HDL.out]; omega) (by omega) hr
    rw [HDL.out] at this
    refine this.mono ?_
    rintro e w' ⟨rfl, hrw, hb⟩
    refine ⟨rfl, (own_of_rw' (B := W.heap.size) hrw (Nat.le_refl _) (by rw [List.length_reverse, List.length_map, Pl.plR_len]; exact HDL.out) (fun t ht => ?_)).rd, hb⟩
    rw [List.getD, List.getElem?_reverse (by rw [List.length_map, Pl.plR_len, HDL.out]; exact ht), List.length_map, Pl.plR_len, HDL.out, List.getElem?_map, List.getD, List.getElem?_eq_getElem (by rw [Pl.plR_len, HDL.out]; omega)]
    rfl
  have K107 : Hid (∀ (i : Nat) (v : Value) W, Rd W.heap.size W v ((Pl.plR ds i).map fun (q : Nat) => (q : Int)).reverse → Calls Try.prog 107 #[v] W fun e w' => ∃ u, e = .returned u ∧ Rd w'.heap.size w' u ((Pl.plR ds i).map fun (q : Nat) => (q : Int)) ∧ Below W.heap.size W w') := fun i v W hr => by
    have hl : ((Pl.plR ds i).map fun (q : Nat) => (q : Int)).reverse.length = sh.length := by rw [List.length_reverse, List.length_map, Pl.plR_len]; exact HDL.out
    refine (turned_any v _ W (by rw [hl]; omega) hr).mono ?_
    rintro e w' ⟨u, rfl, ho, hb⟩
    rw [List.reverse_reverse] at ho
    refine ⟨u, rfl, ?_, hb⟩
    have h2 : ((Pl.plR ds i).map fun (q : Nat) => (q : Int)).reverse.length = ((Pl.plR ds i).map fun (q : Nat) => (q : Int)).length := by rw [List.length_reverse]
    rw [h2] at ho
    exact (own_of_any ho).rd
  clear h0 h1 hok hlen hfit hbs hnn H0 H1
  obtain ⟨n, hn⟩ : ∃ n, sh.length = n := ⟨_, rfl⟩
  obtain ⟨N, hN⟩ : ∃ N, da.length = N := ⟨_, rfl⟩
  have Hn := hideP hn
  rw [hn] at hm0 PB KT K108 K109
  rw [hN] at hm1 PB HDS K108 K109
  rw [hn, hN] at hwb ⊢
  clear hn hN HPN HSH HDL
  have c00 := (PB.out wb (Below.refl _ _)).1.1
  go_enter Try.func57, Try.ntmps57
  go_wp2_with fail
  rw [← hwb]
  refine KT.out.mono ?_
  rintro e w2 ⟨u7, rfl, ho2, hb2⟩
  obtain ⟨x7, y7, e7⟩ := owns_form ho2
  subst e7
  have A1 : Hid (Below w2.heap.size w2 ((w2.alloc (.cells #[] 3)).alloc (.cells #[.slice x7 n y7, .slice (some ⟨w2.heap.size, 0, none⟩) 0 0] 27))) := ((Below.refl _ _).alloc (Nat.le_refl _) _).alloc (by simp) _
  have F0 : Hid (Fp wb w2.heap.size (w2.heap.size + 1) n (.slice x7 n y7) (.slice (some ⟨w2.heap.size, 0, none⟩) 0 0) (flL da ds 0) sh.reverse ((w2.alloc (.cells #[] 3)).alloc (.cells #[.slice x7 n y7, .slice (some ⟨w2.heap.size, 0, none⟩) 0 0] 27))) := by
    refine ⟨?_, ?_, owns_keep ho2 A1.out, fun k hk => (ho2.lt k hk).2, hb2.trans (A1.out.mono hb2.size), hb2.size, by omega⟩
    · have := heap_alloc_new (w2.alloc (.cells #[] 3)) (.cells #[.slice x7 n y7, .slice (some ⟨w2.heap.size, 0, none⟩) 0 0] 27)
      simpa using this
    · exact owns_keep (owns_empty w2 w2.heap.size (Nat.le_refl _)) ((Below.refl _ _).alloc (by simp) _)
  clear ho2 hb2 KT A1 c00
  go_wp2_with fail
  generalize ((w2.alloc (.cells #[] 3)).alloc (.cells #[.slice x7 n y7, .slice (some ⟨w2.heap.size, 0, none⟩) 0 0] 27)) = wa at *
  generalize w2.heap.size = E at *
  go_loopw [4] (fun vi wr => ∃ (i : Nat) (nv : Value), i ≤ N ∧ vi = .int .i64 (i : Int) ∧ Hid (Fp wb E (E + 1) n (.slice x7 n y7) nv (flL da ds i) sh.reverse wr)) (fun vi _ => N - (intOf vi).toNat)
  case atStart => exact ⟨0, _, Nat.zero_le _, rfl, F0⟩
  case round =>
    clear F0
    obtain ⟨i, nv, hi, rfl, FS⟩ := hrel
    have c01 := (PB.out _ FS.out.b).1.2
    by_cases hlt : i < N
    · have hlt' : (i : Int) < (N : Int) := by omega
      obtain ⟨xn, yn, en⟩ := owns_form FS.out.o
      subst en
      have HUS := hideP (flL_succ da ds i)
      obtain ⟨us, hus⟩ : ∃ us, flL da ds i = us := ⟨_, rfl⟩
      have HUL : Hid (us.length = i) := by show _ = _; rw [← hus, flL_len]
      rw [hus] at FS HUS
      clear hus
      obtain ⟨m, hm⟩ : ∃ m, us.length = m := ⟨_, rfl⟩
      have Hm := hideP hm
      have hmi : m ≤ 1000 := by have := HUL.out; omega
      rw [hm] at FS
      clear hm
      obtain ⟨xc, hxc⟩ : ∃ xc, da.getD (Pl.ev ds (Pl.plR ds i)) 0 = xc := ⟨_, rfl⟩
      have K108' := hideP (fun v2 W => K108.out i v2 W hlt)
      rw [hxc] at HUS K108'
      clear hxc
      have SS : Hid (∀ {nv' : Value} {us' : List Int} W, Fp wb E (E + 1) n (.slice x7 n y7) nv' us' sh.reverse W → (W.cell? ⟨w.heap.size, 0, none⟩ = some (.slice (some ⟨b0, o0, none⟩) n c0) ∧ W.cell? ⟨w.heap.size, 1, none⟩ = some (.slice (some ⟨b1, o1, none⟩) N c1) ∧ W.cell? ⟨E + 1, 0, none⟩ = some (.slice x7 n y7))) := fun W h => ⟨(PB.out W h.b).1.1, (PB.out W h.b).1.2, blk_cell h.p⟩
      have RS : Hid (∀ W, Fp wb E (E + 1) n (.slice x7 n y7) (.slice xn m yn) us sh.reverse W → Rd W.heap.size W (.slice x7 n y7) sh.reverse) := fun W h => by
        have h1 := h.h
        have e1 : n = sh.reverse.length := by rw [List.length_reverse, Hn.out]
        rw [e1] at h1 ⊢
        exact (own_of_any h1).rd
      have OO : Hid (∀ W, Fp wb E (E + 1) n (.slice x7 n y7) (.slice xn m yn) us sh.reverse W → W.ownsRow E 3 1 (.slice xn m yn) m (us.map (Value.int .i64))) := fun W h => by
        have := h.o
        rw [Hm.out] at this
        exact this
      have F1 : Hid (Fp wb E (E + 1) n (.slice x7 n y7) (.slice xn m yn) us sh.reverse wr.drew) := ⟨FS.out.p, FS.out.o, FS.out.h, FS.out.k, FS.out.b.drew, FS.out.e, FS.out.pe⟩
      clear FS
      go_wp2_with fail
      clear c01
      refine wp_region_held (S := fun W => W.cell? ⟨w.heap.size, 0, none⟩ = some (.slice (some ⟨b0, o0, none⟩) n c0) ∧ W.cell? ⟨w.heap.size, 1, none⟩ = some (.slice (some ⟨b1, o1, none⟩) N c1) ∧ W.cell? ⟨E + 1, 0, none⟩ = some (.slice x7 n y7)) (by kernel_rfl) ?_
      change wpAnyH _ _ _ _ _ _ _ _ (World.drew _)
      generalize World.drew wr = w1 at *
      refine wpAnyH_take (i := 0) (v := .pointer (some ⟨E + 1, 1, none⟩)) rfl (by kernel_rfl) (by kernel_rfl) (by kernel_rfl) (fun _ _ _ h => h) (Or.inl ⟨by rfl, ?_⟩) (SS.out _ F1.out) ?_
      · intro w' hS
        clear hS
        go_simp
      refine wpAnyH_take (i := 2) (v := .agg #[.slice (some ⟨b0, o0, none⟩) n c0, .slice (some ⟨b1, o1, none⟩) N c1]) rfl (by kernel_rfl) (by kernel_rfl) (by kernel_rfl) (fun _ _ _ h => h) (Or.inl ⟨by rfl, ?_⟩) (SS.out _ F1.out) ?_
      · intro w' hS
        obtain ⟨y0, y1, y2⟩ := hS
        go_simp
      refine wpAnyH_take (i := 3) (v := .pointer (some ⟨E + 1, 0, none⟩)) rfl (by kernel_rfl) (by kernel_rfl) (by kernel_rfl) (fun _ _ _ h => h) (Or.inl ⟨by rfl, ?_⟩) (SS.out _ F1.out) ?_
      · intro w' hS
        clear hS
        go_simp
      refine wpAnyH_take (i := 4) (v := .slice x7 n y7) rfl (by kernel_rfl) (by kernel_rfl) (by kernel_rfl) (fun _ _ _ h => h) (Or.inl ⟨by rfl, ?_⟩) (SS.out _ F1.out) ?_
      · intro w' hS
        obtain ⟨y0, y1, y2⟩ := hS
        go_simp
      refine wpAnyH_take (i := 5) (v := .int .i64 (i : Int)) rfl (by kernel_rfl) (by kernel_rfl) (by kernel_rfl) (fun _ _ _ h => h) (Or.inl ⟨by rfl, ?_⟩) (SS.out _ F1.out) ?_
      · intro w' hS
        clear hS
        go_simp
      refine wpAnyH_ready (rs := [1, 6]) (by kernel_rfl) (by simp) ?_
      refine AllReadyH.cons rfl (fun K hK => ?_) (AllReadyH.cons rfl (fun K hK => ?_) AllReadyH.nil)
      · have qn : w1.cell? ⟨E + 1, 1, none⟩ = some (.slice xn m yn) := blk_cell F1.out.p
        go_simp
        clear qn
        refine hK.out _ _ (SS.out _ F1.out) (fun _ => ?_)
        clear hK
        refine wpAnyH_ready (rs := [6]) (by kernel_rfl) (by simp) ?_
        refine AllReadyH.cons rfl (fun K hK => ?_) AllReadyH.nil
        go_simp
        refine (K109.out i _ w1 hlt (RS.out _ F1.out)).mono ?_
        rintro e w2 ⟨rfl, hr2, hb2⟩
        have F2 := hideP (F1.out.keep hb2)
        have Q2 := hideP (K107.out i _ w2 hr2)
        clear hb2 hr2 F1
        refine hK.out _ _ (SS.out _ F2.out) (fun _ => ?_)
        clear hK
        refine wpAnyH_ready (rs := [7]) (by kernel_rfl) (by simp) ?_
        refine AllReadyH.cons rfl (fun K hK => ?_) AllReadyH.nil
        go_simp
        refine Q2.out.mono ?_
        rintro e w3 ⟨u3, rfl, hr3, hb3⟩
        have F3 := hideP (F2.out.keep hb3)
        have Q3 := hideP (K108'.out _ w3 F3.out.b hr3)
        clear hb3 hr3 F2 Q2
        refine hK.out _ _ (SS.out _ F3.out) (fun _ => ?_)
        clear hK
        refine wpAnyH_ready (rs := [8]) (by kernel_rfl) (by simp) ?_
        refine AllReadyH.cons rfl (fun K hK => ?_) AllReadyH.nil
        go_simp
        refine Q3.out.mono ?_
        rintro e w4 ⟨rfl, hb4⟩
        have F4 := hideP (F3.out.keep hb4)
        clear hb4 F3 Q3
        refine hK.out _ _ (SS.out _ F4.out) (fun _ => ?_)
        clear hK
        refine wpAnyH_ready (rs := [9]) (by kernel_rfl) (by simp) ?_
        refine AllReadyH.cons rfl (fun K hK => ?_) AllReadyH.nil
        go_simp
        have AL5 : Hid (Below w4.heap.size w4 (w4.alloc (.cells #[.int .i64 xc] 3))) := (Below.refl _ _).alloc (Nat.le_refl _) _
        have F5 := hideP (F4.out.keep AL5.out)
        have R5 : Hid (Rd (w4.heap.size + 1) (w4.alloc (.cells #[.int .i64 xc] 3)) (.slice (some ⟨w4.heap.size, 0, none⟩) 1 1) [xc]) := by
          have := (own_lit w4 _ xc (Below.refl _ _)).rd
          show Rd _ _ _ _
          simpa using this
        obtain ⟨gl, hgl⟩ : ∃ gl, w4.heap.size = gl := ⟨_, rfl⟩
        rw [hgl] at R5 ⊢
        generalize (w4.alloc (.cells #[.int .i64 xc] 3)) = w5 at *
        clear AL5 F4 hgl
        refine hK.out _ _ (SS.out _ F5.out) (fun _ => ?_)
        clear hK
        refine wpAnyH_ready (rs := [10]) (by kernel_rfl) (by simp) ?_
        refine AllReadyH.cons rfl (fun K hK => ?_) AllReadyH.nil
        refine step_append_rd (base := E) _ rfl (.tmp 18) (.tmp 26) rfl (.slice xn m yn) (.slice (some ⟨gl, 0, none⟩) 1 1) rfl rfl m us [xc] (OO.out _ F5.out) R5.out (by simp; omega) (by have := F5.out.lt; omega) ?_
        intro v' w9 ho9 hg9
        have ST := hideP (F5.out.step (us' := flL da ds (i + 1)) hg9 (by rw [HUS.out, List.length_append, Hm.out]; exact ho9))
        obtain ⟨x9, y9, e9⟩ := owns_form ho9
        subst e9
        have S9 : (w9.cell? ⟨w.heap.size, 0, none⟩ = some (.slice (some ⟨b0, o0, none⟩) n c0) ∧ w9.cell? ⟨w.heap.size, 1, none⟩ = some (.slice (some ⟨b1, o1, none⟩) N c1) ∧ w9.cell? ⟨E + 1, 0, none⟩ = some (.slice x7 n y7)) := by
          have z := (PB.out w9 (F5.out.b.grown hg9 F5.out.b.size (fun k hk => by have := (F5.out.o.lt k hk).1; have := F5.out.e; omega))).1
          exact ⟨z.1, z.2, blk_cell ST.out.1⟩
        have f9 : w9.frozen? ⟨E + 1, 1, none⟩ = false := frozen_of_row w9 (E + 1) 1 _ 27 ST.out.1
        have p9 : w9.cell? ⟨E + 1, 1, none⟩ = some (.slice xn m yn) := blk_cell ST.out.1
        have SN := SS.out _ ST.out.2
        clear ho9 hg9 F5 R5
        refine hK.out _ _ S9 (fun _ => ?_)
        clear hK
        refine wpAnyH_ready (rs := [11]) (by kernel_rfl) (by simp) ?_
        refine AllReadyH.cons rfl (fun K hK => ?_) AllReadyH.nil
        go_simp
        refine hK.out _ _ S9 (fun _ => ?_)
        clear hK
        refine wpAnyH_ready (rs := [12]) (by kernel_rfl) (by simp) ?_
        refine AllReadyH.cons rfl (fun K hK => ?_) AllReadyH.nil
        go_simp
        refine hK.out _ _ SN (fun _ => ?_)
        clear hK
        refine wpAnyH_done (by kernel_rfl) ?_ _
        clear p9 f9 SN S9
        go_wp2_with fail
        go_roundw
        case rel => exact ⟨i + 1, _, by omega, by go_num, ST.out.2⟩
        case measure => simp [intOf]; omega
      · go_simp
        refine (K109.out i _ w1 hlt (RS.out _ F1.out)).mono ?_
        rintro e w2 ⟨rfl, hr2, hb2⟩
        have F2 := hideP (F1.out.keep hb2)
        have Q2 := hideP (K107.out i _ w2 hr2)
        clear hb2 hr2 F1
        refine hK.out _ _ (SS.out _ F2.out) (fun _ => ?_)
        clear hK
        refine wpAnyH_ready (rs := [1, 7]) (by kernel_rfl) (by simp) ?_
        refine AllReadyH.cons rfl (fun K hK => ?_) (AllReadyH.cons rfl (fun K hK => ?_) AllReadyH.nil)
        · have qn : w2.cell? ⟨E + 1, 1, none⟩ = some (.slice xn m yn) := blk_cell F2.out.p
          go_simp
          clear qn
          refine hK.out _ _ (SS.out _ F2.out) (fun _ => ?_)
          clear hK
          refine wpAnyH_ready (rs := [7]) (by kernel_rfl) (by simp) ?_
          refine AllReadyH.cons rfl (fun K hK => ?_) AllReadyH.nil
          go_simp
          refine Q2.out.mono ?_
          rintro e w3 ⟨u3, rfl, hr3, hb3⟩
          have F3 := hideP (F2.out.keep hb3)
          have Q3 := hideP (K108'.out _ w3 F3.out.b hr3)
          clear hb3 hr3 F2 Q2
          refine hK.out _ _ (SS.out _ F3.out) (fun _ => ?_)
          clear hK
          refine wpAnyH_ready (rs := [8]) (by kernel_rfl) (by simp) ?_
          refine AllReadyH.cons rfl (fun K hK => ?_) AllReadyH.nil
          go_simp
          refine Q3.out.mono ?_
          rintro e w4 ⟨rfl, hb4⟩
          have F4 := hideP (F3.out.keep hb4)
          clear hb4 F3 Q3
          refine hK.out _ _ (SS.out _ F4.out) (fun _ => ?_)
          clear hK
          refine wpAnyH_ready (rs := [9]) (by kernel_rfl) (by simp) ?_
          refine AllReadyH.cons rfl (fun K hK => ?_) AllReadyH.nil
          go_simp
          have AL5 : Hid (Below w4.heap.size w4 (w4.alloc (.cells #[.int .i64 xc] 3))) := (Below.refl _ _).alloc (Nat.le_refl _) _
          have F5 := hideP (F4.out.keep AL5.out)
          have R5 : Hid (Rd (w4.heap.size + 1) (w4.alloc (.cells #[.int .i64 xc] 3)) (.slice (some ⟨w4.heap.size, 0, none⟩) 1 1) [xc]) := by
            have := (own_lit w4 _ xc (Below.refl _ _)).rd
            show Rd _ _ _ _
            simpa using this
          obtain ⟨gl, hgl⟩ : ∃ gl, w4.heap.size = gl := ⟨_, rfl⟩
          rw [hgl] at R5 ⊢
          generalize (w4.alloc (.cells #[.int .i64 xc] 3)) = w5 at *
          clear AL5 F4 hgl
          refine hK.out _ _ (SS.out _ F5.out) (fun _ => ?_)
          clear hK
          refine wpAnyH_ready (rs := [10]) (by kernel_rfl) (by simp) ?_
          refine AllReadyH.cons rfl (fun K hK => ?_) AllReadyH.nil
          refine step_append_rd (base := E) _ rfl (.tmp 18) (.tmp 26) rfl (.slice xn m yn) (.slice (some ⟨gl, 0, none⟩) 1 1) rfl rfl m us [xc] (OO.out _ F5.out) R5.out (by simp; omega) (by have := F5.out.lt; omega) ?_
          intro v' w9 ho9 hg9
          have ST := hideP (F5.out.step (us' := flL da ds (i + 1)) hg9 (by rw [HUS.out, List.length_append, Hm.out]; exact ho9))
          obtain ⟨x9, y9, e9⟩ := owns_form ho9
          subst e9
          have S9 : (w9.cell? ⟨w.heap.size, 0, none⟩ = some (.slice (some ⟨b0, o0, none⟩) n c0) ∧ w9.cell? ⟨w.heap.size, 1, none⟩ = some (.slice (some ⟨b1, o1, none⟩) N c1) ∧ w9.cell? ⟨E + 1, 0, none⟩ = some (.slice x7 n y7)) := by
            have z := (PB.out w9 (F5.out.b.grown hg9 F5.out.b.size (fun k hk => by have := (F5.out.o.lt k hk).1; have := F5.out.e; omega))).1
            exact ⟨z.1, z.2, blk_cell ST.out.1⟩
          have f9 : w9.frozen? ⟨E + 1, 1, none⟩ = false := frozen_of_row w9 (E + 1) 1 _ 27 ST.out.1
          have p9 : w9.cell? ⟨E + 1, 1, none⟩ = some (.slice xn m yn) := blk_cell ST.out.1
          have SN := SS.out _ ST.out.2
          clear ho9 hg9 F5 R5
          refine hK.out _ _ S9 (fun _ => ?_)
          clear hK
          refine wpAnyH_ready (rs := [11]) (by kernel_rfl) (by simp) ?_
          refine AllReadyH.cons rfl (fun K hK => ?_) AllReadyH.nil
          go_simp
          refine hK.out _ _ S9 (fun _ => ?_)
          clear hK
          refine wpAnyH_ready (rs := [12]) (by kernel_rfl) (by simp) ?_
          refine AllReadyH.cons rfl (fun K hK => ?_) AllReadyH.nil
          go_simp
          refine hK.out _ _ SN (fun _ => ?_)
          clear hK
          refine wpAnyH_done (by kernel_rfl) ?_ _
          clear p9 f9 SN S9
          go_wp2_with fail
          go_roundw
          case rel => exact ⟨i + 1, _, by omega, by go_num, ST.out.2⟩
          case measure => simp [intOf]; omega
        · go_simp
          refine Q2.out.mono ?_
          rintro e w3 ⟨u3, rfl, hr3, hb3⟩
          have F3 := hideP (F2.out.keep hb3)
          have Q3 := hideP (K108'.out _ w3 F3.out.b hr3)
          clear hb3 hr3 F2 Q2
          refine hK.out _ _ (SS.out _ F3.out) (fun _ => ?_)
          clear hK
          refine wpAnyH_ready (rs := [1, 8]) (by kernel_rfl) (by simp) ?_
          refine AllReadyH.cons rfl (fun K hK => ?_) (AllReadyH.cons rfl (fun K hK => ?_) AllReadyH.nil)
          · have qn : w3.cell? ⟨E + 1, 1, none⟩ = some (.slice xn m yn) := blk_cell F3.out.p
            go_simp
            clear qn
            refine hK.out _ _ (SS.out _ F3.out) (fun _ => ?_)
            clear hK
            refine wpAnyH_ready (rs := [8]) (by kernel_rfl) (by simp) ?_
            refine AllReadyH.cons rfl (fun K hK => ?_) AllReadyH.nil
            go_simp
            refine Q3.out.mono ?_
            rintro e w4 ⟨rfl, hb4⟩
            have F4 := hideP (F3.out.keep hb4)
            clear hb4 F3 Q3
            refine hK.out _ _ (SS.out _ F4.out) (fun _ => ?_)
            clear hK
            refine wpAnyH_ready (rs := [9]) (by kernel_rfl) (by simp) ?_
            refine AllReadyH.cons rfl (fun K hK => ?_) AllReadyH.nil
            go_simp
            have AL5 : Hid (Below w4.heap.size w4 (w4.alloc (.cells #[.int .i64 xc] 3))) := (Below.refl _ _).alloc (Nat.le_refl _) _
            have F5 := hideP (F4.out.keep AL5.out)
            have R5 : Hid (Rd (w4.heap.size + 1) (w4.alloc (.cells #[.int .i64 xc] 3)) (.slice (some ⟨w4.heap.size, 0, none⟩) 1 1) [xc]) := by
              have := (own_lit w4 _ xc (Below.refl _ _)).rd
              show Rd _ _ _ _
              simpa using this
            obtain ⟨gl, hgl⟩ : ∃ gl, w4.heap.size = gl := ⟨_, rfl⟩
            rw [hgl] at R5 ⊢
            generalize (w4.alloc (.cells #[.int .i64 xc] 3)) = w5 at *
            clear AL5 F4 hgl
            refine hK.out _ _ (SS.out _ F5.out) (fun _ => ?_)
            clear hK
            refine wpAnyH_ready (rs := [10]) (by kernel_rfl) (by simp) ?_
            refine AllReadyH.cons rfl (fun K hK => ?_) AllReadyH.nil
            refine step_append_rd (base := E) _ rfl (.tmp 18) (.tmp 26) rfl (.slice xn m yn) (.slice (some ⟨gl, 0, none⟩) 1 1) rfl rfl m us [xc] (OO.out _ F5.out) R5.out (by simp; omega) (by have := F5.out.lt; omega) ?_
            intro v' w9 ho9 hg9
            have ST := hideP (F5.out.step (us' := flL da ds (i + 1)) hg9 (by rw [HUS.out, List.length_append, Hm.out]; exact ho9))
            obtain ⟨x9, y9, e9⟩ := owns_form ho9
            subst e9
            have S9 : (w9.cell? ⟨w.heap.size, 0, none⟩ = some (.slice (some ⟨b0, o0, none⟩) n c0) ∧ w9.cell? ⟨w.heap.size, 1, none⟩ = some (.slice (some ⟨b1, o1, none⟩) N c1) ∧ w9.cell? ⟨E + 1, 0, none⟩ = some (.slice x7 n y7)) := by
              have z := (PB.out w9 (F5.out.b.grown hg9 F5.out.b.size (fun k hk => by have := (F5.out.o.lt k hk).1; have := F5.out.e; omega))).1
              exact ⟨z.1, z.2, blk_cell ST.out.1⟩
            have f9 : w9.frozen? ⟨E + 1, 1, none⟩ = false := frozen_of_row w9 (E + 1) 1 _ 27 ST.out.1
            have p9 : w9.cell? ⟨E + 1, 1, none⟩ = some (.slice xn m yn) := blk_cell ST.out.1
            have SN := SS.out _ ST.out.2
            clear ho9 hg9 F5 R5
            refine hK.out _ _ S9 (fun _ => ?_)
            clear hK
            refine wpAnyH_ready (rs := [11]) (by kernel_rfl) (by simp) ?_
            refine AllReadyH.cons rfl (fun K hK => ?_) AllReadyH.nil
            go_simp
            refine hK.out _ _ S9 (fun _ => ?_)
            clear hK
            refine wpAnyH_ready (rs := [12]) (by kernel_rfl) (by simp) ?_
            refine AllReadyH.cons rfl (fun K hK => ?_) AllReadyH.nil
            go_simp
            refine hK.out _ _ SN (fun _ => ?_)
            clear hK
            refine wpAnyH_done (by kernel_rfl) ?_ _
            clear p9 f9 SN S9
            go_wp2_with fail
            go_roundw
            case rel => exact ⟨i + 1, _, by omega, by go_num, ST.out.2⟩
            case measure => simp [intOf]; omega
          · go_simp
            refine Q3.out.mono ?_
            rintro e w4 ⟨rfl, hb4⟩
            have F4 := hideP (F3.out.keep hb4)
            clear hb4 F3 Q3
            refine hK.out _ _ (SS.out _ F4.out) (fun _ => ?_)
            clear hK
            refine wpAnyH_ready (rs := [1, 9]) (by kernel_rfl) (by simp) ?_
            refine AllReadyH.cons rfl (fun K hK => ?_) (AllReadyH.cons rfl (fun K hK => ?_) AllReadyH.nil)
            · have qn : w4.cell? ⟨E + 1, 1, none⟩ = some (.slice xn m yn) := blk_cell F4.out.p
              go_simp
              clear qn
              refine hK.out _ _ (SS.out _ F4.out) (fun _ => ?_)
              clear hK
              refine wpAnyH_ready (rs := [9]) (by kernel_rfl) (by simp) ?_
              refine AllReadyH.cons rfl (fun K hK => ?_) AllReadyH.nil
              go_simp
              have AL5 : Hid (Below w4.heap.size w4 (w4.alloc (.cells #[.int .i64 xc] 3))) := (Below.refl _ _).alloc (Nat.le_refl _) _
              have F5 := hideP (F4.out.keep AL5.out)
              have R5 : Hid (Rd (w4.heap.size + 1) (w4.alloc (.cells #[.int .i64 xc] 3)) (.slice (some ⟨w4.heap.size, 0, none⟩) 1 1) [xc]) := by
                have := (own_lit w4 _ xc (Below.refl _ _)).rd
                show Rd _ _ _ _
                simpa using this
              obtain ⟨gl, hgl⟩ : ∃ gl, w4.heap.size = gl := ⟨_, rfl⟩
              rw [hgl] at R5 ⊢
              generalize (w4.alloc (.cells #[.int .i64 xc] 3)) = w5 at *
              clear AL5 F4 hgl
              refine hK.out _ _ (SS.out _ F5.out) (fun _ => ?_)
              clear hK
              refine wpAnyH_ready (rs := [10]) (by kernel_rfl) (by simp) ?_
              refine AllReadyH.cons rfl (fun K hK => ?_) AllReadyH.nil
              refine step_append_rd (base := E) _ rfl (.tmp 18) (.tmp 26) rfl (.slice xn m yn) (.slice (some ⟨gl, 0, none⟩) 1 1) rfl rfl m us [xc] (OO.out _ F5.out) R5.out (by simp; omega) (by have := F5.out.lt; omega) ?_
              intro v' w9 ho9 hg9
              have ST := hideP (F5.out.step (us' := flL da ds (i + 1)) hg9 (by rw [HUS.out, List.length_append, Hm.out]; exact ho9))
              obtain ⟨x9, y9, e9⟩ := owns_form ho9
              subst e9
              have S9 : (w9.cell? ⟨w.heap.size, 0, none⟩ = some (.slice (some ⟨b0, o0, none⟩) n c0) ∧ w9.cell? ⟨w.heap.size, 1, none⟩ = some (.slice (some ⟨b1, o1, none⟩) N c1) ∧ w9.cell? ⟨E + 1, 0, none⟩ = some (.slice x7 n y7)) := by
                have z := (PB.out w9 (F5.out.b.grown hg9 F5.out.b.size (fun k hk => by have := (F5.out.o.lt k hk).1; have := F5.out.e; omega))).1
                exact ⟨z.1, z.2, blk_cell ST.out.1⟩
              have f9 : w9.frozen? ⟨E + 1, 1, none⟩ = false := frozen_of_row w9 (E + 1) 1 _ 27 ST.out.1
              have p9 : w9.cell? ⟨E + 1, 1, none⟩ = some (.slice xn m yn) := blk_cell ST.out.1
              have SN := SS.out _ ST.out.2
              clear ho9 hg9 F5 R5
              refine hK.out _ _ S9 (fun _ => ?_)
              clear hK
              refine wpAnyH_ready (rs := [11]) (by kernel_rfl) (by simp) ?_
              refine AllReadyH.cons rfl (fun K hK => ?_) AllReadyH.nil
              go_simp
              refine hK.out _ _ S9 (fun _ => ?_)
              clear hK
              refine wpAnyH_ready (rs := [12]) (by kernel_rfl) (by simp) ?_
              refine AllReadyH.cons rfl (fun K hK => ?_) AllReadyH.nil
              go_simp
              refine hK.out _ _ SN (fun _ => ?_)
              clear hK
              refine wpAnyH_done (by kernel_rfl) ?_ _
              clear p9 f9 SN S9
              go_wp2_with fail
              go_roundw
              case rel => exact ⟨i + 1, _, by omega, by go_num, ST.out.2⟩
              case measure => simp [intOf]; omega
            · go_simp
              have AL5 : Hid (Below w4.heap.size w4 (w4.alloc (.cells #[.int .i64 xc] 3))) := (Below.refl _ _).alloc (Nat.le_refl _) _
              have F5 := hideP (F4.out.keep AL5.out)
              have R5 : Hid (Rd (w4.heap.size + 1) (w4.alloc (.cells #[.int .i64 xc] 3)) (.slice (some ⟨w4.heap.size, 0, none⟩) 1 1) [xc]) := by
                have := (own_lit w4 _ xc (Below.refl _ _)).rd
                show Rd _ _ _ _
                simpa using this
              obtain ⟨gl, hgl⟩ : ∃ gl, w4.heap.size = gl := ⟨_, rfl⟩
              rw [hgl] at R5 ⊢
              generalize (w4.alloc (.cells #[.int .i64 xc] 3)) = w5 at *
              clear AL5 F4 hgl
              refine hK.out _ _ (SS.out _ F5.out) (fun _ => ?_)
              clear hK
              refine wpAnyH_ready (rs := [1]) (by kernel_rfl) (by simp) ?_
              refine AllReadyH.cons rfl (fun K hK => ?_) AllReadyH.nil
              have qn : w5.cell? ⟨E + 1, 1, none⟩ = some (.slice xn m yn) := blk_cell F5.out.p
              go_simp
              clear qn
              refine hK.out _ _ (SS.out _ F5.out) (fun _ => ?_)
              clear hK
              refine wpAnyH_ready (rs := [10]) (by kernel_rfl) (by simp) ?_
              refine AllReadyH.cons rfl (fun K hK => ?_) AllReadyH.nil
              refine step_append_rd (base := E) _ rfl (.tmp 18) (.tmp 26) rfl (.slice xn m yn) (.slice (some ⟨gl, 0, none⟩) 1 1) rfl rfl m us [xc] (OO.out _ F5.out) R5.out (by simp; omega) (by have := F5.out.lt; omega) ?_
              intro v' w9 ho9 hg9
              have ST := hideP (F5.out.step (us' := flL da ds (i + 1)) hg9 (by rw [HUS.out, List.length_append, Hm.out]; exact ho9))
              obtain ⟨x9, y9, e9⟩ := owns_form ho9
              subst e9
              have S9 : (w9.cell? ⟨w.heap.size, 0, none⟩ = some (.slice (some ⟨b0, o0, none⟩) n c0) ∧ w9.cell? ⟨w.heap.size, 1, none⟩ = some (.slice (some ⟨b1, o1, none⟩) N c1) ∧ w9.cell? ⟨E + 1, 0, none⟩ = some (.slice x7 n y7)) := by
                have z := (PB.out w9 (F5.out.b.grown hg9 F5.out.b.size (fun k hk => by have := (F5.out.o.lt k hk).1; have := F5.out.e; omega))).1
                exact ⟨z.1, z.2, blk_cell ST.out.1⟩
              have f9 : w9.frozen? ⟨E + 1, 1, none⟩ = false := frozen_of_row w9 (E + 1) 1 _ 27 ST.out.1
              have p9 : w9.cell? ⟨E + 1, 1, none⟩ = some (.slice xn m yn) := blk_cell ST.out.1
              have SN := SS.out _ ST.out.2
              clear ho9 hg9 F5 R5
              refine hK.out _ _ S9 (fun _ => ?_)
              clear hK
              refine wpAnyH_ready (rs := [11]) (by kernel_rfl) (by simp) ?_
              refine AllReadyH.cons rfl (fun K hK => ?_) AllReadyH.nil
              go_simp
              refine hK.out _ _ S9 (fun _ => ?_)
              clear hK
              refine wpAnyH_ready (rs := [12]) (by kernel_rfl) (by simp) ?_
              refine AllReadyH.cons rfl (fun K hK => ?_) AllReadyH.nil
              go_simp
              refine hK.out _ _ SN (fun _ => ?_)
              clear hK
              refine wpAnyH_done (by kernel_rfl) ?_ _
              clear p9 f9 SN S9
              go_wp2_with fail
              go_roundw
              case rel => exact ⟨i + 1, _, by omega, by go_num, ST.out.2⟩
              case measure => simp [intOf]; omega
    · have hlt' : ¬ (i : Int) < (N : Int) := by omega
      obtain rfl : i = N := by omega
      have ZR := hideP (PB.out wr FS.out.b)
      obtain ⟨xn, yn, en⟩ := owns_form FS.out.o
      subst en
      have q0 : wr.cell? ⟨E + 1, 0, none⟩ = some (.slice x7 n y7) := blk_cell FS.out.p
      have q1 : wr.cell? ⟨E + 1, 1, none⟩ = some (.slice xn (flL da ds i).length yn) := blk_cell FS.out.p
      have OS : Hid (Own wb.heap.size wr (.slice x7 n y7) S) := by
        have h1 := FS.out.h
        have e1 : n = sh.reverse.length := by rw [List.length_reverse, Hn.out]
        rw [← HSS.out]
        rw [e1] at h1 ⊢
        exact own_of_any h1
      have OD : Hid (Own wb.heap.size wr (.slice xn (flL da ds i).length yn) Dd) := by
        have h1 := (own_of_any FS.out.o).base FS.out.e
        rw [← HDS.out]
        exact h1
      have AP : Hid (Apart (.slice x7 n y7) (.slice xn (flL da ds i).length yn) S Dd) := .inr (.inr fun k e1 e2 => by
        have a := FS.out.k k e1
        have b := (FS.out.o.lt k e2).1
        omega)
      have hsz : wb.heap.size ≤ wr.heap.size := FS.out.b.size
      have r0 := ZR.out.2.1.1
      have r1 := ZR.out.2.1.2.1
      have f2 := ZR.out.2.1.2.2
      clear FS
      go_wp2_with fail
      refine bodyPost_ret (v := .agg #[.slice x7 n y7, .slice xn (flL da ds i).length yn]) (by simp [results, Try.results57, go_sem, r0, r1]) rfl ⟨_, _, rfl, ⟨?_, ?_, AP.out⟩, (ZR.out.2.2.setCell (by simp) _).setCell (by simp) _⟩
      · exact Own.base (Own.store (Own.store OS.out (by omega) _) (by omega) _) (by omega)
      · exact Own.base (Own.store (Own.store OD.out (by omega) _) (by omega) _) (by omega)

end Go.Proofs.Ytmobjomebmipdaa
