import Derived.Test.YtmobjomebmipdaaFl4
namespace Go.Proofs.Ytmobjomebmipdaa
open Go.RowKit
set_option linter.unusedVariables false

theorem own_of_rw' {B g off n cap : Nat} {f : Nat → Int} {w : World} {zs : List Int} (h : Rw g off n f w) (hB : B ≤ g) (hl : zs.length = n) (e : ∀ i, i < n → zs.getD i 0 = f i) : Own B w (.slice (some ⟨g, off, none⟩) n cap) zs := by
  refine ⟨some ⟨g, off, none⟩, cap, by rw [hl], .inr ⟨g, off, hB, h.1, rfl, fun i hi => ?_⟩⟩
  rw [hl] at hi
  rw [e i hi]
  exact h.2 i hi

/-- the rows of a flip under way -/
structure FlS (wb : World) (B g3 o3 g4 g5 g7 n N : Nat) (D St P A : Nat → Int) (W : World) : Prop where
  r3 : Rw g3 o3 n D W
  r4 : Rw g4 0 n St W
  r5 : Rw g5 0 n P W
  r7 : Rw g7 0 N A W
  b : Below B wb W
theorem FlS.set5 {wb W : World} {B g3 o3 g4 g5 g7 n N k : Nat} {D St P A : Nat → Int} (h : FlS wb B g3 o3 g4 g5 g7 n N D St P A W) (hB : B ≤ g3) (h34 : g3 < g4) (h45 : g4 < g5) (h57 : g5 < g7) (hk : k < n) (x : Int) : FlS wb B g3 o3 g4 g5 g7 n N D St (upd P k x) A (W.setCell ⟨g5, k, none⟩ (.int .i64 x)) := by
  have hg := Gr.set W g5 k (.int .i64 x)
  have h5 := h.r5.set x hk
  rw [Nat.zero_add] at h5
  exact ⟨h.r3.other hg (by omega), h.r4.other hg (by omega), h5, h.r7.other hg (by omega), h.b.setCell (by show B ≤ g5; omega) _⟩
theorem FlS.set7 {wb W : World} {B g3 o3 g4 g5 g7 n N k : Nat} {D St P A : Nat → Int} (h : FlS wb B g3 o3 g4 g5 g7 n N D St P A W) (hB : B ≤ g3) (h34 : g3 < g4) (h45 : g4 < g5) (h57 : g5 < g7) (hk : k < N) (x : Int) : FlS wb B g3 o3 g4 g5 g7 n N D St P (upd A k x) (W.setCell ⟨g7, k, none⟩ (.int .i64 x)) := by
  have hg := Gr.set W g7 k (.int .i64 x)
  have h7 := h.r7.set x hk
  rw [Nat.zero_add] at h7
  exact ⟨h.r3.other hg (by omega), h.r4.other hg (by omega), h.r5.other hg (by omega), h7, h.b.setCell (by show B ≤ g7; omega) _⟩
theorem FlS.drewN {wb W : World} {B g3 o3 g4 g5 g7 n N : Nat} {D St P A : Nat → Int} (q : Nat) (h : FlS wb B g3 o3 g4 g5 g7 n N D St P A W) : FlS wb B g3 o3 g4 g5 g7 n N D St P A (W.drewN q) := ⟨h.r3, h.r4, h.r5, h.r7, below_drewN h.b q⟩
theorem FlS.place {wb W : World} {B g3 o3 g4 g5 g7 n N : Nat} {D St P P' A : Nat → Int} (h : FlS wb B g3 o3 g4 g5 g7 n N D St P A W) (e : ∀ t, t < n → P t = P' t) : FlS wb B g3 o3 g4 g5 g7 n N D St P' A W := ⟨h.r3, h.r4, h.r5.congr e, h.r7, h.b⟩

set_option maxRecDepth 100000 in
set_option maxHeartbeats 16000000 in
/-- impl.flip -/
theorem flip_core (b0 o0 c0 b1 o1 c1 : Nat) (sh da : List Int) (w : World) (h0 : Rd w.heap.size w (.slice (some ⟨b0, o0, none⟩) sh.length c0) sh) (h1 : Rd w.heap.size w (.slice (some ⟨b1, o1, none⟩) da.length c1) da) (hc0 : sh.length ≤ c0) (hc0' : c0 ≤ 9223372036854775807) (hok : Pl.okB sh da = true) (hr : 0 < sh.length) (S Dd : List Int) (hS : sh.reverse = S) (hDd : ((List.range da.length).map fun i => da.getD (Pl.ev (Pl.shN sh) (Pl.plR (Pl.shN sh) i)) 0) = Dd) :
    Calls Try.prog 115 #[.agg #[.slice (some ⟨b0, o0, none⟩) sh.length c0, .slice (some ⟨b1, o1, none⟩) da.length c1]] w (KPost w 0 S Dd) := by
  obtain ⟨hm0, hm1⟩ := Pl.ok_max hok
  obtain ⟨hlen, hfit⟩ := Pl.ok_len hok
  have hbs : Pl.baseB sh = true := by simp only [Pl.fitsB, Bool.and_eq_true] at hfit; exact hfit.1
  have hnn := Pl.base_nonneg hbs
  have HPN : Hid (Pl.prdN (Pl.shN sh) = da.length) := by
    have e1 := Pl.prdN_eq sh (fun x hx => (hnn x hx).1)
    rw [← Pl.prod_eq hfit, ← hlen] at e1
    exact_mod_cast e1
  have H0 := hideP h0
  have HNN := hideP hnn
  obtain ⟨wb, hwb⟩ : ∃ wb, wb = (w.alloc (.cells #[.slice (some ⟨b0, o0, none⟩) sh.length c0, .slice (some ⟨b1, o1, none⟩) da.length c1] 27)).alloc (.cells #[.slice none 0 0, .slice none 0 0] 27) := ⟨_, rfl⟩
  have WS : wb.heap.size = w.heap.size + 1 + 1 := by rw [hwb]; simp
  have PB : Hid (∀ W, Below wb.heap.size wb W → (W.cell? ⟨w.heap.size, 0, none⟩ = some (.slice (some ⟨b0, o0, none⟩) sh.length c0) ∧ W.cell? ⟨w.heap.size, 1, none⟩ = some (.slice (some ⟨b1, o1, none⟩) da.length c1)) ∧ (W.cell? ⟨w.heap.size + 1, 0, none⟩ = some (.slice none 0 0) ∧ W.cell? ⟨w.heap.size + 1, 1, none⟩ = some (.slice none 0 0) ∧ ∀ o, W.frozen? ⟨w.heap.size + 1, o, none⟩ = false) ∧ Below w.heap.size w W) := fun W hb => by
    subst hwb
    exact boxes2 (hb.mono (by simp))
  have HC : Hid (∀ i, i < da.length → b1 < w.heap.size ∧ w.cell? ⟨b1, o1 + i, none⟩ = some (.int .i64 (da.getD i 0))) := fun i hi => rd_cell h1 (i := i) hi
  have KJ : Hid (∀ b W, Below wb.heap.size wb W → b < W.heap.size → W.cell? ⟨b, 0, none⟩ = some (.slice (some ⟨b0, o0, none⟩) sh.length c0) → Calls Try.prog 84 #[.slice (some ⟨b, 0, none⟩) 1 1] W fun e w' => ∃ g off cap, e = .returned (.slice (some ⟨g, off, none⟩) sh.length cap) ∧ W.heap.size ≤ g ∧ Rw g off sh.length (fun t => sh.getD t 0) w' ∧ Below W.heap.size W w') := fun b W hb hlt hcc => by
    have k := (PB.out W hb).2.2
    refine (joined1_own b _ sh W (by omega) hlt hcc ((H0.out.keep k).up k.size)).mono ?_
    rintro e w' ⟨ao, cap, rfl, ⟨ao', cap', e', ho⟩, hb'⟩
    injection e' with e1 _ e3
    subst e1 e3
    rcases ho with ho | ⟨g, off, hg1, hg2, rfl, hcell⟩
    · omega
    · exact ⟨g, off, cap, rfl, hg1, ⟨hg2, hcell⟩, hb'⟩
  have KS : Hid (∀ W, Below wb.heap.size wb W → Calls Try.prog 143 #[.slice (some ⟨b0, o0, none⟩) sh.length c0] W fun e w' => e = .returned (.slice (some ⟨W.heap.size, 0, none⟩) sh.length sh.length) ∧ Rw W.heap.size 0 sh.length (fun t => Pl.prodP (sh.drop (sh.length - t))) w' ∧ Below W.heap.size W w') := fun W hb => by
    have k := (PB.out W hb).2.2
    exact strides_any b0 o0 c0 sh W hr hm0 hbs hc0 hc0' ((H0.out.keep k).up k.size)
  obtain ⟨i0, hi, hz0, hz1, hz2⟩ := info_parts Try.info3
  have HI := hideP (And.intro hi (And.intro hz0 (And.intro hz1 hz2)))
  have HSS := hideP hS
  have HDD := hideP hDd
  clear hi hz0 hz1 hz2 h0 h1 hok hlen hfit hbs hnn H0 hS hDd
  obtain ⟨ds, hds⟩ : ∃ ds, Pl.shN sh = ds := ⟨_, rfl⟩
  have HDS := hideP hds
  rw [hds] at HPN HDD
  have HDL : Hid (ds.length = sh.length) := by show _ = _; rw [← hds]; unfold Pl.shN; simp
  clear hds
  obtain ⟨n, hn⟩ : ∃ n, sh.length = n := ⟨_, rfl⟩
  obtain ⟨N, hN⟩ : ∃ N, da.length = N := ⟨_, rfl⟩
  have Hn := hideP hn
  have HN := hideP hN
  rw [hn] at hm0 hr hc0 PB KJ KS HDL
  rw [hN] at hm1 HPN PB HC HDD
  rw [hn, hN] at hwb ⊢
  clear hn hN
  have B0 : Hid (Below wb.heap.size wb (wb.alloc (.cells #[.slice (some ⟨b0, o0, none⟩) n c0] 22))) := (Below.refl _ _).alloc (Nat.le_refl _) _
  have KJ' := hideP (KJ.out wb.heap.size (wb.alloc (.cells #[.slice (some ⟨b0, o0, none⟩) n c0] 22)) B0.out (lit_cell wb _ 22).1 (lit_cell wb _ 22).2)
  go_enter Try.func115, Try.ntmps115
  go_wp2_with fail
  go_step3
  go_wp2_with fail
  rw [← hwb, ← WS]
  refine KJ'.out.mono ?_
  rintro e w3 ⟨g3, o3, cap3, rfl, hg3, hr3, hb3⟩
  have B3 := hideP (B0.out.trans (hb3.mono (by simp)))
  have hg3' : wb.heap.size + 1 ≤ g3 := by simpa using hg3
  have KR := hideP (reverse_any g3 o3 cap3 n _ w3 hr3 (by omega) hr)
  clear hr3 hb3 hg3 KJ KJ' B0
  go_wp2_with fail
  refine KR.out.mono ?_
  rintro e w4 ⟨rfl, hr4, hgr4⟩
  have B4 := hideP (hgr4.keep B3.out (show wb.heap.size ≤ g3 by omega) B3.out.size)
  have R34 := hideP hr4
  have K5 := hideP (KS.out w4 B4.out)
  have c00 := (PB.out _ B4.out).1.1
  clear hr4 hgr4 KR B3
  go_wp2_with fail
  refine K5.out.mono ?_
  rintro e w5 ⟨rfl, hr5, hb5⟩
  have B5 := hideP (B4.out.trans (hb5.mono B4.out.size))
  have R35 := hideP (R34.out.keep hb5)
  have R45 := hideP hr5
  have h34 : g3 < w4.heap.size := R34.out.1
  obtain ⟨g4, hg4⟩ : ∃ g4, w4.heap.size = g4 := ⟨_, rfl⟩
  rw [hg4] at R45 h34 ⊢
  clear hr5 hb5 K5 R34 c00 hg4 B4
  go_wp2_with (at_make; refine wpList_make_full _ rfl _ _ 22 rfl w5.heap.size 3 i0 (.int .i64 0) 1 Try.underlying22 HI.out.1 HI.out.2.1 HI.out.2.2.1 _ _ _ _ n rfl rfl rfl rfl ?b2 ?b3 ?b4 ?_)
  case b2 => rw [HI.out.2.2.2]; omega
  case b3 => unfold maxLen; omega
  case b4 => exact Nat.le_refl _
  intro w6 hown hgrow
  rw [made_zeros] at hown
  have BG6 : Hid (Below w5.heap.size w5 w6) := (Below.refl _ _).grown hgrow (Nat.le_refl _) (by intro k h; cases h)
  have B6 := hideP (B5.out.trans (BG6.out.mono B5.out.size))
  have R36 := hideP (R35.out.keep BG6.out)
  have R46 := hideP (R45.out.keep BG6.out)
  have R56 : Hid (Rw w5.heap.size 0 n (fun _ => 0) w6) := by
    have h1 : w6.ownsRow w5.heap.size 3 1 (.slice (some ⟨w5.heap.size, 0, none⟩) n n) n ((List.replicate n (0 : Int)).map (Value.int .i64)) := by simpa using hown
    refine (rw_of_own h1 (by simp)).congr fun t ht => ?_
    simp [List.getD, ht]
  have h45 : g4 < w5.heap.size := R45.out.1
  obtain ⟨g5, hg5⟩ : ∃ g5, w5.heap.size = g5 := ⟨_, rfl⟩
  rw [hg5] at R56 h45 ⊢
  have c01 := (PB.out _ B6.out).1.2
  clear hown hgrow BG6 R35 R45 B5 hg5
  go_wp2_with (at_make; refine wpList_make_full _ rfl _ _ 22 rfl w6.heap.size 3 i0 (.int .i64 0) 1 Try.underlying22 HI.out.1 HI.out.2.1 HI.out.2.2.1 _ _ _ _ N rfl rfl rfl rfl ?e2 ?e3 ?e4 ?_)
  case e2 => rw [HI.out.2.2.2]; omega
  case e3 => unfold maxLen; omega
  case e4 => exact Nat.le_refl _
  intro w7 hown hgrow
  rw [made_zeros] at hown
  have BG7 : Hid (Below w6.heap.size w6 w7) := (Below.refl _ _).grown hgrow (Nat.le_refl _) (by intro k h; cases h)
  have R77 : Hid (Rw w6.heap.size 0 N (fun _ => 0) w7) := by
    have h1 : w7.ownsRow w6.heap.size 3 1 (.slice (some ⟨w6.heap.size, 0, none⟩) N N) N ((List.replicate N (0 : Int)).map (Value.int .i64)) := by simpa using hown
    refine (rw_of_own h1 (by simp)).congr fun t ht => ?_
    simp [List.getD, ht]
  have h57 : g5 < w6.heap.size := R56.out.1
  obtain ⟨g7, hg7⟩ : ∃ g7, w6.heap.size = g7 := ⟨_, rfl⟩
  have F7 : Hid (FlS wb wb.heap.size g3 o3 g4 g5 g7 n N (fun t => sh.getD (n - 1 - t) 0) (fun t => Pl.prodP (sh.drop (n - t))) (Pl.Pz (Pl.plR ds 0) n 0) (Pl.dt da (fun i => Pl.ev ds (Pl.plR ds i)) 0) w7) := by
    rw [hg7] at R77
    refine ⟨R36.out.keep BG7.out, R46.out.keep BG7.out, (R56.out.keep BG7.out).congr fun t ht => ?_, R77.out.congr fun t _ => ?_, B6.out.trans (BG7.out.mono B6.out.size)⟩
    · unfold Pl.Pz
      rw [if_neg (by omega), Pl.plR_zero, List.getD, List.getElem?_replicate]
      split <;> rfl
    · unfold Pl.dt
      rw [if_neg (by omega)]
  rw [hg7] at h57 ⊢
  clear hown hgrow BG7 R36 R46 R56 R77 B6 hg7 c01
  have ev0 : Hid (Pl.ev ds (Pl.plR ds 0) = 0) := by
    show _ = _
    rw [Pl.plR_zero]
    have : ∀ l : List Nat, Pl.ev l (List.replicate l.length 0) = 0 := fun l => by
      induction l with
      | nil => rfl
      | cons d l ih => show 0 * Pl.prdN l + Pl.ev l (List.replicate l.length 0) = 0; rw [ih]; omega
    exact this ds
  go_wp2_with fail
  go_step3
  go_wp2_with fail
  go_loopg [6, 8, 9, 28] N (fun g vs _ _ vi wr => ∃ i : Nat, i + g = N ∧ vi = .int .i64 (i : Int) ∧ vs = .int .i64 ((Pl.ev ds (Pl.plR ds i) : Nat) : Int) ∧ Hid (FlS wb wb.heap.size g3 o3 g4 g5 g7 n N (fun t => sh.getD (n - 1 - t) 0) (fun t => Pl.prodP (sh.drop (n - t))) (Pl.Pz (Pl.plR ds i) n 0) (Pl.dt da (fun i => Pl.ev ds (Pl.plR ds i)) i) wr))
  case atStart => exact ⟨0, by omega, rfl, by rw [ev0.out]; rfl, F7⟩
  case round =>
    clear F7 ev0
    obtain ⟨i, hig, rfl, rfl, FS⟩ := hrel
    cases gk with
    | zero =>
      have iN : i = N := by omega
      have kz : ¬ ((i : Int) < (N : Int)) := by omega
      have ZR := hideP (PB.out wr FS.out.b)
      have OS : Hid (Own wb.heap.size wr (.slice (some ⟨g3, o3, none⟩) n cap3) S) := by
        refine own_of_rw' FS.out.r3 (by omega) (by rw [← HSS.out, List.length_reverse]; exact Hn.out) (fun t ht => ?_)
        rw [← HSS.out, List.getD, List.getD, List.getElem?_reverse (by rw [Hn.out]; exact ht), Hn.out]
      have OD : Hid (Own wb.heap.size wr (.slice (some ⟨g7, 0, none⟩) N N) Dd) := by
        refine own_of_rw' FS.out.r7 (by omega) (by rw [← HDD.out]; simp) (fun t ht => ?_)
        unfold Pl.dt
        rw [← HDD.out, if_pos (by omega), List.getD, List.getElem?_map, List.getElem?_range ht]
        rfl
      have AP : Hid (Apart (.slice (some ⟨g3, o3, none⟩) n cap3) (.slice (some ⟨g7, 0, none⟩) N N) S Dd) := .inr (.inr fun b e1 e2 => by simp [Value.ownBlock] at e1 e2; omega)
      have hsz : wb.heap.size ≤ wr.heap.size := FS.out.b.size
      have r0 := ZR.out.2.1.1
      have r1 := ZR.out.2.1.2.1
      have f2 := ZR.out.2.1.2.2
      clear iN FS
      go_wp2_with fail
      try rw [Exit.noGoto_ret]
      refine bodyPost_ret (v := .agg #[.slice (some ⟨g3, o3, none⟩) n cap3, .slice (some ⟨g7, 0, none⟩) N N]) (by simp [results, Try.results115, go_sem, r0, r1]) rfl ⟨(ZR.out.2.2.setCell (by simp) _).setCell (by simp) _, .inl ⟨rfl, _, _, rfl, ?_, ?_, AP.out⟩⟩
      · exact Own.base (Own.store (Own.store OS.out (by omega) _) (by omega) _) (by omega)
      · exact Own.base (Own.store (Own.store OD.out (by omega) _) (by omega) _) (by omega)
    | succ gg =>
      have hlt' : (i : Int) < (N : Int) := by omega
      have ZR := hideP (PB.out wr FS.out.b)
      have HDP : Hid (∀ d ∈ ds, 0 < d) := Pl.prd_zero (by rw [HPN.out]; omega)
      obtain ⟨q, hq⟩ : ∃ q, Pl.plR ds i = q := ⟨_, rfl⟩
      have HQL : Hid (q.length = n) := by show _ = _; rw [← hq, Pl.plR_len]; exact HDL.out
      have HQT : Hid (∀ t, t < n → q.getD t 0 < ds.getD t 0) := fun t ht => by rw [← hq]; exact Pl.plR_lt ds HDP.out i t (by rw [HDL.out]; exact ht)
      have HINC : Hid (Pl.incR ds q = Pl.plR ds (i + 1)) := by show _ = _; rw [← hq]; exact Pl.inc_plR ds HDP.out i
      have hsN : Pl.ev ds q < N := by rw [← HPN.out]; exact Pl.ev_lt ds HDP.out q (by rw [HQL.out, HDL.out]) (fun t ht => HQT.out t (by rw [← HDL.out]; exact ht))
      have HST := hideP (Pl.dt_step da (fun i => Pl.ev ds (Pl.plR ds i)) i)
      rw [hq] at FS HST ⊢
      clear hq
      obtain ⟨s, hs⟩ : ∃ s, Pl.ev ds q = s := ⟨_, rfl⟩
      have HSE := hideP hs
      rw [hs] at hsN HST ⊢
      clear hs
      have cd : wr.cell? ⟨b1, o1 + s, none⟩ = some (.int .i64 (da.getD s 0)) := (ZR.out.2.2.cell (p := ⟨b1, o1 + s, none⟩) (HC.out s hsN).1).trans (HC.out s hsN).2
      have c01 := ZR.out.1.2
      have c7 : ∃ x7, wr.cell? ⟨g7, i, none⟩ = some (.int .i64 x7) := ⟨_, by have := (FS.out.r7.2 i (by omega)).1; rw [Nat.zero_add] at this; exact this⟩
      obtain ⟨x7, c7⟩ := c7
      have f7 : wr.frozen? ⟨g7, i, none⟩ = false := by have := (FS.out.r7.2 i (by omega)).2; rw [Nat.zero_add] at this; exact this
      have FK : Hid (FlS wb wb.heap.size g3 o3 g4 g5 g7 n N (fun t => sh.getD (n - 1 - t) 0) (fun t => Pl.prodP (sh.drop (n - t))) (Pl.Pz q n 0) (Pl.dt da (fun i => Pl.ev ds (Pl.plR ds i)) (i + 1)) (wr.setCell ⟨g7, i, none⟩ (.int .i64 (da.getD s 0)))) := by
        rw [← HST.out]
        exact FS.out.set7 (by omega) h34 h45 h57 (by omega) _
      have hsi : (s : Int) < (N : Int) := by omega
      clear FS HST ZR
      generalize da.getD s 0 = xs at *
      go_wp2_with fail
      generalize (wr.setCell ⟨g7, i, none⟩ (.int .i64 xs)) = wk at *
      clear cd c01 c7 f7 hsi
      go_loopg [6, 9] n (fun gi vs vc w2 => ∃ (j e : Nat), j + gi = n ∧ vc = .int .i64 ((n : Int) - 1 - (j : Int)) ∧ vs = .int .i64 (e : Int) ∧ Hid (Pl.ev (ds.drop j) (q.drop j) = e) ∧ e ≤ N ∧ Hid (∀ t, t < j → ¬ q.getD t 0 + 1 < ds.getD t 0) ∧ Hid (FlS wb wb.heap.size g3 o3 g4 g5 g7 n N (fun t => sh.getD (n - 1 - t) 0) (fun t => Pl.prodP (sh.drop (n - t))) (Pl.Pz q n j) (Pl.dt da (fun i => Pl.ev ds (Pl.plR ds i)) (i + 1)) w2))
      case atStart => exact ⟨0, s, by omega, by go_num, rfl, HSE, by omega, fun t ht => by omega, FK⟩
      case round =>
        clear FK
        obtain ⟨j, e, hjg, rfl, rfl, HE, heN, HW, FS⟩ := hrel
        cases gk with
        | zero =>
          have jn : j = n := by omega
          have jz : ¬ ((0 : Int) ≤ (n : Int) - 1 - (j : Int)) := by omega
          have e0 : e = 0 := by
            rw [← HE.out, List.drop_eq_nil_of_le (by rw [HDL.out]; omega)]
            rfl
          have HV : Hid (Pl.ev ds (Pl.plR ds (i + 1)) = 0) := by
            show _ = _
            rw [← HINC.out]
            exact Pl.ev_inc_all ds q (by rw [HQL.out, HDL.out]) (fun t ht => HW.out t (by rw [HDL.out] at ht; omega))
          have FE : Hid (FlS wb wb.heap.size g3 o3 g4 g5 g7 n N (fun t => sh.getD (n - 1 - t) 0) (fun t => Pl.prodP (sh.drop (n - t))) (Pl.Pz (Pl.plR ds (i + 1)) n 0) (Pl.dt da (fun i => Pl.ev ds (Pl.plR ds i)) (i + 1)) wr) := FS.out.place fun t ht => by
            unfold Pl.Pz
            rw [if_pos (by omega), if_neg (by omega), ← HINC.out, Pl.incR_all ds q (by rw [HQL.out, HDL.out]) (fun t ht => HW.out t (by rw [HDL.out] at ht; omega))]
            rfl
          subst e0
          clear FS jn HE
          go_wp2_with fail
          go_roundg gg
          case rel => exact ⟨i + 1, by omega, by go_num, by rw [HV.out]; rfl, FE⟩
          case measure => omega
        | succ gi =>
          have hjn : j < n := by omega
          have jz : (0 : Int) ≤ (n : Int) - 1 - (j : Int) := by omega
          obtain ⟨t0, ht0⟩ : ∃ t0, n - 1 - j = t0 := ⟨_, rfl⟩
          have htj : n - 1 - t0 = j := by omega
          have htn : t0 < n := by omega
          have htc : (n : Int) - 1 - (j : Int) = (t0 : Int) := by omega
          have htc' : (t0 : Int) < (n : Int) := by omega
          obtain ⟨qj, hqj⟩ : ∃ qj, q.getD j 0 = qj := ⟨_, rfl⟩
          obtain ⟨st, hst⟩ : ∃ st, Pl.prdN (ds.drop (j + 1)) = st := ⟨_, rfl⟩
          obtain ⟨dj, hdj⟩ : ∃ dj, ds.getD j 0 = dj := ⟨_, rfl⟩
          have hqd : qj < dj := by rw [← hqj, ← hdj]; exact HQT.out j hjn
          have hstN : st ≤ N := by rw [← hst, ← HPN.out]; exact Pl.prdN_le HDP.out _
          have hdj1 : dj ≤ 1000 := by
            have h1 := Pl.shN_getD sh (fun x hx => (HNN.out x hx).1) j
            rw [HDS.out, hdj] at h1
            have h2 : sh.getD j 0 ∈ sh := by
              rw [List.getD, List.getElem?_eq_getElem (by rw [Hn.out]; exact hjn)]
              exact List.getElem_mem _
            have := (HNN.out _ h2).2
            omega
          obtain ⟨e', he'⟩ : ∃ e', Pl.ev (ds.drop (j + 1)) (q.drop (j + 1)) = e' := ⟨_, rfl⟩
          have HEE : Hid (e = qj * st + e') := by
            show _ = _
            rw [← HE.out, Pl.ev_at (by rw [HDL.out]; exact hjn) (by rw [HQL.out, HDL.out]), hqj, hst, he']
          have hen' : e' ≤ N := by
            have h1 := HEE.out
            have h2 := Nat.le_add_left e' (qj * st)
            omega
          have c5 : wr.cell? ⟨g5, t0, none⟩ = some (.int .i64 (qj : Int)) := by
            have := (FS.out.r5.2 t0 htn).1
            rw [Nat.zero_add] at this
            rw [this]
            unfold Pl.Pz
            rw [if_neg (by omega), htj, hqj]
          have f5 : wr.frozen? ⟨g5, t0, none⟩ = false := by have := (FS.out.r5.2 t0 htn).2; rw [Nat.zero_add] at this; exact this
          have c4 : wr.cell? ⟨g4, t0, none⟩ = some (.int .i64 (st : Int)) := by
            have := (FS.out.r4.2 t0 htn).1
            rw [Nat.zero_add] at this
            rw [this]
            show some (Value.int .i64 (Pl.prodP (sh.drop (n - t0)))) = _
            rw [show n - t0 = j + 1 by omega, ← Pl.prdN_eq _ (fun x hx => (HNN.out x (List.mem_of_mem_drop hx)).1), ← Pl.shN_drop, HDS.out, hst]
          have c3 : wr.cell? ⟨g3, o3 + t0, none⟩ = some (.int .i64 (dj : Int)) := by
            rw [(FS.out.r3.2 t0 htn).1]
            show some (Value.int .i64 (sh.getD (n - 1 - t0) 0)) = _
            rw [htj, ← Pl.shN_getD sh (fun x hx => (HNN.out x hx).1) j, HDS.out, hdj]
          have n45 : ¬ g4 = g5 := by omega
          have n35 : ¬ g3 = g5 := by omega
          have n54 : ¬ g5 = g4 := by omega
          have n53 : ¬ g5 = g3 := by omega
          have S1 : Hid (FlS wb wb.heap.size g3 o3 g4 g5 g7 n N (fun t => sh.getD (n - 1 - t) 0) (fun t => Pl.prodP (sh.drop (n - t))) (upd (Pl.Pz q n j) t0 ((qj : Int) + 1)) (Pl.dt da (fun i => Pl.ev ds (Pl.plR ds i)) (i + 1)) (wr.setCell ⟨g5, t0, none⟩ (.int .i64 ((qj : Int) + 1)))) := FS.out.set5 (by omega) h34 h45 h57 htn _
          by_cases hc : qj + 1 < dj
          · have hc' : (qj : Int) + 1 < (dj : Int) := by omega
            have hcd : decide ((qj : Int) + 1 < (dj : Int)) = true := decide_eq_true hc'
            have HV : Hid (Pl.ev ds (Pl.plR ds (i + 1)) = e + st) := by
              show _ = _
              rw [← HINC.out, Pl.ev_inc_at ds j q (by rw [HQL.out, HDL.out]) (by rw [HDL.out]; exact hjn) HW.out (by rw [hqj, hdj]; exact hc), hqj, hst, he', HEE.out, Nat.succ_mul]
              omega
            have FE : Hid (∀ qq, FlS wb wb.heap.size g3 o3 g4 g5 g7 n N (fun t => sh.getD (n - 1 - t) 0) (fun t => Pl.prodP (sh.drop (n - t))) (Pl.Pz (Pl.plR ds (i + 1)) n 0) (Pl.dt da (fun i => Pl.ev ds (Pl.plR ds i)) (i + 1)) ((wr.setCell ⟨g5, t0, none⟩ (.int .i64 ((qj : Int) + 1))).drewN qq)) := fun qq => (S1.out.place fun t ht => by
              have hin := Pl.incR_at ds j q (by rw [HQL.out, HDL.out]) (by rw [HDL.out]; exact hjn) HW.out (by rw [hqj, hdj]; exact hc) (n - 1 - t)
              rw [HINC.out] at hin
              unfold upd Pl.Pz
              rw [if_neg (show ¬ n - 0 ≤ t by omega), hin, hqj]
              by_cases h1 : t = t0
              · rw [if_pos h1, if_neg (by omega), if_pos (by omega)]
                rfl
              · rw [if_neg h1]
                by_cases h2 : n - j ≤ t
                · rw [if_pos h2, if_pos (by omega)]; rfl
                · rw [if_neg h2, if_neg (by omega), if_neg (by omega)]).drewN qq
            clear S1 FS hqj hst hdj he' ht0 htj HE
            go_wp2_with fail
            go_quiet (fail)
            go_wp2_with fail
            go_roundg gg
            case rel => exact ⟨i + 1, by omega, by go_num, by rw [HV.out]; go_num, FE.out _⟩
            case measure => omega
          · have hc' : ¬ (qj : Int) + 1 < (dj : Int) := by omega
            have hcd : decide ((qj : Int) + 1 < (dj : Int)) = false := decide_eq_false hc'
            have hdq : dj = qj + 1 := by omega
            obtain ⟨mm, hmm⟩ : ∃ mm : Nat, st * dj = mm := ⟨_, rfl⟩
            have hmm' : (st : Int) * (dj : Int) = (mm : Int) := by rw [← hmm]; exact (Int.natCast_mul st dj).symm
            have hem : e + st = mm + e' := by
              rw [← hmm, hdq, HEE.out, Nat.mul_add, Nat.mul_one, Nat.mul_comm st qj]
              omega
            have hmb : mm ≤ 1000000 := by
              rw [← hmm]
              exact Nat.le_trans (Nat.mul_le_mul hstN hdj1) (by omega)
            have HW' : Hid (∀ t, t < j + 1 → ¬ q.getD t 0 + 1 < ds.getD t 0) := fun t ht => by
              by_cases h1 : t = j
              · rw [h1, hqj, hdj]; exact hc
              · exact HW.out t (by omega)
            have HE' := hideP he'
            have S2 : Hid (∀ qq, FlS wb wb.heap.size g3 o3 g4 g5 g7 n N (fun t => sh.getD (n - 1 - t) 0) (fun t => Pl.prodP (sh.drop (n - t))) (Pl.Pz q n (j + 1)) (Pl.dt da (fun i => Pl.ev ds (Pl.plR ds i)) (i + 1)) (((wr.setCell ⟨g5, t0, none⟩ (.int .i64 ((qj : Int) + 1))).drewN qq).setCell ⟨g5, t0, none⟩ (.int .i64 0))) := fun qq => by
              have := (S1.out.drewN qq).set5 (by omega) h34 h45 h57 htn 0
              rw [Pl.upd_upd, ← ht0, Pl.Pz_zero q n j hjn, ht0] at this
              exact this
            clear S1 FS hqj hst hdj he' ht0 htj HE hmm hdq
            go_wp2_with fail
            go_quiet (fail)
            go_wp2_with fail
            go_quiet (fail)
            go_wp2_with fail
            go_roundg gi
            case rel => exact ⟨j + 1, e', by omega, by go_num, by congr 1; omega, HE', by omega, HW', S2.out _⟩
            case measure => omega

end Go.Proofs.Ytmobjomebmipdaa
