import Derived.Test.YtmobjomebmipdaaFl5
namespace Go.Proofs.Ytmobjomebmipdaa
open Go.RowKit
set_option linter.unusedVariables false

set_option maxRecDepth 100000 in
set_option maxHeartbeats 4000000 in
/-- spec.l2Turned -/
theorem turned_any (v : Value) (zs : List Int) (w : World) (hl : zs.length ≤ 1000) (h : Rd w.heap.size w v zs) :
    Calls Try.prog 107 #[v] w fun e w' => ∃ u, e = .returned u ∧ w'.ownsRow w.heap.size 3 1 u zs.length (zs.reverse.map (Value.int .i64)) ∧ Below w.heap.size w w' := by
  obtain ⟨a1, d1, b1, o1, e1, hao1, hb1, hc1⟩ := h.parts
  subst e1
  have O0 : Hid ((w.alloc (.cells #[] 3)).ownsRow w.heap.size 3 1 (.slice (some ⟨w.heap.size, 0, none⟩) 0 0) 0 (([] : List Int).map (Value.int .i64))) := owns_empty w w.heap.size (Nat.le_refl _)
  have B0 : Hid (Below w.heap.size w (w.alloc (.cells #[] 3))) := (Below.refl _ _).alloc (Nat.le_refl _) _
  have HC := hideP hc1
  have HA := hideP hao1
  have HBL := hideP hb1
  clear h hc1 hao1 hb1
  obtain ⟨n, hn⟩ : ∃ n, zs.length = n := ⟨_, rfl⟩
  have Hn := hideP hn
  rw [hn] at hl HC HA HBL ⊢
  clear hn
  go_enter Try.func107, Try.ntmps107
  go_wp2_with fail
  go_loopw [3, 4] (fun ov vi wr => ∃ (j : Nat) (us : List Int), j ≤ n ∧ vi = .int .i64 ((n : Int) - 1 - (j : Int)) ∧ Hid (us = zs.reverse.take j) ∧ Hid (us.length = j) ∧ Hid (wr.ownsRow w.heap.size 3 1 ov us.length (us.map (Value.int .i64))) ∧ Hid (Below w.heap.size w wr)) (fun _ vi _ => ((intOf vi) + 1).toNat)
  case atStart => exact ⟨0, [], Nat.zero_le _, by go_num, rfl, rfl, O0, B0⟩
  case round =>
    clear O0 B0
    obtain ⟨j, us, hj, rfl, HU, HL, HO, BB⟩ := hrel
    obtain ⟨xo, yo, eo⟩ := owns_form HO.out
    subst eo
    by_cases hlt : j < n
    · have hlt' : (0 : Int) ≤ (n : Int) - 1 - (j : Int) := by omega
      obtain ⟨t, ht⟩ : ∃ t, n - 1 - j = t := ⟨_, rfl⟩
      have ht' : (n : Int) - 1 - (j : Int) = (t : Int) := by omega
      have htn : (t : Int) < (n : Int) := by omega
      have hao := HA.out (by omega)
      have cx : wr.cell? ⟨b1, o1 + t, none⟩ = some (.int .i64 (zs.getD t 0)) := (BB.out.cell (p := ⟨b1, o1 + t, none⟩) (HBL.out (by omega))).trans (HC.out t (by omega))
      have HU' : Hid (us ++ [zs.getD t 0] = zs.reverse.take (j + 1)) := by
        show _ = _
        rw [HU.out, List.take_add_one, List.getElem?_reverse (by rw [Hn.out]; exact hlt), Hn.out, ht, List.getD, List.getElem?_eq_getElem (by rw [Hn.out]; omega)]
        rfl
      subst hao
      generalize zs.getD t 0 = x at *
      have AL : Hid (Below wr.heap.size wr (wr.alloc (.cells #[.int .i64 x] 3))) := (Below.refl _ _).alloc (Nat.le_refl _) _
      have B4 := hideP (BB.out.trans (AL.out.mono BB.out.size))
      have O4 := hideP (owns_keep HO.out AL.out)
      have R4 : Hid (Rd (wr.heap.size + 1) (wr.alloc (.cells #[.int .i64 x] 3)) (.slice (some ⟨wr.heap.size, 0, none⟩) 1 1) [x]) := by
        have := (own_lit wr _ x (Below.refl _ _)).rd
        show Rd _ _ _ _
        simpa using this
      have hul : us.length ≤ 1000 := by rw [HL.out]; omega
      have hbs := BB.out.size
      obtain ⟨m, hm⟩ : ∃ m, us.length = m := ⟨_, rfl⟩
      have Hm := hideP hm
      rw [hm] at O4 hul ⊢
      clear hm HO
      have HT := hideP ht
      clear ht
      go_wp2_with (at_builtin; refine wpList_append_rd_at (base := w.heap.size) _ rfl (.tmp 13) (.tmp 18) rfl (.slice xo m yo) (.slice (some ⟨wr.heap.size, 0, none⟩) 1 1) rfl rfl m us [x] O4.out R4.out (by simp; omega) (by simp; omega) ?_)
      intro v5 w5 ho5 hg5 _
      have B5 : Hid (Below w.heap.size w w5) := B4.out.grown hg5 (by simp; omega) (fun k hk => (O4.out.lt k hk).1)
      have O5 : Hid (w5.ownsRow w.heap.size 3 1 v5 (us ++ [x]).length ((us ++ [x]).map (Value.int .i64))) := by
        show World.ownsRow _ _ _ _ _ _ _
        rw [List.length_append, Hm.out]
        simpa using ho5
      have L5 : Hid ((us ++ [x]).length = j + 1) := by show _ = _; rw [List.length_append, HL.out]; rfl
      clear ho5 hg5 O4 R4 B4
      go_wp2_with fail
      go_roundw
      case rel => exact ⟨j + 1, us ++ [x], by omega, by go_num, HU', L5, O5, B5⟩
      case measure => simp [intOf]; omega
    · have hlt' : ¬ (0 : Int) ≤ (n : Int) - 1 - (j : Int) := by omega
      have OE : Hid (wr.ownsRow w.heap.size 3 1 (.slice xo us.length yo) n (zs.reverse.map (Value.int .i64))) := by
        have h1 := HO.out
        have h2 : us = zs.reverse := by rw [HU.out, List.take_of_length_le (by rw [List.length_reverse, Hn.out]; omega)]
        rw [h2] at h1 ⊢
        rw [List.length_reverse, Hn.out] at h1 ⊢
        exact h1
      go_wp2_with fail
      go_ret
      refine ⟨_, rfl, ?_, BB.out⟩
      have := OE.out
      rw [List.map_reverse] at this
      exact this

/-- the places so far, from the last axis on -/
def plF (qs : List Nat) (n j : Nat) : Nat → Int := fun t => if n - j ≤ t then (qs.getD (n - 1 - t) 0 : Int) else 0
theorem plF_step {qs : List Nat} {n j : Nat} (h : j < n) : upd (plF qs n j) (n - 1 - j) (qs.getD j 0 : Int) = plF qs n (j + 1) := by
  funext t
  unfold upd plF
  by_cases h1 : t = n - 1 - j
  · rw [if_pos h1, if_pos (by omega), h1, show n - 1 - (n - 1 - j) = j by omega]
  · rw [if_neg h1]
    by_cases h2 : n - j ≤ t
    · rw [if_pos h2, if_pos (by omega)]
    · rw [if_neg h2, if_neg (by omega)]

set_option maxRecDepth 100000 in
set_option maxHeartbeats 4000000 in
/-- spec.l2Places, of a turned shape -/
theorem places_any (v : Value) (ds : List Nat) (zs : List Int) (i : Nat) (w : World) (hz : zs = (ds.map fun (d : Nat) => (d : Int)).reverse) (hpos : ∀ d ∈ ds, 0 < d) (hl : ds.length ≤ 1000) (hi : i ≤ 1000000) (h : Rd w.heap.size w v zs) :
    Calls Try.prog 109 #[v, .int .i64 (i : Int)] w fun e w' => e = .returned (.slice (some ⟨w.heap.size, 0, none⟩) ds.length ds.length) ∧ Rw w.heap.size 0 ds.length (fun t => ((Pl.plR ds i).getD (ds.length - 1 - t) 0 : Int)) w' ∧ Below w.heap.size w w' := by
  obtain ⟨a1, d1, b1, o1, e1, hao1, hb1, hc1⟩ := h.parts
  subst e1
  have hzl : zs.length = ds.length := by rw [hz]; simp
  have HC : Hid (∀ j, j < ds.length → a1 = some ⟨b1, o1, none⟩ ∧ b1 < w.heap.size ∧ w.cell? ⟨b1, o1 + (ds.length - 1 - j), none⟩ = some (.int .i64 (ds.getD j 0 : Int))) := fun j hj => by
    refine ⟨hao1 (by omega), hb1 (by omega), ?_⟩
    rw [hc1 (ds.length - 1 - j) (by omega)]
    congr 2
    rw [hz, List.getD, List.getElem?_reverse (by simp; omega), List.length_map, show ds.length - 1 - (ds.length - 1 - j) = j by omega, List.getElem?_map, List.getD, List.getElem?_eq_getElem hj]
    rfl
  have HP := hideP hpos
  obtain ⟨i0, hi', hz0, hz1, hz2⟩ := info_parts Try.info3
  have HI := hideP (And.intro hi' (And.intro hz0 (And.intro hz1 hz2)))
  obtain ⟨qs, hqs⟩ : ∃ qs, Pl.plR ds i = qs := ⟨_, rfl⟩
  have HQ := hideP hqs
  rw [hqs, hzl]
  obtain ⟨n, hn⟩ : ∃ n, ds.length = n := ⟨_, rfl⟩
  have Hn := hideP hn
  rw [hn] at hl HC ⊢
  clear hi' hz0 hz1 hz2 h hc1 hao1 hb1 hz hpos hqs hzl hn
  go_enter Try.func109, Try.ntmps109
  go_wp2_with (at_make; refine wpList_make_full _ rfl _ _ 22 rfl w.heap.size 3 i0 (.int .i64 0) 1 Try.underlying22 HI.out.1 HI.out.2.1 HI.out.2.2.1 _ _ _ _ n rfl rfl rfl rfl ?b2 ?b3 ?b4 ?_)
  case b2 => rw [HI.out.2.2.2]; omega
  case b3 => unfold maxLen; omega
  case b4 => exact Nat.le_refl _
  intro w1 hown hgrow
  rw [made_zeros] at hown
  have B1 : Hid (Below w.heap.size w w1) := (Below.refl _ _).grown hgrow (Nat.le_refl _) (by intro k h; cases h)
  have R1 : Hid (Rw w.heap.size 0 n (plF qs n 0) w1) := by
    have h1 : w1.ownsRow w.heap.size 3 1 (.slice (some ⟨w.heap.size, 0, none⟩) n n) n ((List.replicate n (0 : Int)).map (Value.int .i64)) := by simpa using hown
    refine (rw_of_own h1 (by simp)).congr fun t ht => ?_
    unfold plF
    rw [if_neg (by omega)]
    simp [List.getD, ht]
  clear hown hgrow
  go_wp2_with fail
  go_loopw [1, 6] (fun vi vk wr => ∃ (j ij : Nat), j ≤ n ∧ ij ≤ 1000000 ∧ vk = .int .i64 ((n : Int) - 1 - (j : Int)) ∧ vi = .int .i64 (ij : Int) ∧ Hid (qs.drop j = Pl.plR (ds.drop j) ij) ∧ Hid (Rw w.heap.size 0 n (plF qs n j) wr) ∧ Hid (Below w.heap.size w wr)) (fun _ vk _ => ((intOf vk) + 1).toNat)
  case atStart => exact ⟨0, i, Nat.zero_le _, hi, by go_num, rfl, HQ.out.symm, R1, B1⟩
  case round =>
    clear R1 B1
    obtain ⟨j, ij, hj, hij, rfl, rfl, HD, RR, BB⟩ := hrel
    by_cases hlt : j < n
    · have hlt' : (0 : Int) ≤ (n : Int) - 1 - (j : Int) := by omega
      obtain ⟨t, ht⟩ : ∃ t, n - 1 - j = t := ⟨_, rfl⟩
      have ht' : (n : Int) - 1 - (j : Int) = (t : Int) := by omega
      have htn : (t : Int) < (n : Int) := by omega
      obtain ⟨rfl, hbl, hcell⟩ := HC.out j hlt
      obtain ⟨dj, hdj⟩ : ∃ dj, ds.getD j 0 = dj := ⟨_, rfl⟩
      rw [hdj, ht] at hcell
      have cx : wr.cell? ⟨b1, o1 + t, none⟩ = some (.int .i64 (dj : Int)) := (BB.out.cell (p := ⟨b1, o1 + t, none⟩) hbl).trans hcell
      have hds : ds.drop j = dj :: ds.drop (j + 1) := by
        rw [List.drop_eq_getElem_cons (by rw [Hn.out]; exact hlt), ← hdj, List.getD, List.getElem?_eq_getElem (by rw [Hn.out]; exact hlt)]
        rfl
      have hpd : 0 < dj := HP.out dj (List.mem_of_mem_drop (i := j) (by rw [hds]; simp))
      have hD := HD.out
      rw [hds, Pl.plR] at hD
      have HQJ : Hid (qs.getD j 0 = ij % dj) := by
        show _ = _
        have h1 := congrArg (fun l => l.getD 0 0) hD
        simp only [List.getD, List.getElem?_drop] at h1
        rw [List.getD]
        exact h1
      have HD' : Hid (qs.drop (j + 1) = Pl.plR (ds.drop (j + 1)) (ij / dj)) := by
        show _ = _
        rw [← List.tail_drop, hD]
        rfl
      obtain ⟨mj, hmj⟩ : ∃ mj, ij % dj = mj := ⟨_, rfl⟩
      obtain ⟨ej, hej⟩ : ∃ ej, ij / dj = ej := ⟨_, rfl⟩
      have hmi : (ij : Int) % (dj : Int) = (mj : Int) := by rw [← hmj]; exact (Int.natCast_emod ij dj).symm
      have hei : (ij : Int) / (dj : Int) = (ej : Int) := by rw [← hej]; exact (Int.natCast_ediv ij dj).symm
      have hejl : ej ≤ 1000000 := by rw [← hej]; exact Nat.le_trans (Nat.div_le_self _ _) hij
      have hd0 : ¬ ((dj : Int) = 0) := by omega
      have hdp : (0 : Int) < (dj : Int) := by omega
      rw [hmj] at HQJ
      rw [hej] at HD'
      have fx : wr.frozen? ⟨w.heap.size, t, none⟩ = false := by have := (RR.out.2 t (by omega)).2; rw [Nat.zero_add] at this; exact this
      have cf : ∃ y, wr.cell? ⟨w.heap.size, t, none⟩ = some (.int .i64 y) := ⟨_, by have := (RR.out.2 t (by omega)).1; rw [Nat.zero_add] at this; exact this⟩
      obtain ⟨y, cf⟩ := cf
      have cx2 : (wr.setCell ⟨w.heap.size, t, none⟩ (.int .i64 (mj : Int))).cell? ⟨b1, o1 + t, none⟩ = some (.int .i64 (dj : Int)) := by rw [World.cell?_setCell_far _ _ _ _ (by show w.heap.size ≠ b1; omega)]; exact cx
      have RN : Hid (Rw w.heap.size 0 n (plF qs n (j + 1)) (wr.setCell ⟨w.heap.size, t, none⟩ (.int .i64 (mj : Int)))) := by
        have := RR.out.set (k := t) (mj : Int) (by omega)
        rw [Nat.zero_add, ← ht, ← HQJ.out, plF_step hlt, HQJ.out, ht] at this
        exact this
      have BN : Hid (Below w.heap.size w (wr.setCell ⟨w.heap.size, t, none⟩ (.int .i64 (mj : Int)))) := BB.out.setCell (by simp) _
      have HT := hideP ht
      clear ht hD hds hdj hmj hej RR hcell
      go_wp2_with fail
      go_roundw
      case rel => exact ⟨j + 1, ej, by omega, hejl, by have := HT.out; congr 1; omega, rfl, HD', RN, BN⟩
      case measure => have := HT.out; simp [intOf]; omega
    · have hlt' : ¬ (0 : Int) ≤ (n : Int) - 1 - (j : Int) := by omega
      have RE : Hid (Rw w.heap.size 0 n (fun t => (qs.getD (n - 1 - t) 0 : Int)) wr) := RR.out.congr fun t ht => by
        unfold plF
        rw [if_pos (by omega)]
      go_wp2_with fail
      go_ret
      exact ⟨rfl, RE.out, BB.out⟩

set_option maxRecDepth 100000 in
set_option maxHeartbeats 4000000 in
/-- spec.l2Cell -/
theorem cell_any (b0 o0 c0 b1 o1 c1 : Nat) (v2 : Value) (sh da : List Int) (ds qs : List Nat) (w : World) (h0 : Rd w.heap.size w (.slice (some ⟨b0, o0, none⟩) sh.length c0) sh) (h1 : Rd w.heap.size w (.slice (some ⟨b1, o1, none⟩) da.length c1) da) (h2 : Rd w.heap.size w v2 (qs.map fun (q : Nat) => (q : Int))) (hds : sh = ds.map fun (d : Nat) => (d : Int)) (hql : qs.length = ds.length) (hq : ∀ t, t < ds.length → qs.getD t 0 < ds.getD t 0) (hpos : ∀ d ∈ ds, 0 < d) (hN : Pl.prdN ds = da.length) (hm : da.length ≤ 1000) (hl : ds.length ≤ 3) :
    Calls Try.prog 108 #[.agg #[.slice (some ⟨b0, o0, none⟩) sh.length c0, .slice (some ⟨b1, o1, none⟩) da.length c1], v2] w fun e w' => e = .returned (.int .i64 (da.getD (Pl.ev ds qs) 0)) ∧ Below w.heap.size w w' := by
  have hsl : sh.length = ds.length := by rw [hds]; simp
  have HC0 : Hid (∀ j, j < ds.length → b0 < w.heap.size ∧ w.cell? ⟨b0, o0 + j, none⟩ = some (.int .i64 (ds.getD j 0 : Int))) := fun j hj => by
    have := rd_cell h0 (i := j) (by omega)
    refine ⟨this.1, this.2.trans ?_⟩
    congr 2
    rw [hds, List.getD, List.getElem?_map, List.getD, List.getElem?_eq_getElem hj]
    rfl
  obtain ⟨a2, d2, b2, o2, e2, hao2, hb2, hc2⟩ := h2.parts
  have hml : (qs.map fun (q : Nat) => (q : Int)).length = ds.length := by rw [List.length_map, hql]
  rw [hml] at e2 hao2 hb2 hc2
  subst e2
  have HC2 : Hid (∀ j, j < ds.length → a2 = some ⟨b2, o2, none⟩ ∧ b2 < w.heap.size ∧ w.cell? ⟨b2, o2 + j, none⟩ = some (.int .i64 (qs.getD j 0 : Int))) := fun j hj => by
    refine ⟨hao2 (by omega), hb2 (by omega), (hc2 j hj).trans ?_⟩
    congr 2
    rw [List.getD, List.getElem?_map, List.getD, List.getElem?_eq_getElem (show j < qs.length by omega)]
    rfl
  have hev : Pl.ev ds qs < da.length := by rw [← hN]; exact Pl.ev_lt ds hpos qs hql hq
  have HC1 : Hid (b1 < w.heap.size ∧ w.cell? ⟨b1, o1 + Pl.ev ds qs, none⟩ = some (.int .i64 (da.getD (Pl.ev ds qs) 0))) := rd_cell h1 (i := Pl.ev ds qs) hev
  have HPD := hideP hpos
  have HQT := hideP hq
  have HQL := hideP hql
  have AL : Hid (Below w.heap.size w (w.alloc (.cells #[.slice (some ⟨b0, o0, none⟩) sh.length c0, .slice (some ⟨b1, o1, none⟩) da.length c1] 27))) := (Below.refl _ _).alloc (Nat.le_refl _) _
  have CV : Hid ((w.alloc (.cells #[.slice (some ⟨b0, o0, none⟩) sh.length c0, .slice (some ⟨b1, o1, none⟩) da.length c1] 27)).cell? ⟨w.heap.size, 0, none⟩ = some (.slice (some ⟨b0, o0, none⟩) sh.length c0) ∧ (w.alloc (.cells #[.slice (some ⟨b0, o0, none⟩) sh.length c0, .slice (some ⟨b1, o1, none⟩) da.length c1] 27)).cell? ⟨w.heap.size, 1, none⟩ = some (.slice (some ⟨b1, o1, none⟩) da.length c1)) := ⟨by simp [go_sem], by simp [go_sem]⟩
  obtain ⟨ee, hee⟩ : ∃ ee, Pl.ev ds qs = ee := ⟨_, rfl⟩
  have HEE := hideP hee
  have HDB : Hid (∀ j, j < ds.length → ds.getD j 0 ≤ 1000) := fun j hj => by
    have h1 : ds.getD j 0 ≤ Pl.prdN ds := by
      have h2 := Pl.prdN_le hpos j
      rw [List.drop_eq_getElem_cons hj] at h2
      have h3 : 0 < Pl.prdN (ds.drop (j + 1)) := Pl.prd_pos _ fun d hd => hpos d (List.mem_of_mem_drop hd)
      have h4 : ds[j] * Pl.prdN (ds.drop (j + 1)) ≤ Pl.prdN ds := h2
      have h5 := Nat.le_mul_of_pos_right ds[j] h3
      rw [List.getD, List.getElem?_eq_getElem hj]
      show ds[j] ≤ _
      omega
    omega
  rw [hee] at hev HC1 ⊢
  obtain ⟨x, hx⟩ : ∃ x, da.getD ee 0 = x := ⟨_, rfl⟩
  rw [hx] at HC1 ⊢
  rw [hsl] at AL CV ⊢
  clear h0 h1 h2 hds hpos hq hql hee hx hsl hN hao2 hb2 hc2 hml
  obtain ⟨n, hn⟩ : ∃ n, ds.length = n := ⟨_, rfl⟩
  have Hn := hideP hn
  rw [hn] at hl HC0 HC2 HDB AL CV ⊢
  clear hn
  generalize da.length = N at *
  go_enter Try.func108, Try.ntmps108
  go_wp2_with fail
  generalize (w.alloc (.cells #[.slice (some ⟨b0, o0, none⟩) n c0, .slice (some ⟨b1, o1, none⟩) N c1] 27)) = wa at *
  go_loopw [5, 6] (fun va vk wr => ∃ (j acc : Nat), j ≤ n ∧ acc ≤ 1000 ∧ vk = .int .i64 (j : Int) ∧ va = .int .i64 (acc : Int) ∧ Hid (acc * Pl.prdN (ds.drop j) + Pl.ev (ds.drop j) (qs.drop j) = ee) ∧ Hid (wr.cell? ⟨w.heap.size, 0, none⟩ = some (.slice (some ⟨b0, o0, none⟩) n c0) ∧ wr.cell? ⟨w.heap.size, 1, none⟩ = some (.slice (some ⟨b1, o1, none⟩) N c1)) ∧ Hid (Below w.heap.size w wr)) (fun _ vk _ => n - (intOf vk).toNat)
  case atStart => exact ⟨0, 0, Nat.zero_le _, by omega, rfl, rfl, by show _ = _; rw [Nat.zero_mul, Nat.zero_add]; exact HEE.out, CV, AL⟩
  case round =>
    clear CV AL
    obtain ⟨j, acc, hj, hacc, rfl, rfl, HA, CV, BB⟩ := hrel
    by_cases hlt : j < n
    · have hlt' : (j : Int) < (n : Int) := by omega
      obtain ⟨dj, hdj⟩ : ∃ dj, ds.getD j 0 = dj := ⟨_, rfl⟩
      obtain ⟨qj, hqj⟩ : ∃ qj, qs.getD j 0 = qj := ⟨_, rfl⟩
      have cx : wr.cell? ⟨b0, o0 + j, none⟩ = some (.int .i64 (dj : Int)) := by rw [← hdj]; exact (BB.out.cell (p := ⟨b0, o0 + j, none⟩) (HC0.out j hlt).1).trans (HC0.out j hlt).2
      obtain ⟨ea2, hbl2, hcl2⟩ := HC2.out j hlt
      have cq : wr.cell? ⟨b2, o2 + j, none⟩ = some (.int .i64 (qj : Int)) := by rw [← hqj]; exact (BB.out.cell (p := ⟨b2, o2 + j, none⟩) hbl2).trans hcl2
      subst ea2
      clear hbl2 hcl2
      have hdj1 : dj ≤ 1000 := by rw [← hdj]; exact HDB.out j hlt
      have hqd : qj < dj := by rw [← hqj, ← hdj]; exact HQT.out j (by rw [Hn.out]; exact hlt)
      obtain ⟨mm, hmm⟩ : ∃ mm, acc * dj = mm := ⟨_, rfl⟩
      have hmm' : (acc : Int) * (dj : Int) = (mm : Int) := by rw [← hmm]; exact (Int.natCast_mul acc dj).symm
      have hmb : mm ≤ 1000000 := by rw [← hmm]; exact Nat.le_trans (Nat.mul_le_mul hacc hdj1) (by omega)
      have hds : ds.drop j = dj :: ds.drop (j + 1) := by
        rw [List.drop_eq_getElem_cons (by rw [Hn.out]; exact hlt), ← hdj, List.getD, List.getElem?_eq_getElem (by rw [Hn.out]; exact hlt)]
        rfl
      have HA' : Hid ((mm + qj) * Pl.prdN (ds.drop (j + 1)) + Pl.ev (ds.drop (j + 1)) (qs.drop (j + 1)) = ee) := by
        show _ = _
        rw [← HA.out, Pl.ev_at (ds := ds) (qs := qs) (j := j) (by rw [Hn.out]; exact hlt) HQL.out, hqj, hds, ← hmm]
        show _ = acc * (dj * Pl.prdN (ds.drop (j + 1))) + _
        rw [Nat.add_mul, Nat.mul_assoc]
        omega
      have hacc' : mm + qj ≤ 1000 := by
        have h3 : 0 < Pl.prdN (ds.drop (j + 1)) := Pl.prd_pos _ fun d hd => HPD.out d (List.mem_of_mem_drop hd)
        have h5 := Nat.le_mul_of_pos_right (mm + qj) h3
        have h6 := HA'.out
        omega
      have c0' := CV.out.1
      have DV : Hid (∀ m, ((wr.drewN m).cell? ⟨w.heap.size, 0, none⟩ = some (.slice (some ⟨b0, o0, none⟩) n c0) ∧ (wr.drewN m).cell? ⟨w.heap.size, 1, none⟩ = some (.slice (some ⟨b1, o1, none⟩) N c1)) ∧ Below w.heap.size w (wr.drewN m)) := fun m => ⟨CV.out, below_drewN BB.out m⟩
      clear hdj hqj hmm hds HA
      go_wp2_with fail
      go_quiet (fail)
      go_wp2_with fail
      go_roundw
      case rel => exact ⟨j + 1, mm + qj, by omega, hacc', by go_num, by go_num, HA', (DV.out _).1, (DV.out _).2⟩
      case measure => simp [intOf]; omega
    · have hlt' : ¬ (j : Int) < (n : Int) := by omega
      have hae : acc = ee := by
        have h1 := HA.out
        rw [List.drop_eq_nil_of_le (by rw [Hn.out]; omega)] at h1
        have h2 : acc * 1 + 0 = ee := h1
        omega
      have cx : wr.cell? ⟨b1, o1 + ee, none⟩ = some (.int .i64 x) := (BB.out.cell (p := ⟨b1, o1 + ee, none⟩) HC1.out.1).trans HC1.out.2
      have c1' := CV.out.2
      have hel : (ee : Int) < (N : Int) := by omega
      subst hae
      go_wp2_with fail
      go_ret
      exact ⟨rfl, BB.out⟩

end Go.Proofs.Ytmobjomebmipdaa
