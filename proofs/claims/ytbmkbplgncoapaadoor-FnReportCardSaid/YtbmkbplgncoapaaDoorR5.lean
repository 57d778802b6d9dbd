import Derived.Test.YtbmkbplgncoapaaDoorR4
namespace Go.Proofs.YtbmkbplgncoapaaDoor
open Go.RowKit
set_option linter.unusedVariables false

set_option maxRecDepth 100000 in
set_option maxHeartbeats 8000000 in
/-- impl.ReadReport -/
theorem implRead_any (s : ByteArray) (w : World) (hl : s.size ≤ 1048576) (hev : Ev w) (hkw : Kw w) : Calls Tryd.prog 25 #[.string s] w (RrPost w (bl s)) := by
  have HE := hideP hev
  have HK := hideP hkw
  clear hev hkw
  obtain ⟨i0, hi, hz0, hz1, hz2⟩ := info_parts Tryd.info78
  go_enter Tryd.func25, Tryd.ntmps25
  go_wp2_with fail
  refine (split_nl s _ hl HE.out).mono ?_
  rintro e w1 ⟨done, rfl, ow, hdone, hb1⟩
  have OW := hideP ow
  have B1 := hideP hb1
  have hs1 := (ow.lt _ rfl).2
  have HLEN : Hid (∀ x ∈ done, x.size ≤ 1048576) := fun x hx => by
    have h1 : bl x ∈ Pl.cuts 10 (bl s) := by rw [← hdone]; exact List.mem_map_of_mem hx
    have h2 := Pl.cuts_len 10 (bl s) (bl x) h1
    rw [bl_len, bl_len] at h2
    omega
  have hdl : done.length ≤ 1048577 := by
    have := Pl.cuts_count 10 (bl s)
    rw [← hdone, List.length_map, bl_len] at this
    omega
  have HD := hideP hdone
  have HNA : Hid (done.length < 3 ∨ 23 < done.length → Pl.rdR (bl s) = none) := fun h => Pl.rdR_no fun id vs ha => by
    have hc := ha.cuts
    rw [← HD.out] at hc
    have := congrArg List.length hc
    simp [Pl.lins] at this
    have := ha.all.1
    omega
  clear ow hb1 hdone
  obtain ⟨n, hn⟩ : ∃ n, done.length = n := ⟨_, rfl⟩
  have Hn := hideP hn
  rw [hn] at hdl OW HNA ⊢
  clear hn
  by_cases h3 : n < 3
  · have h3' : (n : Int) - 3 < 0 := by omega
    have HZ := hideP (HNA.out (.inl h3))
    clear h3
    go_wp2_with fail
    go_ret3
    exact rr_no B1.out HZ.out
  by_cases h23 : 23 < n
  · have h3' : ¬ (n : Int) - 3 < 0 := by omega
    have h20' : (20 : Int) < (n : Int) - 3 := by omega
    have HZ := hideP (HNA.out (.inr h23))
    clear h3 h23
    go_wp2_with fail
    go_ret3
    exact rr_no B1.out HZ.out
  obtain ⟨m, rfl⟩ : ∃ m, n = m + 3 := ⟨n - 3, by omega⟩
  have hm : m ≤ 20 := by omega
  have e3 : ((m + 3 : Nat) : Int) - 3 = (m : Int) := by omega
  have h3' : ¬ (m : Int) < 0 := by omega
  have h20' : ¬ (20 : Int) < (m : Int) := by omega
  clear h3 h23 HNA hdl
  obtain ⟨x0, hx0⟩ : ∃ x, done[0]? = some x := ⟨_, List.getElem?_eq_getElem (by rw [Hn.out]; omega)⟩
  have z0 := HLEN.out x0 (List.mem_of_getElem? hx0)
  have c0 : w1.cell? ⟨w.heap.size, 0, none⟩ = some (.string x0) := by
    rw [OW.out.cellAt 0 (by omega), List.getElem?_map, hx0]
    rfl
  have HX0 := hideP hx0
  clear hx0
  go_wp2_with fail
  refine (trim_any x0 ⟨#[115, 116, 117, 100, 101, 110, 116, 32]⟩ _).mono ?_
  rintro e w' ⟨p, rfl, rfl, zp, hp⟩
  have HP : Hid (∀ y, done[0]? = some y → ∀ x, bl y = Pl.stu ++ x → bl p = x) := fun y hy x hx => by
    rw [HX0.out] at hy
    obtain rfl := Option.some.inj hy
    exact hp x hx
  have zp' : p.size ≤ 1048576 := by omega
  clear hp zp c0
  go_wp2_with (at_make; refine wpList_make_full _ rfl _ _ 39 rfl w.heap.size 78 i0 (.agg #[.int .i64 0, .int .i64 0]) 2 Tryd.underlying39 hi hz0 hz1 _ _ _ _ m rfl rfl ?b0 ?b1 ?b2 ?b3 ?b4 ?_)
  case b0 => omega
  case b1 => omega
  case b2 => rw [hz2]; omega
  case b3 => unfold maxLen; omega
  case b4 => exact Nat.le_of_lt hs1
  intro w2 hown hgrow
  have O2 : Hid (w2.ownsRow w.heap.size 78 2 (.slice (some ⟨w'.heap.size, 0, none⟩) m m) m (cellsV (upX [] m))) := by
    have : upX [] m = List.replicate m Pl.none2 := by simp [upX]
    rw [this, ← made_verdicts m]
    exact hown
  have B2 : Hid (Below w.heap.size w w2) := B1.out.grown hgrow (Nat.le_of_lt hs1) (by intro k h; cases h)
  have W2 : Hid (w2.ownsRow w.heap.size 9 1 (.slice (some ⟨w.heap.size, 0, none⟩) (m + 3) (m + 3)) (m + 3) (done.map Value.string)) := OW.out.kept hgrow (.inr (by simp [Value.ownBlock]))
  clear hgrow hown hi hz0 hz1 hz2 OW B1
  go_wp2_with fail
  go_loopw [31] (fun i wr => ∃ (k : Nat) (us : List Pl.Vt), k ≤ m ∧ i = .int .i64 (k : Int) ∧ Hid (us.length = k) ∧ Hid (wr.ownsRow w.heap.size 78 2 (.slice (some ⟨w'.heap.size, 0, none⟩) m m) m (cellsV (upX us m))) ∧ Hid (wr.ownsRow w.heap.size 9 1 (.slice (some ⟨w.heap.size, 0, none⟩) (m + 3) (m + 3)) (m + 3) (done.map Value.string)) ∧ Hid (Below w.heap.size w wr) ∧ Hid (∀ j t', us[j]? = some t' → ∀ x, done[j + 1]? = some x → ∀ v : Pl.Vt, Pl.vB v.1 v.2 = true → bl x = Pl.lin j v → t' = v)) (fun i _ => m - (intOf i).toNat)
  case atStart => exact ⟨0, [], Nat.zero_le _, rfl, rfl, O2, W2, B2, fun j t' h => by simp at h⟩
  case round =>
    obtain ⟨k, us, hk, rfl, hul, hO, hW, BB, hR⟩ := hrel
    clear O2 W2 B2
    by_cases hlt : k < m
    · have hlt' : (k : Int) < (m : Int) := by omega
      obtain ⟨x, hx⟩ : ∃ x, done[k + 1]? = some x := ⟨_, List.getElem?_eq_getElem (by rw [Hn.out]; omega)⟩
      have hxl := HLEN.out x (List.mem_of_getElem? hx)
      have HX := hideP hx
      have hc : wr.cell? ⟨w.heap.size, k + 1, none⟩ = some (.string x) := by
        rw [hW.out.cellAt (k + 1) (by omega), List.getElem?_map, hx]
        rfl
      clear hx
      go_wp2_with fail
      refine (readVerdict_any x _ hxl (HE.out.keep BB.out) (HK.out.keep BB.out)).mono ?_
      rintro e w3 ⟨hb3, tk, tc, rfl, hq⟩
      have O3 := hideP (owns_keep hO.out hb3)
      have W3 := hideP (owns_keep hW.out hb3)
      have B3 := hideP (BB.out.trans (hb3.mono BB.out.size))
      have hul' := hul.out
      have hg := cellsV_get (upX us m) k (by rw [upX_len _ _ (by omega)]; exact hlt)
      have hg0 := O3.out.cellAt (k * 2) (by omega)
      have hg1 := O3.out.cellAt (k * 2 + 1) (by omega)
      rw [hg.1] at hg0
      rw [hg.2] at hg1
      have hf0 := O3.out.frozenAt (k * 2)
      have hf1 := O3.out.frozenAt (k * 2 + 1)
      have hs0 := O3.out.stored (k * 2) (.int .i64 tk)
      have hs1' := hs0.1.stored (k * 2 + 1) (.int .i64 tc)
      have O4 : Hid (((w3.setCell ⟨w'.heap.size, k * 2, none⟩ (.int .i64 tk)).setCell ⟨w'.heap.size, k * 2 + 1, none⟩ (.int .i64 tc)).ownsRow w.heap.size 78 2 (.slice (some ⟨w'.heap.size, 0, none⟩) m m) m (cellsV (upX (us ++ [(tk, tc)]) m))) := by
        show World.ownsRow _ _ _ _ _ _ _
        have e := cellsV_set (upX us m) k (tk, tc)
        rw [upX_step us m k (tk, tc) hul' hlt] at e
        rw [← e]
        exact hs1'.1
      have W4 : Hid (((w3.setCell ⟨w'.heap.size, k * 2, none⟩ (.int .i64 tk)).setCell ⟨w'.heap.size, k * 2 + 1, none⟩ (.int .i64 tc)).ownsRow w.heap.size 9 1 (.slice (some ⟨w.heap.size, 0, none⟩) (m + 3) (m + 3)) (m + 3) (done.map Value.string)) :=
        (W3.out.kept hs0.2 (.inr (by simp [Value.ownBlock]; omega))).kept hs1'.2 (.inr (by simp [Value.ownBlock]; omega))
      have B4 : Hid (Below w.heap.size w ((w3.setCell ⟨w'.heap.size, k * 2, none⟩ (.int .i64 tk)).setCell ⟨w'.heap.size, k * 2 + 1, none⟩ (.int .i64 tc))) := (B3.out.setCell (Nat.le_of_lt hs1) _).setCell (Nat.le_of_lt hs1) _
      have HZ : Hid ((us ++ [(tk, tc)]).length = k + 1) := by show _ = _; rw [List.length_append, hul']; rfl
      have HR : Hid (∀ j t', (us ++ [(tk, tc)])[j]? = some t' → ∀ x, done[j + 1]? = some x → ∀ v : Pl.Vt, Pl.vB v.1 v.2 = true → bl x = Pl.lin j v → t' = v) := fun j t' hj y hy v hv e => by
        by_cases h : j < us.length
        · rw [List.getElem?_append_left h] at hj
          exact hR.out j t' hj y hy v hv e
        · have hlt2 := (List.getElem?_eq_some_iff.1 hj).1
          rw [List.length_append] at hlt2
          simp only [List.length_cons, List.length_nil] at hlt2
          obtain rfl : j = us.length := by omega
          rw [List.getElem?_append_right (Nat.le_refl _), Nat.sub_self] at hj
          have e1 : (tk, tc) = t' := by simpa using hj
          rw [hul'] at hy e
          rw [HX.out] at hy
          obtain rfl := Option.some.inj hy
          rw [← e1]
          exact hq k v hv e
      clear hs0 hs1' hg hb3 hq hul' hR
      go_wp2_with fail
      go_roundw
      case rel => exact ⟨k + 1, _, by omega, by go_num, HZ, O4, W4, B4, HR⟩
      case measure => simp [intOf]; omega
    · have hlt' : ¬ (k : Int) < (m : Int) := by omega
      have kn : k = m := by omega
      have hul' := hul.out
      have eu : upX us m = us := by unfold upX; rw [hul', kn, Nat.sub_self]; simp
      have hO' := hO.out
      rw [eu] at hO'
      have um : us.length = m := by omega
      have OU : Hid (wr.ownsRow w.heap.size 78 2 (.slice (some ⟨w'.heap.size, 0, none⟩) m m) us.length (cellsV us)) := by
        show World.ownsRow _ _ _ _ _ _ _
        rw [um]
        exact hO'
      have RU : Hid (RdV wr.heap.size wr (.slice (some ⟨w'.heap.size, 0, none⟩) m m) us) := by
        have h1 : wr.ownsRow w.heap.size 78 2 (.slice (some ⟨w'.heap.size, 0, none⟩) us.length us.length) us.length (cellsV us) := by rw [um]; exact hO'
        have h2 := rdV_of_own h1
        rw [um] at h2
        exact h2
      have HAC : Hid (∀ id vs, Pl.Acc (bl s) id vs → p = id ∧ us = vs) := fun id vs ha => acc_read HD.out (by rw [Hn.out, um]) HP.out hR.out ha
      have HR' := hideP (Pl.rdR_yes (t := bl s) (id := p) (vs := us))
      have L : us.length ≤ 1048576 := by omega
      clear kn eu hO' hO hR hul' um
      go_wp2_with fail
      refine (implReport_any p _ us _ zp' L (HE.out.keep BB.out).tab (HK.out.keep BB.out) RU.out).mono ?_
      rintro e w4 ⟨rfl, hb4⟩
      have B4 := hideP (BB.out.trans (hb4.mono BB.out.size))
      have O4 := hideP (owns_keep OU.out hb4)
      clear hb4
      cases hok : (Pl.idB p && Pl.vsB us) with
      | false =>
        have HN : Hid (Pl.rdR (bl s) = none) := Pl.rdR_no fun id vs ha => by
          obtain ⟨e1, e2⟩ := HAC.out id vs ha
          rw [e1, e2, ha.okI, ha.okV] at hok
          cases hok
        clear hok
        generalize Pl.rep p us = tx at *
        go_wp2_with fail
        go_ret3
        exact rr_no B4.out HN.out
      | true =>
        rw [Bool.and_eq_true] at hok
        have hrep : Pl.rep p us = ⟨(Pl.repL p.data.toList us).toArray⟩ := by unfold Pl.rep; rw [if_pos (by rw [hok.1, hok.2]; rfl)]
        by_cases hq : Pl.rep p us = s
        · have hq' : ((Pl.rep p us).toList == s.toList) = true := by rw [ba_eq]; exact decide_eq_true hq
          have HY : Hid (Pl.rdR (bl s) = some (p, us)) := HR'.out ⟨hok.1, hok.2, by rw [← hq, hrep]⟩
          clear hok hrep hq
          generalize Pl.rep p us = tx at *
          go_wp2_with fail
          refine (clone_any p _ zp').mono ?_
          rintro e w5 ⟨rfl, hb5⟩
          have B5 := hideP (B4.out.trans (hb5.mono B4.out.size))
          have O5 := hideP (owns_keep O4.out hb5)
          clear hb5
          go_wp2_with fail
          go_ret3
          exact rr_yes B5.out HY.out O5.out
        · have hq' : ((Pl.rep p us).toList == s.toList) = false := by rw [ba_eq]; exact decide_eq_false hq
          have HN : Hid (Pl.rdR (bl s) = none) := Pl.rdR_no fun id vs ha => by
            obtain ⟨e1, e2⟩ := HAC.out id vs ha
            apply hq
            rw [hrep]
            apply ByteArray.ext
            apply Array.toList_inj.1
            show Pl.repL p.data.toList us = bl s
            rw [e1, e2]
            exact ha.eq
          clear hok hrep hq
          generalize Pl.rep p us = tx at *
          go_wp2_with fail
          go_ret3
          exact rr_no B4.out HN.out

end Go.Proofs.YtbmkbplgncoapaaDoor
