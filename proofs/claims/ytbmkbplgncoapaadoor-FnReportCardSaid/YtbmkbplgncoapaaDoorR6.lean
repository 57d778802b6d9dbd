import Derived.Test.YtbmkbplgncoapaaDoorR5
namespace Go.Proofs.YtbmkbplgncoapaaDoor
open Go.RowKit
set_option linter.unusedVariables false

theorem owns_formz {base n z : Nat} {e : TypeId} {w : World} {v : Value} {xs : List Value} (h : w.ownsRow base e z v n xs) : ∃ xo yo, v = .slice xo n yo := by
  rcases h.2 with ⟨e, h0⟩ | ⟨g, cp, cur, e, _⟩
  · exact ⟨none, 0, by rw [h0]; exact e⟩
  · exact ⟨_, _, e⟩

theorem lin_after {j : Nat} {x h p : ByteArray} {v t : Pl.Vt} (hh : bl h = [116, 101, 115, 116, 32] ++ Lib.itoa ((j : Int) + 1) ++ [32]) (hp : ∀ y, bl x = bl h ++ y → bl p = y) (hq : VRd p t) (hv : Pl.vB v.1 v.2 = true) (e : bl x = Pl.lin j v) : t = v := by
  refine hq v hv (hp _ ?_)
  rw [e, hh]
  unfold Pl.lin
  rfl

set_option maxRecDepth 100000 in
set_option maxHeartbeats 16000000 in
/-- spec.ReadReport -/
theorem specRead_any (s : ByteArray) (w : World) (hl : s.size ≤ 1048576) : Calls Tryd.prog 24 #[.string s] w (RrPost w (bl s)) := by
  obtain ⟨i0, hi, hz0, hz1, hz2⟩ := info_parts Tryd.info78
  have A1 : Hid (Below w.heap.size w (w.alloc (.cells #[] 78))) := (Below.refl _ _).alloc (Nat.le_refl _) _
  by_cases hlong : 2000 < s.size
  · have hlong' : (2000 : Int) < (s.size : Int) := by omega
    have HN : Hid (Pl.rdR (bl s) = none) := Pl.rdR_no fun id vs ha => by
      have := Pl.acc_len ha
      rw [bl_len] at this
      omega
    clear hi hz0 hz1 hz2
    go_enter Tryd.func24, Tryd.ntmps24
    go_wp2_with fail
    go_ret3
    exact rr_no A1.out HN.out
  have hlong' : ¬ (2000 : Int) < (s.size : Int) := by omega
  have HI := hideP hi
  have HZ0 := hideP hz0
  have HZ1 := hideP hz1
  have HZ2 := hideP hz2
  clear hi hz0 hz1 hz2
  go_enter Tryd.func24, Tryd.ntmps24
  go_wp2_with fail
  refine (l1Cut_any s 10 10 rfl _ hl).mono ?_
  rintro e w1 ⟨vw, done, rfl, ow, hdone, hb1⟩
  have OW := hideP (owns_base ow A1.out.size)
  have B1 := hideP (A1.out.trans (hb1.mono A1.out.size))
  have HLEN : Hid (∀ x ∈ done, x.size ≤ 1048576) := fun x hx => by
    have h1 : bl x ∈ Pl.cuts 10 (bl s) := by rw [← hdone]; exact List.mem_map_of_mem hx
    have h2 := Pl.cuts_len 10 (bl s) (bl x) h1
    rw [bl_len, bl_len] at h2
    omega
  have hdl : done.length ≤ 2001 := by
    have := Pl.cuts_count 10 (bl s)
    rw [← hdone, List.length_map, bl_len] at this
    omega
  have HD := hideP hdone
  have HNA : Hid (done.length < 3 → Pl.rdR (bl s) = none) := fun h => Pl.rdR_no fun id vs ha => by
    have hc := ha.cuts
    rw [← HD.out] at hc
    have := congrArg List.length hc
    simp [Pl.lins] at this
    omega
  obtain ⟨xw, yw, ew⟩ := owns_form ow
  subst ew
  clear ow hb1 hdone A1
  obtain ⟨n, hn⟩ : ∃ n, done.length = n := ⟨_, rfl⟩
  have Hn := hideP hn
  rw [hn] at hdl OW HNA ⊢
  clear hn
  by_cases h3 : n < 3
  · have h3' : (n : Int) < 3 := by omega
    have HZ := hideP (HNA.out h3)
    clear h3
    go_wp2_with fail
    go_ret3
    exact rr_no B1.out HZ.out
  have h3' : ¬ (n : Int) < 3 := by omega
  obtain ⟨gw, eg⟩ : ∃ gw, xw = some ⟨gw, 0, none⟩ := by
    rcases OW.out.2 with ⟨e, h0⟩ | ⟨g, cp, cur, e, _⟩
    · omega
    · injection e with e1 _ _
      exact ⟨g, e1⟩
  subst eg
  obtain ⟨x0, hx0⟩ : ∃ x, done[0]? = some x := ⟨_, List.getElem?_eq_getElem (by rw [Hn.out]; omega)⟩
  have z0 := HLEN.out x0 (List.mem_of_getElem? hx0)
  have c0 : w1.cell? ⟨gw, 0, none⟩ = some (.string x0) := by
    rw [OW.out.cellAt 0 (by omega), List.getElem?_map, hx0]
    rfl
  have HX0 := hideP hx0
  clear hx0 HNA
  go_wp2_with fail
  refine (l6After_any x0 ⟨#[115, 116, 117, 100, 101, 110, 116, 32]⟩ _ z0 (by decide)).mono ?_
  rintro e w' ⟨p, rfl, rfl, zp, hp⟩
  have HP : Hid (∀ y, done[0]? = some y → ∀ x, bl y = Pl.stu ++ x → bl p = x) := fun y hy x hx => by
    rw [HX0.out] at hy
    obtain rfl := Option.some.inj hy
    exact hp x hx
  have zp' : p.size ≤ 1048576 := by omega
  obtain ⟨m, hm⟩ : ∃ m, n = m + 3 := ⟨n - 3, by omega⟩
  have hm2 : m ≤ 2000 := by omega
  have AL2 : Hid (Below w'.heap.size w' (w'.alloc (.cells #[] 78))) := (Below.refl _ _).alloc (Nat.le_refl _) _
  have O2 : Hid ((w'.alloc (.cells #[] 78)).ownsRow w.heap.size 78 2 (.slice (some ⟨w'.heap.size, 0, none⟩) 0 0) ([] : List Pl.Vt).length (cellsV [])) := World.ownsRow_lit w' #[] 0 B1.out.size (by unfold maxLen; omega) rfl
  have W2 := hideP (owns_keep OW.out AL2.out)
  have B2 := hideP (B1.out.trans (AL2.out.mono B1.out.size))
  have HM := hideP hm
  clear hp zp c0 OW B1 AL2 hm
  go_wp2_with fail
  go_loopw [8, 9] (fun ov i wr => ∃ (j : Nat) (us : List Pl.Vt), j ≤ m ∧ i = .int .i64 ((j : Int) + 1) ∧ Hid (us.length = j) ∧ Hid (wr.ownsRow w.heap.size 78 2 ov us.length (cellsV us)) ∧ Hid (wr.ownsRow w.heap.size 9 1 (.slice (some ⟨gw, 0, none⟩) n yw) n (done.map Value.string)) ∧ Hid (Below w.heap.size w wr) ∧ Hid (∀ j t', us[j]? = some t' → ∀ x, done[j + 1]? = some x → ∀ v : Pl.Vt, Pl.vB v.1 v.2 = true → bl x = Pl.lin j v → t' = v)) (fun _ i _ => m + 1 - (intOf i).toNat)
  case atStart => exact ⟨0, [], Nat.zero_le _, rfl, rfl, O2, W2, B2, fun j t' h => by simp at h⟩
  case round =>
    obtain ⟨j, us, hj, rfl, hul, hO, hW, BB, hR⟩ := hrel
    clear O2 W2 B2
    obtain ⟨xo, yo, eo⟩ := owns_formz hO.out
    subst eo
    by_cases hlt : j < m
    · have hlt' : (j : Int) + 1 + 2 < (n : Int) := by have := HM.out; omega
      have hjn : (j : Int) + 1 < (n : Int) := by have := HM.out; omega
      obtain ⟨x, hx⟩ : ∃ x, done[j + 1]? = some x := ⟨_, List.getElem?_eq_getElem (by rw [Hn.out]; have := HM.out; omega)⟩
      have hxl := HLEN.out x (List.mem_of_getElem? hx)
      have HX := hideP hx
      have hc : ∀ W : World, W.ownsRow w.heap.size 9 1 (.slice (some ⟨gw, 0, none⟩) n yw) n (done.map Value.string) → W.cell? ⟨gw, j + 1, none⟩ = some (.string x) := fun W hWW => by
        rw [hWW.cellAt (j + 1) (by have := HM.out; omega), List.getElem?_map, hx]
        rfl
      have HC := hideP hc
      have KD : Hid (∀ W, Calls Tryd.prog 56 #[.int .i64 ((j : Int) + 1)] W fun e w' => e = .returned (.string (wrd ((j : Int) + 1))) ∧ Below W.heap.size W w') := fun W => l1Dec_any _ W (by omega) (by omega)
      have HH : Hid (bl (⟨#[116, 101, 115, 116, 32]⟩ ++ wrd ((j : Int) + 1) ++ ⟨#[32]⟩) = [116, 101, 115, 116, 32] ++ Lib.itoa ((j : Int) + 1) ++ [32]) := by show _ = _; unfold wrd; simp
      have zd : (wrd ((j : Int) + 1)).size ≤ 21 := by
        have := Lib.itoa_length_le ((j : Int) + 1) (by omega) (by omega)
        show (Lib.itoa _).toArray.size ≤ 21
        rw [List.size_toArray]; exact this
      have n1 : ¬ 9223372036854775807 < 5 + (wrd ((j : Int) + 1)).size := by omega
      have n2 : ¬ 9223372036854775807 < 5 + (wrd ((j : Int) + 1)).size + 1 := by omega
      have zh : (⟨#[116, 101, 115, 116, 32]⟩ ++ wrd ((j : Int) + 1) ++ ⟨#[32]⟩ : ByteArray).size ≤ 1048576 := by
        simp only [ByteArray.size_append]
        have e1 : (⟨#[116, 101, 115, 116, 32]⟩ : ByteArray).size = 5 := rfl
        have e3 : (⟨#[32]⟩ : ByteArray).size = 1 := rfl
        omega
      have KA := hideP (fun W => l6After_any x (⟨#[116, 101, 115, 116, 32]⟩ ++ wrd ((j : Int) + 1) ++ ⟨#[32]⟩) W hxl zh)
      clear hx hc zd zh hxl
      generalize wrd ((j : Int) + 1) = sd at *
      have B2 : Hid (Below w.heap.size w wr.drew) := BB.out.drew
      have O2 : Hid (wr.drew.ownsRow w.heap.size 78 2 (.slice xo us.length yo) us.length (cellsV us)) := hO.out
      have W2 : Hid (wr.drew.ownsRow w.heap.size 9 1 (.slice (some ⟨gw, 0, none⟩) n yw) n (done.map Value.string)) := hW.out
      go_wp2_with fail
      refine wp_region_held (S := fun W => W.cell? ⟨gw, j + 1, none⟩ = some (.string x)) (by kernel_rfl) ?_
      change wpAnyH _ _ _ _ _ _ _ _ (World.drew _)
      generalize World.drew wr = w2 at *
      have S2 := HC.out w2 W2.out
      refine wpAnyH_take (i := 0) (v := .slice xo us.length yo) rfl (by kernel_rfl) (by kernel_rfl) (by kernel_rfl) (fun _ _ _ h => h) (Or.inl ⟨by rfl, ?_⟩) S2 ?_
      · intro w' hS
        clear hS
        go_simp
      refine wpAnyH_take (i := 1) (v := .slice (some ⟨gw, 0, none⟩) n yw) rfl (by kernel_rfl) (by kernel_rfl) (by kernel_rfl) (fun _ _ _ h => h) (Or.inl ⟨by rfl, ?_⟩) S2 ?_
      · intro w' hS
        clear hS
        go_simp
      refine wpAnyH_take (i := 2) (v := .int .i64 ((j : Int) + 1)) rfl (by kernel_rfl) (by kernel_rfl) (by kernel_rfl) (fun _ _ _ h => h) (Or.inl ⟨by rfl, ?_⟩) S2 ?_
      · intro w' hS
        clear hS
        go_simp
      refine wpAnyH_take (i := 3) (v := .pointer (some ⟨gw, j + 1, none⟩)) rfl (by kernel_rfl) (by kernel_rfl) (by kernel_rfl) (fun _ _ _ h => h) (Or.inl ⟨by rfl, ?_⟩) S2 ?_
      · intro w' hS
        clear hS
        go_simp
        intro hbad
        exfalso
        omega
      refine wpAnyH_take (i := 4) (v := .string x) rfl (by kernel_rfl) (by kernel_rfl) (by kernel_rfl) (fun _ _ _ h => h) (Or.inl ⟨by rfl, ?_⟩) S2 ?_
      · intro w' hS
        go_simp
      refine wpAnyH_take (i := 5) (v := .int .i64 ((j : Int) + 1)) rfl (by kernel_rfl) (by kernel_rfl) (by kernel_rfl) (fun _ _ _ h => h) (Or.inl ⟨by rfl, ?_⟩) S2 ?_
      · intro w' hS
        clear hS
        go_simp
      refine wpAnyH_ready (rs := [6]) (by kernel_rfl) (by simp) ?_
      refine AllReadyH.cons rfl (fun K hK => ?_) AllReadyH.nil
      go_simp
      refine (KD.out w2).mono ?_
      rintro e w3 ⟨rfl, hb3⟩
      have B3 := hideP (B2.out.trans (hb3.mono B2.out.size))
      have O3 := hideP (owns_keep O2.out hb3)
      have W3 := hideP (owns_keep W2.out hb3)
      have S3 := HC.out w3 W3.out
      clear hb3 O2 W2 B2 S2
      refine hK.out _ _ S3 (fun _ => ?_)
      clear hK
      refine wpAnyH_take (i := 7) (v := .string (⟨#[116, 101, 115, 116, 32]⟩ ++ sd)) rfl (by kernel_rfl) (by kernel_rfl) (by kernel_rfl) (fun _ _ _ h => h) (Or.inl ⟨by rfl, ?_⟩) S3 ?_
      · intro w' hS
        clear hS
        go_simp
      refine wpAnyH_take (i := 8) (v := .string (⟨#[116, 101, 115, 116, 32]⟩ ++ sd ++ ⟨#[32]⟩)) rfl (by kernel_rfl) (by kernel_rfl) (by kernel_rfl) (fun _ _ _ h => h) (Or.inl ⟨by rfl, ?_⟩) S3 ?_
      · intro w' hS
        clear hS
        go_simp
      refine wpAnyH_ready (rs := [9]) (by kernel_rfl) (by simp) ?_
      refine AllReadyH.cons rfl (fun K hK => ?_) AllReadyH.nil
      go_simp
      refine (KA.out w3).mono ?_
      rintro e w4 ⟨pp, rfl, rfl, _, hpp⟩
      refine hK.out _ _ S3 (fun _ => ?_)
      clear hK
      refine wpAnyH_ready (rs := [10]) (by kernel_rfl) (by simp) ?_
      refine AllReadyH.cons rfl (fun K hK => ?_) AllReadyH.nil
      go_simp
      refine (l6Verdict_any pp w4).mono ?_
      rintro e w5 ⟨hb5, tk, tc, rfl, hq⟩
      have AL5 : Hid (Below w5.heap.size w5 (w5.alloc (.cells #[.int .i64 tk, .int .i64 tc] 78))) := (Below.refl _ _).alloc (Nat.le_refl _) _
      have B5 := hideP (B3.out.trans (hb5.mono B3.out.size))
      have B6 := hideP (B5.out.trans (AL5.out.mono B5.out.size))
      have O6 := hideP (owns_keep (owns_keep O3.out hb5) AL5.out)
      have W5 := hideP (owns_keep W3.out hb5)
      have W6 := hideP (owns_keep W5.out AL5.out)
      have S5 := HC.out w5 W5.out
      have S6 := HC.out _ W6.out
      have HQ : Hid (∀ v : Pl.Vt, Pl.vB v.1 v.2 = true → bl x = Pl.lin j v → (tk, tc) = v) := fun v hv e => lin_after HH.out hpp hq hv e
      have C6 : Hid (∀ i u, [Value.int .i64 tk, Value.int .i64 tc][i]? = some u → (w5.alloc (.cells #[.int .i64 tk, .int .i64 tc] 78)).cell? ((⟨w5.heap.size, 0, none⟩ : Addr).add i) = some u) := fun i u hu => by
        rw [Addr.add_lit, Nat.zero_add]
        match i, hu with
        | 0, hu => simp at hu; subst hu; simp [go_sem]
        | 1, hu => simp at hu; subst hu; simp [go_sem]
        | i + 2, hu => simp at hu
      clear hb5 hq hpp O3 W3 W5 S3
      refine hK.out _ _ S5 (fun _ => ?_)
      clear hK
      refine wpAnyH_ready (rs := [11]) (by kernel_rfl) (by simp) ?_
      refine AllReadyH.cons rfl (fun K hK => ?_) AllReadyH.nil
      go_simp
      refine hK.out _ _ S6 (fun _ => ?_)
      clear hK
      refine wpAnyH_ready (rs := [12]) (by kernel_rfl) (by simp) ?_
      refine AllReadyH.cons rfl (fun K hK => ?_) AllReadyH.nil
      have hul' := hul.out
      refine wp_append_lies (w5.alloc (.cells #[.int .i64 tk, .int .i64 tc] 78)) (.tmp 35) (.tmp 46) 39 rfl w.heap.size 78 i0 (.agg #[.int .i64 0, .int .i64 0]) 2 16 Tryd.underlying39 HI.out HZ0.out HZ1.out HZ2.out rfl (by decide) (.slice xo us.length yo) us.length (cellsV us) rfl O6.out ⟨w5.heap.size, 0, none⟩ 1 1 [.int .i64 tk, .int .i64 tc] rfl rfl C6.out (by intro u hu; simp at hu; rcases hu with rfl | rfl <;> rfl) (by decide) (by unfold maxLen; omega) (by omega) B6.out.size _ rfl ?_
      intro g cap7 w7 ho7 hg7 _ _
      have B7 : Hid (Below w.heap.size w w7) := B6.out.grown hg7 B6.out.size (fun k hk => (O6.out.lt k hk).1)
      have W7 : Hid (w7.ownsRow w.heap.size 9 1 (.slice (some ⟨gw, 0, none⟩) n yw) n (done.map Value.string)) := W6.out.kept hg7 (owns_tag2 O6.out W6.out (by decide))
      have O7 : Hid (w7.ownsRow w.heap.size 78 2 (.slice (some ⟨g, 0, none⟩) (us.length + 1) cap7) (us ++ [(tk, tc)]).length (cellsV (us ++ [(tk, tc)]))) := by
        show World.ownsRow _ _ _ _ _ _ _
        rw [cellsV_app, List.length_append]
        exact ho7
      have S7 := HC.out w7 W7.out
      have HZ : Hid ((us ++ [(tk, tc)]).length = j + 1) := by show _ = _; rw [List.length_append, hul']; rfl
      have HR : Hid (∀ j t', (us ++ [(tk, tc)])[j]? = some t' → ∀ x, done[j + 1]? = some x → ∀ v : Pl.Vt, Pl.vB v.1 v.2 = true → bl x = Pl.lin j v → t' = v) := fun i t' hj' y hy v hv e => by
        by_cases h : i < us.length
        · rw [List.getElem?_append_left h] at hj'
          exact hR.out i t' hj' y hy v hv e
        · have hlt2 := (List.getElem?_eq_some_iff.1 hj').1
          rw [List.length_append] at hlt2
          simp only [List.length_cons, List.length_nil] at hlt2
          obtain rfl : i = us.length := by omega
          rw [List.getElem?_append_right (Nat.le_refl _), Nat.sub_self] at hj'
          have e1 : (tk, tc) = t' := by simpa using hj'
          rw [hul'] at hy e
          rw [HX.out] at hy
          obtain rfl := Option.some.inj hy
          rw [← e1]
          exact HQ.out v hv e
      clear ho7 hg7 O6 W6 S6 S5 B5 B6 B3 AL5 C6 hul' hR
      refine hK.out _ _ S7 (fun _ => ?_)
      clear hK
      refine wpAnyH_ready (rs := [13]) (by kernel_rfl) (by simp) ?_
      refine AllReadyH.cons rfl (fun K hK => ?_) AllReadyH.nil
      go_simp
      refine hK.out _ _ S7 (fun _ => ?_)
      clear hK S7
      refine wpAnyH_done (by kernel_rfl) ?_ _
      go_wp2_with fail
      go_roundw
      case rel => exact ⟨j + 1, us ++ [(tk, tc)], by omega, by go_num, HZ, O7, W7, B7, HR⟩
      case measure => simp [intOf]; omega
    · have hlt' : ¬ (j : Int) + 1 + 2 < (n : Int) := by have := HM.out; omega
      have hul' := hul.out
      have RU : Hid (RdV wr.heap.size wr (.slice xo us.length yo) us) := by
        rcases hh : hO.out.2 with ⟨e, h0⟩ | ⟨g, cp, cur, e, _⟩
        · exact ⟨xo, yo, rfl, .inl h0⟩
        · injection e with e1 e2 e3
          subst e1
          exact rdV_of_own hO.out
      have HAC : Hid (∀ id vs, Pl.Acc (bl s) id vs → p = id ∧ us = vs) := fun id vs ha => acc_read HD.out (by rw [Hn.out]; have := HM.out; omega) HP.out hR.out ha
      have HR' := hideP (Pl.rdR_yes (t := bl s) (id := p) (vs := us))
      have L : us.length ≤ 1048576 := by omega
      clear hul' hR
      go_wp2_with fail
      refine (specReport_any p _ us _ zp' L RU.out).mono ?_
      rintro e w4 ⟨rfl, hb4⟩
      have B4 := hideP (BB.out.trans (hb4.mono BB.out.size))
      have O4 := hideP (owns_keep hO.out hb4)
      clear hb4
      cases hok : (Pl.idB p && Pl.vsB us) with
      | false =>
        have HN : Hid (Pl.rdR (bl s) = none) := Pl.rdR_no fun id vs ha => by
          obtain ⟨e1, e2⟩ := HAC.out id vs ha
          rw [e1, e2, ha.okI, ha.okV] at hok
          cases hok
        clear hok
        generalize Pl.rep p us = tx at *
        go_wp2_with fail
        go_ret3
        exact rr_no B4.out HN.out
      | true =>
        rw [Bool.and_eq_true] at hok
        have hrep : Pl.rep p us = ⟨(Pl.repL p.data.toList us).toArray⟩ := by unfold Pl.rep; rw [if_pos (by rw [hok.1, hok.2]; rfl)]
        by_cases hq : Pl.rep p us = s
        · have hq' : ((Pl.rep p us).toList == s.toList) = true := by rw [ba_eq]; exact decide_eq_true hq
          have HY : Hid (Pl.rdR (bl s) = some (p, us)) := HR'.out ⟨hok.1, hok.2, by rw [← hq, hrep]⟩
          clear hok hrep hq
          generalize Pl.rep p us = tx at *
          go_wp2_with fail
          go_ret3
          exact rr_yes B4.out HY.out O4.out
        · have hq' : ((Pl.rep p us).toList == s.toList) = false := by rw [ba_eq]; exact decide_eq_false hq
          have HN : Hid (Pl.rdR (bl s) = none) := Pl.rdR_no fun id vs ha => by
            obtain ⟨e1, e2⟩ := HAC.out id vs ha
            apply hq
            rw [hrep]
            apply ByteArray.ext
            apply Array.toList_inj.1
            show Pl.repL p.data.toList us = bl s
            rw [e1, e2]
            exact ha.eq
          clear hok hrep hq
          generalize Pl.rep p us = tx at *
          go_wp2_with fail
          go_ret3
          exact rr_no B4.out HN.out

end Go.Proofs.YtbmkbplgncoapaaDoor
