import Derived.Test.YtmobjomebmipdaaImpl2b
import Derived.Test.YtmobjomebmipdaaPlain4
namespace Go.Proofs.Ytmobjomebmipdaa
open Go.RowKit
set_option linter.unusedVariables false

/-- impl.needFit -/
theorem needFit_any (B : Nat) (v : Value) (zs : List Int) (w : World) (hl : zs.length ≤ 1048576) (h : Rd B w v zs) :
    Calls Try.prog 131 #[v] w fun e w' => w' = w ∧ ((Pl.fitsB zs = true ∧ e = .returned (.tuple #[])) ∨ (Pl.fitsB zs = false ∧ e = .panicked [thrown 6])) := by
  have K := hideP (shapeFits_any B v zs w hl h)
  obtain ⟨a0, d0, e0⟩ := h.form
  subst e0
  clear h
  by_cases hf : Pl.fitsB zs = true
  · rw [hf] at K
    have HF := hideP hf
    clear hf
    go_enter Try.func131, Try.ntmps131
    go_wp2_with (first | (go_at_call 36; refine K.out.mono ?_; rintro e w' ⟨rfl, rfl⟩) | (go_at_call 83; refine (refuse_no _ _).mono ?_; rintro e w' ⟨rfl, rfl⟩))
    go_end0
    exact ⟨rfl, .inl ⟨HF.out, rfl⟩⟩
  · have hf' : Pl.fitsB zs = false := by simpa using hf
    rw [hf'] at K
    have HF := hideP hf'
    clear hf hf'
    go_enter Try.func131, Try.ntmps131
    go_wp2_with (first | (go_at_call 36; refine K.out.mono ?_; rintro e w' ⟨rfl, rfl⟩) | (go_at_call 83; refine (refuse_yes _ _).mono ?_; rintro e w' ⟨rfl, rfl⟩))
    exact ⟨rfl, rfl, .inr ⟨HF.out, rfl⟩⟩

set_option maxRecDepth 100000 in
set_option maxHeartbeats 4000000 in
/-- impl.outer -/
theorem outer_impl (f : Nat) (nv : Int) (nb : Bool) (F : Int → Int → Int × Int) (v0 v1 v2 v3 : Value) (sa da sb db : List Int) (w : World) (hcf : ∀ args w, (callFunc f args).run Try.prog w = .ok (.enter f args) w)
    (hF : ∀ x y w', -3000000000 ≤ x → x ≤ 3000000000 → -3000000000 ≤ y → y ≤ 3000000000 → Calls Try.prog f #[.int .i64 x, .int .i64 y] w' (CPost w' (F x y)))
    (h0 : Rd w.heap.size w v0 sa) (h1 : Rd w.heap.size w v1 da) (h2 : Rd w.heap.size w v2 sb) (h3 : Rd w.heap.size w v3 db) (oka : Pl.okB sa da = true) (okb : Pl.okB sb db = true) (c : Int) (S D : List Int) (hres : Pl.outerM F sa da sb db = (c, S, D)) :
    Calls Try.prog 81 #[.agg #[.func (.func f) #[] #[], .int .i64 nv, .bool nb], .agg #[v0, v1], .agg #[v2, v3]] w (KPost w c S D) := by
  obtain ⟨i0, hi, hz0, hz1, hz2⟩ := info_parts Try.info3
  have HI := hideP (And.intro hi (And.intro hz0 (And.intro hz1 hz2)))
  clear hi hz0 hz1 hz2
  obtain ⟨hl0, hl1⟩ := Pl.ok_max oka
  obtain ⟨hl2, hl3⟩ := Pl.ok_max okb
  have A : ∀ o, Below w.heap.size w (w.alloc o) := fun o => (Below.refl _ _).alloc (Nat.le_refl _) _
  have W0 := hideP (fun o => wid_new (w.alloc o) ((h0.keep (A o)).up (by simp)) ((h1.keep (A o)).up (by simp)) ((h2.keep (A o)).up (by simp)) ((h3.keep (A o)).up (by simp)) 27 27 27)
  obtain ⟨a0, d0, e0⟩ := h0.form
  obtain ⟨a1, d1, b1, o1, e1, hao1, hb1, hc1⟩ := h1.parts
  obtain ⟨a2, d2, e2⟩ := h2.form
  obtain ⟨a3, d3, b3, o3, e3, hao3, hb3, hc3⟩ := h3.parts
  have P1 := hideP (And.intro hao1 (And.intro hb1 hc1))
  have P3 := hideP (And.intro hao3 (And.intro hb3 hc3))
  subst e0
  subst e1
  subst e2
  subst e3
  have HF := hideP hF
  have OX := hideP (fun x (hx : x ∈ da) => Pl.ok_cell oka hx)
  have OY := hideP (fun x (hx : x ∈ db) => Pl.ok_cell okb hx)
  have HR := hideP hres
  clear h0 h1 h2 h3 hF oka okb hres hao1 hb1 hc1 hao3 hb3 hc3 A
  go_enter Try.func81, Try.ntmps81
  obtain ⟨sh, hsh⟩ : ∃ sh, sa ++ sb = sh := ⟨_, rfl⟩
  have hlh : sh.length ≤ 6 := by rw [← hsh, List.length_append]; omega
  have HSH := hideP hsh
  clear hsh
  have AL : Hid (∀ (W : World) o, Below W.heap.size W (W.alloc o)) := fun W o => (Below.refl _ _).alloc (Nat.le_refl _) _
  go_wp2_with fail
  have W0a := hideP ((W0.out (.cells #[.func (.func f) #[] #[], .int .i64 nv, .bool nb] 54)).keep (AL.out _ (.cells #[.slice a0 sa.length d0, .slice a2 sb.length d2] 22)))
  have J := joined2 (w.heap.size + 1 + 1 + 1 + 1) (.slice a0 sa.length d0) (.slice a2 sb.length d2) sa sb _ (by omega) (by omega) (by simp) (by simp [go_sem]) (by simp [go_sem]) W0a.out.2.2.2.2.1 W0a.out.2.2.2.2.2.2.1
  rw [HSH.out] at J
  refine J.mono ?_
  clear J
  rintro e w1 ⟨v, rfl, hv, hb1⟩
  have W1 := hideP (W0a.out.keep hb1)
  have CO1 : Hid (w1.cell? ⟨w.heap.size, 0, none⟩ = some (.func (.func f) #[] #[])) := by
    have := hb1.cell (p := ⟨w.heap.size, 0, none⟩) (by show w.heap.size < _; simp; omega)
    show _ = _
    rw [this]
    simp [go_sem]
  have HV : Hid (Own (w.heap.size + 1 + 1 + 1 + 1 + 1) w1 v sh) := by
    have := hv
    show Own _ _ _ _
    simpa using this
  have RD1 := hideP hv.rd
  obtain ⟨zs, ys, ez⟩ := hv.form
  subst ez
  have BW1 := hideP (wid_sizes W1.out).2.2.2
  have hs1 := (wid_sizes W1.out).1
  have hs1' : w.heap.size + 1 + 1 + 1 + 1 < w1.heap.size := by have := hb1.size; simp at this; omega
  clear hb1 hv W0 W0a
  by_cases hf : Pl.fitsB sh = true
  · have KF : Hid (∀ w', Rd w'.heap.size w' (.slice zs sh.length ys) sh → Calls Try.prog 131 #[.slice zs sh.length ys] w' fun e w'' => e = .returned (.tuple #[]) ∧ w'' = w') := fun w' h => (needFit_any _ _ sh w' (by omega) h).mono (by
      rintro e w'' ⟨rfl, ⟨_, rfl⟩ | ⟨g, _⟩⟩
      · exact ⟨rfl, rfl⟩
      · rw [hf] at g; cases g)
    have KC : Hid (∀ w', Rd w'.heap.size w' (.slice zs sh.length ys) sh → Calls Try.prog 37 #[.slice zs sh.length ys] w' fun e w'' => e = .returned (.int .i64 (Pl.prodC sh)) ∧ w'' = w') := fun w' h => cellCount_fits _ _ sh w' hf h
    have hp : 0 ≤ Pl.prodC sh ∧ Pl.prodC sh ≤ 1001 := Pl.prodC_bd sh (by simp only [Pl.fitsB, Pl.baseB, Bool.and_eq_true] at hf; exact hf.1.2)
    have e := HR.out
    unfold Pl.outerM at e
    rw [HSH.out, if_pos hf] at e
    generalize hC : Pl.firstG (Pl.pairF F) (Pl.pairs da db) = C at e
    have PC := hideP hC
    have PE := hideP e
    obtain ⟨cp, hcp⟩ : ∃ cp : Nat, Pl.prodC sh = cp := ⟨(Pl.prodC sh).toNat, by omega⟩
    rw [hcp] at KC hp
    clear hC e HR hf hcp HSH
    generalize hn : da.length = n at *
    have Hn : Hid (da.length = n) := hn
    generalize hm : db.length = m at *
    have Hm : Hid (db.length = m) := hm
    clear hn hm
    go_wp2_with (first
      | (go_at_call 131; refine (KF.out _ RD1.out).mono ?_; rintro e w1 ⟨rfl, rfl⟩)
      | (go_at_call 37; refine (KC.out _ RD1.out).mono ?_; rintro e w1 ⟨rfl, rfl⟩)
      | (at_make; refine wpList_make_own _ rfl _ _ 22 rfl w1.heap.size 3 i0 (.int .i64 0) 1 Try.underlying22 HI.out.1 HI.out.2.1 HI.out.2.2.1 _ _ _ cp rfl rfl rfl ?b2 ?b3 ?b4 ?_))
    case b2 => rw [HI.out.2.2.2]; omega
    case b3 => unfold maxLen; omega
    case b4 => exact Nat.le_refl _
    intro w2 hown hgrow
    have B2 : Hid (Below w1.heap.size w1 w2) := (Below.refl _ _).grown hgrow (Nat.le_refl _) (by intro k h; cases h)
    have W2 := hideP (W1.out.keep B2.out)
    have HO2 := hideP hown
    clear hown hgrow KF KC hp HI
    have c1 := (wid_sizes W2.out).2.1.2.1
    go_wp2_with fail
    clear c1
    go_loopw [8, 10, 12, 27] (fun s8 _ _ i wr => ∃ k : Nat, k ≤ n ∧ i = .int .i64 k ∧ Hid (∀ p ∈ Pl.pairs (da.take k) db, (Pl.pairF F p).2 = 0) ∧ Hid (wr.ownsRow w1.heap.size 3 1 s8 (Pl.pairs (da.take k) db).length (((Pl.pairs (da.take k) db).map (fun p => (Pl.pairF F p).1)).map (Value.int .i64))) ∧ Hid (Below w1.heap.size w1 wr)) (fun _ _ _ i _ => n - (intOf i).toNat)
    case atStart =>
      refine ⟨0, Nat.zero_le _, rfl, by intro x hx; rw [Pl.upP_zero] at hx; simp at hx, ?_, B2⟩
      show World.ownsRow _ _ _ _ _ _ _
      rw [Pl.upP_zero]
      exact HO2.out
    case round =>
      obtain ⟨k, hk, rfl, hz, ho, hbel⟩ := hrel
      have WR := hideP (W1.out.keep hbel.out)
      have HBW : Hid (Below w.heap.size w wr) := BW1.out.trans (hbel.out.mono (by omega))
      by_cases hlt : k < n
      · have hlen : k < da.length := by rw [Hn.out]; exact hlt
        have hao1 := P1.out.1 (by omega)
        have hck1 : wr.cell? ⟨b1, o1 + k, none⟩ = some (.int .i64 (da.getD k 0)) := (HBW.out.cell (p := ⟨b1, o1 + k, none⟩) (P1.out.2.1 (by omega))).trans (P1.out.2.2 k (by omega))
        clear P1
        subst hao1
        have X := OX.out (da.getD k 0) (by
          have : da.getD k 0 = da[k] := by simp [List.getD, hlen]
          rw [this]; exact List.getElem_mem hlen)
        have HX := hideP X
        obtain ⟨x, hx⟩ : ∃ x, da.getD k 0 = x := ⟨_, rfl⟩
        have EX := hideP hx
        rw [hx] at hck1 HX
        clear X hx
        have c3 := (wid_sizes WR.out).2.1.2.2.2
        go_wp2_with fail
        rename World => wk
        clear c3 hck1 HX
        go_loopw [8, 12, 34] (fun s8 _ j wq => ∃ l : Nat, l ≤ m ∧ j = .int .i64 l ∧ Hid (∀ p ∈ Pl.upP da db k l, (Pl.pairF F p).2 = 0) ∧ Hid (wq.ownsRow w1.heap.size 3 1 s8 (Pl.upP da db k l).length (((Pl.upP da db k l).map (fun p => (Pl.pairF F p).1)).map (Value.int .i64))) ∧ Hid (Below w1.heap.size w1 wq)) (fun _ _ j _ => m - (intOf j).toNat)
        case atStart =>
          refine ⟨0, Nat.zero_le _, rfl, ?_, ?_, hbel⟩
          · intro p hp
            rw [Pl.upP_start] at hp
            exact hz.out p hp
          · show World.ownsRow _ _ _ _ _ _ _
            rw [Pl.upP_start]
            exact ho.out
        case round =>
          clear hz ho hbel WR HBW
          obtain ⟨l, hl, rfl, hz, ho, hbel⟩ := hrel
          have WR := hideP (W1.out.keep hbel.out)
          have HBW : Hid (Below w.heap.size w wr) := BW1.out.trans (hbel.out.mono (by omega))
          by_cases hlt2 : l < m
          · have hlen' : l < db.length := by rw [Hm.out]; exact hlt2
            have hao3 := P3.out.1 (by omega)
            have hck3 : wr.cell? ⟨b3, o3 + l, none⟩ = some (.int .i64 (db.getD l 0)) := (HBW.out.cell (p := ⟨b3, o3 + l, none⟩) (P3.out.2.1 (by omega))).trans (P3.out.2.2 l (by omega))
            have hco : wr.cell? ⟨w.heap.size, 0, none⟩ = some (.func (.func f) #[] #[]) := (hbel.out.cell (p := ⟨w.heap.size, 0, none⟩) (by show w.heap.size < _; omega)).trans CO1.out
            clear P3
            subst hao3
            have Y := OY.out (db.getD l 0) (by
              have : db.getD l 0 = db[l] := by simp [List.getD, hlen']
              rw [this]; exact List.getElem_mem hlen')
            have T : Hid (Pl.upP da db k (l + 1) = Pl.upP da db k l ++ [(da.getD k 0, db.getD l 0)]) := Pl.upP_snoc da db k l hlen'
            have FA : Hid (¬ (F (da.getD k 0) (db.getD l 0)).2 = 0 → Pl.firstG (Pl.pairF F) (Pl.pairs da db) = (F (da.getD k 0) (db.getD l 0)).2) := Pl.pairs_first F da db k l hlen hlen' hz.out
            have X := OX.out (da.getD k 0) (by
              have : da.getD k 0 = da[k] := by simp [List.getD, hlen]
              rw [this]; exact List.getElem_mem hlen)
            rw [EX.out] at T FA X
            generalize db.getD l 0 = y at *
            have LC : Hid (∀ w', Calls Try.prog f #[.int .i64 x, .int .i64 y] w' (CPost w' (F x y))) := fun w' => HF.out x y w' X.1 X.2 Y.1 Y.2
            have UB : Hid ((Pl.upP da db k l).length + 1 ≤ 16777216) := by
              show _ ≤ _
              rw [Pl.upP_len da db k l (by omega) (by omega)]
              have := Nat.mul_le_mul (show k ≤ 1000 by omega) (show db.length ≤ 1000 by rw [Hm.out]; omega)
              omega
            clear X Y hlen'
            have hltl : (l : Int) < (m : Int) := by omega
            go_wp2_with fail
            refine (LC.out _).mono ?_
            rintro e w5 ⟨hb5, hor⟩
            have B5 := hideP (hbel.out.trans (hb5.mono hbel.out.size))
            have HO5 := hideP (owns_keep ho.out hb5)
            have HBW5 := hideP (HBW.out.trans (hb5.mono HBW.out.size))
            have hsz5 : w1.heap.size ≤ w5.heap.size := B5.out.size
            clear hb5 hck3 hco
            rcases hor with ⟨hr, rfl⟩ | ⟨hr, rfl⟩
            · have Z : Hid (∀ p ∈ Pl.upP da db k (l + 1), (Pl.pairF F p).2 = 0) := by
                intro p hp
                rw [T.out] at hp
                simp at hp
                rcases hp with hp | rfl
                · exact hz.out p hp
                · exact hr
              have V : Hid ((Pl.upP da db k (l + 1)).map (fun p => (Pl.pairF F p).1) = (Pl.upP da db k l).map (fun p => (Pl.pairF F p).1) ++ [(F x y).1]) := by show _ = _; rw [T.out]; simp [Pl.pairF]
              have VL : Hid ((Pl.upP da db k (l + 1)).length = (Pl.upP da db k l).length + 1) := by show _ = _; rw [T.out]; simp
              clear hr FA
              generalize (F x y).1 = r at *
              go_wp2_with (at_builtin; refine wpList_append_one (base := w1.heap.size) _ _ _ rfl _ _ rfl _ rfl rfl _ _ HO5.out UB.out hsz5 ?_)
              intro v' w9 ho' hg
              have R9 : Hid (w9.ownsRow w1.heap.size 3 1 v' (Pl.upP da db k (l + 1)).length (((Pl.upP da db k (l + 1)).map (fun p => (Pl.pairF F p).1)).map (Value.int .i64))) := by
                show World.ownsRow _ _ _ _ _ _ _
                rw [V.out, VL.out, List.map_append, List.map_map]
                exact ho'
              have B9 : Hid (Below w1.heap.size w1 w9) := (B5.out.alloc hsz5 _).grown hg (by simp; omega) (fun k hk => (HO5.out.lt k hk).1)
              clear ho' hg
              go_wp2_with fail
              go_roundw
              case rel => exact ⟨l + 1, by omega, by go_num, Z, R9, B9⟩
              case measure => simp [intOf]; omega
            · have EC := FA.out hr
              rw [PC.out] at EC
              have e := PE.out
              rw [if_neg (by rw [EC]; exact hr)] at e
              simp only [Prod.mk.injEq] at e
              obtain ⟨rfl, rfl, rfl⟩ := e
              exact ⟨rfl, HBW5.out, .inr ⟨by rw [EC]; exact hr, rfl, rfl, by rw [EC]⟩⟩
          · have lm : l = m := by omega
            subst lm
            have RW : Hid (Pl.upP da db k l = Pl.pairs (da.take (k + 1)) db) := Pl.upP_row da db k l hlen (by rw [Hm.out]; exact Nat.le_refl _)
            go_wp2_with fail
            go_roundw
            case rel => exact ⟨k + 1, by omega, by go_num, by intro p hp; rw [← RW.out] at hp; exact hz.out p hp, by show World.ownsRow _ _ _ _ _ _ _; rw [← RW.out]; exact ho.out, hbel⟩
            case measure => simp [intOf]; omega
      · have kn : k = n := by omega
        subst kn
        have EC : Pl.firstG (Pl.pairF F) (Pl.pairs da db) = 0 := Pl.firstG_zero (Pl.pairF F) (Pl.pairs da db) (by
          have := hz.out
          rw [Pl.pairs_all _ _ _ (by rw [Hn.out]; exact Nat.le_refl _)] at this
          exact this)
        rw [PC.out] at EC
        have e := PE.out
        rw [if_pos EC] at e
        simp only [Prod.mk.injEq] at e
        have hDL : D.length = (Pl.pairs (da.take k) db).length := by
          rw [Pl.pairs_all _ _ _ (by rw [Hn.out]; exact Nat.le_refl _), ← e.2.2, List.length_map]
        have OD := ho.out
        rw [← hDL, Pl.pairs_all _ _ _ (by rw [Hn.out]; exact Nat.le_refl _), e.2.2] at OD
        have HOD := hideP OD
        have HE := hideP e
        obtain ⟨xo, yo, eo⟩ := owns_form OD
        subst eo
        obtain ⟨hs5, _, ⟨r0, r1, f3⟩, _⟩ := wid_sizes WR.out
        have HOW := hideP (show Own (w.heap.size + 1 + 1 + 1 + 1 + 1) wr (.slice zs sh.length ys) sh by
          obtain ⟨q, p, e, h⟩ := HV.out
          refine ⟨q, p, e, ?_⟩
          have := hbel.out.size
          rcases h with h | ⟨g, of, g1', g2', g3, g4⟩
          · exact .inl h
          · exact .inr ⟨g, of, g1', by omega, g3, fun i hi => ⟨(hbel.out.cell (p := ⟨g, of + i, none⟩) g2').trans (g4 i hi).1, (hbel.out.frozen (p := ⟨g, of + i, none⟩) g2').trans (g4 i hi).2⟩⟩)
        clear EC e OD hDL ho
        go_wp2_with fail
        refine bodyPost_ret (v := .agg #[.slice zs sh.length ys, .slice xo D.length yo]) (by simp [results, Try.results81, go_sem, r0, r1]) rfl ?_
        show KPost _ _ _ _ _ _
        rw [← HE.out.1, ← HE.out.2.1]
        refine ⟨(HBW.out.setCell (by simp; omega) _).setCell (by simp; omega) _, .inl ⟨rfl, _, _, rfl, ?_, ?_, ?_⟩⟩
        · exact Own.base (Own.store (Own.store HOW.out (by omega) _) (by omega) _) (by omega)
        · have := (own_of_any HOD.out).base (show w.heap.size + 1 + 1 + 1 + 1 + 1 ≤ w1.heap.size by omega)
          exact Own.base (Own.store (Own.store this (by omega) _) (by omega) _) (by omega)
        · refine apart_right (B := w1.heap.size) (own_of_any HOD.out) ?_
          exact HV.out.lt
  · have hf' : Pl.fitsB sh = false := by simpa using hf
    have KF : Hid (∀ w', Rd w'.heap.size w' (.slice zs sh.length ys) sh → Calls Try.prog 131 #[.slice zs sh.length ys] w' fun e w'' => e = .panicked [thrown 6] ∧ w'' = w') := fun w' h => (needFit_any _ _ sh w' (by omega) h).mono (by
      rintro e w'' ⟨rfl, ⟨g, _⟩ | ⟨_, rfl⟩⟩
      · rw [hf'] at g; cases g
      · exact ⟨rfl, rfl⟩)
    have e := HR.out
    unfold Pl.outerM at e
    rw [HSH.out, if_neg hf] at e
    simp only [Prod.mk.injEq] at e
    obtain ⟨rfl, rfl, rfl⟩ := e
    clear hf hf'
    go_wp2_with (go_at_call 131; refine (KF.out _ RD1.out).mono ?_; rintro e w1 ⟨rfl, rfl⟩)
    exact ⟨rfl, BW1.out, .inr ⟨by decide, rfl, rfl, rfl⟩⟩

end Go.Proofs.Ytmobjomebmipdaa
