import Derived.Test.YtmobjomebmipdaaImpl2b
namespace Go.Proofs.Ytmobjomebmipdaa
open Go.RowKit
set_option linter.unusedVariables false

set_option maxRecDepth 100000 in
set_option maxHeartbeats 4000000 in
/-- impl.each2 where no array is a scalar -/
theorem each2_rows (f : Nat) (nv : Int) (nb : Bool) (F : Int → Int → Int × Int) (v0 v1 v2 v3 : Value) (sa da sb db : List Int) (w : World) (hl1 : da.length ≤ 1048576) (hl3 : db.length ≤ 1048576) (hcf : ∀ args w, (callFunc f args).run Try.prog w = .ok (.enter f args) w)
    (hF : ∀ x y w', -3000000000 ≤ x → x ≤ 3000000000 → -3000000000 ≤ y → y ≤ 3000000000 → Calls Try.prog f #[.int .i64 x, .int .i64 y] w' (CPost w' (F x y)))
    (h0 : Rd w.heap.size w v0 sa) (h1 : Rd w.heap.size w v1 da) (h2 : Rd w.heap.size w v2 sb) (h3 : Rd w.heap.size w v3 db) (oka : Pl.okB sa da = true) (okb : Pl.okB sb db = true) (c : Int) (S D : List Int) (hres : Pl.each2M F sa da sb db = (c, S, D)) (hsa : ¬ sa.length = 0) (hsb : ¬ sb.length = 0) :
    Calls Try.prog 52 #[.agg #[.func (.func f) #[] #[], .int .i64 nv, .bool nb], .agg #[v0, v1], .agg #[v2, v3]] w (KPost w c S D) := by
  obtain ⟨i0, hi, hz0, hz1, hz2⟩ := info_parts Try.info3
  have hmf : ∀ (fn : Fn) (first cap : Array Value) (w : World), (Instr.makeFunc fn first cap).run Try.prog w = .ok (.func fn first cap) w := fun _ _ _ _ => rfl
  have hl0 : sa.length ≤ 3 := by
    have := (Pl.ok_len oka).2
    simp only [Pl.fitsB, Pl.baseB, Bool.and_eq_true, decide_eq_true_eq] at this
    omega
  have hl2 : sb.length ≤ 3 := by
    have := (Pl.ok_len okb).2
    simp only [Pl.fitsB, Pl.baseB, Bool.and_eq_true, decide_eq_true_eq] at this
    omega
  have A : ∀ o, Below w.heap.size w (w.alloc o) := fun o => (Below.refl _ _).alloc (Nat.le_refl _) _
  have W0 := hideP (fun o => wid_new (w.alloc o) ((h0.keep (A o)).up (by simp)) ((h1.keep (A o)).up (by simp)) ((h2.keep (A o)).up (by simp)) ((h3.keep (A o)).up (by simp)) 27 27 27)
  have KA := hideP (fun w' => isScalar_any v0 v1 sa _ w' w h0)
  have KB := hideP (fun w' => isScalar_any v2 v3 sb _ w' w h2)
  obtain ⟨a0, d0, e0⟩ := h0.form
  obtain ⟨a1, d1, b1, o1, e1, hao1, hb1, hc1⟩ := h1.parts
  obtain ⟨a2, d2, e2⟩ := h2.form
  obtain ⟨a3, d3, b3, o3, e3, hao3, hb3, hc3⟩ := h3.parts
  have P1 := hideP (And.intro hao1 (And.intro hb1 hc1))
  have P3 := hideP (And.intro hao3 (And.intro hb3 hc3))
  subst e0
  subst e1
  subst e2
  subst e3
  have HF := hideP hF
  have OA := hideP oka
  have OB := hideP okb
  have HR := hideP hres
  clear h0 h1 h2 h3 hF oka okb hres hao1 hb1 hc1 hao3 hb3 hc3 A
  rw [decide_eq_false hsa] at KA
  rw [decide_eq_false hsb] at KB
  have e := HR.out
  unfold Pl.each2M at e
  rw [if_neg hsa, if_neg hsb] at e
  have HE := hideP e
  clear HR hsa hsb e
  have HI := hideP (And.intro hi (And.intro hz0 (And.intro hz1 hz2)))
  clear hi hz0 hz1 hz2
  go_enter Try.func52, Try.ntmps52
  go_wp2_with fail
  refine (KA.out _).mono ?_
  rintro e w1 ⟨rfl, hb1⟩
  have W1 := hideP ((W0.out _).keep hb1)
  have CO : Hid (w1.cell? ⟨w.heap.size, 0, none⟩ = some (.func (.func f) #[] #[])) := by
    have := hb1.cell (p := ⟨w.heap.size, 0, none⟩) (by show w.heap.size < _; simp; omega)
    show _ = _
    rw [this]
    simp [go_sem]
  clear hb1
  have c2 := (wid_sizes W1.out).2.1.2.2.1
  have c3 := (wid_sizes W1.out).2.1.2.2.2
  have hs1 := (wid_sizes W1.out).1
  go_wp2_with fail
  refine (KB.out _).mono ?_
  rintro e w2 ⟨rfl, hb1⟩
  have W2 := hideP (W1.out.keep hb1)
  have CO2 : Hid (w2.cell? ⟨w.heap.size, 0, none⟩ = some (.func (.func f) #[] #[])) := (hb1.cell (p := ⟨w.heap.size, 0, none⟩) (by show w.heap.size < _; omega)).trans CO.out
  clear hb1 c2 c3 CO W1 KA KB
  have c0 := (wid_sizes W2.out).2.1.1
  have c2 := (wid_sizes W2.out).2.1.2.2.1
  have hs2 := (wid_sizes W2.out).1
  have BW2 := hideP (wid_sizes W2.out).2.2.2
  by_cases hlen : sa.length = sb.length
  · have test : ((sa.length : Int) != (sb.length : Int)) = false := by simp [hlen]
    have HL := hideP hlen
    clear hlen
    go_wp2_with (go_at_call 83; refine (refuse_no _ _).mono ?_; rintro e w2 ⟨rfl, rfl⟩)
    refine (slEq_any _ _ sa sb _ (by omega) (by omega) W2.out.2.2.2.2.1 W2.out.2.2.2.2.2.2.1).mono ?_
    rintro e w3 ⟨rfl, hb3⟩
    have W3 := hideP (W2.out.keep hb3)
    have CO3 : Hid (w3.cell? ⟨w.heap.size, 0, none⟩ = some (.func (.func f) #[] #[])) := (hb3.cell (p := ⟨w.heap.size, 0, none⟩) (by show w.heap.size < _; omega)).trans CO2.out
    clear hb3 c0 c2 CO2 test
    by_cases hs : sa = sb
    · rw [decide_eq_true hs]
      subst hs
      have c1 := (wid_sizes W3.out).2.1.2.1
      have hs3 := (wid_sizes W3.out).1
      go_wp2_with (first
        | (go_at_call 83; refine (refuse_no _ _).mono ?_; rintro e w3 ⟨rfl, rfl⟩)
        | (at_make; refine wpList_make_full _ rfl _ _ 22 rfl w3.heap.size 3 i0 (.int .i64 0) 1 Try.underlying22 HI.out.1 HI.out.2.1 HI.out.2.2.1 _ _ _ _ da.length rfl rfl rfl rfl ?b2 ?b3 ?b4 ?_))
      case b2 => rw [HI.out.2.2.2]; omega
      case b3 => unfold maxLen; omega
      case b4 => exact Nat.le_refl _
      intro w4 hown hgrow
      rw [made_zeros] at hown
      have hb4 : Below w3.heap.size w3 w4 := (Below.refl _ _).grown hgrow (Nat.le_refl _) (by intro k h; cases h)
      have W4 := hideP (W3.out.keep hb4)
      have B4 := hideP hb4
      have HO4 := hideP hown
      clear hown hgrow hb4 c1
      have hyx := Pl.ok_lens OB.out OA.out
      have OX := hideP (fun x (hx : x ∈ da) => Pl.ok_cell OA.out hx)
      have OY := hideP (fun x (hx : x ∈ db) => Pl.ok_cell OB.out hx)
      have e := HE.out
      unfold Pl.eachM at e
      rw [if_neg (fun h => h rfl), if_neg (fun h => h rfl)] at e
      generalize hC : Pl.firstG (Pl.pairF F) (da.zip db) = C at e
      have PC := hideP hC
      have PE := hideP e
      clear hC e HE OA OB HL hl3 W0
      rw [hyx] at P3 W3 W4 W2
      have B3 := hideP (wid_sizes W3.out).2.2.2
      generalize hn : da.length = n at *
      have Hn : Hid (da.length = n) := hn
      have Hm : Hid (db.length = n) := hyx
      clear hn hyx
      have c1 := (wid_sizes W4.out).2.1.2.1
      go_wp2_with fail
      clear c1
      go_loopw [8, 9, 42] (fun _ _ i wr => ∃ k : Nat, k ≤ n ∧ i = .int .i64 k ∧ Hid (∀ p ∈ Pl.zipT da db k, (Pl.pairF F p).2 = 0) ∧ Hid (wr.ownsRow w3.heap.size 3 1 (.slice (some ⟨w3.heap.size, 0, none⟩) n n) n ((Pl.upG F da db k).map (Value.int .i64))) ∧ Hid (Below w3.heap.size w3 wr)) (fun _ _ i _ => n - (intOf i).toNat)
      case atStart => exact ⟨0, Nat.zero_le _, rfl, by intro x hx; rw [Pl.zipT_zero] at hx; simp at hx, by show World.ownsRow _ _ _ _ _ _ _; rw [Pl.upG_zero, Hn.out]; exact HO4.out, B4⟩
      case round =>
        clear HO4 B4
        obtain ⟨k, hk, rfl, hz, ho, hbel⟩ := hrel
        have WR := hideP (W3.out.keep hbel.out)
        have HBW : Hid (Below w.heap.size w wr) := B3.out.trans (hbel.out.mono (by omega))
        have HSZ : Hid (w3.heap.size < wr.heap.size) := (ho.out.lt _ rfl).2
        have COR : Hid (wr.cell? ⟨w.heap.size, 0, none⟩ = some (.func (.func f) #[] #[])) := (hbel.out.cell (p := ⟨w.heap.size, 0, none⟩) (by show w.heap.size < _; omega)).trans CO3.out
        by_cases hlt : k < n
        · have hlen : k < da.length := by rw [Hn.out]; exact hlt
          have hlen' : k < db.length := by rw [Hm.out]; exact hlt
          have hao1 := P1.out.1 (by omega)
          have hao3 := P3.out.1 (by omega)
          have hb3 := P3.out.2.1 (by omega)
          have hck1 : wr.cell? ⟨b1, o1 + k, none⟩ = some (.int .i64 (da.getD k 0)) := (HBW.out.cell (p := ⟨b1, o1 + k, none⟩) (P1.out.2.1 (by omega))).trans (P1.out.2.2 k (by omega))
          have hck3 : wr.cell? ⟨b3, o3 + k, none⟩ = some (.int .i64 (db.getD k 0)) := (HBW.out.cell (p := ⟨b3, o3 + k, none⟩) (P3.out.2.1 (by omega))).trans (P3.out.2.2 k (by omega))
          clear P1 P3
          subst hao1
          subst hao3
          have hmx : da.getD k 0 ∈ da := by
            have : da.getD k 0 = da[k] := by simp [List.getD, hlen]
            rw [this]; exact List.getElem_mem hlen
          have hmy : db.getD k 0 ∈ db := by
            have : db.getD k 0 = db[k] := by simp [List.getD, hlen']
            rw [this]; exact List.getElem_mem hlen'
          have X := OX.out _ hmx
          have Y := OY.out _ hmy
          have T : Hid (Pl.zipT da db (k + 1) = Pl.zipT da db k ++ [(da.getD k 0, db.getD k 0)]) := Pl.zipT_snoc da db k hlen hlen'
          have FA : Hid (¬ (F (da.getD k 0) (db.getD k 0)).2 = 0 → Pl.firstG (Pl.pairF F) (da.zip db) = (F (da.getD k 0) (db.getD k 0)).2) := Pl.first_at F da db k hlen hlen' hz.out
          have U : Hid ((Pl.upG F da db k).set k (F (da.getD k 0) (db.getD k 0)).1 = Pl.upG F da db (k + 1)) := Pl.upG_step F da db k hlen (by rw [Hm.out, Hn.out])
          have UL : Hid ((Pl.upG F da db k).length = n) := by
            have := Pl.upG_len F da db k (by omega) (by rw [Hm.out, Hn.out])
            rw [Hn.out] at this
            exact this
          clear hmx hmy hlen hlen'
          generalize da.getD k 0 = x at *
          generalize db.getD k 0 = y at *
          have LC : Hid (∀ w', Calls Try.prog f #[.int .i64 x, .int .i64 y] w' (CPost w' (F x y))) := fun w' => HF.out x y w' X.1 X.2 Y.1 Y.2
          clear X Y
          have hlt' : (k : Int) < (n : Int) := by omega
          have HC3 := hideP (wid_sizes WR.out).2.1.2.2.2
          have HCK := hideP hck3
          have L0 : ∀ w', Below w3.heap.size wr w' → w'.cell? ⟨w.heap.size, 0, none⟩ = some (.func (.func f) #[] #[]) := fun w' h => (h.cell (p := ⟨w.heap.size, 0, none⟩) (by show w.heap.size < _; omega)).trans COR.out
          have L1 : ∀ w', Below w3.heap.size wr w' → w'.cell? ⟨w.heap.size + 1 + 1, 1, none⟩ = some (.slice (some ⟨b3, o3, none⟩) n d3) := fun w' h => (h.cell (p := ⟨w.heap.size + 1 + 1, 1, none⟩) (by show w.heap.size + 1 + 1 < _; omega)).trans HC3.out
          have L2 : ∀ w', Below w3.heap.size wr w' → w'.cell? ⟨b3, o3 + k, none⟩ = some (.int .i64 y) := fun w' h => (h.cell (p := ⟨b3, o3 + k, none⟩) (by show b3 < _; omega)).trans HCK.out
          have DR := hideP (show Below w3.heap.size wr wr.drew from (Below.refl _ _).drew)
          clear hck3
          go_wp2_with fail
          refine wp_region_held (S := fun w' => Below w3.heap.size wr w') (by kernel_rfl) ?_
          change wpAnyH _ _ _ _ _ _ _ _ (World.drew _)
          refine wpAnyH_take (i := 0) (v := .slice (some ⟨w3.heap.size, 0, none⟩) n n) rfl (by kernel_rfl) (by kernel_rfl) (by kernel_rfl) (fun _ _ _ h => h) (Or.inl ⟨by rfl, ?_⟩) DR.out ?_
          · intro w' hS
            clear L0 L1 L2 hS
            go_simp
          refine wpAnyH_take (i := 1) (v := .int .i64 (k : Int)) rfl (by kernel_rfl) (by kernel_rfl) (by kernel_rfl) (fun _ _ _ h => h) (Or.inl ⟨by rfl, ?_⟩) DR.out ?_
          · intro w' hS
            clear L0 L1 L2 hS
            go_simp
          refine wpAnyH_take (i := 2) (v := .pointer (some ⟨w.heap.size, 0, none⟩)) rfl (by kernel_rfl) (by kernel_rfl) (by kernel_rfl) (fun _ _ _ h => h) (Or.inl ⟨by rfl, ?_⟩) DR.out ?_
          · intro w' hS
            clear L0 L1 L2 hS
            go_simp
          refine wpAnyH_take (i := 3) (v := .func (.func f) #[] #[]) rfl (by kernel_rfl) (by kernel_rfl) (by kernel_rfl) (fun _ _ _ h => h) (Or.inl ⟨by rfl, ?_⟩) DR.out ?_
          · intro w' hS
            have := L0 w' hS
            clear L0 L1 L2 hS
            go_simp
          refine wpAnyH_take (i := 4) (v := .int .i64 x) rfl (by kernel_rfl) (by kernel_rfl) (by kernel_rfl) (fun _ _ _ h => h) (Or.inl ⟨by rfl, ?_⟩) DR.out ?_
          · intro w' hS
            clear L0 L1 L2 hS
            go_simp
          refine wpAnyH_take (i := 5) (v := .pointer (some ⟨w.heap.size + 1 + 1, 1, none⟩)) rfl (by kernel_rfl) (by kernel_rfl) (by kernel_rfl) (fun _ _ _ h => h) (Or.inl ⟨by rfl, ?_⟩) DR.out ?_
          · intro w' hS
            clear L0 L1 L2 hS
            go_simp
          refine wpAnyH_take (i := 6) (v := .slice (some ⟨b3, o3, none⟩) n d3) rfl (by kernel_rfl) (by kernel_rfl) (by kernel_rfl) (fun _ _ _ h => h) (Or.inl ⟨by rfl, ?_⟩) DR.out ?_
          · intro w' hS
            have := L1 w' hS
            clear L0 L1 L2 hS
            go_simp
          refine wpAnyH_take (i := 7) (v := .int .i64 (k : Int)) rfl (by kernel_rfl) (by kernel_rfl) (by kernel_rfl) (fun _ _ _ h => h) (Or.inl ⟨by rfl, ?_⟩) DR.out ?_
          · intro w' hS
            clear L0 L1 L2 hS
            go_simp
          refine wpAnyH_take (i := 8) (v := .pointer (some ⟨b3, o3 + k, none⟩)) rfl (by kernel_rfl) (by kernel_rfl) (by kernel_rfl) (fun _ _ _ h => h) (Or.inl ⟨by rfl, ?_⟩) DR.out ?_
          · intro w' hS
            clear L0 L1 L2 hS
            go_simp
          refine wpAnyH_take (i := 9) (v := .int .i64 y) rfl (by kernel_rfl) (by kernel_rfl) (by kernel_rfl) (fun _ _ _ h => h) (Or.inl ⟨by rfl, ?_⟩) DR.out ?_
          · intro w' hS
            have := L2 w' hS
            clear L0 L1 L2 hS
            go_simp
          clear L0 L1 L2 hck1
          refine wpAnyH_ready (rs := [10]) (by kernel_rfl) (by simp) ?_
          refine AllReadyH.cons rfl (fun K hK => ?_) AllReadyH.nil
          go_simp
          refine (LC.out _).mono ?_
          rintro e w5 ⟨hb5, hor⟩
          have hb5' : Below wr.heap.size wr w5 := (show Below wr.heap.size wr wr.drew from (Below.refl _ _).drew).trans hb5
          have S5 := hideP (DR.out.trans (hb5.mono (show w3.heap.size ≤ wr.drew.heap.size from Nat.le_of_lt HSZ.out)))
          have B5 := hideP (hbel.out.trans S5.out)
          have ho5 := owns_keep ho.out hb5'
          have HBW5 := hideP (HBW.out.trans (hb5'.mono (by have := HSZ.out; omega)))
          clear hb5 hb5'
          rcases hor with ⟨hr, rfl⟩ | ⟨hr, rfl⟩
          · have hfz := ho5.frozenAt k
            have hst := ho5.stored k (.int .i64 (F x y).1)
            have hcg : ∃ u, w5.cell? ⟨w3.heap.size, k, none⟩ = some (.int .i64 u) := by
              rw [ho5.cellAt k (by omega)]
              have hlen : k < (Pl.upG F da db k).length := by rw [UL.out]; exact hlt
              exact ⟨(Pl.upG F da db k)[k], by simp [hlen]⟩
            obtain ⟨u, hcg⟩ := hcg
            have R : Hid ((w5.setCell ⟨w3.heap.size, k, none⟩ (.int .i64 (F x y).1)).ownsRow w3.heap.size 3 1 (.slice (some ⟨w3.heap.size, 0, none⟩) n n) n ((Pl.upG F da db (k + 1)).map (Value.int .i64))) := by
              show World.ownsRow _ _ _ _ _ _ _
              rw [← U.out, List.map_set]
              exact hst.1
            have B6 : Hid (Below w3.heap.size w3 (w5.setCell ⟨w3.heap.size, k, none⟩ (.int .i64 (F x y).1))) := B5.out.setCell (Nat.le_refl _) _
            have S6 : Hid (Below w3.heap.size wr (w5.setCell ⟨w3.heap.size, k, none⟩ (.int .i64 (F x y).1))) := S5.out.setCell (Nat.le_refl _) _
            have Z : Hid (∀ p ∈ Pl.zipT da db (k + 1), (Pl.pairF F p).2 = 0) := by
              intro p hp
              rw [T.out] at hp
              simp at hp
              rcases hp with hp | rfl
              · exact hz.out p hp
              · exact hr
            clear hst ho5 FA hr
            generalize (F x y).1 = r at *
            refine hK.out _ _ S5.out (fun _ => ?_)
            clear hK
            refine wpAnyH_ready (rs := [11]) (by kernel_rfl) (by simp) ?_
            refine AllReadyH.cons rfl (fun K hK => ?_) AllReadyH.nil
            go_simp
            refine hK.out _ _ S5.out (fun _ => ?_)
            clear hK
            refine wpAnyH_ready (rs := [12]) (by kernel_rfl) (by simp) ?_
            refine AllReadyH.cons rfl (fun K hK => ?_) AllReadyH.nil
            go_simp
            refine hK.out _ _ S6.out (fun _ => ?_)
            clear hK
            refine wpAnyH_done (by kernel_rfl) ?_ _
            go_wp2_with fail
            go_roundw
            case rel => exact ⟨k + 1, by omega, by go_num, Z, R, B6⟩
            case measure => simp [intOf]; omega
          · have EC := FA.out hr
            rw [PC.out] at EC
            have e := PE.out
            rw [if_neg (by rw [EC]; exact hr)] at e
            simp only [Prod.mk.injEq] at e
            obtain ⟨rfl, rfl, rfl⟩ := e
            exact ⟨rfl, HBW5.out, .inr ⟨by rw [EC]; exact hr, rfl, rfl, by rw [EC]⟩⟩
        · have kn : k = n := by omega
          subst kn
          have EC : Pl.firstG (Pl.pairF F) (da.zip db) = 0 := Pl.firstG_zero (Pl.pairF F) (da.zip db) (by
            have := hz.out
            rw [Pl.zipT_all _ _ _ (by rw [Hn.out]; exact Nat.le_refl _)] at this
            exact this)
          rw [PC.out] at EC
          have e := PE.out
          rw [if_pos EC] at e
          simp only [Prod.mk.injEq] at e
          have OD : Hid (wr.ownsRow w3.heap.size 3 1 (.slice (some ⟨w3.heap.size, 0, none⟩) k k) k (D.map (Value.int .i64))) := by
            have := ho.out
            rw [Pl.upG_all F da db k (by rw [Hn.out]; exact Nat.le_refl _), e.2.2] at this
            exact this
          have DL : Hid (D.length = k) := by
            have := OD.out.1
            show _ = _
            simpa using this
          have HE := hideP e
          have c0 := (wid_sizes WR.out).2.1.1
          have RD := hideP WR.out.2.2.2.2.1
          clear EC e
          go_wp2_with fail
          clear c0
          have A : Hid (∀ o, Below wr.heap.size wr (wr.alloc o)) := fun o => (Below.refl _ _).alloc (Nat.le_refl _) _
          refine (joined1 wr.heap.size (.slice a0 sa.length d0) sa _ (by omega) (by simp) (by simp [go_sem]) ((RD.out.keep (A.out _)).up (by simp))).mono ?_
          rintro e w5 ⟨v, rfl, hv, hb5⟩
          have hb5' : Below wr.heap.size wr w5 := (A.out _).trans (hb5.mono (by simp))
          have hsz5 := hb5'.size
          have HV := hideP hv
          obtain ⟨a5, d5, e5⟩ := hv.form
          subst e5
          have W5 := hideP (WR.out.keep hb5')
          have B5 := hideP (HBW.out.trans (hb5'.mono (by have := HSZ.out; omega)))
          have OD5 := hideP (owns_keep OD.out hb5')
          obtain ⟨hs5, _, ⟨r0, r1, f3⟩, _⟩ := wid_sizes W5.out
          clear hb5 hb5' hv
          go_wp2_with fail
          refine bodyPost_ret (v := .agg #[.slice a5 sa.length d5, .slice (some ⟨w3.heap.size, 0, none⟩) k k]) (by simp [results, Try.results52, go_sem, r0, r1]) rfl ?_
          show KPost _ _ _ _ _ _
          rw [← HE.out.1, ← HE.out.2.1]
          refine ⟨(B5.out.setCell (by simp; omega) _).setCell (by simp; omega) _, .inl ⟨rfl, _, _, rfl, ?_, ?_, ?_⟩⟩
          · refine Own.base (B := wr.heap.size + 1) ?_ (by have := HSZ.out; omega)
            refine Own.store (Own.store ?_ (by have := HSZ.out; omega) _) (by have := HSZ.out; omega) _
            have := HV.out
            simpa using this
          · refine Own.base (B := w3.heap.size) ?_ (by omega)
            exact Own.store (Own.store (own_of_owns OD5.out DL.out) (by omega) _) (by omega) _
          · refine apart_left (B := wr.heap.size + 1) (w := w5) ?_ ?_
            · have := HV.out
              simpa using this
            · intro b hb
              simp [Value.ownBlock] at hb
              have := HSZ.out
              omega
    · rw [decide_eq_false hs]
      have e := HE.out
      unfold Pl.eachM at e
      rw [if_neg (fun h => h HL.out), if_pos hs] at e
      simp only [Prod.mk.injEq] at e
      obtain ⟨rfl, rfl, rfl⟩ := e
      have B3 := hideP (wid_sizes W3.out).2.2.2
      clear hs
      go_wp2_with (go_at_call 83; refine (refuse_yes _ _).mono ?_; rintro e w3 ⟨rfl, rfl⟩)
      exact ⟨rfl, B3.out, .inr ⟨by decide, rfl, rfl, rfl⟩⟩
  · have test : ((sa.length : Int) != (sb.length : Int)) = true := by rw [bne_iff_ne]; omega
    have e := HE.out
    unfold Pl.eachM at e
    rw [if_pos hlen] at e
    simp only [Prod.mk.injEq] at e
    obtain ⟨rfl, rfl, rfl⟩ := e
    clear hlen
    go_wp2_with (go_at_call 83; refine (refuse_yes _ _).mono ?_; rintro e w2 ⟨rfl, rfl⟩)
    exact ⟨rfl, BW2.out, .inr ⟨by decide, rfl, rfl, rfl⟩⟩

/-- impl.each2 -/
theorem each2_impl (f : Nat) (nv : Int) (nb : Bool) (F : Int → Int → Int × Int) (v0 v1 v2 v3 : Value) (sa da sb db : List Int) (w : World) (hl1 : da.length ≤ 1048576) (hl3 : db.length ≤ 1048576) (hcf : ∀ args w, (callFunc f args).run Try.prog w = .ok (.enter f args) w)
    (hF : ∀ x y w', -3000000000 ≤ x → x ≤ 3000000000 → -3000000000 ≤ y → y ≤ 3000000000 → Calls Try.prog f #[.int .i64 x, .int .i64 y] w' (CPost w' (F x y)))
    (h0 : Rd w.heap.size w v0 sa) (h1 : Rd w.heap.size w v1 da) (h2 : Rd w.heap.size w v2 sb) (h3 : Rd w.heap.size w v3 db) (oka : Pl.okB sa da = true) (okb : Pl.okB sb db = true) (c : Int) (S D : List Int) (hres : Pl.each2M F sa da sb db = (c, S, D)) :
    Calls Try.prog 52 #[.agg #[.func (.func f) #[] #[], .int .i64 nv, .bool nb], .agg #[v0, v1], .agg #[v2, v3]] w (KPost w c S D) := by
  by_cases h : sa.length = 0 ∨ sb.length = 0
  · exact each2_scalar f nv nb F v0 v1 v2 v3 sa da sb db w hl1 hl3 hcf hF h0 h1 h2 h3 oka okb c S D hres h
  · exact each2_rows f nv nb F v0 v1 v2 v3 sa da sb db w hl1 hl3 hcf hF h0 h1 h2 h3 oka okb c S D hres (fun g => h (.inl g)) (fun g => h (.inr g))

end Go.Proofs.Ytmobjomebmipdaa
