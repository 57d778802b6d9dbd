import Derived.Test.YtmobjomebmipdaaRow
import Derived.Test.YtmobjomebmipdaaOuter
import Derived.Test.YtmobjomebmipdaaPlain5
namespace Go.Proofs.Ytmobjomebmipdaa
open Go.RowKit
set_option linter.unusedVariables false

/-- impl.joined of one list, as a row of the call's own -/
theorem joined1_row (b : Nat) (u : Value) (xs : List Int) (w : World) (hl : xs.length ≤ 1048576) (hb : b < w.heap.size) (c0 : w.cell? ⟨b, 0, none⟩ = some u) (h0 : Rd w.heap.size w u xs) :
    Calls Try.prog 84 #[.slice (some ⟨b, 0, none⟩) 1 1] w fun e w' => ∃ v, e = .returned v ∧ w'.ownsRow w.heap.size 3 1 v xs.length (xs.map (Value.int .i64)) ∧ Below w.heap.size w w' := by
  have K := hideP (concat1 b u xs w hl hb c0 h0)
  clear c0 h0
  go_enter Try.func84, Try.ntmps84
  go_wp2_with (go_at_call 136; refine K.out.mono ?_; rintro e w' ⟨v, rfl, ho, hb'⟩)
  go_ret
  exact ⟨_, rfl, ho, hb'⟩

/-- what fold does: a row of the call's own, or a code -/
def RPost (W : World) (r : Int × List Int) (s : Nat) (e : Ending) (w' : World) : Prop :=
  Below W.heap.size W w' ∧ ((r.1 = 0 ∧ ∃ v, e = .returned v ∧ w'.ownsRow W.heap.size 3 1 v s (r.2.map (Value.int .i64))) ∨ (¬ r.1 = 0 ∧ e = .panicked [thrown r.1]))

set_option maxRecDepth 100000 in
set_option maxHeartbeats 4000000 in
/-- impl.fold -/
theorem fold_any (f : Nat) (nv : Int) (nb : Bool) (F : Int → Int → Int × Int) (b off cap s n : Nat) (da : List Int) (w : World) (hcf : ∀ args w, (callFunc f args).run Try.prog w = .ok (.enter f args) w)
    (hF : ∀ x y w', -3000000000 ≤ x → x ≤ 3000000000 → -3000000000 ≤ y → y ≤ 3000000000 → Calls Try.prog f #[.int .i64 x, .int .i64 y] w' (CPost w' (F x y)))
    (hFb : ∀ x y, -3000000000 ≤ x → x ≤ 3000000000 → -3000000000 ≤ y → y ≤ 3000000000 → (F x y).2 = 0 → -3000000000 ≤ (F x y).1 ∧ (F x y).1 ≤ 3000000000)
    (h0 : Rd w.heap.size w (.slice (some ⟨b, off, none⟩) da.length cap) da) (hn : 1 ≤ n) (hn' : n ≤ 1000) (hl : da.length = n * s) (hl' : da.length ≤ 1000) (hc : da.length ≤ cap) (hc' : cap ≤ 9223372036854775807) (hv : ∀ x ∈ da, -3000000000 ≤ x ∧ x ≤ 3000000000) (r : Int × List Int) (hres : Pl.foldM F da s n = r) :
    Calls Try.prog 130 #[.agg #[.func (.func f) #[] #[], .int .i64 nv, .bool nb], .slice (some ⟨b, off, none⟩) da.length cap, .int .i64 (n : Int)] w (RPost w r s) := by
  have A : Hid (∀ (W : World) o, Below W.heap.size W (W.alloc o)) := fun W o => (Below.refl _ _).alloc (Nat.le_refl _) _
  have KR : Hid (∀ (i : Nat) w', i + 1 ≤ n → Below w.heap.size w w' → Calls Try.prog 133 #[.slice (some ⟨b, off, none⟩) da.length cap, .int .i64 (s : Int), .int .i64 (i : Int), .int .i64 ((i : Int) + 1)] w' fun e w'' => ∃ v, e = .returned v ∧ Rd w.heap.size w' v (Pl.rowAt da s i) ∧ w'' = w') := fun i w' hi hb => by
    have h1 : (i + 1) * s ≤ da.length := by rw [hl]; exact Nat.mul_le_mul_right s hi
    have := rows_any w.heap.size b off cap s i (i + 1) da w' (h0.keep hb) (by omega) h1 hc hc'
    rw [show (i + 1) * s - i * s = s by rw [Nat.succ_mul]; omega, show (((i + 1 : Nat)) : Int) = (i : Int) + 1 by omega] at this
    exact this
  have RL : Hid (∀ i, i + 1 ≤ n → (Pl.rowAt da s i).length = s) := fun i hi => Pl.rowAt_len (by rw [hl]; exact Nat.mul_le_mul_right s hi)
  have RM : Hid (∀ i x, x ∈ Pl.rowAt da s i → -3000000000 ≤ x ∧ x ≤ 3000000000) := fun i x hx => hv x (Pl.rowAt_mem hx)
  have HF := hideP hF
  have HB := hideP hFb
  have HR := hideP hres
  have hsd : s ≤ 1000 := by
    have : s ≤ n * s := Nat.le_mul_of_pos_left s (by omega)
    omega
  obtain ⟨n', rfl⟩ : ∃ n', n = n' + 1 := ⟨n - 1, by omega⟩
  have hdiv : (da.length : Int) / ((n' : Int) + 1) = (s : Int) := by
    rw [hl, Int.natCast_mul]
    exact Int.mul_ediv_cancel_left (s : Int) (by omega)
  clear h0 hF hFb hres hv hl
  generalize hm : da.length = m at *
  clear hm
  have HRL := hideP (RL.out n' (Nat.le_refl _))
  go_enter Try.func130, Try.ntmps130
  go_wp2_with fail
  refine (KR.out n' _ (Nat.le_refl _) (A.out _ _)).mono ?_
  rintro e w1 ⟨v, rfl, hrd, rfl⟩
  have RD1 := hideP hrd
  obtain ⟨zv, yv, ev⟩ := hrd.form
  rw [HRL.out] at ev
  subst ev
  clear hrd
  go_wp2_with fail
  refine (joined1_row (w.heap.size + 1) _ (Pl.rowAt da s n') _ (by rw [HRL.out]; omega) (by simp) (by simp [go_sem]) (((RD1.out.up (by simp)).keep (A.out _ _)).up (by simp))).mono ?_
  rintro e w2 ⟨FV, rfl, ho2, hb2⟩
  rw [HRL.out] at ho2
  have ho2' : w2.ownsRow (w.heap.size + 1 + 1) 3 1 FV s ((Pl.rowAt da s n').map (Value.int .i64)) := by
    have := ho2
    simpa using this
  have HO2 := hideP ho2'
  have BW2 : Hid (Below w.heap.size w w2) := (((Below.refl _ _).alloc (Nat.le_refl _) _).alloc (by simp) _).trans (hb2.mono (by simp; omega))
  have CO2 : Hid (w2.cell? ⟨w.heap.size, 0, none⟩ = some (.func (.func f) #[] #[])) := by
    have := hb2.cell (p := ⟨w.heap.size, 0, none⟩) (by show w.heap.size < _; simp; omega)
    show _ = _
    rw [this]
    simp [go_sem]
  have hs2 : w.heap.size + 1 + 1 ≤ w2.heap.size := by have := hb2.size; simp at this; omega
  clear hb2 ho2 ho2' RD1
  go_wp2_with fail
  go_loopw [9, 10, 11] (fun i _ _ wr => ∃ q : Nat, q ≤ n' ∧ i = .int .i64 ((q : Int) - 1) ∧ ∃ acc, Hid (acc.length = s) ∧ Hid (∀ y ∈ acc, -3000000000 ≤ y ∧ y ≤ 3000000000) ∧ Hid (Pl.foldL F (Pl.rowsDown da s q) acc = r) ∧ Hid (wr.ownsRow (w.heap.size + 1 + 1) 3 1 FV s (acc.map (Value.int .i64))) ∧ Hid (Below (w.heap.size + 1 + 1) w2 wr)) (fun i _ _ _ => (intOf i + 1).toNat)
  case atStart =>
    refine ⟨n', Nat.le_refl _, by go_num, Pl.rowAt da s n', HRL, RM.out n', ?_, HO2, Below.refl _ _⟩
    have := HR.out
    unfold Pl.foldM at this
    rw [Nat.add_sub_cancel] at this
    exact this
  case round =>
    obtain ⟨q, hq, rfl, acc, hal, hab, hfo, ho, hbel⟩ := hrel
    have HBW : Hid (Below w.heap.size w wr) := BW2.out.trans (hbel.out.mono (by omega))
    by_cases hq0 : q = 0
    · subst hq0
      have e : r = (0, acc) := hfo.out.symm
      have HE := hideP e
      go_wp2_with fail
      go_ret
      refine ⟨HBW.out, .inl ⟨by rw [HE.out], FV, rfl, ?_⟩⟩
      rw [HE.out]
      exact owns_base ho.out (by omega)
    · obtain ⟨q', rfl⟩ : ∃ q', q = q' + 1 := ⟨q - 1, by omega⟩
      have eq1 : (((q' + 1 : Nat)) : Int) - 1 = (q' : Int) := by omega
      rw [eq1]
      clear eq1
      have HQL := hideP (RL.out q' (by omega))
      go_wp2_with fail
      refine (KR.out q' _ (by omega) HBW.out).mono ?_
      rintro e wr ⟨v, rfl, hrd, rfl⟩
      obtain ⟨ax, cx, bx, ox, ex, hax, hbx, hcx⟩ := hrd.parts
      rw [HQL.out] at ex hax hbx hcx
      subst ex
      have PX := hideP (And.intro hax (And.intro hbx hcx))
      have HXS : Hid (∀ x ∈ Pl.rowAt da s q', -3000000000 ≤ x ∧ x ≤ 3000000000) := RM.out q'
      have HFO : Hid (Pl.foldL F (Pl.rowAt da s q' :: Pl.rowsDown da s q') acc = r) := hfo.out
      clear hrd hax hbx hcx hfo
      generalize Pl.rowAt da s q' = xs at *
      rename World => wk
      have KB : Hid (Below (w.heap.size + 1 + 1) w2 wk) := hbel.out
      have KW : Hid (Below w.heap.size w wk) := HBW.out
      go_wp2_with fail
      go_loopw [10, 11, 37] (fun _ _ jj wr => ∃ j : Nat, j ≤ s ∧ jj = .int .i64 j ∧ Hid (∀ p ∈ Pl.zipT xs acc j, (Pl.pairF F p).2 = 0) ∧ Hid (wr.ownsRow (w.heap.size + 1 + 1) 3 1 FV s ((Pl.upZ F xs acc j).map (Value.int .i64))) ∧ Hid (Below (w.heap.size + 1 + 1) wk wr)) (fun _ _ jj _ => s - (intOf jj).toNat)
      case atStart =>
        refine ⟨0, Nat.zero_le _, rfl, by intro x hx; rw [Pl.zipT_zero] at hx; simp at hx, ?_, Below.refl _ _⟩
        show World.ownsRow _ _ _ _ _ _ _
        rw [Pl.upZ_zero]
        exact ho.out
      case round =>
        clear ho hbel HBW
        obtain ⟨j, hj, rfl, hz, ho, hbel⟩ := hrel
        have B2R : Hid (Below (w.heap.size + 1 + 1) w2 wr) := KB.out.trans hbel.out
        have HBW : Hid (Below w.heap.size w wr) := KW.out.trans (hbel.out.mono (by omega))
        by_cases hlt : j < s
        · have hlx : j < xs.length := by rw [HQL.out]; exact hlt
          have hla : acc.length = xs.length := by rw [HQL.out, hal.out]
          obtain ⟨g, cp, eF, hgB⟩ : ∃ g cp, FV = .slice (some ⟨g, 0, none⟩) s cp ∧ w.heap.size + 1 + 1 ≤ g := by
            rcases ho.out.2 with ⟨_, h⟩ | ⟨g, cp, cur, h, hg, _⟩
            · omega
            · exact ⟨g, cp, h, hg⟩
          have hax := PX.out.1 (by omega)
          have hck : wr.cell? ⟨bx, ox + j, none⟩ = some (.int .i64 (xs.getD j 0)) := (hbel.out.cell (p := ⟨bx, ox + j, none⟩) (by have := PX.out.2.1 (by omega); show bx < _; omega)).trans (PX.out.2.2 j hlt)
          have hca : wr.cell? ⟨g, j, none⟩ = some (.int .i64 (acc.getD j 0)) := by
            have e := ho.out
            rw [eF] at e
            rw [e.cellAt j (by omega), List.getElem?_map, Pl.upZ_get F xs acc j hlx hla]
            rfl
          subst hax
          subst eF
          have X := HXS.out (xs.getD j 0) (by
            have : xs.getD j 0 = xs[j] := by simp [List.getD, hlx]
            rw [this]; exact List.getElem_mem hlx)
          have Y := hab.out (acc.getD j 0) (by
            have h' : j < acc.length := by omega
            have : acc.getD j 0 = acc[j] := by simp [List.getD, h']
            rw [this]; exact List.getElem_mem h')
          have T : Hid (Pl.zipT xs acc (j + 1) = Pl.zipT xs acc j ++ [(xs.getD j 0, acc.getD j 0)]) := Pl.zipT_snoc xs acc j hlx (by omega)
          have FA : Hid (¬ (F (xs.getD j 0) (acc.getD j 0)).2 = 0 → Pl.firstG (Pl.pairF F) (xs.zip acc) = (F (xs.getD j 0) (acc.getD j 0)).2) := Pl.first_at F xs acc j hlx (by omega) hz.out
          have U : Hid ((Pl.upZ F xs acc j).set j (F (xs.getD j 0) (acc.getD j 0)).1 = Pl.upZ F xs acc (j + 1)) := Pl.upZ_step F xs acc j hlx hla
          clear hlx hla PX
          generalize xs.getD j 0 = x at *
          generalize acc.getD j 0 = y at *
          have LC : Hid (∀ w', Calls Try.prog f #[.int .i64 x, .int .i64 y] w' (CPost w' (F x y))) := fun w' => HF.out x y w' X.1 X.2 Y.1 Y.2
          clear X Y
          have hltj : (j : Int) < (s : Int) := by omega
          have COR : Hid (wr.cell? ⟨w.heap.size, 0, none⟩ = some (.func (.func f) #[] #[])) := (B2R.out.cell (p := ⟨w.heap.size, 0, none⟩) (by show w.heap.size < _; omega)).trans CO2.out
          have HSZ : Hid (g < wr.heap.size) := (ho.out.lt _ rfl).2
          have L0 : ∀ w', Below (w.heap.size + 1 + 1) wr w' → w'.cell? ⟨w.heap.size, 0, none⟩ = some (.func (.func f) #[] #[]) := fun w' h => (h.cell (p := ⟨w.heap.size, 0, none⟩) (by show w.heap.size < _; omega)).trans COR.out
          have DR := hideP (show Below (w.heap.size + 1 + 1) wr wr.drew from (Below.refl _ _).drew)
          go_wp2_with fail
          refine wp_region_held (S := fun w' => Below (w.heap.size + 1 + 1) wr w') (by kernel_rfl) ?_
          change wpAnyH _ _ _ _ _ _ _ _ (World.drew _)
          refine wpAnyH_take (i := 0) (v := .slice (some ⟨g, 0, none⟩) s cp) rfl (by kernel_rfl) (by kernel_rfl) (by kernel_rfl) (fun _ _ _ h => h) (Or.inl ⟨by rfl, ?_⟩) DR.out ?_
          · intro w' hS
            clear L0 hS
            go_simp
          refine wpAnyH_take (i := 1) (v := .int .i64 (j : Int)) rfl (by kernel_rfl) (by kernel_rfl) (by kernel_rfl) (fun _ _ _ h => h) (Or.inl ⟨by rfl, ?_⟩) DR.out ?_
          · intro w' hS
            clear L0 hS
            go_simp
          refine wpAnyH_take (i := 2) (v := .pointer (some ⟨w.heap.size, 0, none⟩)) rfl (by kernel_rfl) (by kernel_rfl) (by kernel_rfl) (fun _ _ _ h => h) (Or.inl ⟨by rfl, ?_⟩) DR.out ?_
          · intro w' hS
            clear L0 hS
            go_simp
          refine wpAnyH_take (i := 3) (v := .func (.func f) #[] #[]) rfl (by kernel_rfl) (by kernel_rfl) (by kernel_rfl) (fun _ _ _ h => h) (Or.inl ⟨by rfl, ?_⟩) DR.out ?_
          · intro w' hS
            have := L0 w' hS
            clear L0 hS
            go_simp
          refine wpAnyH_take (i := 4) (v := .int .i64 x) rfl (by kernel_rfl) (by kernel_rfl) (by kernel_rfl) (fun _ _ _ h => h) (Or.inl ⟨by rfl, ?_⟩) DR.out ?_
          · intro w' hS
            clear L0 hS
            go_simp
          refine wpAnyH_take (i := 5) (v := .slice (some ⟨g, 0, none⟩) s cp) rfl (by kernel_rfl) (by kernel_rfl) (by kernel_rfl) (fun _ _ _ h => h) (Or.inl ⟨by rfl, ?_⟩) DR.out ?_
          · intro w' hS
            clear L0 hS
            go_simp
          refine wpAnyH_take (i := 6) (v := .int .i64 (j : Int)) rfl (by kernel_rfl) (by kernel_rfl) (by kernel_rfl) (fun _ _ _ h => h) (Or.inl ⟨by rfl, ?_⟩) DR.out ?_
          · intro w' hS
            clear L0 hS
            go_simp
          refine wpAnyH_take (i := 7) (v := .pointer (some ⟨g, j, none⟩)) rfl (by kernel_rfl) (by kernel_rfl) (by kernel_rfl) (fun _ _ _ h => h) (Or.inl ⟨by rfl, ?_⟩) DR.out ?_
          · intro w' hS
            clear L0 hS
            go_simp
          clear L0 hck
          refine wpAnyH_ready (rs := [8]) (by kernel_rfl) (by simp) ?_
          refine AllReadyH.cons rfl (fun K hK => ?_) AllReadyH.nil
          go_simp
          refine hK.out _ _ DR.out (fun _ => ?_)
          clear hK hca
          refine wpAnyH_ready (rs := [9]) (by kernel_rfl) (by simp) ?_
          refine AllReadyH.cons rfl (fun K hK => ?_) AllReadyH.nil
          go_simp
          refine (LC.out _).mono ?_
          rintro e w5 ⟨hb5, hor⟩
          have hb5' : Below wr.heap.size wr w5 := (show Below wr.heap.size wr wr.drew from (Below.refl _ _).drew).trans hb5
          have hBle : w.heap.size + 1 + 1 ≤ wr.heap.size := by have := HSZ.out; omega
          have S5 := hideP (hb5'.mono hBle)
          have ho5 := owns_keep ho.out hb5'
          have HBW5 := hideP (HBW.out.trans (hb5'.mono (by omega)))
          clear hb5 hb5'
          rcases hor with ⟨hr, rfl⟩ | ⟨hr, rfl⟩
          · have hfz := ho5.frozenAt j
            have hst := ho5.stored j (.int .i64 (F x y).1)
            have hcg : w5.cell? ⟨g, j, none⟩ = some (.int .i64 y) ∨ True := .inr trivial
            clear hcg
            have hcg : ∃ u, w5.cell? ⟨g, j, none⟩ = some (.int .i64 u) := by
              rw [ho5.cellAt j (by omega)]
              have hlen : j < (Pl.upZ F xs acc j).length := by
                have := ho5.1
                simp at this
                omega
              exact ⟨(Pl.upZ F xs acc j)[j], by simp [hlen]⟩
            obtain ⟨u, hcg⟩ := hcg
            have R : Hid ((w5.setCell ⟨g, j, none⟩ (.int .i64 (F x y).1)).ownsRow (w.heap.size + 1 + 1) 3 1 (.slice (some ⟨g, 0, none⟩) s cp) s ((Pl.upZ F xs acc (j + 1)).map (Value.int .i64))) := by
              show World.ownsRow _ _ _ _ _ _ _
              rw [← U.out, List.map_set]
              exact hst.1
            have S6 : Hid (Below (w.heap.size + 1 + 1) wr (w5.setCell ⟨g, j, none⟩ (.int .i64 (F x y).1))) := S5.out.setCell (by simpa using hgB) _
            have B6 : Hid (Below (w.heap.size + 1 + 1) wk (w5.setCell ⟨g, j, none⟩ (.int .i64 (F x y).1))) := hbel.out.trans S6.out
            have Z : Hid (∀ p ∈ Pl.zipT xs acc (j + 1), (Pl.pairF F p).2 = 0) := by
              intro p hp
              rw [T.out] at hp
              simp at hp
              rcases hp with hp | rfl
              · exact hz.out p hp
              · exact hr
            clear hst ho5 FA hr
            generalize (F x y).1 = rr at *
            refine hK.out _ _ S5.out (fun _ => ?_)
            clear hK
            refine wpAnyH_ready (rs := [10]) (by kernel_rfl) (by simp) ?_
            refine AllReadyH.cons rfl (fun K hK => ?_) AllReadyH.nil
            go_simp
            refine hK.out _ _ S5.out (fun _ => ?_)
            clear hK
            refine wpAnyH_ready (rs := [11]) (by kernel_rfl) (by simp) ?_
            refine AllReadyH.cons rfl (fun K hK => ?_) AllReadyH.nil
            go_simp
            refine hK.out _ _ S6.out (fun _ => ?_)
            clear hK
            refine wpAnyH_done (by kernel_rfl) ?_ _
            go_wp2_with fail
            go_roundw
            case rel => exact ⟨j + 1, by omega, by go_num, Z, R, B6⟩
            case measure => simp [intOf]; omega
          · have EC := FA.out hr
            have e : r = ((F x y).2, []) := by
              have := HFO.out
              unfold Pl.foldL at this
              rw [EC, if_neg hr] at this
              exact this.symm
            exact ⟨rfl, HBW5.out, .inr ⟨by rw [e]; exact hr, by rw [e]⟩⟩
        · have js : j = s := by omega
          subst js
          have hla : acc.length = xs.length := by rw [HQL.out, hal.out]
          have ZA : Hid (∀ p ∈ xs.zip acc, (Pl.pairF F p).2 = 0) := by
            have := hz.out
            rw [Pl.zipT_all _ _ _ (by rw [HQL.out]; exact Nat.le_refl _)] at this
            exact this
          have FO : Hid (Pl.foldL F (Pl.rowsDown da j q') ((xs.zip acc).map (fun p => (Pl.pairF F p).1)) = r) := by
            have := HFO.out
            unfold Pl.foldL at this
            rw [if_pos (Pl.firstG_zero _ _ ZA.out)] at this
            exact this
          have NL : Hid (((xs.zip acc).map (fun p => (Pl.pairF F p).1)).length = j) := by
            show _ = _
            rw [List.length_map, List.length_zip, hla, HQL.out, Nat.min_self]
          have NB : Hid (∀ y ∈ (xs.zip acc).map (fun p => (Pl.pairF F p).1), -3000000000 ≤ y ∧ y ≤ 3000000000) := by
            intro y hy
            obtain ⟨p, hp, rfl⟩ := List.mem_map.1 hy
            have h1 := HXS.out p.1 (List.of_mem_zip hp).1
            have h2 := hab.out p.2 (List.of_mem_zip hp).2
            exact HB.out p.1 p.2 h1.1 h1.2 h2.1 h2.2 (ZA.out p hp)
          have OO : Hid (wr.ownsRow (w.heap.size + 1 + 1) 3 1 FV j (((xs.zip acc).map (fun p => (Pl.pairF F p).1)).map (Value.int .i64))) := by
            have := ho.out
            rw [Pl.upZ_all F xs acc j (by rw [HQL.out]; exact Nat.le_refl _) hla] at this
            exact this
          clear hla
          go_wp2_with fail
          go_roundw
          case rel => exact ⟨q', by omega, by go_num, _, NL, NB, FO, OO, B2R⟩
          case measure => simp [intOf]

end Go.Proofs.Ytmobjomebmipdaa
