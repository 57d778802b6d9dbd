import Derived.Test.YtljkolffjjhgeaaDoorPgm
import Derived.Test.YtljkolffjjhgeaaDoorIts
import Derived.Test.YtljkolffjjhgeaaDoorHlk
import Derived.Test.YtljkolffjjhgeaaDoorEqt
namespace Go.Proofs.YtljkolffjjhgeaaDoor
open Go.RowKit
set_option linter.unusedVariables false
set_option maxRecDepth 100000
namespace Pl
theorem lex_memi (s : ByteArray) : ∀ (n i : Nat) (t : Tok), t ∈ lexS s n i → ∃ j, j < s.size ∧ t = tokAt s j
  | 0, i, t, h => by simp [lexS] at h
  | n + 1, i, t, h => by
    rw [lexS] at h
    split at h
    · simp at h
    · split at h
      · exact lex_memi s n _ t h
      · split at h
        · exact lex_memi s n _ t h
        · rename_i h0 _ _
          rcases List.mem_cons.1 h with rfl | h
          · exact ⟨i, by omega, rfl⟩
          · exact lex_memi s n _ t h
theorem lx_iok {s : ByteArray} (h : fb (lx s 0) = none) : ∀ t ∈ (lx s 0).map iTk, iOk t := fun t ht => by
  obtain ⟨u, hu, rfl⟩ := List.mem_map.1 ht
  obtain ⟨j, hj, rfl⟩ := lex_memi s _ _ u hu
  exact iTk_ok hj (fb_none _ h _ hu)
theorem lx_T {s : ByteArray} (h : fb (lx s 0) = none) : rI ((lx s 0).map iTk) 0 = (lx s 0).map tkT := by
  unfold rI
  rw [List.drop_zero, List.map_map]
  exact List.map_congr_left fun t ht => iTk_T (lx_ok h t ht).1
theorem prs_long {s : ByteArray} (h : 4000 < s.size) : prsS s = ([], 1, 0) := by unfold prsS; rw [if_pos h]
theorem prs_bad {s : ByteArray} {p : Nat} (h : ¬ 4000 < s.size) (hf : fb (lx s 0) = some p) : prsS s = ([], 2, (p : Int)) := by unfold prsS; rw [if_neg h, hf]
theorem prs_pp {s : ByteArray} (h : ¬ 4000 < s.size) (hf : fb (lx s 0) = none) : prsS s = match pprog (2 * (lx s 0).length + 1) ((lx s 0).length + 1) (seps ((lx s 0).map tkT)) with | none => ([], 3, 0) | some ss => if ss.any S.bey = true then ([], 4, 0) else (ss.map S.tv, 0, 0) := by
  unfold prsS
  rw [if_neg h, hf]
  simp only
  rw [prog_eq (2 * (lx s 0).length + 1) ((lx s 0).length + 1) _ (by simp) (by simp)]
  cases pprog (2 * (lx s 0).length + 1) ((lx s 0).length + 1) (seps ((lx s 0).map tkT)) with
  | none => rfl
  | some ss =>
    simp only
    have e : ss.all S.fine = !ss.any S.bey := by
      induction ss with
      | nil => rfl
      | cons s ss ih => rw [List.all_cons, List.any_cons, ih, S.fine_bey, Bool.not_or]
    rw [e]
    cases ss.any S.bey <;> rfl
theorem cellsI_len (l : List Itk) : (cellsI l).length = l.length * 3 := by
  induction l with
  | nil => rfl
  | cons t l ih =>
    have e : cellsI (t :: l) = t.cells ++ cellsI l := rfl
    rw [e, List.length_append, ih, List.length_cons]
    simp [Itk.cells]
    omega
theorem cellsI_at : ∀ (l : List Itk) (i : Nat) (t : Itk) (k : Nat), l[i]? = some t → k < 3 → (cellsI l)[i * 3 + k]? = t.cells[k]?
  | [], i, t, k, h, _ => by simp at h
  | x :: l, 0, t, k, h, hk => by
    have e : cellsI (x :: l) = x.cells ++ cellsI l := rfl
    have : x = t := by simpa using h
    subst this
    rw [e, List.getElem?_append_left (by simp [Itk.cells]; omega), Nat.zero_mul, Nat.zero_add]
  | x :: l, i + 1, t, k, h, hk => by
    have e : cellsI (x :: l) = x.cells ++ cellsI l := rfl
    have hx : x.cells.length = 3 := rfl
    rw [e, List.getElem?_append_right (by omega), ← cellsI_at l i t k (by simpa using h) hk, hx]
    congr 1
    omega
end Pl
theorem rdj_own {w : World} {B : Nat} {ao : Option Addr} {cap : Nat} {l : List Pl.Itk} (h : w.ownsRow B 68 3 (.slice ao l.length cap) l.length (Pl.cellsI l)) : RdJ w.heap.size w ao l := by
  by_cases h0 : l = []
  · exact .inl h0
  · obtain ⟨g, rfl, _, hlt, hc⟩ := owns_cell h (List.length_pos_iff.2 h0)
    refine .inr ⟨g, 0, hlt, rfl, fun i t hi => ?_⟩
    have hil : i < l.length := (List.getElem?_eq_some_iff.1 hi).1
    have c (k : Nat) (hk : k < 3) : w.cell? ⟨g, 0 + i * 3 + k, none⟩ = t.cells[k]? := by
      rw [Nat.zero_add, hc _ (by omega), Pl.cellsI_at l i t k hi hk]
    exact ⟨c 0 (by omega), c 1 (by omega), c 2 (by omega)⟩
/-- what Parse gives -/
def PoP (s : ByteArray) (w : World) (e : Ending) (w' : World) : Prop := ∃ v F, e = .returned (.tuple #[v, .int .i64 (Pl.prsS s).2.1, .int .i64 (Pl.prsS s).2.2]) ∧ Below w.heap.size w w' ∧ OwP w' v (Pl.prsS s).1 F ∧ Inb w.heap.size w' F
theorem PoP.none_ {s : ByteArray} {w w' : World} {a b : Int} (h : Pl.prsS s = ([], a, b)) (hb : Below w.heap.size w w') : PoP s w (.returned (.tuple #[.slice none 0 0, .int .i64 a, .int .i64 b])) w' := by
  refine ⟨.slice none 0 0, [], ?_, hb, ?_, Inb.nil _ _⟩
  · rw [h]
  · rw [h]; exact Own.nil _
set_option maxHeartbeats 2000000 in
/-- impl.Parse -/
theorem implParse_any (s : ByteArray) (mb mo cp : Nat) (w : World) (hm : Mt w mb mo cp) (hsz : s.size ≤ 1048576) : Calls Tryd.prog 5 #[.string s] w (PoP s w) := by
  by_cases h4 : 4000 < s.size
  · have HP : Hid (PoP s w (.returned (.tuple #[.slice none 0 0, .int .i64 1, .int .i64 0])) w) := PoP.none_ (Pl.prs_long h4) (Below.refl _ _)
    generalize hn : s.size = n at *
    have h4' : (4000 : Int) < (n : Int) := by omega
    clear hm
    go_enter Tryd.func5, Tryd.ntmps5
    go_wp2_with fail
    refine bodyPost_ret (v := .tuple #[.slice none 0 0, .int .i64 1, .int .i64 0]) (by simp [results, Tryd.results5, go_sem]) rfl HP.out
  · have K12 := hideP (tokensOf_any s mb mo cp w hm (by omega))
    have HL : Hid ((Pl.lx s 0).length ≤ 4000) := by have := Pl.len_le s.size s 0 (by omega); show _ ≤ _; omega
    have H4 := hideP h4
    generalize hn : s.size = n at h4 hsz
    have hn' : Hid (s.size = n) := hn
    have h4' : ¬ (4000 : Int) < (n : Int) := by omega
    have hz0 : 1 < w.heap.size := hm.z
    have hmb : mb < w.heap.size := hm.b
    have HM := hideP hm
    clear hm h4
    cases hf : Pl.fb (Pl.lx s 0) with
    | some p =>
      have HP : Hid (∀ w', Below w.heap.size w w' → PoP s w (.returned (.tuple #[.slice none 0 0, .int .i64 2, .int .i64 p])) w') := fun w' hb => PoP.none_ (Pl.prs_bad H4.out hf) hb
      have K : Hid (Calls Tryd.prog 12 #[.string s] w fun e w' => e = .returned (.tuple #[.slice none 0 0, .int .i64 p, .bool false]) ∧ Below w.heap.size w w') := by
        refine K12.out.mono ?_
        intro e w' h
        unfold PoT at h
        rw [hf] at h
        exact h
      clear K12 hf HM
      go_enter Tryd.func5, Tryd.ntmps5
      go_wp2_with fail
      refine K.out.mono ?_
      rintro e w1 ⟨rfl, hb1⟩
      go_wp2_with fail
      refine bodyPost_ret (v := .tuple #[.slice none 0 0, .int .i64 2, .int .i64 p]) (by simp [results, Tryd.results5, go_sem]) rfl (HP.out _ hb1)
    | none =>
      have K : Hid (Calls Tryd.prog 12 #[.string s] w fun e w' => ∃ ao cap, e = .returned (.tuple #[.slice ao (Pl.lx s 0).length cap, .int .i64 0, .bool true]) ∧ w'.ownsRow w.heap.size 68 3 (.slice ao (Pl.lx s 0).length cap) (Pl.lx s 0).length (Pl.cellsI ((Pl.lx s 0).map Pl.iTk)) ∧ Below w.heap.size w w') := by
        refine K12.out.mono ?_
        intro e w' h
        unfold PoT at h
        rw [hf] at h
        exact h
      have HR := hideP (Pl.prs_pp H4.out hf)
      have HI := hideP (Pl.lx_iok hf)
      have HT := hideP (Pl.lx_T hf)
      have HLL : Hid (((Pl.lx s 0).map Pl.iTk).length = (Pl.lx s 0).length) := List.length_map ..
      rw [← HT.out] at HR
      generalize hll : (Pl.lx s 0).length = ln at *
      generalize (Pl.lx s 0).map Pl.iTk = l at *
      clear K12 hf HT hll
      go_enter Tryd.func5, Tryd.ntmps5
      go_wp2_with fail
      refine K.out.mono ?_
      rintro e w1 ⟨ao, cap, rfl, ho1, hb1⟩
      have hs1 := hb1.size
      have BA : Below w1.heap.size w1 (w1.alloc (.cells #[.slice ao ln cap, .int .i64 0, .int .i64 0, .bool false] 46)) := (Below.refl _ _).alloc (Nat.le_refl _) _
      have HB : Hid (Below w.heap.size w (w1.alloc (.cells #[.slice ao ln cap, .int .i64 0, .int .i64 0, .bool false] 46))) := hb1.trans (BA.mono hs1)
      have K13 : Hid (Calls Tryd.prog 13 #[.pointer (some ⟨w1.heap.size, 0, none⟩)] (w1.alloc (.cells #[.slice ao ln cap, .int .i64 0, .int .i64 0, .bool false] 46)) (PoR l w1.heap.size cap ao false (w1.alloc (.cells #[.slice ao ln cap, .int .i64 0, .int .i64 0, .bool false] 46)) (Pl.pprog (2 * ln + 1) (ln + 1) (Pl.seps (Pl.rI l 0))))) := by
        have hl := HLL.out
        have hL := HL.out
        refine program_any (2 * ln + 1) (ln + 1) l w1.heap.size cap 0 mb mo cp ao false _ (by omega) (by omega) (by omega) (by omega) HI.out ?_ ?_
        · refine ⟨?_, HM.out.keep (HB.out), by omega, by omega⟩
          have hr : RdJ w1.heap.size w1 ao l := rdj_own (B := w.heap.size) (cap := cap) (by rw [hl]; exact ho1)
          exact hr.keep BA
        · rw [hl]
          exact ⟨by simp, by simp [go_sem], by simp [go_sem], by simp [go_sem], by simp [go_sem], fun j => by simp [go_sem]⟩
      clear ho1 hb1 K
      generalize Pl.pprog (2 * ln + 1) (ln + 1) (Pl.seps (Pl.rI l 0)) = R at *
      go_wp2_with fail
      refine K13.out.mono ?_
      intro e w2 h2
      cases R with
      | none =>
        obtain ⟨a', be', rfl, hI2⟩ := h2
        have HP : Hid (PoP s w (.returned (.tuple #[.slice none 0 0, .int .i64 3, .int .i64 0])) w2) := PoP.none_ HR.out (HB.out.trans (below_p (by simp) hI2.g |>.mono hs1))
        clear hI2 K13 HM BA HB HR
        go_wp2_with fail
        refine bodyPost_ret (v := .tuple #[.slice none 0 0, .int .i64 3, .int .i64 0]) (by simp [results, Tryd.results5, go_sem]) rfl HP.out
      | some ss =>
        obtain ⟨v, F, a', rfl, hO2, hI2, hX2⟩ := h2
        obtain ⟨ag, cg, rfl⟩ := hO2.slice
        have hB2 := HB.out.trans (below_p (by simp) hX2.g |>.mono hs1)
        have hc3 := hX2.ps.c3
        cases hb : ss.any Pl.S.bey
        · have HP : Hid (PoP s w (.returned (.tuple #[.slice ag (ss.map Pl.S.tv).length cg, .int .i64 0, .int .i64 0])) w2) := by
            have e : Pl.prsS s = (ss.map Pl.S.tv, 0, 0) := by rw [HR.out]; simp only; rw [hb]; rfl
            refine ⟨_, F, by rw [e], hB2, by rw [e]; exact hO2, hI2.up (by simp; omega) (Nat.le_refl _)⟩
          rw [hb] at hc3
          generalize (ss.map Pl.S.tv).length = ns at *
          clear hI2 hO2 hX2 hB2 K13 HM BA HB HR hb
          go_wp2_with fail
          refine bodyPost_ret (v := .tuple #[.slice ag ns cg, .int .i64 0, .int .i64 0]) (by simp [results, Tryd.results5, go_sem]) rfl HP.out
        · have HP : Hid (PoP s w (.returned (.tuple #[.slice none 0 0, .int .i64 4, .int .i64 0])) w2) := PoP.none_ (by rw [HR.out]; simp only; rw [hb]; rfl) hB2
          rw [hb] at hc3
          generalize (ss.map Pl.S.tv).length = ns at *
          clear hI2 hO2 hX2 hB2 K13 HM BA HB HR hb
          go_wp2_with fail
          refine bodyPost_ret (v := .tuple #[.slice none 0 0, .int .i64 4, .int .i64 0]) (by simp [results, Tryd.results5, go_sem]) rfl HP.out
namespace Pl
/-- how far the marks of a code go -/
def cm (c : List Sv) : Nat := (c.map fun s => 6 + s.nums.length).sum
def gmv (c : List Gv) : Nat := (c.map fun g => cm g.test + cm g.thn).sum
def tm (t : Tv) : Nat := 2 + cm t.code + gmv t.gs
def ptm (p : List Tv) : Nat := (p.map tm).sum
theorem cm_app (c d : List Sv) : cm (c ++ d) = cm c + cm d := by simp [cm]
theorem mkI_snd : ∀ (c : List Int) (m : Nat), (mkI m c).2 = m + c.length
  | [], m => rfl
  | a :: c, m => by
    show (mkI (m + 1) c).2 = _
    rw [mkI_snd c, List.length_cons]
    omega
theorem mkS_snd : ∀ (c : List Sv) (m : Nat), (mkS m c).2 = m + cm c
  | [], m => rfl
  | a :: c, m => by
    show (mkS (mkSv m a).2 c).2 = _
    rw [mkS_snd c]
    have e : (mkSv m a).2 = (mkI (m + 1) a.nums).2 + 5 := rfl
    rw [e, mkI_snd]
    simp [cm]
    omega
theorem mkG_snd : ∀ (c : List Gv) (m : Nat), (mkG m c).2 = m + gmv c
  | [], m => rfl
  | a :: c, m => by
    show (mkG (mkGv m a).2 c).2 = _
    rw [mkG_snd c]
    have e : (mkGv m a).2 = (mkS (mkS m a.test).2 a.thn).2 := rfl
    rw [e, mkS_snd, mkS_snd]
    simp [gmv]
    omega
theorem mkP_snd : ∀ (c : List Tv) (m : Nat), (mkP m c).2 = m + ptm c
  | [], m => rfl
  | a :: c, m => by
    show (mkP (mkTv m a).2 c).2 = _
    rw [mkP_snd c]
    have e : (mkTv m a).2 = (mkG (mkS (m + 2) a.code).2 a.gs).2 := rfl
    rw [e, mkG_snd, mkS_snd]
    simp [ptm, tm]
    omega
theorem cm_len : ∀ (c : List Sv), c.length ≤ cm c ∧ ∀ s ∈ c, s.nums.length ≤ cm c
  | [] => ⟨Nat.le_refl _, fun s h => by cases h⟩
  | a :: c => by
    have h := cm_len c
    have e : cm (a :: c) = 6 + a.nums.length + cm c := by simp [cm]
    rw [e]
    refine ⟨by rw [List.length_cons]; omega, fun s hs => ?_⟩
    rcases List.mem_cons.1 hs with rfl | hs
    · omega
    · have := h.2 s hs; omega
theorem gmv_mem : ∀ (c : List Gv) (g : Gv), g ∈ c → cm g.test ≤ gmv c ∧ cm g.thn ≤ gmv c
  | [], g, h => by cases h
  | a :: c, g, h => by
    have e : gmv (a :: c) = cm a.test + cm a.thn + gmv c := by simp [gmv]
    rw [e]
    rcases List.mem_cons.1 h with rfl | h
    · omega
    · have := gmv_mem c g h; omega
theorem pm_mem : ∀ (p : List Tv) (t : Tv), t ∈ p → tm t ≤ ptm p
  | [], t, h => by cases h
  | a :: p, t, h => by
    have e : ptm (a :: p) = tm a + ptm p := by simp [ptm]
    rw [e]
    rcases List.mem_cons.1 h with rfl | h
    · omega
    · have := pm_mem p t h; omega
theorem pm_len : ∀ (p : List Tv), p.length ≤ ptm p
  | [] => Nat.le_refl _
  | a :: p => by
    have := pm_len p
    have e : ptm (a :: p) = tm a + ptm p := by simp [ptm]
    rw [e, List.length_cons]
    unfold tm
    omega
theorem szt_of {p : List Tv} (h : ptm p ≤ 36000) (hg : ∀ t ∈ p, t.gs.length ≤ 4000) : p.length ≤ 1048576 ∧ ∀ s ∈ p, Sz s.code ∧ SzG s.gs := by
  have hl := pm_len p
  refine ⟨by omega, fun s hs => ?_⟩
  have h1 := pm_mem p s hs
  have h2 := hg s hs
  unfold tm at h1
  have sz : ∀ c : List Sv, cm c ≤ 36000 → Sz c := fun c hc => by
    have := cm_len c
    exact ⟨by omega, fun s hs => by have := this.2 s hs; omega⟩
  refine ⟨sz _ (by omega), by omega, fun g hg => ?_⟩
  have := gmv_mem s.gs g hg
  exact ⟨sz _ (by omega), sz _ (by omega)⟩
mutual
theorem E.cm_le : ∀ e : E, e.wf → cm e.code ≤ 7 * e.toks.length
  | .opd o, h => O.cm_le o h
  | .one f e, h => by
    have h1 := E.cm_le e h.2.2
    have h2 := F.toks_len h.1
    rw [E.code, cm_app, E.toks, List.length_append]
    have e : cm [(⟨3, [], [], f.one⟩ : Sv)] = 6 := rfl
    omega
  | .two o f e, h => by
    have h1 := E.cm_le e h.2.2.2
    have h2 := O.cm_le o h.1
    have h3 := F.toks_len h.2.1
    rw [E.code, cm_app, cm_app, E.toks]
    have e : cm [(⟨4, [], [], f.two⟩ : Sv)] = 6 := rfl
    simp only [List.length_append]
    omega
theorem O.cm_le : ∀ o : O, o.wf → cm o.code ≤ 7 * o.toks.length
  | .nums v vs, _ => by simp [O.code, O.toks, cm]; omega
  | .name nm, _ => by simp [O.code, O.toks, cm]
  | .br e, h => by
    have h1 := E.cm_le e h
    simp [O.code, O.toks]
    omega
end
theorem px_sz {n : Nat} {ts r : List T} {e : E} (h : pexpr n ts = some (e, r)) : cm e.code + 7 * r.length ≤ 7 * ts.length ∧ r.length + 1 ≤ ts.length := by
  obtain ⟨h1, h2⟩ := (psound n).1 _ _ _ h
  have h3 := E.cm_le e h2
  have h4 := List.length_pos_iff.2 (E.ne h2)
  have h5 := congrArg List.length h1
  rw [List.length_append] at h5
  omega
theorem seps_len : ∀ r : List T, (seps r).length ≤ r.length
  | [] => Nat.le_refl _
  | t :: r => by
    have := seps_len r
    cases t <;> first | exact Nat.le_refl _ | (show (seps r).length ≤ _; rw [List.length_cons]; omega)
theorem pb_sz (n : Nat) : ∀ (k : Nat) (ts : List T) (gs : List (E × E)) (e : E) (r : List T), pbody n k ts = some (gs, e, r) → gmv (gs.map gv) + cm e.code + 7 * r.length ≤ 7 * ts.length ∧ gs.length + r.length + 1 ≤ ts.length
  | 0, ts, gs, e, r, h => by cases h
  | k + 1, ts, gs, e, r, h => by
    cases hx : pexpr n ts with
    | none => rw [pb_none hx] at h; cases h
    | some q =>
      obtain ⟨x, r1⟩ := q
      have s1 := px_sz hx
      by_cases hc : ∃ r', r1 = .col :: r'
      · obtain ⟨r', rfl⟩ := hc
        cases hy : pexpr n r' with
        | none => rw [pb_col_none hx hy] at h; cases h
        | some q =>
          obtain ⟨y, r2⟩ := q
          have s2 := px_sz hy
          by_cases hs : ∃ r3, r2 = .sep :: r3
          · obtain ⟨r3, rfl⟩ := hs
            rw [pb_col hx hy] at h
            cases hb : pbody n k (seps r3) with
            | none => rw [hb] at h; cases h
            | some q =>
              obtain ⟨gs', e', r'⟩ := q
              rw [hb] at h
              simp only [Option.map_some, Option.some.injEq, Prod.mk.injEq] at h
              obtain ⟨rfl, rfl, rfl⟩ := h
              have s3 := pb_sz n k _ _ _ _ hb
              have s4 := seps_len r3
              rw [List.length_cons] at s1 s2
              have e1 : gmv (((x, y) :: gs').map gv) = cm x.code + cm y.code + gmv (gs'.map gv) := by simp [gmv, gv]
              rw [e1, List.length_cons]
              omega
          · rw [pb_col_no hx hy (fun r' e => hs ⟨r', e⟩)] at h; cases h
      · rw [pb_end hx (fun r' e => hc ⟨r', e⟩)] at h
        split at h
        · rename_i r2 hsp
          cases h
          have s2 := seps_len r1
          rw [hsp, List.length_cons] at s2
          have e1 : gmv (([] : List (E × E)).map gv) = 0 := rfl
          rw [e1, List.length_nil]
          omega
        · cases h
theorem ps_sz {n k : Nat} {ts r : List T} {s : S} (h : pstmt n k ts = some (s, r)) : tm s.tv + 9 * r.length ≤ 9 * ts.length ∧ s.tv.gs.length ≤ ts.length ∧ r.length + 1 ≤ ts.length := by
  unfold pstmt at h
  split at h
  · rename_i nm r0
    cases hx : pexpr n r0 with
    | none => rw [hx] at h; cases h
    | some q =>
      obtain ⟨e, r1⟩ := q
      rw [hx] at h
      cases h
      have s1 := px_sz hx
      simp only [List.length_cons]
      refine ⟨?_, Nat.zero_le _, by omega⟩
      show 2 + cm e.code + 0 + _ ≤ _
      omega
  · rename_i nm r0
    split at h
    · cases h
    · cases hb : pbody n k (seps r0) with
      | none => rw [hb] at h; cases h
      | some q =>
        obtain ⟨gs, e, r1⟩ := q
        rw [hb] at h
        cases h
        have s1 := pb_sz n k _ _ _ _ hb
        have s2 := seps_len r0
        simp only [List.length_cons]
        refine ⟨?_, ?_, by omega⟩
        · show 2 + cm e.code + gmv (gs.map gv) + _ ≤ _
          omega
        · show (gs.map _).length ≤ _
          rw [List.length_map]
          omega
  · cases h
  · cases hx : pexpr n ts with
    | none => rw [hx] at h; cases h
    | some q =>
      obtain ⟨e, r1⟩ := q
      rw [hx] at h
      cases h
      have s1 := px_sz hx
      refine ⟨?_, Nat.zero_le _, by omega⟩
      show 2 + cm e.code + 0 + _ ≤ _
      omega
theorem pp_sz (n : Nat) : ∀ (k : Nat) (ts : List T) (ss : List S), pprog n k ts = some ss → ptm (ss.map S.tv) ≤ 9 * ts.length ∧ ∀ s ∈ ss, s.tv.gs.length ≤ ts.length
  | k, [], ss, h => by
    rw [pp_nil] at h
    cases h
    exact ⟨Nat.le_refl _, fun s hs => by cases hs⟩
  | 0, t :: ts, ss, h => by cases h
  | k + 1, t :: ts, ss, h => by
    cases hs : pstmt n n (t :: ts) with
    | none => rw [pp_none hs] at h; cases h
    | some q =>
      obtain ⟨s, r⟩ := q
      have s1 := ps_sz hs
      cases r with
      | nil =>
        rw [pp_last hs] at h
        cases h
        refine ⟨?_, fun x hx => by rw [List.mem_singleton.1 hx]; exact s1.2.1⟩
        show tm s.tv + 0 ≤ _
        omega
      | cons u r =>
        by_cases hu : u = .sep
        · subst hu
          rw [pp_sep hs] at h
          cases hp : pprog n k (seps r) with
          | none => rw [hp] at h; cases h
          | some l =>
            rw [hp] at h
            cases h
            have s2 := pp_sz n k _ _ hp
            have s3 := seps_len r
            rw [List.length_cons] at s1
            refine ⟨?_, fun x hx => ?_⟩
            · have e : ptm ((s :: l).map S.tv) = tm s.tv + ptm (l.map S.tv) := by simp [ptm]
              rw [e]
              omega
            · rcases List.mem_cons.1 hx with rfl | hx
              · exact s1.2.1
              · have := s2.2 x hx; omega
        · rw [pp_no hu hs] at h; cases h
/-- the sizes of what Parse answers -/
theorem prs_sz (s : ByteArray) : ptm (prsS s).1 ≤ 36000 ∧ ∀ t ∈ (prsS s).1, t.gs.length ≤ 4000 := by
  have nil : ptm ([] : List Tv) ≤ 36000 ∧ ∀ t ∈ ([] : List Tv), t.gs.length ≤ 4000 := ⟨by decide, fun t ht => by cases ht⟩
  by_cases h4 : 4000 < s.size
  · rw [prs_long h4]; exact nil
  · have hl := len_le s.size s 0 (by omega)
    cases hf : fb (lx s 0) with
    | some p => rw [prs_bad h4 hf]; exact nil
    | none =>
      rw [prs_pp h4 hf]
      cases hp : pprog (2 * (lx s 0).length + 1) ((lx s 0).length + 1) (seps ((lx s 0).map tkT)) with
      | none => exact nil
      | some ss =>
        simp only
        split
        · exact nil
        · have h1 := pp_sz _ _ _ _ hp
          have h2 := seps_len ((lx s 0).map tkT)
          rw [List.length_map] at h2
          refine ⟨show ptm (ss.map S.tv) ≤ 36000 by omega, fun t ht => ?_⟩
          obtain ⟨x, hx, rfl⟩ := List.mem_map.1 ht
          have := h1.2 x hx
          omega
end Pl
/-- what is held is read -/
theorem Hd.at {α : Type} {z : Nat} {Q : World → List Value → α → List Nat → Prop} (L : Lives Q) (hz : ∀ {w : World} {x : List Value} {a : α} {f : List Nat}, Q w x a f → x.length = z) {w : World} {ao : Option Addr} {n cap : Nat} {c : List α} {F : List Nat} (h : Hd z Q w (.slice ao n cap) c F) :
    c = [] ∨ ∃ b off, b < w.heap.size ∧ ao = some ⟨b, off, none⟩ ∧ ∀ (i : Nat) (a : α), c[i]? = some a → ∃ x f, Q w x a f ∧ ∀ j u, x[j]? = some u → w.cell? ⟨b, off + i * z + j, none⟩ = some u := by
  obtain ⟨ao', cap', e, h'⟩ := id h
  have e1 := (Value.slice.inj e).1
  subst e1
  rcases h' with h' | ⟨g, xs, fp, rfl, rfl, _, _, h3, _, _⟩
  · exact .inl h'
  · refine .inr ⟨g, 0, h3 g (by simp), rfl, fun i a hi => ?_⟩
    obtain ⟨hil, hia⟩ := List.getElem?_eq_some_iff.1 hi
    have ec : c = c.take i ++ (a :: c.drop (i + 1)) := by rw [← hia, ← List.drop_eq_getElem_cons hil, List.take_append_drop]
    have hh := h
    rw [ec] at hh
    obtain ⟨g', cap2, x, f, hv, hQ, hS, _⟩ := hh.focus L hz
    have hg : g = g' := by
      have := (Value.slice.inj hv).1
      simpa using this
    subst hg
    have hl : (c.take i).length = i := by rw [List.length_take]; omega
    refine ⟨x, f, hQ, fun j u hu => ?_⟩
    have := hS.cur j u hu
    rw [hl] at this
    rw [Nat.zero_add]
    exact this
theorem HdI.rd {w : World} {ao : Option Addr} {n cap : Nat} {c : List Int} {F : List Nat} (h : HdI w (.slice ao n cap) c F) : RdI w.heap.size w ao c := by
  rcases h.at Qi.lives Qi.len' with h | ⟨b, off, hb, rfl, hc⟩
  · exact .inl h
  · refine .inr ⟨b, off, hb, rfl, fun i a hi => ?_⟩
    obtain ⟨x, f, ⟨rfl, rfl⟩, h⟩ := hc i a hi
    have := h 0 _ rfl
    simpa using this
theorem HdS.rd {w : World} {ao : Option Addr} {n cap : Nat} {c : List Pl.Sv} {F : List Nat} (h : HdS w (.slice ao n cap) c F) : RdS w.heap.size w ao c := by
  rcases h.at Qs'.lives Qs'.len with h | ⟨b, off, hb, rfl, hc⟩
  · exact .inl h
  · refine .inr ⟨b, off, hb, rfl, fun i a hi => ?_⟩
    obtain ⟨x, f, ⟨v, rfl, hI⟩, h⟩ := hc i a hi
    obtain ⟨an, cn, rfl⟩ := hI.form
    exact ⟨an, cn, h 0 _ rfl, h 1 _ rfl, h 2 _ rfl, h 3 _ rfl, h 4 _ rfl, h 5 _ rfl, h 6 _ rfl, hI.rd⟩
theorem HdG.rd {w : World} {ao : Option Addr} {n cap : Nat} {c : List Pl.Gv} {F : List Nat} (h : HdG w (.slice ao n cap) c F) : RdG w.heap.size w ao c := by
  rcases h.at Qg'.lives Qg'.len with h | ⟨b, off, hb, rfl, hc⟩
  · exact .inl h
  · refine .inr ⟨b, off, hb, rfl, fun i a hi => ?_⟩
    obtain ⟨x, f, ⟨v1, v2, f1, f2, rfl, _, hA, hB⟩, h⟩ := hc i a hi
    obtain ⟨a1, c1, rfl⟩ := hA.form
    obtain ⟨a2, c2, rfl⟩ := hB.form
    exact ⟨a1, a2, c1, c2, h 0 _ rfl, h 1 _ rfl, hA.rd, hB.rd⟩
theorem HdP.rd {w : World} {ao : Option Addr} {n cap : Nat} {c : List Pl.Tv} {F : List Nat} (h : HdP w (.slice ao n cap) c F) : RdP w.heap.size w ao c := by
  rcases h.at Qt'.lives Qt'.len with h | ⟨b, off, hb, rfl, hc⟩
  · exact .inl h
  · refine .inr ⟨b, off, hb, rfl, fun i a hi => ?_⟩
    obtain ⟨x, f, ⟨v1, v2, f1, f2, rfl, _, hA, hB⟩, h⟩ := hc i a hi
    obtain ⟨a1, c1, rfl⟩ := hA.form
    obtain ⟨a2, c2, rfl⟩ := hB.form
    exact ⟨a1, a2, c1, c2, h 0 _ rfl, h 1 _ rfl, h 2 _ rfl, h 3 _ rfl, hA.rd, hB.rd⟩
end Go.Proofs.YtljkolffjjhgeaaDoor
