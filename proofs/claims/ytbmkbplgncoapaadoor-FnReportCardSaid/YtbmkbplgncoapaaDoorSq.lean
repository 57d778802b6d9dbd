import Derived.Test.YtbmkbplgncoapaaDoorNs
import Derived.Laws.ResultCell
namespace Go.Proofs.YtbmkbplgncoapaaDoor
open Go.RowKit
set_option linter.unusedVariables false

theorem fp_no {w w' : World} {t : List UInt8} (hb : Below w.heap.size w w') (h : Pl.parC t = 1 ∧ Pl.parS t = [] ∧ Pl.parD t = []) : FPost w (Pl.parC t) (Pl.parS t) (Pl.parD t) (.returned (.tuple #[.agg #[.slice none 0 0, .slice none 0 0], .int .i64 1])) w' := by
  rw [h.1, h.2.1, h.2.2]
  exact ⟨hb, _, _, rfl, Own.nil _ _, Own.nil _ _, .inl rfl⟩
theorem fp_yes {w w' : World} {t : List UInt8} {sh da : List Int} {u0 u1 : Value} (hb : Below w.heap.size w w') (h : Pl.parC t = 0 ∧ Pl.parS t = sh ∧ Pl.parD t = da) (hr : Res w.heap.size w' u0 u1 sh da) : FPost w (Pl.parC t) (Pl.parS t) (Pl.parD t) (.returned (.tuple #[.agg #[u0, u1], .int .i64 0])) w' := by
  rw [h.1, h.2.1, h.2.2]
  exact ⟨hb, _, _, rfl, hr⟩

/-- the answer's variable, not yet filled -/
def Sl (N : Nat) (w : World) : Prop := N < w.heap.size ∧ w.cell? ⟨N, 0, none⟩ = some (.slice none 0 0) ∧ w.cell? ⟨N, 1, none⟩ = some (.slice none 0 0) ∧ ∀ o, w.frozen? ⟨N, o, none⟩ = false
theorem Sl.keep {N : Nat} {w w' : World} (h : Sl N w) (hb : Below w.heap.size w w') : Sl N w' :=
  ⟨Nat.lt_of_lt_of_le h.1 hb.size, (hb.cell (p := ⟨N, 0, none⟩) h.1).trans h.2.1, (hb.cell (p := ⟨N, 1, none⟩) h.1).trans h.2.2.1, fun o => (hb.frozen (p := ⟨N, o, none⟩) h.1).trans (h.2.2.2 o)⟩
theorem Sl.new (w : World) (t : TypeId) : Sl w.heap.size (w.alloc (.cells #[.slice none 0 0, .slice none 0 0] t)) := ⟨by simp, by simp [go_sem], by simp [go_sem], fun o => by simp [go_sem]⟩

theorem apart_of {B : Nat} {w w' : World} {u0 u1 : Value} {sh da : List Int} (h0 : Own B w u0 sh) (h1 : Own w.heap.size w' u1 da) : Apart u0 u1 sh da := by
  obtain ⟨ao, c0, rfl, h0⟩ := h0
  obtain ⟨a1, c1, rfl, h1⟩ := h1
  rcases h0 with h0 | ⟨g, off, _, hg, rfl, _⟩
  · exact .inl h0
  · rcases h1 with h1 | ⟨g1, off1, hg1, _, rfl, _⟩
    · exact .inr (.inl h1)
    · refine .inr (.inr fun b e0 e1 => ?_)
      simp [Value.ownBlock] at e0 e1
      omega

/-- an answer in the answer's variable -/
theorem filled {N : Nat} {w : World} {u0 u1 : Value} {sh da : List Int} (h : Res (N + 1) w u0 u1 sh da) (hs : Sl N w) : Res N ((w.setCell ⟨N, 0, none⟩ u0).setCell ⟨N, 1, none⟩ u1) u0 u1 sh da :=
  ⟨((h.1.store (by omega) _).store (by omega) _).base (by omega), ((h.2.1.store (by omega) _).store (by omega) _).base (by omega), h.2.2⟩

theorem parts_len (t : List UInt8) (h : t.length ≤ 20000) : (Pl.parts t).length ≤ 1048576 := by
  unfold Pl.parts
  split
  · simp
  · have := Pl.cuts_count 32 t
    omega

theorem two_of {done : List ByteArray} {c : UInt8} {t : List UInt8} (h : done.map bl = Pl.cuts c t) (hn : done.length = 2) : ∃ p q, done = [p, q] ∧ Pl.cuts c t = [bl p, bl q] := by
  match done, hn with
  | [p, q], _ => exact ⟨p, q, rfl, h.symm⟩

set_option maxRecDepth 100000 in
set_option maxHeartbeats 4000000 in
/-- spec.ParseArray -/
theorem specParse_any (s : ByteArray) (w : World) (hl : s.size ≤ 1048576) : Calls Tryd.prog 15 #[.string s] w (FPost w (Pl.parC (bl s)) (Pl.parS (bl s)) (Pl.parD (bl s))) := by
  have BA : Hid (Below w.heap.size w (w.alloc (.cells #[.slice none 0 0, .slice none 0 0] 28))) := (Below.refl _ _).alloc (Nat.le_refl _) _
  have SA := hideP (Sl.new w 28)
  by_cases hlong : 20000 < s.size
  · have hlong' : (20000 : Int) < (s.size : Int) := by omega
    have HNo := hideP (Pl.par_no (t := bl s) (fun h => by rw [bl_len] at h; omega))
    have BR : Hid (Below w.heap.size w (((w.alloc (.cells #[.slice none 0 0, .slice none 0 0] 28)).setCell ⟨w.heap.size, 0, none⟩ (.slice none 0 0)).setCell ⟨w.heap.size, 1, none⟩ (.slice none 0 0))) := (BA.out.setCell (Nat.le_refl _) _).setCell (Nat.le_refl _) _
    go_enter Tryd.func15, Tryd.ntmps15
    go_wp2_with fail
    refine bodyPost_ret (v := .tuple #[.agg #[.slice none 0 0, .slice none 0 0], .int .i64 1]) (by simp [results, Tryd.results15, go_sem]) rfl (fp_no BA.out HNo.out)
  · have hlong' : ¬ (20000 : Int) < (s.size : Int) := by omega
    have hlen : Hid ((bl s).length ≤ 20000) := by show _ ≤ _; rw [bl_len]; omega
    go_enter Tryd.func15, Tryd.ntmps15
    go_wp2_with fail
    refine (l1Cut_any s 58 58 rfl _ hl).mono ?_
    rintro e w1 ⟨vw, done, rfl, ow, hdone, hb1⟩
    have OW := hideP ow
    have B1 := hideP (BA.out.trans (hb1.mono (by simp)))
    have S1 := hideP (SA.out.keep hb1)
    obtain ⟨xw, yw, ew⟩ := owns_form ow
    subst ew
    have HD := hideP hdone
    clear ow hb1 hdone BA SA
    by_cases h2 : done.length = 2
    · have h2' : ((done.length : Int) != 2) = false := by rw [bne_eq_false_iff_eq]; omega
      obtain ⟨p, q, hpq, hc⟩ := two_of HD.out h2
      have HC := hideP hc
      have hp : p.size ≤ 20000 := by
        have := Pl.cuts_len 58 (bl s) (bl p) (by rw [hc]; simp)
        rw [bl_len, bl_len] at this; omega
      have hq : q.size ≤ 20000 := by
        have := Pl.cuts_len 58 (bl s) (bl q) (by rw [hc]; simp)
        rw [bl_len, bl_len] at this; omega
      subst hpq
      obtain ⟨gw, eg⟩ : ∃ gw, xw = some ⟨gw, 0, none⟩ := by
        rcases OW.out.2 with ⟨e, h0⟩ | ⟨g, cp, cur, e, _⟩
        · simp at h0
        · injection e with e1 _ _
          exact ⟨g, e1⟩
      subst eg
      have hc0 : w1.cell? ⟨gw, 0, none⟩ = some (.string p) := by rw [OW.out.cellAt 0 (by simp)]; rfl
      have hc1 : w1.cell? ⟨gw, 1, none⟩ = some (.string q) := by rw [OW.out.cellAt 1 (by simp)]; rfl
      have hgw := (OW.out.lt gw rfl).2
      clear hc HD h2
      go_wp2_with fail
      refine (l1Nums_any p _ (by omega)).mono ?_
      rintro e w2 ⟨hb2, v0, ok0, sh, rfl, own0, hn0⟩
      have B2 := hideP (B1.out.trans (hb2.mono B1.out.size))
      have S2 := hideP (S1.out.keep hb2)
      have O2 := hideP (own0.base (show w.heap.size + 1 ≤ w1.heap.size from S1.out.1))
      have hc1' : w2.cell? ⟨gw, 1, none⟩ = some (.string q) := (hb2.cell (p := ⟨gw, 1, none⟩) hgw).trans hc1
      have H0 := hideP hn0
      obtain ⟨a0, d0, e0⟩ := own0.form
      subst e0
      clear hb2 own0 hc0 hc1 hgw OW hn0
      go_wp2_with fail
      refine (l1Nums_any q _ (by omega)).mono ?_
      rintro e w3 ⟨hb3, v1, ok1, da, rfl, own1, hn1⟩
      have B3 := hideP (B2.out.trans (hb3.mono B2.out.size))
      have S3 := hideP (S2.out.keep hb3)
      have R3 : Hid (Res (w.heap.size + 1) w3 (.slice a0 sh.length d0) v1 sh da) := ⟨O2.out.keep hb3, own1.base S2.out.1, apart_of O2.out own1⟩
      have H1 := hideP hn1
      obtain ⟨a1, d1, e1⟩ := own1.form
      subst e1
      have AL : Hid (Below w3.heap.size w3 (w3.alloc (.cells #[.slice a0 sh.length d0, .slice a1 da.length d1] 28))) := (Below.refl _ _).alloc (Nat.le_refl _) _
      have B4 := hideP (B3.out.trans (AL.out.mono B3.out.size))
      have S4 := hideP (S3.out.keep AL.out)
      have R4 := hideP (R3.out.keep AL.out)
      have X4 := hideP (Box.new w3 (.slice a0 sh.length d0) (.slice a1 da.length d1) 28)
      clear hb3 own1 hc1' O2 hn1 AL S1 S2 B1 B2
      cases ok0 with
      | false =>
        have HNo := hideP (Pl.par_no (t := bl s) (fun _ sh' da' hw => by
          rcases H0.out with ⟨h, _⟩ | ⟨_, h⟩
          · cases h
          · have e := HC.out.symm.trans (Pl.wr_cuts hw)
            simp only [List.cons.injEq, and_true] at e
            rw [e.1] at h
            exact h _ (Pl.wr_nums hw).1))
        have BR := hideP ((B4.out.setCell (p := ⟨w.heap.size, 0, none⟩) (Nat.le_refl _) (.slice none 0 0)).setCell (p := ⟨w.heap.size, 1, none⟩) (Nat.le_refl _) (.slice none 0 0))
        obtain ⟨_, s0, s1, sf⟩ := S4.out
        go_wp2_with fail
        refine bodyPost_ret (v := .tuple #[.agg #[.slice none 0 0, .slice none 0 0], .int .i64 1]) (by simp [results, Tryd.results15, go_sem, s0, s1]) rfl (fp_no BR.out HNo.out)
      | true =>
        cases ok1 with
        | false =>
          have HNo := hideP (Pl.par_no (t := bl s) (fun _ sh' da' hw => by
            rcases H1.out with ⟨h, _⟩ | ⟨_, h⟩
            · cases h
            · have e := HC.out.symm.trans (Pl.wr_cuts hw)
              simp only [List.cons.injEq, and_true] at e
              rw [e.2] at h
              exact h _ (Pl.wr_nums hw).2))
          have BR := hideP ((B4.out.setCell (p := ⟨w.heap.size, 0, none⟩) (Nat.le_refl _) (.slice none 0 0)).setCell (p := ⟨w.heap.size, 1, none⟩) (Nat.le_refl _) (.slice none 0 0))
          obtain ⟨_, s0, s1, sf⟩ := S4.out
          go_wp2_with fail
          refine bodyPost_ret (v := .tuple #[.agg #[.slice none 0 0, .slice none 0 0], .int .i64 1]) (by simp [results, Tryd.results15, go_sem, s0, s1]) rfl (fp_no BR.out HNo.out)
        | true =>
          have N0 : Hid (Pl.Nums (bl p) sh) := by
            rcases H0.out with ⟨_, h⟩ | ⟨h, _⟩
            · exact h
            · cases h
          have N1 : Hid (Pl.Nums (bl q) da) := by
            rcases H1.out with ⟨_, h⟩ | ⟨h, _⟩
            · exact h
            · cases h
          have L0 : sh.length ≤ 1048576 := by
            have h := congrArg List.length N0.out
            simp only [List.length_map] at h
            rw [← h]
            exact parts_len _ (by rw [bl_len]; omega)
          have L1 : da.length ≤ 1048576 := by
            have h := congrArg List.length N1.out
            simp only [List.length_map] at h
            rw [← h]
            exact parts_len _ (by rw [bl_len]; omega)
          obtain ⟨_, x0, x1⟩ := X4.out
          go_wp2_with fail
          refine (specOk_any _ _ sh da _ L0 L1 R4.out.rds.1 R4.out.rds.2).mono ?_
          rintro e w5 ⟨rfl, hb5⟩
          have B5 := hideP (B4.out.trans (hb5.mono B4.out.size))
          have S5 := hideP (S4.out.keep hb5)
          have R5 := hideP (R4.out.keep hb5)
          have X5 := hideP (X4.out.keep hb5)
          clear hb5 x0 x1 X4 S4 R4 B4 R3 S3 B3
          by_cases hok : Pl.okB sh da = true
          · have HY := hideP (Pl.par_yes hlen.out (Pl.wr_of_nums HC.out N0.out N1.out hok))
            rw [hok]
            have BR := hideP ((B5.out.setCell (p := ⟨w.heap.size, 0, none⟩) (Nat.le_refl _) (.slice a0 sh.length d0)).setCell (p := ⟨w.heap.size, 1, none⟩) (Nat.le_refl _) (.slice a1 da.length d1))
            have RR := hideP (filled R5.out S5.out)
            obtain ⟨_, s0, s1, sf⟩ := S5.out
            obtain ⟨_, x0, x1⟩ := X5.out
            clear hok
            go_wp2_with fail
            refine bodyPost_ret (v := .tuple #[.agg #[.slice a0 sh.length d0, .slice a1 da.length d1], .int .i64 0]) (by simp [results, Tryd.results15, go_sem, s0, s1]) rfl (fp_yes BR.out HY.out RR.out)
          · have hok' : Pl.okB sh da = false := by simpa using hok
            have HNo := hideP (Pl.par_no (t := bl s) (fun _ sh' da' hw => by
              have e := HC.out.symm.trans (Pl.wr_cuts hw)
              simp only [List.cons.injEq, and_true] at e
              have n0 := N0.out
              have n1 := N1.out
              rw [e.1] at n0
              rw [e.2] at n1
              rw [Pl.nums_fun n0 (Pl.wr_nums hw).1, Pl.nums_fun n1 (Pl.wr_nums hw).2] at hok
              exact hok hw.1))
            rw [hok']
            have BR := hideP ((B5.out.setCell (p := ⟨w.heap.size, 0, none⟩) (Nat.le_refl _) (.slice none 0 0)).setCell (p := ⟨w.heap.size, 1, none⟩) (Nat.le_refl _) (.slice none 0 0))
            obtain ⟨_, s0, s1, sf⟩ := S5.out
            obtain ⟨_, x0, x1⟩ := X5.out
            clear hok hok'
            go_wp2_with fail
            refine bodyPost_ret (v := .tuple #[.agg #[.slice none 0 0, .slice none 0 0], .int .i64 1]) (by simp [results, Tryd.results15, go_sem, s0, s1]) rfl (fp_no BR.out HNo.out)
    · have h2' : ((done.length : Int) != 2) = true := by rw [bne_iff_ne]; omega
      have HNo := hideP (Pl.par_no (t := bl s) (fun _ sh' da' hw => by
        have e := HD.out.trans (Pl.wr_cuts hw)
        have := congrArg List.length e
        simp only [List.length_map, List.length_cons, List.length_nil] at this
        exact h2 this))
      have BR := hideP ((B1.out.setCell (p := ⟨w.heap.size, 0, none⟩) (Nat.le_refl _) (.slice none 0 0)).setCell (p := ⟨w.heap.size, 1, none⟩) (Nat.le_refl _) (.slice none 0 0))
      obtain ⟨_, s0, s1, sf⟩ := S1.out
      go_wp2_with fail
      refine bodyPost_ret (v := .tuple #[.agg #[.slice none 0 0, .slice none 0 0], .int .i64 1]) (by simp [results, Tryd.results15, go_sem, s0, s1]) rfl (fp_no BR.out HNo.out)

end Go.Proofs.YtbmkbplgncoapaaDoor
