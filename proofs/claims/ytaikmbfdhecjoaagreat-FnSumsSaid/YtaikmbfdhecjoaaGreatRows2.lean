import Derived.Test.YtaikmbfdhecjoaaGreatRed2
import Derived.Test.YtaikmbfdhecjoaaGreatDyP
import Derived.Test.YtaikmbfdhecjoaaGreatFaceS
namespace Go.Proofs.YtaikmbfdhecjoaaGreat
open Go.RowKit
set_option linter.unusedVariables false

set_option maxRecDepth 100000 in
set_option maxHeartbeats 4000000 in
theorem specR_faceG (op : Int) (b0 q0 b1 q1 : Nat) (sh da : List Int) (w : World) (hl0 : sh.length ≤ 1048576) (hl1 : da.length ≤ 1048576) (hq0 : sh.length ≤ q0) (hq0' : q0 ≤ 9223372036854775807) (hq1 : da.length ≤ q1) (hq1' : q1 ≤ 9223372036854775807)
    (h0 : Rd w.heap.size w (.slice (some ⟨b0, 0, none⟩) sh.length q0) sh) (h1 : Rd w.heap.size w (.slice (some ⟨b1, 0, none⟩) da.length q1) da) (c : Int) (S D : List Int) (hres : Pl.redM op sh da = (c, S, D)) :
    Calls Tryz.prog 5 #[.int .i64 op, .agg #[.slice (some ⟨b0, 0, none⟩) sh.length q0, .slice (some ⟨b1, 0, none⟩) da.length q1]] w (FPost w c S D) := by
  have B : Hid (∀ o o', Below w.heap.size w ((w.alloc o).alloc o')) := fun o o' => ((Below.refl _ _).alloc (Nat.le_refl _) _).alloc (by simp) _
  have H0 := hideP h0
  have H1 := hideP h1
  have KO := hideP (fun w => opOk_any op w)
  have KA : Hid (∀ w', Below w.heap.size w w' → Calls Tryz.prog 19 #[.agg #[.slice (some ⟨b0, 0, none⟩) sh.length q0, .slice (some ⟨b1, 0, none⟩) da.length q1]] w' fun e w'' => e = .returned (.bool (Pl.okB sh da)) ∧ Below w'.heap.size w' w'') := fun w' h => specOk_any _ _ sh da w' hl0 hl1 ((H0.out.keep h).up h.size) ((H1.out.keep h).up h.size)
  have HR := hideP hres
  clear h0 h1 hres
  by_cases hop : 1 ≤ op ∧ op < 11
  · have KO' : Hid (∀ w, Calls Tryz.prog 18 #[.int .i64 op] w fun e w' => e = .returned (.bool true) ∧ w' = w) := fun w => by have := KO.out w; rw [decide_eq_true hop] at this; exact this
    go_enter Tryz.func5, Tryz.ntmps5
    by_cases ok : Pl.okB sh da = true
    · rw [ok] at KA
      have e := HR.out
      unfold Pl.redM at e
      rw [Pl.moM_yes ⟨hop.1, hop.2, ok⟩] at e
      have KL : Hid (∀ w', Below w.heap.size w w' → Calls Tryz.prog 20 #[.int .i64 op, .agg #[.slice (some ⟨b0, 0, none⟩) sh.length q0, .slice (some ⟨b1, 0, none⟩) da.length q1]] w' (FPost w' c S D)) := fun w' h => by
        obtain ⟨k, rfl⟩ := Int.eq_ofNat_of_zero_le (show 0 ≤ op by omega)
        exact l2Reduce_any k (by omega) (by omega) b0 0 q0 b1 0 q1 sh da w' ((H0.out.keep h).up h.size) ((H1.out.keep h).up h.size) hq0 hq0' hq1 hq1' ok c S D e
      clear e ok hop KO HR H0 H1
      generalize sh.length = L0 at *
      generalize da.length = L1 at *
      go_wp2_with (go_at_call 18; refine (KO'.out _).mono ?_; rintro e w' ⟨rfl, rfl⟩)
      refine (KA.out _ (B.out _ _)).mono ?_
      rintro e w1 ⟨rfl, hb1⟩
      have k1 : Below (w.heap.size + 1 + 1) _ w1 := hb1.mono (by simp)
      have X1 := hideP (boxes2 k1)
      have K1 := hideP k1
      have hs1 : w.heap.size + 1 + 1 ≤ w1.heap.size := by have := hb1.size; simpa using this
      clear hb1 k1
      have c0 := X1.out.1.1
      have c1 := X1.out.1.2
      go_wp2_with fail
      clear c0 c1
      refine (KL.out _ X1.out.2.2).mono ?_
      rintro e w2 ⟨hb2, u0, u1, rfl, hres⟩
      have k2 := K1.out.trans (hb2.mono hs1)
      have X2 := hideP (boxes2 k2)
      have R2 := hideP hres
      have hs2 := hb2.size
      obtain ⟨x0, y0, x1, y1, e0, e1⟩ := hres.forms
      subst e0
      subst e1
      clear hb2 hres k2 K1
      have r0 := X2.out.2.1.1
      have r1 := X2.out.2.1.2.1
      have f2 := X2.out.2.1.2.2
      go_wp2_with fail
      refine bodyPost_ret (v := .tuple #[.agg #[.slice x0 S.length y0, .slice x1 D.length y1], .int .i64 c]) (by simp [results, Tryz.results5, go_sem, r0, r1]) rfl ⟨(X2.out.2.2.setCell (by simp) _).setCell (by simp) _, _, _, rfl, ?_, ?_, R2.out.2.2⟩
      · exact Own.base (Own.store (Own.store R2.out.1 (by omega) _) (by omega) _) (by omega)
      · exact Own.base (Own.store (Own.store R2.out.2.1 (by omega) _) (by omega) _) (by omega)
    · have ok' : Pl.okB sh da = false := by simpa using ok
      rw [ok'] at KA
      have e := HR.out
      unfold Pl.redM at e
      rw [Pl.moM_no (by intro h; exact ok h.2.2)] at e
      simp only [Prod.mk.injEq] at e
      obtain ⟨rfl, rfl, rfl⟩ := e
      clear ok ok' hop
      go_wp2_with (go_at_call 18; refine (KO'.out _).mono ?_; rintro e w' ⟨rfl, rfl⟩)
      refine (KA.out _ (B.out _ _)).mono ?_
      rintro e w1 ⟨rfl, hb1⟩
      have X1 := hideP (boxes2 (show Below (w.heap.size + 1 + 1) _ w1 from hb1.mono (by simp)))
      have hs1 : w.heap.size + 1 + 1 ≤ w1.heap.size := by have := hb1.size; simpa using this
      clear hb1
      have r0 := X1.out.2.1.1
      have r1 := X1.out.2.1.2.1
      have f2 := X1.out.2.1.2.2
      go_wp2_with fail
      refine bodyPost_ret (v := .tuple #[.agg #[.slice none 0 0, .slice none 0 0], .int .i64 9]) (by simp [results, Tryz.results5, go_sem, r0, r1]) rfl ⟨(X1.out.2.2.setCell (by simp) _).setCell (by simp) _, _, _, rfl, Own.nil _ _, Own.nil _ _, .inl rfl⟩
  · have KO' : Hid (∀ w, Calls Tryz.prog 18 #[.int .i64 op] w fun e w' => e = .returned (.bool false) ∧ w' = w) := fun w => by have := KO.out w; rw [decide_eq_false hop] at this; exact this
    go_enter Tryz.func5, Tryz.ntmps5
    have e := HR.out
    unfold Pl.redM at e
    rw [Pl.moM_no (by intro h; exact hop ⟨h.1, h.2.1⟩)] at e
    simp only [Prod.mk.injEq] at e
    obtain ⟨rfl, rfl, rfl⟩ := e
    clear hop
    go_wp2_with (go_at_call 18; refine (KO'.out _).mono ?_; rintro e w' ⟨rfl, rfl⟩)
    refine bodyPost_ret (v := .tuple #[.agg #[.slice none 0 0, .slice none 0 0], .int .i64 9]) (by simp [results, Tryz.results5, go_sem]) rfl ⟨B.out _ _, _, _, rfl, Own.nil _ _, Own.nil _ _, .inl rfl⟩

end Go.Proofs.YtaikmbfdhecjoaaGreat

namespace Go.Proofs.YtaikmbfdhecjoaaGreat
open Go.RowKit
set_option linter.unusedVariables false

theorem inf27 : (Tryz.prog.info? 25).map (fun i => (i.zero, i.size, i.bytes)) = some (some (.agg #[.slice none 0 0, .slice none 0 0]), 2, 48) := by kernel_rfl
theorem und66 : Tryz.prog.underlying 41 = some (.slice 25) := by kernel_rfl

/-- append(rows, row) -/
theorem wpList_append66 {base : Nat} (w : World) {ops : Array Oper} {rest : List Oper} {o : Oper} {a : Act} {Q : Exit → Act → World → Prop} (hg : o.guard = none) (s y : Operand)
    (hop : o.op = Op.call { callee := Callee.builtin Builtin.append, args := #[s, y], argTypes := #[41, 41] }) (v u0 u1 : Value) (hs : a.eval s = v) (H : Nat) (hH : w.heap.size = H) (hx : a.eval y = .slice (some ⟨H, 0, none⟩) 1 1) (n : Nat) (xs : List Value)
    (hown : w.ownsRow base 25 2 v n xs) (hu0 : u0.oneCell' = true) (hu1 : u1.oneCell' = true) (hbd : n + 1 ≤ 16777216) (hbase : base ≤ w.heap.size)
    (hK : ∀ v' w', w'.ownsRow base 25 2 v' (n + 1) (xs ++ [u0, u1]) → (w.alloc (.cells #[u0, u1] 25)).grownBy w' v.ownBlock → (v'.ownBlock = v.ownBlock ∨ v'.ownBlock = some (w.heap.size + 1)) → wpList Tryz.prog ops Q rest (a.put o.dst v') w') : wpList Tryz.prog ops Q (o :: rest) a (w.alloc (.cells #[u0, u1] 25)) := by
  subst hH
  obtain ⟨i0, hi, hz0, hz1, hz2⟩ := info_parts inf27
  obtain ⟨v', w', hr, ho, hgr, _, hat⟩ := run_append_own_at (P := Tryz.prog) (w.alloc (.cells #[u0, u1] 25)) base 41 o.type 25 i0 (.agg #[.slice none 0 0, .slice none 0 0]) 2 48 und66 hi hz0 hz1 hz2 rfl (by decide) v n xs (hown.alloc _) ⟨w.heap.size, 0, none⟩ 1 1 [u0, u1] rfl
    (by
      intro j u hj
      rw [Addr.add_lit, Nat.zero_add]
      match j, hj with
      | 0, hj => simp at hj; subst hj; simp [go_sem]
      | 1, hj => simp at hj; subst hj; simp [go_sem]
      | j + 2, hj => simp at hj)
    (by intro u hu; simp at hu; rcases hu with rfl | rfl <;> assumption) (by unfold maxLen; omega) (by omega) (by simp; omega)
  exact wpList_append_eq _ w' hg s y _ hop v _ v' hs hx hr (hK v' w' ho hgr (by simpa using hat))

/-- a slice whose block the growing leaves alone -/
theorem Own.grownOff {B : Nat} {w w' : World} {row : Option Nat} {u : Value} {zs : List Int} (h : Own B w u zs) (hg : w.grownBy w' row) (hn : ∀ g, row = some g → Off g u zs) : Own B w' u zs := by
  obtain ⟨ao, cap, rfl, h⟩ := h
  refine ⟨ao, cap, rfl, ?_⟩
  rcases h with h | ⟨g, off, h1, h2, rfl, h4⟩
  · exact .inl h
  · by_cases hz : zs.length = 0
    · exact .inl hz
    · refine .inr ⟨g, off, h1, Nat.lt_of_lt_of_le h2 hg.size, rfl, fun i hi => ?_⟩
      have hne : some g ≠ row := by
        intro e
        rcases hn g e.symm with h | h
        · exact hz h
        · exact h g rfl rfl
      have e := hg.block g h2 hne
      exact ⟨(World.cell?_of_block (w := w) (a := ⟨g, off + i, none⟩) e).trans (h4 i hi).1, (World.frozen?_of_block (w := w) (a := ⟨g, off + i, none⟩) e).trans (h4 i hi).2⟩

/-- the rows so far -/
structure Rs (wq : World) (rv : Value) (k : Nat) (xs : List Value) (dv : Nat → Value) (zz : Nat → List Int) (w : World) : Prop where
  bel : Below wq.heap.size wq w
  row : w.ownsRow wq.heap.size 25 2 rv k xs
  cell : ∀ i, i < k → xs[i * 2 + 1]? = some (dv i)
  own : ∀ i, i < k → Own wq.heap.size w (dv i) (zz i)
  off : ∀ i, i < k → ∀ g, rv.ownBlock = some g → Off g (dv i) (zz i)

theorem Rs.start (wq : World) (zz : Nat → List Int) : Rs wq (.slice (some ⟨wq.heap.size, 0, none⟩) 0 0) 0 [] (fun _ => .slice none 0 0) zz (wq.alloc (.cells #[] 25)) :=
  ⟨(Below.refl _ _).alloc (Nat.le_refl _) _, World.ownsRow_lit wq #[] 0 (Nat.le_refl _) (by unfold maxLen; omega) rfl, fun i hi => absurd hi (Nat.not_lt_zero i), fun i hi => absurd hi (Nat.not_lt_zero i), fun i hi => absurd hi (Nat.not_lt_zero i)⟩

theorem Rs.keep {wq w w' : World} {rv : Value} {k : Nat} {xs : List Value} {dv : Nat → Value} {zz : Nat → List Int} (h : Rs wq rv k xs dv zz w) (hb : Below w.heap.size w w') : Rs wq rv k xs dv zz w' :=
  ⟨h.bel.trans (hb.mono h.bel.size), owns_keep h.row hb, h.cell, fun i hi => (h.own i hi).keep hb, h.off⟩

theorem Rs.app {wq w w9 : World} {rv v' u0 u1 : Value} {k : Nat} {xs : List Value} {dv : Nat → Value} {zz : Nat → List Int} (h : Rs wq rv k xs dv zz w) (hu : Own wq.heap.size w u1 (zz k)) (ho : ∀ g, rv.ownBlock = some g → Off g u1 (zz k))
    (hrow : w9.ownsRow wq.heap.size 25 2 v' (k + 1) (xs ++ [u0, u1])) (hg : (w.alloc (.cells #[u0, u1] 25)).grownBy w9 rv.ownBlock) (hat : v'.ownBlock = rv.ownBlock ∨ v'.ownBlock = some (w.heap.size + 1)) :
    Rs wq v' (k + 1) (xs ++ [u0, u1]) (fun i => if i = k then u1 else dv i) zz w9 := by
  have kk : Below w.heap.size w (w.alloc (.cells #[u0, u1] 25)) := (Below.refl _ _).alloc (Nat.le_refl _) _
  have hx : xs.length = k * 2 := h.row.1
  have off' : ∀ (u : Value) (zs : List Int), Own wq.heap.size w u zs → (∀ g, rv.ownBlock = some g → Off g u zs) → ∀ g, v'.ownBlock = some g → Off g u zs := by
    intro u zs hou hof g hgv
    rcases hat with hat | hat
    · rw [hat] at hgv
      exact hof g hgv
    · rw [hat] at hgv
      simp only [Option.some.injEq] at hgv
      subst hgv
      exact own_ne_hi hou (Nat.le_succ _)
  refine ⟨(h.bel.trans (kk.mono h.bel.size)).grown hg (by have := h.bel.size; simp; omega) (fun g e => (h.row.lt g e).1), hrow, ?_, ?_, ?_⟩
  · intro i hi
    by_cases hik : i = k
    · subst hik
      rw [if_pos rfl, List.getElem?_append_right (by omega), hx]
      have : i * 2 + 1 - i * 2 = 1 := by omega
      rw [this]
      rfl
    · rw [if_neg hik, List.getElem?_append_left (by omega)]
      exact h.cell i (by omega)
  · intro i hi
    show Own _ _ (if i = k then u1 else dv i) _
    by_cases hik : i = k
    · subst hik
      rw [if_pos rfl]
      exact (hu.keep kk).grownOff hg ho
    · rw [if_neg hik]
      exact ((h.own i (by omega)).keep kk).grownOff hg (h.off i (by omega))
  · intro i hi
    show ∀ g, _ → Off g (if i = k then u1 else dv i) _
    by_cases hik : i = k
    · subst hik
      rw [if_pos rfl]
      exact off' u1 _ hu ho
    · rw [if_neg hik]
      exact off' _ _ (h.own i (by omega)) (h.off i (by omega))

theorem rows_form {base n : Nat} {w : World} {v : Value} {xs : List Value} (h : w.ownsRow base 25 2 v n xs) : ∃ ao g cap, v = .slice ao n cap ∧ (0 < n → ao = some ⟨g, 0, none⟩ ∧ g < w.heap.size ∧ ∀ i, i < n → w.cell? ⟨g, i * 2 + 1, none⟩ = xs[i * 2 + 1]?) := by
  rcases h.2 with ⟨rfl, rfl⟩ | ⟨g, cap, cur, rfl, hb, hg, _⟩
  · exact ⟨none, 0, 0, rfl, fun h => absurd h (Nat.lt_irrefl _)⟩
  · exact ⟨_, g, cap, rfl, fun _ => ⟨rfl, (Array.getElem?_eq_some_iff.1 hg).1, fun i hi => h.cellAt (i * 2 + 1) (by omega)⟩⟩

end Go.Proofs.YtaikmbfdhecjoaaGreat
