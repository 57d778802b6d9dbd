import Derived.Test.YtmobjomebmipdaaStack
import Derived.Test.YtmobjomebmipdaaFaceS
namespace Go.Proofs.Ytmobjomebmipdaa
open Go.RowKit
set_option linter.unusedVariables false

theorem inf27 : (Try.prog.info? 27).map (fun i => (i.zero, i.size, i.bytes)) = some (some (.agg #[.slice none 0 0, .slice none 0 0]), 2, 48) := by kernel_rfl
theorem und66 : Try.prog.underlying 66 = some (.slice 27) := by kernel_rfl

/-- append(rows, row) -/
theorem wpList_append66 {base : Nat} (w : World) {ops : Array Oper} {rest : List Oper} {o : Oper} {a : Act} {Q : Exit → Act → World → Prop} (hg : o.guard = none) (s y : Operand)
    (hop : o.op = Op.call { callee := Callee.builtin Builtin.append, args := #[s, y], argTypes := #[66, 66] }) (v u0 u1 : Value) (hs : a.eval s = v) (H : Nat) (hH : w.heap.size = H) (hx : a.eval y = .slice (some ⟨H, 0, none⟩) 1 1) (n : Nat) (xs : List Value)
    (hown : w.ownsRow base 27 2 v n xs) (hu0 : u0.oneCell' = true) (hu1 : u1.oneCell' = true) (hbd : n + 1 ≤ 16777216) (hbase : base ≤ w.heap.size)
    (hK : ∀ v' w', w'.ownsRow base 27 2 v' (n + 1) (xs ++ [u0, u1]) → (w.alloc (.cells #[u0, u1] 27)).grownBy w' v.ownBlock → (v'.ownBlock = v.ownBlock ∨ v'.ownBlock = some (w.heap.size + 1)) → wpList Try.prog ops Q rest (a.put o.dst v') w') : wpList Try.prog ops Q (o :: rest) a (w.alloc (.cells #[u0, u1] 27)) := by
  subst hH
  obtain ⟨i0, hi, hz0, hz1, hz2⟩ := info_parts inf27
  obtain ⟨v', w', hr, ho, hgr, _, hat⟩ := run_append_own_at (P := Try.prog) (w.alloc (.cells #[u0, u1] 27)) base 66 o.type 27 i0 (.agg #[.slice none 0 0, .slice none 0 0]) 2 48 und66 hi hz0 hz1 hz2 rfl (by decide) v n xs (hown.alloc _) ⟨w.heap.size, 0, none⟩ 1 1 [u0, u1] rfl
    (by
      intro j u hj
      rw [Addr.add_lit, Nat.zero_add]
      match j, hj with
      | 0, hj => simp at hj; subst hj; simp [go_sem]
      | 1, hj => simp at hj; subst hj; simp [go_sem]
      | j + 2, hj => simp at hj)
    (by intro u hu; simp at hu; rcases hu with rfl | rfl <;> assumption) (by unfold maxLen; omega) (by omega) (by simp; omega)
  exact wpList_append_eq _ w' hg s y _ hop v _ v' hs hx hr (hK v' w' ho hgr (by simpa using hat))

/-- a slice whose block the growing leaves alone -/
theorem Own.grownOff {B : Nat} {w w' : World} {row : Option Nat} {u : Value} {zs : List Int} (h : Own B w u zs) (hg : w.grownBy w' row) (hn : ∀ g, row = some g → Off g u zs) : Own B w' u zs := by
  obtain ⟨ao, cap, rfl, h⟩ := h
  refine ⟨ao, cap, rfl, ?_⟩
  rcases h with h | ⟨g, off, h1, h2, rfl, h4⟩
  · exact .inl h
  · by_cases hz : zs.length = 0
    · exact .inl hz
    · refine .inr ⟨g, off, h1, Nat.lt_of_lt_of_le h2 hg.size, rfl, fun i hi => ?_⟩
      have hne : some g ≠ row := by
        intro e
        rcases hn g e.symm with h | h
        · exact hz h
        · exact h g rfl rfl
      have e := hg.block g h2 hne
      exact ⟨(World.cell?_of_block (w := w) (a := ⟨g, off + i, none⟩) e).trans (h4 i hi).1, (World.frozen?_of_block (w := w) (a := ⟨g, off + i, none⟩) e).trans (h4 i hi).2⟩

/-- the rows so far -/
structure Rs (wq : World) (rv : Value) (k : Nat) (xs : List Value) (dv : Nat → Value) (zz : Nat → List Int) (w : World) : Prop where
  bel : Below wq.heap.size wq w
  row : w.ownsRow wq.heap.size 27 2 rv k xs
  cell : ∀ i, i < k → xs[i * 2 + 1]? = some (dv i)
  own : ∀ i, i < k → Own wq.heap.size w (dv i) (zz i)
  off : ∀ i, i < k → ∀ g, rv.ownBlock = some g → Off g (dv i) (zz i)

theorem Rs.start (wq : World) (zz : Nat → List Int) : Rs wq (.slice (some ⟨wq.heap.size, 0, none⟩) 0 0) 0 [] (fun _ => .slice none 0 0) zz (wq.alloc (.cells #[] 27)) :=
  ⟨(Below.refl _ _).alloc (Nat.le_refl _) _, World.ownsRow_lit wq #[] 0 (Nat.le_refl _) (by unfold maxLen; omega) rfl, fun i hi => absurd hi (Nat.not_lt_zero i), fun i hi => absurd hi (Nat.not_lt_zero i), fun i hi => absurd hi (Nat.not_lt_zero i)⟩

theorem Rs.keep {wq w w' : World} {rv : Value} {k : Nat} {xs : List Value} {dv : Nat → Value} {zz : Nat → List Int} (h : Rs wq rv k xs dv zz w) (hb : Below w.heap.size w w') : Rs wq rv k xs dv zz w' :=
  ⟨h.bel.trans (hb.mono h.bel.size), owns_keep h.row hb, h.cell, fun i hi => (h.own i hi).keep hb, h.off⟩

theorem Rs.app {wq w w9 : World} {rv v' u0 u1 : Value} {k : Nat} {xs : List Value} {dv : Nat → Value} {zz : Nat → List Int} (h : Rs wq rv k xs dv zz w) (hu : Own wq.heap.size w u1 (zz k)) (ho : ∀ g, rv.ownBlock = some g → Off g u1 (zz k))
    (hrow : w9.ownsRow wq.heap.size 27 2 v' (k + 1) (xs ++ [u0, u1])) (hg : (w.alloc (.cells #[u0, u1] 27)).grownBy w9 rv.ownBlock) (hat : v'.ownBlock = rv.ownBlock ∨ v'.ownBlock = some (w.heap.size + 1)) :
    Rs wq v' (k + 1) (xs ++ [u0, u1]) (fun i => if i = k then u1 else dv i) zz w9 := by
  have kk : Below w.heap.size w (w.alloc (.cells #[u0, u1] 27)) := (Below.refl _ _).alloc (Nat.le_refl _) _
  have hx : xs.length = k * 2 := h.row.1
  have off' : ∀ (u : Value) (zs : List Int), Own wq.heap.size w u zs → (∀ g, rv.ownBlock = some g → Off g u zs) → ∀ g, v'.ownBlock = some g → Off g u zs := by
    intro u zs hou hof g hgv
    rcases hat with hat | hat
    · rw [hat] at hgv
      exact hof g hgv
    · rw [hat] at hgv
      simp only [Option.some.injEq] at hgv
      subst hgv
      exact own_ne_hi hou (Nat.le_succ _)
  refine ⟨(h.bel.trans (kk.mono h.bel.size)).grown hg (by have := h.bel.size; simp; omega) (fun g e => (h.row.lt g e).1), hrow, ?_, ?_, ?_⟩
  · intro i hi
    by_cases hik : i = k
    · subst hik
      rw [if_pos rfl, List.getElem?_append_right (by omega), hx]
      have : i * 2 + 1 - i * 2 = 1 := by omega
      rw [this]
      rfl
    · rw [if_neg hik, List.getElem?_append_left (by omega)]
      exact h.cell i (by omega)
  · intro i hi
    show Own _ _ (if i = k then u1 else dv i) _
    by_cases hik : i = k
    · subst hik
      rw [if_pos rfl]
      exact (hu.keep kk).grownOff hg ho
    · rw [if_neg hik]
      exact ((h.own i (by omega)).keep kk).grownOff hg (h.off i (by omega))
  · intro i hi
    show ∀ g, _ → Off g (if i = k then u1 else dv i) _
    by_cases hik : i = k
    · subst hik
      rw [if_pos rfl]
      exact off' u1 _ hu ho
    · rw [if_neg hik]
      exact off' _ _ (h.own i (by omega)) (h.off i (by omega))

theorem rows_form {base n : Nat} {w : World} {v : Value} {xs : List Value} (h : w.ownsRow base 27 2 v n xs) : ∃ ao g cap, v = .slice ao n cap ∧ (0 < n → ao = some ⟨g, 0, none⟩ ∧ g < w.heap.size ∧ ∀ i, i < n → w.cell? ⟨g, i * 2 + 1, none⟩ = xs[i * 2 + 1]?) := by
  rcases h.2 with ⟨rfl, rfl⟩ | ⟨g, cap, cur, rfl, hb, hg, _⟩
  · exact ⟨none, 0, 0, rfl, fun h => absurd h (Nat.lt_irrefl _)⟩
  · exact ⟨_, g, cap, rfl, fun _ => ⟨rfl, (Array.getElem?_eq_some_iff.1 hg).1, fun i hi => h.cellAt (i * 2 + 1) (by omega)⟩⟩

end Go.Proofs.Ytmobjomebmipdaa

namespace Go.Proofs.Ytmobjomebmipdaa
open Go.RowKit
set_option linter.unusedVariables false

set_option maxRecDepth 100000 in
set_option maxHeartbeats 8000000 in
/-- spec.Scan -/
theorem specS_face (op : Int) (b0 b1 : Nat) (sh da : List Int) (w : World) (hl0 : sh.length ≤ 1048576) (hl1 : da.length ≤ 1048576)
    (h0 : Rd w.heap.size w (.slice (some ⟨b0, 0, none⟩) sh.length sh.length) sh) (h1 : Rd w.heap.size w (.slice (some ⟨b1, 0, none⟩) da.length da.length) da) (c : Int) (S D : List Int) (hres : Pl.scaM op sh da = (c, S, D)) :
    Calls Try.prog 28 #[.int .i64 op, .agg #[.slice (some ⟨b0, 0, none⟩) sh.length sh.length, .slice (some ⟨b1, 0, none⟩) da.length da.length]] w (FPost w c S D) := by
  have B : Hid (∀ o o', Below w.heap.size w ((w.alloc o).alloc o')) := fun o o' => ((Below.refl _ _).alloc (Nat.le_refl _) _).alloc (by simp) _
  have H0 := hideP h0
  have H1 := hideP h1
  have KO := hideP (fun w => opOk_any op w)
  have KA : Hid (∀ w', Below w.heap.size w w' → Calls Try.prog 12 #[.agg #[.slice (some ⟨b0, 0, none⟩) sh.length sh.length, .slice (some ⟨b1, 0, none⟩) da.length da.length]] w' fun e w'' => e = .returned (.bool (Pl.okB sh da)) ∧ Below w'.heap.size w' w'') := fun w' h => specOk_any _ _ sh da w' hl0 hl1 ((H0.out.keep h).up h.size) ((H1.out.keep h).up h.size)
  have HR := hideP hres
  clear hres
  by_cases hop : 1 ≤ op ∧ op < 11
  · have KO' : Hid (∀ w, Calls Try.prog 49 #[.int .i64 op] w fun e w' => e = .returned (.bool true) ∧ w' = w) := fun w => by have := KO.out w; rw [decide_eq_true hop] at this; exact this
    go_enter Try.func28, Try.ntmps28
    by_cases ok : Pl.okB sh da = true
    · rw [ok] at KA
      have e := HR.out
      unfold Pl.scaM at e
      rw [Pl.moM_yes ⟨hop.1, hop.2, ok⟩] at e
      obtain ⟨hm0, hm1⟩ := Pl.ok_max ok
      have KRD : Hid (∀ (g0 k0 g1 k1 : Nat) (sh' da' : List Int) (c' : Int) (S' D' : List Int) W, Rd W.heap.size W (.slice (some ⟨g0, 0, none⟩) sh'.length k0) sh' → Rd W.heap.size W (.slice (some ⟨g1, 0, none⟩) da'.length k1) da' → sh'.length ≤ k0 → k0 ≤ 9223372036854775807 → da'.length ≤ k1 → k1 ≤ 9223372036854775807 → Pl.okB sh' da' = true → Pl.reduceM (Pl.twoM op) (Pl.noneV op.toNat) (Pl.noneB op.toNat) sh' da' = (c', S', D') → Calls Try.prog 71 #[.int .i64 op, .agg #[.slice (some ⟨g0, 0, none⟩) sh'.length k0, .slice (some ⟨g1, 0, none⟩) da'.length k1]] W (FPost W c' S' D')) := by
        obtain ⟨k, rfl⟩ := Int.eq_ofNat_of_zero_le (show 0 ≤ op by omega)
        exact fun g0 k0 g1 k1 sh' da' c' S' D' W r0 r1 q0 q1 q2 q3 ok' e' => l2Reduce_any k (by omega) (by omega) g0 0 k0 g1 0 k1 sh' da' W r0 r1 q0 q1 q2 q3 ok' c' S' D' e'
      by_cases hsl : sh.length = 0
      · unfold Pl.scanM at e
        rw [if_pos hsl] at e
        simp only [Prod.mk.injEq] at e
        obtain ⟨rfl, rfl, rfl⟩ := e
        have KL : Hid (∀ w', Below w.heap.size w w' → Calls Try.prog 71 #[.int .i64 op, .agg #[.slice (some ⟨b0, 0, none⟩) sh.length sh.length, .slice (some ⟨b1, 0, none⟩) da.length da.length]] w' (FPost w' 0 [] da)) := fun w' h => KRD.out b0 _ b1 _ sh da 0 [] da w' ((H0.out.keep h).up h.size) ((H1.out.keep h).up h.size) (Nat.le_refl _) (by omega) (Nat.le_refl _) (by omega) ok (by unfold Pl.reduceM; rw [if_pos hsl])
        have test : ((sh.length : Int) == 0) = true := by simp [hsl]
        clear ok hop KO HR H0 H1 h0 h1 KRD hsl
        generalize hL0 : sh.length = L0 at *
        clear hL0
        generalize hL1 : da.length = L1 at *
        have HL1 := hideP hL1
        clear hL1
        go_wp2_with (go_at_call 49; refine (KO'.out _).mono ?_; rintro e w' ⟨rfl, rfl⟩)
        refine (KA.out _ (B.out _ _)).mono ?_
        rintro e w1 ⟨rfl, hb1⟩
        have k1 : Below (w.heap.size + 1 + 1) _ w1 := hb1.mono (by simp)
        have X1 := hideP (boxes2 k1)
        have K1 := hideP k1
        have hs1 : w.heap.size + 1 + 1 ≤ w1.heap.size := by have := hb1.size; simpa using this
        clear hb1 k1
        have c0 := X1.out.1.1
        have c1 := X1.out.1.2
        go_wp2_with fail
        clear c0 c1
        refine (KL.out _ X1.out.2.2).mono ?_
        rintro e w2 ⟨hb2, u0, u1, rfl, hres⟩
        have k2 := K1.out.trans (hb2.mono hs1)
        have X2 := hideP (boxes2 k2)
        have R2 := hideP hres
        have hs2 := hb2.size
        obtain ⟨x0, y0, x1, y1, e0, e1⟩ := hres.forms
        subst e0
        subst e1
        clear hb2 hres k2 K1
        have r0 := X2.out.2.1.1
        have r1 := X2.out.2.1.2.1
        have f2 := X2.out.2.1.2.2
        go_wp2_with fail
        refine bodyPost_ret (v := .tuple #[.agg #[.slice x0 0 y0, .slice x1 da.length y1], .int .i64 0]) (by simp [results, Try.results28, go_sem, r0, r1]) rfl ⟨(X2.out.2.2.setCell (by simp) _).setCell (by simp) _, _, _, rfl, ?_, ?_, R2.out.2.2⟩
        · exact Own.base (Own.store (Own.store R2.out.1 (by omega) _) (by omega) _) (by omega)
        · exact Own.base (Own.store (Own.store R2.out.2.1 (by omega) _) (by omega) _) (by omega)
      · have test : ((sh.length : Int) == 0) = false := by rw [beq_eq_false_iff_ne]; omega
        obtain ⟨hlt0, hce⟩ := rd_cell h0 (i := 0) (by omega)
        rw [Nat.add_zero] at hce
        unfold Pl.scanM at e
        rw [if_neg hsl] at e
        generalize hF : Pl.twoM op = F at *
        -- the number and size of the rows
        obtain ⟨n, s, en, es, hft, hl, n2⟩ : ∃ n s : Nat, sh.getD 0 0 = n ∧ (Pl.prodC sh.tail).toNat = s ∧ (0 < n → Pl.fitsB sh.tail = true ∧ Pl.prodC sh.tail = s) ∧ da.length = n * s ∧ n ≤ 1000 := by
          by_cases hn : sh.getD 0 0 = 0
          · refine ⟨0, (Pl.prodC sh.tail).toNat, hn, rfl, fun h => absurd h (Nat.lt_irrefl _), ?_, by omega⟩
            have e := (Pl.ok_len ok).1
            rw [Pl.prod_eq (Pl.ok_len ok).2] at e
            cases sh with
            | nil => exact absurd rfl hsl
            | cons x tl =>
              have hx : x = 0 := hn
              rw [hx, Pl.prodP_cons, Int.zero_mul] at e
              omega
          · obtain ⟨g1, n, s, g2, g3, g4, g5, g6⟩ := Pl.ok_rows ok hsl hn
            exact ⟨n, s, g2, by omega, fun _ => ⟨g1, g3⟩, g6, g5⟩
        rw [en, es] at e
        simp only [Int.toNat_natCast] at e
        rw [en] at hce
        have shc : (n : Int) :: sh.tail = sh := by
          cases sh with
          | nil => exact absurd rfl hsl
          | cons x tl =>
            have hx : x = n := en
            rw [hx]
            rfl
        have htl : sh.tail.length = sh.length - 1 := by simp
        have hst2 : sh.tail.length ≤ 2 := by omega
        have KF1 : Hid (∀ (k : Nat) W, k < n → Below w.heap.size w W → Calls Try.prog 74 #[.agg #[.slice (some ⟨b0, 0, none⟩) sh.length sh.length, .slice (some ⟨b1, 0, none⟩) da.length da.length], .int .i64 ((k : Int) + 1)] W fun e w' => ∃ g0 k0 g1 k1, e = .returned (.agg #[.slice (some ⟨g0, 0, none⟩) (1 + sh.tail.length) k0, .slice (some ⟨g1, 0, none⟩) ((k + 1) * s) k1]) ∧ Below W.heap.size W w' ∧
            ∀ W', Below w'.heap.size w' W' → Calls Try.prog 71 #[.int .i64 op, .agg #[.slice (some ⟨g0, 0, none⟩) (1 + sh.tail.length) k0, .slice (some ⟨g1, 0, none⟩) ((k + 1) * s) k1]] W' (FPost W' (Pl.beg F da s k).1 (if (Pl.beg F da s k).1 = 0 then sh.tail else []) (if (Pl.beg F da s k).1 = 0 then (Pl.beg F da s k).2 else []))) := fun k W hk hb => by
          obtain ⟨ft, eps⟩ := hft (by omega)
          obtain ⟨f1, f2⟩ := Pl.fits_first (Pl.ok_len ok).2 hsl en eps ft (show k + 1 ≤ n by omega)
          have hle : (k + 1) * s ≤ da.length := by rw [hl]; exact Nat.mul_le_mul_right s hk
          have okk := Pl.ok_first ok hsl en eps ft hl (show k + 1 ≤ n by omega)
          have := l2First_any b0 0 sh.length b1 0 da.length (k + 1) ((k + 1) * s) sh da W ((H0.out.keep hb).up hb.size) ((H1.out.keep hb).up hb.size) (by omega) hm0 hm1 (Nat.le_refl _) (by omega) (Nat.le_refl _) (by omega) f1 f2 hle (by omega)
          rw [show (((k + 1 : Nat)) : Int) = (k : Int) + 1 by omega] at this
          refine this.mono ?_
          rintro e w' ⟨g0, k0, g1, k1, rfl, q0, q1, q2, q3, rd0, rd1, hb'⟩
          refine ⟨g0, k0, g1, k1, rfl, hb', fun W' hb2 => ?_⟩
          have hlen : (((k : Int) + 1) :: sh.tail).length = 1 + sh.tail.length := by rw [List.length_cons, Nat.add_comm]
          have hdl : (da.take ((k + 1) * s)).length = (k + 1) * s := by rw [List.length_take]; omega
          have eR : Pl.reduceM F (Pl.noneV op.toNat) (Pl.noneB op.toNat) (((k : Int) + 1) :: sh.tail) (da.take ((k + 1) * s)) = ((Pl.beg F da s k).1, (if (Pl.beg F da s k).1 = 0 then sh.tail else []), (if (Pl.beg F da s k).1 = 0 then (Pl.beg F da s k).2 else [])) := by
            unfold Pl.reduceM
            rw [if_neg (by simp), if_neg (show ¬ ((((k : Int) + 1) :: sh.tail).getD 0 0 = 0) by show ¬ ((k : Int) + 1 = 0); omega)]
            have e1 : ((((k : Int) + 1) :: sh.tail).getD 0 0).toNat = k + 1 := by show ((k : Int) + 1).toNat = k + 1; omega
            rw [e1, List.tail_cons, es, Pl.foldM_take F da s (k + 1) (by omega)]
            show (if (Pl.beg F da s k).1 = 0 then _ else _) = _
            split
            · rename_i h0
              show (0, sh.tail, (Pl.beg F da s k).2) = _
              rw [h0]
            · rfl
          have okk' : Pl.okB (((k : Int) + 1) :: sh.tail) (da.take ((k + 1) * s)) = true := by
            have := okk
            rw [show (((k + 1 : Nat)) : Int) = (k : Int) + 1 by omega] at this
            exact this
          have rd0' := (rd0.keep hb2).up hb2.size
          have rd1' := (rd1.keep hb2).up hb2.size
          have := KRD.out g0 k0 g1 k1 (((k : Int) + 1) :: sh.tail) (da.take ((k + 1) * s)) _ _ _ W' (by rw [hlen]; exact rd0') (by rw [hdl]; exact rd1') (by omega) q1 (by omega) q3 okk' eR
          rw [hlen, hdl] at this
          exact this
        have KST : Hid (∀ W rv rg rcap (dv : Nat → Value) (sv : Value), Below w.heap.size w W → (0 < n → rv = some ⟨rg, 0, none⟩ ∧ rg < W.heap.size ∧ ∀ i, i < n → W.cell? ⟨rg, i * 2 + 1, none⟩ = some (dv i)) → (∀ i, i < n → Rd W.heap.size W (dv i) (Pl.beg F da s i).2) → Rd W.heap.size W sv sh.tail → Calls Try.prog 75 #[sv, .slice rv n rcap] W (FPost W 0 sh (Pl.begD F da s n))) := fun W rv rg rcap dv sv hb hrv hrd hsv => by
          have := l2Stack_any rv rg n rcap dv (fun i => (Pl.beg F da s i).2) sv sh.tail W (fun h => (hrv h).1) n2 (fun h => (hrv h).2.1) (fun i hi => (hrv (by omega)).2.2 i hi) hrd hsv (fun j hj => by
            have h1 := Pl.begD_len F da s j
            have h2 : j * s ≤ n * s := Nat.mul_le_mul_right s hj
            show (Pl.begD F da s j).length ≤ 1000
            omega) hst2 (by rw [shc]; exact (Pl.ok_len ok).2)
          rw [shc] at this
          exact this
        have RT := hideP (fun c' => rd_tail h0 (by omega) c')
        have RZ : Hid (sh.length - 1 = 0 → ∀ c', Rd w.heap.size w (.slice (some ⟨b0, 0, none⟩) 0 c') sh.tail) := fun h c' => rd_zero _ _ _ _ _ (by omega)
        have KT : Hid (∀ W v, Below w.heap.size w W → Rd w.heap.size w v sh.tail → Rd W.heap.size W v sh.tail) := fun W v hb h => (h.keep hb).up hb.size
        have PZ : Hid (∀ W, Below w.heap.size w W → W.cell? ⟨b0, 0, none⟩ = some (.int .i64 (n : Int))) := fun W hb => (hb.cell (p := ⟨b0, 0, none⟩) hlt0).trans hce
        generalize hC : Pl.firstG (Pl.begC F da s) (List.range n) = C at e
        have PC := hideP hC
        have PE := hideP e
        have hl1' : 1 ≤ sh.length := by omega
        clear ok hop KO HR H0 H1 h0 h1 KRD hce en es hft hl shc htl hC e hF
        generalize sh.tail = st at *
        generalize hL1 : da.length = L1 at *
        clear hL1
        generalize hL0 : sh.length = L at *
        have HL0 := hideP hL0
        clear hL0
        go_wp2_with (go_at_call 49; refine (KO'.out _).mono ?_; rintro e w' ⟨rfl, rfl⟩)
        refine (KA.out _ (B.out _ _)).mono ?_
        rintro e w1 ⟨rfl, hb1⟩
        have k1 : Below (w.heap.size + 1 + 1) _ w1 := hb1.mono (by simp)
        have hs1 : w.heap.size + 1 + 1 ≤ w1.heap.size := by have := hb1.size; simpa using this
        have BX := hideP (fun W (hb : Below w1.heap.size w1 W) => boxes2 (k1.trans (hb.mono hs1)))
        clear hb1 k1 KA KO'
        have c10 := (BX.out _ (Below.refl _ _)).1.1
        go_wp2_with fail
        clear c10
        go_loopw [6, 7, 8, 9] (fun rv i _ _ wr => ∃ k : Nat, k ≤ n ∧ i = .int .i64 ((k : Int) + 1) ∧ Hid (∀ i, i < k → (Pl.beg F da s i).1 = 0) ∧ ∃ xs dv, Hid (Rs w1 rv k xs dv (fun i => (Pl.beg F da s i).2) wr)) (fun _ i _ _ _ => n + 1 - (intOf i).toNat)
        case atStart => exact ⟨0, Nat.zero_le _, by go_num, fun i hi => absurd hi (Nat.not_lt_zero i), _, _, Rs.start w1 _⟩
        case round =>
          obtain ⟨k, hk, rfl, hz, xs, dvv, hR⟩ := hrel
          have BR := hideP (BX.out _ hR.out.bel).2.2
          obtain ⟨rao, rg, rcap, erv, hform⟩ := rows_form hR.out.row
          subst erv
          have c10 := (BX.out _ hR.out.bel).1.1
          have c11 := (BX.out _ hR.out.bel).1.2
          have cz := PZ.out _ BR.out
          by_cases hlt : k < n
          · have hle : (k : Int) + 1 ≤ (n : Int) := by omega
            have FA : Hid (¬ (Pl.beg F da s k).1 = 0 → C = (Pl.beg F da s k).1) := fun h => PC.out.symm.trans (Pl.beg_first F da s k n hlt hz.out h)
            have ZU : Hid ((Pl.beg F da s k).1 = 0 → ∀ i, i < k + 1 → (Pl.beg F da s i).1 = 0) := fun h i hi => by
              by_cases hik : i = k
              · subst hik; exact h
              · exact hz.out i (by omega)
            have KF := hideP (fun W hb => KF1.out k W hlt hb)
            have ZK : Hid ((fun i => (Pl.beg F da s i).2) k = (Pl.beg F da s k).2) := rfl
            obtain ⟨rc, rz, hrr⟩ : ∃ rc rz, Pl.beg F da s k = (rc, rz) := ⟨_, _, rfl⟩
            rw [hrr] at FA ZU KF ZK
            dsimp only at FA ZU KF ZK
            generalize (k + 1) * s = q at *
            have hsr := hR.out.bel.size
            clear hform hrr
            go_wp2_with fail
            refine (KF.out _ BR.out).mono ?_
            rintro e w2 ⟨g0, k0, g1, k1, rfl, hb2, KQ0⟩
            have KQ := hideP KQ0
            have R2 := hideP (hR.out.keep hb2)
            clear hb2 KQ0 c10 c11 cz
            go_wp2_with fail
            refine (KQ.out _ (Below.refl _ _)).mono ?_
            rintro e w3 ⟨hb3, u0, u1, rfl, hres⟩
            have R3 := hideP (R2.out.keep hb3)
            have RES := hideP hres
            have A3 : Hid (Below w3.heap.size w3 (w3.alloc (.cells #[u0, u1] 27))) := (Below.refl _ _).alloc (Nat.le_refl _) _
            have R4 := hideP (R3.out.keep A3.out)
            have hs2 := R2.out.bel.size
            have OFF : Hid (∀ g, (Value.slice rao k rcap).ownBlock = some g → Off g u1 (if rc = 0 then rz else [])) := fun g hg => own_ne_lo hres.2.1 (R2.out.row.lt g hg).2
            have OU := hideP ((hres.2.1.base hs2).keep A3.out)
            obtain ⟨x0, y0, x1, y1, e0, e1⟩ := hres.forms
            clear hb3 hres
            by_cases hr : rc = 0
            · subst hr
              rw [if_pos rfl] at e0 e1 OFF OU
              subst e0
              subst e1
              have ZU' := hideP (ZU.out rfl)
              have hs3 := R4.out.bel.size
              clear ZU FA
              have UB : Hid (k + 1 ≤ 16777216) := by show _ ≤ _; omega
              have HS3 : Hid ((w3.alloc (.cells #[.slice x0 st.length y0, .slice x1 rz.length y1] 27)).heap.size = w3.heap.size + 1) := by show _ = _; simp
              go_wp2_with (at_builtin; refine wpList_append66 (base := w1.heap.size) (w3.alloc (.cells #[.slice x0 st.length y0, .slice x1 rz.length y1] 27)) rfl _ _ rfl _ _ _ rfl (w3.heap.size + 1) HS3.out rfl k xs R4.out.row rfl rfl UB.out hs3 ?_)
              intro v' w9 ho9 hg9 hat9
              have RA := hideP (R4.out.app (zz := fun i => (Pl.beg F da s i).2) (by rw [ZK.out]; exact OU.out) (by rw [ZK.out]; exact OFF.out) ho9 hg9 (by rw [HS3.out]; exact hat9))
              clear ho9 hg9 hat9
              go_wp2_with fail
              go_roundw
              case rel => exact ⟨k + 1, by omega, by go_num, ZU', _, _, RA⟩
              case measure => simp [intOf]; omega
            · have hC := FA.out hr
              have e := PE.out
              rw [if_neg (by rw [hC]; exact hr)] at e
              simp only [Prod.mk.injEq] at e
              obtain ⟨rfl, rfl, rfl⟩ := e
              have hne : (rc != 0) = true := by rw [bne_iff_ne]; exact hr
              rw [if_neg hr] at e0 e1
              subst e0
              subst e1
              have X4 := hideP (BX.out _ R4.out.bel)
              have X3 := hideP (BX.out _ R3.out.bel)
              have hs4 : w.heap.size + 1 + 1 ≤ w3.heap.size := by have := R3.out.bel.size; omega
              have r0 : (w3.alloc (.cells #[.slice x0 0 y0, .slice x1 0 y1] 27)).cell? ⟨w.heap.size + 1, 0, none⟩ = some (.slice none 0 0) := X4.out.2.1.1
              have r1 : (w3.alloc (.cells #[.slice x0 0 y0, .slice x1 0 y1] 27)).cell? ⟨w.heap.size + 1, 1, none⟩ = some (.slice none 0 0) := X4.out.2.1.2.1
              have f2 : ∀ o, (w3.alloc (.cells #[.slice x0 0 y0, .slice x1 0 y1] 27)).frozen? ⟨w.heap.size + 1, o, none⟩ = false := X4.out.2.1.2.2
              have HC := hideP hC
              clear ZU FA hC
              go_wp2_with fail
              refine bodyPost_ret (v := .tuple #[.agg #[.slice none 0 0, .slice none 0 0], .int .i64 rc]) (by simp [results, Try.results28, go_sem, r0, r1]) rfl ?_
              show FPost _ _ _ _ _ _
              rw [HC.out]
              exact ⟨(X4.out.2.2.setCell (by simp) _).setCell (by simp) _, _, _, rfl, Own.nil _ _, Own.nil _ _, .inl rfl⟩
          · have kn : k = n := by omega
            subst kn
            have hgt : ¬ ((k : Int) + 1 ≤ (k : Int)) := by omega
            have hC : C = 0 := PC.out.symm.trans (Pl.beg_zero F da s k hz.out)
            have e := PE.out
            rw [if_pos hC] at e
            simp only [Prod.mk.injEq] at e
            obtain ⟨rfl, rfl, rfl⟩ := e
            have HF2 : Hid (0 < k → rao = some ⟨rg, 0, none⟩ ∧ rg < wr.heap.size ∧ ∀ i, i < k → wr.cell? ⟨rg, i * 2 + 1, none⟩ = some (dvv i)) := fun h => ⟨(hform h).1, (hform h).2.1, fun i hi => ((hform h).2.2 i hi).trans (hR.out.cell i hi)⟩
            have RSX : Hid (∀ i, i < k → Rd wr.heap.size wr (dvv i) (Pl.beg F da s i).2) := fun i hi => (hR.out.own i hi).rd
            have BRW := hideP hR.out.bel
            clear hform
            by_cases hL : L = 1
            · subst hL
              have SV := hideP (KT.out wr _ BR.out (RZ.out (by omega) 0))
              clear RT RZ
              go_wp2_with fail
              refine (KST.out wr _ rg _ dvv _ BR.out HF2.out RSX.out SV.out).mono ?_
              rintro e w9 ⟨hb9, u0, u1, rfl, hres⟩
              have X9 := hideP (BX.out _ (BRW.out.trans (hb9.mono BRW.out.size)))
              have R9 := hideP hres
              have hs9 := hb9.size
              have hsr := BRW.out.size
              obtain ⟨x0, y0, x1, y1, e0, e1⟩ := hres.forms
              rw [HL0.out] at e0
              subst e0
              subst e1
              clear hb9 hres c10 c11 cz
              have r0 := X9.out.2.1.1
              have r1 := X9.out.2.1.2.1
              have f2 := X9.out.2.1.2.2
              go_wp2_with fail
              refine bodyPost_ret (v := .tuple #[.agg #[.slice x0 1 y0, .slice x1 (Pl.begD F da s k).length y1], .int .i64 0]) (by simp [results, Try.results28, go_sem, r0, r1]) rfl ⟨(X9.out.2.2.setCell (by simp) _).setCell (by simp) _, _, _, rfl, ?_, ?_, R9.out.2.2⟩
              · exact Own.base (Own.store (Own.store R9.out.1 (by omega) _) (by omega) _) (by omega)
              · exact Own.base (Own.store (Own.store R9.out.2.1 (by omega) _) (by omega) _) (by omega)
            · have SV := hideP (KT.out wr _ BR.out (RT.out (L - 1)))
              clear RT RZ
              go_wp2_with fail
              refine (KST.out wr _ rg _ dvv _ BR.out HF2.out RSX.out SV.out).mono ?_
              rintro e w9 ⟨hb9, u0, u1, rfl, hres⟩
              have X9 := hideP (BX.out _ (BRW.out.trans (hb9.mono BRW.out.size)))
              have R9 := hideP hres
              have hs9 := hb9.size
              have hsr := BRW.out.size
              obtain ⟨x0, y0, x1, y1, e0, e1⟩ := hres.forms
              rw [HL0.out] at e0
              subst e0
              subst e1
              clear hb9 hres c10 c11 cz
              have r0 := X9.out.2.1.1
              have r1 := X9.out.2.1.2.1
              have f2 := X9.out.2.1.2.2
              go_wp2_with fail
              refine bodyPost_ret (v := .tuple #[.agg #[.slice x0 L y0, .slice x1 (Pl.begD F da s k).length y1], .int .i64 0]) (by simp [results, Try.results28, go_sem, r0, r1]) rfl ⟨(X9.out.2.2.setCell (by simp) _).setCell (by simp) _, _, _, rfl, ?_, ?_, R9.out.2.2⟩
              · exact Own.base (Own.store (Own.store R9.out.1 (by omega) _) (by omega) _) (by omega)
              · exact Own.base (Own.store (Own.store R9.out.2.1 (by omega) _) (by omega) _) (by omega)
    · have ok' : Pl.okB sh da = false := by simpa using ok
      rw [ok'] at KA
      have e := HR.out
      unfold Pl.scaM at e
      rw [Pl.moM_no (by intro h; exact ok h.2.2)] at e
      simp only [Prod.mk.injEq] at e
      obtain ⟨rfl, rfl, rfl⟩ := e
      clear ok ok' hop
      go_wp2_with (go_at_call 49; refine (KO'.out _).mono ?_; rintro e w' ⟨rfl, rfl⟩)
      refine (KA.out _ (B.out _ _)).mono ?_
      rintro e w1 ⟨rfl, hb1⟩
      have X1 := hideP (boxes2 (show Below (w.heap.size + 1 + 1) _ w1 from hb1.mono (by simp)))
      have hs1 : w.heap.size + 1 + 1 ≤ w1.heap.size := by have := hb1.size; simpa using this
      clear hb1
      have r0 := X1.out.2.1.1
      have r1 := X1.out.2.1.2.1
      have f2 := X1.out.2.1.2.2
      go_wp2_with fail
      refine bodyPost_ret (v := .tuple #[.agg #[.slice none 0 0, .slice none 0 0], .int .i64 9]) (by simp [results, Try.results28, go_sem, r0, r1]) rfl ⟨(X1.out.2.2.setCell (by simp) _).setCell (by simp) _, _, _, rfl, Own.nil _ _, Own.nil _ _, .inl rfl⟩
  · have KO' : Hid (∀ w, Calls Try.prog 49 #[.int .i64 op] w fun e w' => e = .returned (.bool false) ∧ w' = w) := fun w => by have := KO.out w; rw [decide_eq_false hop] at this; exact this
    go_enter Try.func28, Try.ntmps28
    have e := HR.out
    unfold Pl.scaM at e
    rw [Pl.moM_no (by intro h; exact hop ⟨h.1, h.2.1⟩)] at e
    simp only [Prod.mk.injEq] at e
    obtain ⟨rfl, rfl, rfl⟩ := e
    clear hop
    go_wp2_with (go_at_call 49; refine (KO'.out _).mono ?_; rintro e w' ⟨rfl, rfl⟩)
    refine bodyPost_ret (v := .tuple #[.agg #[.slice none 0 0, .slice none 0 0], .int .i64 9]) (by simp [results, Try.results28, go_sem]) rfl ⟨B.out _ _, _, _, rfl, Own.nil _ _, Own.nil _ _, .inl rfl⟩

end Go.Proofs.Ytmobjomebmipdaa

