import Derived.Test.YtbmkbplgncoapaaDoorO1
namespace Go.Proofs.YtbmkbplgncoapaaDoor
open Go.RowKit Go.Sort
set_option linter.unusedVariables false

set_option maxRecDepth 100000 in
set_option maxHeartbeats 1000000 in
/-- laws.toOutcome -/
theorem toOutcome_any (k c fu ce : Int) (v0 v1 : Value) (sh da : List Int) (w : World) (l0 : sh.length ≤ 1048576) (l1 : da.length ≤ 1048576) (h0 : Rd w.heap.size w v0 sh) (h1 : Rd w.heap.size w v1 da) :
    Calls Tryd.prog 74 #[.agg #[.int .i64 k, .int .i64 c, v0, v1, .int .i64 fu, .int .i64 ce]] w fun e w' => ∃ u0 u1, e = .returned (.agg #[.int .i64 k, .int .i64 c, u0, u1, .int .i64 fu, .int .i64 ce]) ∧ Own w.heap.size w' u0 sh ∧ Own w.heap.size w' u1 da ∧ Below w.heap.size w w' := by
  have H0 := hideP h0
  have H1 := hideP h1
  have A := hideP (below3 w)
  clear h0 h1
  go_enter Tryd.func74, Tryd.ntmps74
  go_wp2_with fail
  refine (toArray_res v0 v1 sh da _ l0 l1 ((H0.out.keep (A.out _ _ _)).up (A.out _ _ _).size) ((H1.out.keep (A.out _ _ _)).up (A.out _ _ _).size)).mono ?_
  rintro e w1 ⟨g0, g1, rfl, ⟨o0, o1, _⟩, hb1⟩
  have O0 := hideP o0
  have O1 := hideP o1
  have B1 := hideP hb1
  have sz1 : w.heap.size + 3 ≤ w1.heap.size := by have := hb1.size; simpa using this
  obtain ⟨hc, hf⟩ := bcell hb1
  have a4 : w1.cell? ⟨w.heap.size, 4, none⟩ = some (.int .i64 fu) := by rw [hc w.heap.size 4 (by simp; omega)]; simp [go_sem]
  have a5 : w1.cell? ⟨w.heap.size, 5, none⟩ = some (.int .i64 ce) := by rw [hc w.heap.size 5 (by simp; omega)]; simp [go_sem]
  have b0 : w1.cell? ⟨w.heap.size + 1, 0, none⟩ = some (.int .i64 0) := by rw [hc (w.heap.size + 1) 0 (by simp)]; simp [go_sem]
  have b1 : w1.cell? ⟨w.heap.size + 1, 1, none⟩ = some (.int .i64 0) := by rw [hc (w.heap.size + 1) 1 (by simp)]; simp [go_sem]
  have b2 : w1.cell? ⟨w.heap.size + 1, 2, none⟩ = some (.slice none 0 0) := by rw [hc (w.heap.size + 1) 2 (by simp)]; simp [go_sem]
  have b3 : w1.cell? ⟨w.heap.size + 1, 3, none⟩ = some (.slice none 0 0) := by rw [hc (w.heap.size + 1) 3 (by simp)]; simp [go_sem]
  have b4 : w1.cell? ⟨w.heap.size + 1, 4, none⟩ = some (.int .i64 0) := by rw [hc (w.heap.size + 1) 4 (by simp)]; simp [go_sem]
  have b5 : w1.cell? ⟨w.heap.size + 1, 5, none⟩ = some (.int .i64 0) := by rw [hc (w.heap.size + 1) 5 (by simp)]; simp [go_sem]
  have d0 : w1.cell? ⟨w.heap.size + 1 + 1, 0, none⟩ = some (.int .i64 k) := by rw [hc (w.heap.size + 1 + 1) 0 (by simp)]; simp [go_sem]
  have d1 : w1.cell? ⟨w.heap.size + 1 + 1, 1, none⟩ = some (.int .i64 c) := by rw [hc (w.heap.size + 1 + 1) 1 (by simp)]; simp [go_sem]
  have d2 : w1.cell? ⟨w.heap.size + 1 + 1, 2, none⟩ = some (.slice none 0 0) := by rw [hc (w.heap.size + 1 + 1) 2 (by simp)]; simp [go_sem]
  have d3 : w1.cell? ⟨w.heap.size + 1 + 1, 3, none⟩ = some (.slice none 0 0) := by rw [hc (w.heap.size + 1 + 1) 3 (by simp)]; simp [go_sem]
  have d4 : w1.cell? ⟨w.heap.size + 1 + 1, 4, none⟩ = some (.int .i64 0) := by rw [hc (w.heap.size + 1 + 1) 4 (by simp)]; simp [go_sem]
  have d5 : w1.cell? ⟨w.heap.size + 1 + 1, 5, none⟩ = some (.int .i64 0) := by rw [hc (w.heap.size + 1 + 1) 5 (by simp)]; simp [go_sem]
  have f1 : ∀ o, w1.frozen? ⟨w.heap.size + 1 + 1, o, none⟩ = false := fun o => by rw [hf (w.heap.size + 1 + 1) o (by simp)]; simp [go_sem]
  have f2 : ∀ o, w1.frozen? ⟨w.heap.size + 1, o, none⟩ = false := fun o => by rw [hf (w.heap.size + 1) o (by simp)]; simp [go_sem]
  have OO : Hid (∀ u zs, Own (((w.alloc (.cells #[.int .i64 k, .int .i64 c, v0, v1, .int .i64 fu, .int .i64 ce] 96)).alloc (.cells #[.int .i64 0, .int .i64 0, .slice none 0 0, .slice none 0 0, .int .i64 0, .int .i64 0] 98)).alloc (.cells #[.int .i64 k, .int .i64 c, .slice none 0 0, .slice none 0 0, .int .i64 0, .int .i64 0] 98)).heap.size w1 u zs → Own (w.heap.size + 1 + 1 + 1) w1 u zs) := fun u zs h => h.base (by simp)
  have P0 := hideP (OO.out _ _ O0.out)
  have P1 := hideP (OO.out _ _ O1.out)
  have BW := hideP ((A.out _ _ _).trans (hb1.mono (A.out _ _ _).size))
  clear hc hf hb1 o0 o1 O0 O1 OO B1 A
  go_wp2_with fail
  refine bodyPost_ret (v := .agg #[.int .i64 k, .int .i64 c, sl g0 sh.length, sl g1 da.length, .int .i64 fu, .int .i64 ce]) (by simp [results, Tryd.results74, go_sem, b0, b1, b2, b3, b4, b5]) rfl ⟨_, _, rfl, ?_, ?_, ?_⟩
  · refine Own.base (B := w.heap.size + 1 + 1 + 1) ?_ (by omega)
    iterate 10 (refine Own.store ?_ (by omega) _)
    exact P0.out
  · refine Own.base (B := w.heap.size + 1 + 1 + 1) ?_ (by omega)
    iterate 10 (refine Own.store ?_ (by omega) _)
    exact P1.out
  · iterate 10 (refine Below.setCell ?_ (by simp <;> omega) _)
    exact BW.out

/-- six cells of a row that hold an outcome -/
def Six (cur : List Value) (p : Nat) (o : Pl.Ot) (u0 u1 : Value) : Prop :=
  cur[p]? = some (.int .i64 o.k) ∧ cur[p + 1]? = some (.int .i64 o.c) ∧ cur[p + 2]? = some u0 ∧ cur[p + 3]? = some u1 ∧ cur[p + 4]? = some (.int .i64 o.fu) ∧ cur[p + 5]? = some (.int .i64 o.ce)
def set6 (cur : List Value) (p : Nat) (x0 x1 x2 x3 x4 x5 : Value) : List Value := (((((cur.set p x0).set (p + 1) x1).set (p + 2) x2).set (p + 3) x3).set (p + 4) x4).set (p + 5) x5
theorem set6_ne (cur : List Value) (p q : Nat) (x0 x1 x2 x3 x4 x5 : Value) (h : q < p ∨ p + 6 ≤ q) : (set6 cur p x0 x1 x2 x3 x4 x5)[q]? = cur[q]? := by
  unfold set6
  rw [List.getElem?_set_ne (by omega), List.getElem?_set_ne (by omega), List.getElem?_set_ne (by omega), List.getElem?_set_ne (by omega), List.getElem?_set_ne (by omega), List.getElem?_set_ne (by omega)]
theorem set6_len (cur : List Value) (p : Nat) (x0 x1 x2 x3 x4 x5 : Value) : (set6 cur p x0 x1 x2 x3 x4 x5).length = cur.length := by simp [set6]
theorem set6_at (cur : List Value) (p : Nat) (o : Pl.Ot) (u0 u1 : Value) (h : p + 6 ≤ cur.length) : Six (set6 cur p (.int .i64 o.k) (.int .i64 o.c) u0 u1 (.int .i64 o.fu) (.int .i64 o.ce)) p o u0 u1 := by
  unfold set6
  refine ⟨?_, ?_, ?_, ?_, ?_, ?_⟩
  · rw [List.getElem?_set_ne (by omega), List.getElem?_set_ne (by omega), List.getElem?_set_ne (by omega), List.getElem?_set_ne (by omega), List.getElem?_set_ne (by omega), List.getElem?_set_self (by omega)]
  · rw [List.getElem?_set_ne (by omega), List.getElem?_set_ne (by omega), List.getElem?_set_ne (by omega), List.getElem?_set_ne (by omega), List.getElem?_set_self (by simp; omega)]
  · rw [List.getElem?_set_ne (by omega), List.getElem?_set_ne (by omega), List.getElem?_set_ne (by omega), List.getElem?_set_self (by simp; omega)]
  · rw [List.getElem?_set_ne (by omega), List.getElem?_set_ne (by omega), List.getElem?_set_self (by simp; omega)]
  · rw [List.getElem?_set_ne (by omega), List.getElem?_set_self (by simp; omega)]
  · rw [List.getElem?_set_self (by simp; omega)]
theorem Six.other {cur : List Value} {p q : Nat} {o : Pl.Ot} {u0 u1 : Value} (h : Six cur q o u0 u1) (x0 x1 x2 x3 x4 x5 : Value) (hq : q + 6 ≤ p) : Six (set6 cur p x0 x1 x2 x3 x4 x5) q o u0 u1 := by
  obtain ⟨h0, h1, h2, h3, h4, h5⟩ := h
  refine ⟨?_, ?_, ?_, ?_, ?_, ?_⟩ <;> rw [set6_ne _ _ _ _ _ _ _ _ _ (by omega)] <;> assumption

/-- the first k outcomes are there -/
def Got6 (N : Nat) (os : List Pl.Ot) (cur : List Value) (w : World) (k : Nat) : Prop := ∀ i o, i < k → os[i]? = some o → ∃ u0 u1, Six cur (i * 6) o u0 u1 ∧ Own (N + 1) w u0 o.sh ∧ Own (N + 1) w u1 o.da
theorem Got6.keep {N k : Nat} {os : List Pl.Ot} {cur : List Value} {w w' : World} (h : Got6 N os cur w k) (hb : Below w.heap.size w w') : Got6 N os cur w' k := fun i o hi ho => by
  obtain ⟨u0, u1, h1, h2, h3⟩ := h i o hi ho
  exact ⟨u0, u1, h1, h2.keep hb, h3.keep hb⟩
/-- the world behind six stores -/
def put6 (w : World) (N p : Nat) (x0 x1 x2 x3 x4 x5 : Value) : World := (((((w.setCell ⟨N, p, none⟩ x0).setCell ⟨N, p + 1, none⟩ x1).setCell ⟨N, p + 2, none⟩ x2).setCell ⟨N, p + 3, none⟩ x3).setCell ⟨N, p + 4, none⟩ x4).setCell ⟨N, p + 5, none⟩ x5
theorem put6_own {N p : Nat} {w : World} {u : Value} {zs : List Int} (h : Own (N + 1) w u zs) (x0 x1 x2 x3 x4 x5 : Value) : Own (N + 1) (put6 w N p x0 x1 x2 x3 x4 x5) u zs := by
  unfold put6
  iterate 6 (refine Own.store ?_ (by omega) _)
  exact h
theorem put6_below {N p : Nat} {w w' : World} (h : Below N w w') (x0 x1 x2 x3 x4 x5 : Value) : Below N w (put6 w' N p x0 x1 x2 x3 x4 x5) := by
  unfold put6
  iterate 6 (refine Below.setCell ?_ (by exact Nat.le_refl _) _)
  exact h
theorem put6_owns {N n p : Nat} {w : World} {cur : List Value} (h : w.ownsRow N 98 6 (sl N n) n cur) (x0 x1 x2 x3 x4 x5 : Value) : (put6 w N p x0 x1 x2 x3 x4 x5).ownsRow N 98 6 (sl N n) n (set6 cur p x0 x1 x2 x3 x4 x5) :=
  ((((((h.stored p x0).1.stored (p + 1) x1).1.stored (p + 2) x2).1.stored (p + 3) x3).1.stored (p + 4) x4).1.stored (p + 5) x5).1
theorem Got6.step {N k : Nat} {os : List Pl.Ot} {cur : List Value} {w : World} (h : Got6 N os cur w k) {o : Pl.Ot} {u0 u1 : Value} (ho : os[k]? = some o) (h0 : Own (N + 1) w u0 o.sh) (h1 : Own (N + 1) w u1 o.da) (hl : k * 6 + 6 ≤ cur.length) :
    Got6 N os (set6 cur (k * 6) (.int .i64 o.k) (.int .i64 o.c) u0 u1 (.int .i64 o.fu) (.int .i64 o.ce)) (put6 w N (k * 6) (.int .i64 o.k) (.int .i64 o.c) u0 u1 (.int .i64 o.fu) (.int .i64 o.ce)) (k + 1) := fun i x hi hx => by
  by_cases e : i = k
  · subst e
    obtain rfl := Option.some.inj (ho.symm.trans hx)
    exact ⟨u0, u1, set6_at _ _ _ _ _ hl, put6_own h0 _ _ _ _ _ _, put6_own h1 _ _ _ _ _ _⟩
  · obtain ⟨y0, y1, a1, a2, a3⟩ := h i x (by omega) hx
    exact ⟨y0, y1, a1.other _ _ _ _ _ _ (by omega), put6_own a2 _ _ _ _ _ _, put6_own a3 _ _ _ _ _ _⟩

theorem Tryd.info98 : (Tryd.prog.info? 98).map (fun i => (i.zero, i.size, i.bytes)) = some (some (.agg #[.int .i64 0, .int .i64 0, .slice none 0 0, .slice none 0 0, .int .i64 0, .int .i64 0]), 6, 80) := by kernel_rfl

theorem Got6.rd {N n : Nat} {os : List Pl.Ot} {cur : List Value} {w : World} (h : Got6 N os cur w n) (hn : os.length = n) (ho : w.ownsRow N 98 6 (sl N n) n cur) : RdO w.heap.size w (sl N os.length) os := by
  refine ⟨_, _, rfl, .inr ⟨N, 0, (ho.lt N rfl).2, rfl, fun i o hi => ?_⟩⟩
  have hlt := (List.getElem?_eq_some_iff.1 hi).1
  obtain ⟨u0, u1, ⟨s0, s1, s2, s3, s4, s5⟩, o0, o1⟩ := h i o (by omega) hi
  have hl := ho.1
  refine ⟨u0, u1, ?_, ?_, ?_, ?_, ?_, ?_, o0.rd, o1.rd⟩
  · rw [Nat.zero_add, ho.cellAt (i * 6) (by omega)]; exact s0
  · rw [Nat.zero_add, ho.cellAt (i * 6 + 1) (by omega)]; exact s1
  · rw [Nat.zero_add, ho.cellAt (i * 6 + 2) (by omega)]; exact s2
  · rw [Nat.zero_add, ho.cellAt (i * 6 + 3) (by omega)]; exact s3
  · rw [Nat.zero_add, ho.cellAt (i * 6 + 4) (by omega)]; exact s4
  · rw [Nat.zero_add, ho.cellAt (i * 6 + 5) (by omega)]; exact s5

set_option maxRecDepth 100000 in
set_option maxHeartbeats 2000000 in
theorem toOutcomeS_core (b off cap : Nat) (os : List Pl.Ot) (w : World) (hl : os.length ≤ 1048576) (hbd : ∀ o ∈ os, o.bd) (hb : b < w.heap.size)
    (hc : ∀ i o, os[i]? = some o → ∃ v0 v1, OtAt w.heap.size w b (off + i * 6) o v0 v1) :
    Calls Tryd.prog 30 #[.slice (some ⟨b, off, none⟩) os.length cap] w fun e w' => e = .returned (sl w.heap.size os.length) ∧ RdO w'.heap.size w' (sl w.heap.size os.length) os ∧ Below w.heap.size w w' := by
  obtain ⟨i0, hi, hz0, hz1, hz2⟩ := info_parts Tryd.info98
  have HC := hideP hc
  have HB := hideP hbd
  clear hc hbd
  obtain ⟨n, hn⟩ : ∃ n, os.length = n := ⟨_, rfl⟩
  have Hn := hideP hn
  have HRD : Hid (∀ cur W, Got6 w.heap.size os cur W n → W.ownsRow w.heap.size 98 6 (sl w.heap.size n) n cur → RdO W.heap.size W (sl w.heap.size n) os) := fun cur W h1 h2 => by
    have := h1.rd hn h2
    rw [hn] at this
    exact this
  rw [hn] at hl ⊢
  clear hn
  go_enter Tryd.func30, Tryd.ntmps30
  go_wp2_with (at_make; refine wpList_make_full _ rfl _ _ 49 rfl w.heap.size 98 i0 (.agg #[.int .i64 0, .int .i64 0, .slice none 0 0, .slice none 0 0, .int .i64 0, .int .i64 0]) 6 Tryd.underlying49 hi hz0 hz1 _ _ _ _ n rfl rfl rfl rfl ?b2 ?b3 ?b4 ?_)
  case b2 => rw [hz2]; omega
  case b3 => unfold maxLen; omega
  case b4 => exact Nat.le_refl _
  intro w1 hown hgrow
  have O1 := hideP hown
  have hbel : Below w.heap.size w w1 := (Below.refl _ _).grown hgrow (Nat.le_refl _) (by intro k h; cases h)
  have B1 := hideP hbel
  clear hgrow hi hz0 hz1 hz2 hown hbel
  go_wp2_with fail
  go_loopw [4] (fun i wr => ∃ (k : Nat) (cur : List Value), k ≤ n ∧ i = .int .i64 (k : Int) ∧ Hid (wr.ownsRow w.heap.size 98 6 (sl w.heap.size n) n cur) ∧ Hid (Got6 w.heap.size os cur wr k) ∧ Hid (Below w.heap.size w wr)) (fun i _ => n - (intOf i).toNat)
  case atStart => exact ⟨0, _, Nat.zero_le _, rfl, O1, fun i o h => absurd h (Nat.not_lt_zero _), B1⟩
  case round =>
    obtain ⟨k, cur, hk, rfl, OO, GG, BB⟩ := hrel
    by_cases hlt : k < n
    · have hlt' : (k : Int) < (n : Int) := by omega
      obtain ⟨o, ho⟩ : ∃ o, os[k]? = some o := ⟨_, List.getElem?_eq_getElem (by rw [Hn.out]; exact hlt)⟩
      obtain ⟨v0, v1, hat⟩ := HC.out k o ho
      have HO := hideP ho
      obtain ⟨c0, c1, c2, c3, c4, c5, r0, r1⟩ := hat.keep BB.out hb
      have hbo := HB.out o (List.mem_of_getElem? ho)
      have KT := hideP (toOutcome_any o.k o.c o.fu o.ce v0 v1 o.sh o.da wr hbo.1 hbo.2 (r0.up BB.out.size) (r1.up BB.out.size))
      clear hat ho r0 r1 hbo
      go_wp2_with fail
      refine KT.out.mono ?_
      rintro e w2 ⟨u0, u1, rfl, o0, o1, hb2⟩
      have hN := (OO.out.lt w.heap.size rfl).2
      have o0' := hideP (o0.base (B' := w.heap.size + 1) hN)
      have o1' := hideP (o1.base (B' := w.heap.size + 1) hN)
      have O2 := hideP (owns_keep OO.out hb2)
      have G2 := hideP (GG.out.keep hb2)
      have B2 := hideP (BB.out.trans (hb2.mono BB.out.size))
      have hl6 := hideP O2.out.1
      have cx : ∀ j, j < n * 6 → ∃ x, w2.cell? ⟨w.heap.size, j, none⟩ = some x := fun j hj => by
        rw [O2.out.cellAt j hj]
        exact ⟨_, List.getElem?_eq_getElem (by have := hl6.out; omega)⟩
      obtain ⟨x0, y0⟩ := cx (k * 6) (by omega)
      obtain ⟨x1, y1⟩ := cx (k * 6 + 1) (by omega)
      obtain ⟨x2, y2⟩ := cx (k * 6 + 2) (by omega)
      obtain ⟨x3, y3⟩ := cx (k * 6 + 3) (by omega)
      obtain ⟨x4, y4⟩ := cx (k * 6 + 4) (by omega)
      obtain ⟨x5, y5⟩ := cx (k * 6 + 5) (by omega)
      have hf := O2.out.frozenAt
      have G3 := hideP (G2.out.step HO.out o0'.out o1'.out (by have := hl6.out; omega))
      have O3 := hideP (put6_owns (p := k * 6) O2.out (.int .i64 o.k) (.int .i64 o.c) u0 u1 (.int .i64 o.fu) (.int .i64 o.ce))
      have B3 := hideP (put6_below (p := k * 6) B2.out (.int .i64 o.k) (.int .i64 o.c) u0 u1 (.int .i64 o.fu) (.int .i64 o.ce))
      obtain ⟨a0, d0, rfl⟩ := o0.form
      obtain ⟨a1, d1, rfl⟩ := o1.form
      clear o0 o1 hb2 o0' o1' O2 G2 B2 hl6 cx hN OO GG BB KT c0 c1 c2 c3 c4 c5
      go_wp2_with fail
      go_roundw
      case rel => exact ⟨k + 1, _, by omega, by go_num, O3, G3, B3⟩
      case measure => simp [intOf]; omega
    · have hlt' : ¬ (k : Int) < (n : Int) := by omega
      obtain rfl : k = n := by omega
      have R := hideP (HRD.out _ _ GG.out OO.out)
      go_wp2_with fail
      go_ret
      exact ⟨rfl, R.out, BB.out⟩

theorem toOutcomeS_nil (ao : Option Addr) (cap : Nat) (w : World) :
    Calls Tryd.prog 30 #[.slice ao 0 cap] w fun e w' => e = .returned (sl w.heap.size 0) ∧ Below w.heap.size w w' := by
  obtain ⟨i0, hi, hz0, hz1, hz2⟩ := info_parts Tryd.info98
  go_enter Tryd.func30, Tryd.ntmps30
  go_wp2_with (at_make; refine wpList_make_full _ rfl _ _ 49 rfl w.heap.size 98 i0 (.agg #[.int .i64 0, .int .i64 0, .slice none 0 0, .slice none 0 0, .int .i64 0, .int .i64 0]) 6 Tryd.underlying49 hi hz0 hz1 _ _ _ _ 0 rfl rfl rfl rfl ?b2 ?b3 ?b4 ?_)
  case b2 => rw [hz2]; omega
  case b3 => unfold maxLen; omega
  case b4 => exact Nat.le_refl _
  intro w1 hown hgrow
  have R : Hid (Below w.heap.size w w1) := (Below.refl _ _).grown hgrow (Nat.le_refl _) (by intro k h; cases h)
  clear hgrow hi hz0 hz1 hz2 hown
  go_wp2
  go_loopw [4] (fun i wr => i = .int .i64 0 ∧ wr = w1) (fun _ _ => 0)
  case atStart => exact ⟨rfl, rfl⟩
  case round =>
    obtain ⟨rfl, rfl⟩ := hrel
    go_wp2
    go_ret
    exact ⟨rfl, R.out⟩

/-- laws.toOutcomeS -/
theorem toOutcomeS_any (v : Value) (os : List Pl.Ot) (w : World) (hl : os.length ≤ 1048576) (hbd : ∀ o ∈ os, o.bd) (h : RdO w.heap.size w v os) :
    Calls Tryd.prog 30 #[v] w fun e w' => e = .returned (sl w.heap.size os.length) ∧ RdO w'.heap.size w' (sl w.heap.size os.length) os ∧ Below w.heap.size w w' := by
  obtain ⟨ao, cap, rfl, h⟩ := h
  by_cases h0 : os.length = 0
  · obtain rfl := List.length_eq_zero_iff.1 h0
    refine (toOutcomeS_nil ao cap w).mono ?_
    rintro e w' ⟨rfl, hb⟩
    exact ⟨rfl, ⟨_, _, rfl, .inl rfl⟩, hb⟩
  · rcases h with h | ⟨b, off, hB, rfl, hc⟩
    · exact absurd h h0
    · exact toOutcomeS_core b off cap os w hl hbd hB hc

end Go.Proofs.YtbmkbplgncoapaaDoor
