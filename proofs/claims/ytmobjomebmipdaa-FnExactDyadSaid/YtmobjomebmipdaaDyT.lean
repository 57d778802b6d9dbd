import Derived.Test.YtmobjomebmipdaaDyS
import Derived.Test.YtmobjomebmipdaaScan
namespace Go.Proofs.Ytmobjomebmipdaa
open Go.RowKit
set_option linter.unusedVariables false

set_option maxRecDepth 100000 in
/-- impl.rows, with the place -/
theorem rows_at (b off cap s i j : Nat) (n : Nat) (w : World) (hi : i ≤ j) (hn : j * s ≤ n) (hc : n ≤ cap) (hc2 : cap ≤ 9223372036854775807) :
    Calls Try.prog 133 #[.slice (some ⟨b, off, none⟩) n cap, .int .i64 (s : Int), .int .i64 (i : Int), .int .i64 (j : Int)] w fun e w' => ∃ o c, e = .returned (.slice (some ⟨b, o, none⟩) (j * s - i * s) c) ∧ (0 < j * s - i * s → o = off + i * s) ∧ w' = w := by
  have h1 : i * s ≤ j * s := Nat.mul_le_mul_right s hi
  have e1 : ((i : Int) * (s : Int)) = ((i * s : Nat) : Int) := by simp
  have e2 : ((j : Int) * (s : Int)) = ((j * s : Nat) : Int) := by simp
  generalize i * s = p at *
  generalize j * s = q at *
  by_cases hp : cap = p
  · subst hp
    go_enter Try.func133, Try.ntmps133
    go_wp2_with fail
    go_ret
    exact ⟨_, _, rfl, fun h => by omega, rfl⟩
  · go_enter Try.func133, Try.ntmps133
    go_wp2_with fail
    go_ret
    exact ⟨_, _, rfl, fun _ => rfl, rfl⟩

theorem cellAbs_same (x : Int) (w : World) (h0 : -3000000000 ≤ x) (h1 : x ≤ 3000000000) : Calls Try.prog 87 #[.int .i64 x] w fun e w' => e = .returned (.int .i64 (max x (-x))) ∧ w' = w := by
  by_cases h : x ≤ -x
  · have e : max x (-x) = -x := by omega
    rw [e]
    clear e
    go_enter Try.func87, Try.ntmps87
    go_wp2
    all_goals (first | omega | (go_ret; exact ⟨ret_int (by simp; omega), rfl⟩) | (go_ret; exact ⟨rfl, rfl⟩) | (go_ret; refine ⟨?_, rfl⟩; have h2 : -x = x := (by omega); rw [h2]; rfl))
  · have e : max x (-x) = x := by omega
    rw [e]
    clear e
    go_enter Try.func87, Try.ntmps87
    go_wp2
    all_goals (first | omega | (go_ret; exact ⟨ret_int (by simp; omega), rfl⟩) | (go_ret; exact ⟨rfl, rfl⟩) | (go_ret; refine ⟨?_, rfl⟩; have h2 : -x = x := (by omega); rw [h2]; rfl))

/-- joined([]int{d}, list) -/
theorem joined_lit (d : Int) (v : Value) (tb : List Int) (W : World) (hl : tb.length ≤ 1048576) (hv : Rd W.heap.size W v tb) :
    Calls Try.prog 84 #[.slice (some ⟨W.heap.size + 1, 0, none⟩) 2 2] ((W.alloc (.cells #[.int .i64 d] 3)).alloc (.cells #[.slice (some ⟨W.heap.size, 0, none⟩) 1 1, v] 22)) fun e w' => ∃ zs ys, e = .returned (.slice zs (tb.length + 1) ys) ∧ Own W.heap.size w' (.slice zs (tb.length + 1) ys) (d :: tb) ∧ Below W.heap.size W w' := by
  have hA : Below W.heap.size W ((W.alloc (.cells #[.int .i64 d] 3)).alloc (.cells #[.slice (some ⟨W.heap.size, 0, none⟩) 1 1, v] 22)) := ((Below.refl _ _).alloc (Nat.le_refl _) _).alloc (by simp) _
  have RL := (own_lit W _ d ((Below.refl _ _).alloc (by simp) (.cells #[.slice (some ⟨W.heap.size, 0, none⟩) 1 1, v] 22))).rd
  refine (joined2 (W.heap.size + 1) (.slice (some ⟨W.heap.size, 0, none⟩) 1 1) v [d] tb _ (by simp) hl (by simp) (by simp [go_sem]) (by simp [go_sem]) RL ((hv.keep hA).up hA.size)).mono ?_
  rintro e w' ⟨sv, rfl, ho, hb⟩
  obtain ⟨zs, ys, ez⟩ := ho.form
  have el : ([d] ++ tb).length = tb.length + 1 := by simp
  rw [el] at ez
  subst ez
  exact ⟨_, _, rfl, ho.base hA.size, hA.trans (hb.mono hA.size)⟩

/-- a block of numbers is a list of its own -/
theorem own_blk (B g : Nat) (l : List Int) (n : Nat) (hn : l.length = n) (w : World) (hg : w.heap[g]? = some (.cells (l.map (Value.int .i64)).toArray 3 (0, 0))) (hB : B ≤ g) : Own B w (.slice (some ⟨g, 0, none⟩) n n) l := by
  subst hn
  refine ⟨some ⟨g, 0, none⟩, l.length, rfl, .inr ⟨g, 0, hB, (Array.getElem?_eq_some_iff.1 hg).1, rfl, fun i hi => ⟨?_, ?_⟩⟩⟩
  · rw [Nat.zero_add]
    have := cell_blk (j := i) hg
    rw [this]
    simp [List.getD, hi]
  · exact frozen_blk hg

/-- zeros with a list in the midst of them -/
theorem splice_zeros (cp off : Nat) (D : List Int) (h : off + D.length ≤ cp) : splice ((List.replicate cp (0 : Int)).map (Value.int .i64)) off (D.map (Value.int .i64)) = (List.replicate off 0 ++ D ++ List.replicate (cp - off - D.length) 0).map (Value.int .i64) := by
  unfold splice
  rw [List.map_append, List.map_append, List.length_map, ← List.map_take, ← List.map_drop, List.take_replicate, List.drop_replicate, List.append_assoc, Nat.min_eq_left (by omega), show cp - (off + D.length) = cp - off - D.length by omega]

/-- where a read list lies -/
theorem rd_src {B : Nat} {w : World} {q : Option Addr} {m c : Nat} {D : List Int} (h : Rd B w (.slice q m c) D) : m = D.length ∧ (0 < D.length → ∃ ad : Addr, q = some ad ∧ ad.block < B ∧ ∀ j v, (D.map (Value.int .i64))[j]? = some v → w.cell? (ad.add j) = some v) := by
  obtain ⟨ao, cap, e, h⟩ := h
  simp only [Value.slice.injEq] at e
  obtain ⟨rfl, rfl, rfl⟩ := e
  refine ⟨rfl, fun hp => ?_⟩
  rcases h with h | ⟨b, off, h1, h2, h3⟩
  · omega
  · refine ⟨⟨b, off, none⟩, h2, h1, fun j v hj => ?_⟩
    rw [List.getElem?_map] at hj
    cases hd : D[j]? with
    | none => rw [hd] at hj; cases hj
    | some x =>
      rw [hd] at hj
      simp only [Option.map_some, Option.some.injEq] at hj
      subst hj
      have hl := (List.getElem?_eq_some_iff.1 hd).1
      rw [Addr.add_lit, h3 j hl]
      simp [List.getD, hd]

set_option maxRecDepth 100000 in
set_option maxHeartbeats 8000000 in
/-- impl.take by a scalar -/
theorem take_core (b0 b1 b2 b3 : Nat) (sa da sb db tb : List Int) (x : Int) (n : Nat) (w : World)
    (h0 : Rd w.heap.size w (.slice (some ⟨b0, 0, none⟩) sa.length sa.length) sa) (h1 : Rd w.heap.size w (.slice (some ⟨b1, 0, none⟩) da.length da.length) da) (h2 : Rd w.heap.size w (.slice (some ⟨b2, 0, none⟩) sb.length sb.length) sb) (h3 : Rd w.heap.size w (.slice (some ⟨b3, 0, none⟩) db.length db.length) db)
    (hsa : sa.length = 0) (hda : da = [x]) (hax : Pl.axesS sb db = (n : Int) :: tb) (x0 : -3000000000 ≤ x) (x1 : x ≤ 3000000000) (hn1 : n ≤ 1000) (htb : tb.length ≤ 2) (hbb : Pl.baseB tb = true) (hle : db.length ≤ 1000)
    (TP : Nat) (hTP : Pl.prodP tb = TP) (hrows : n * TP ≤ db.length)
    (W go : Nat) (hW : max x (-x) = W) (hgo : Pl.gone x n = go) (hgn : go ≤ n) (hgW : go ≤ W) (c : Int) (SS DD : List Int) (hres : (if Pl.fitsB ((W : Int) :: tb) = true then ((0 : Int), (W : Int) :: tb, Pl.takeD x n TP W go db) else (6, [], [])) = (c, SS, DD)) (hWP : Pl.fitsB ((W : Int) :: tb) = true → W * TP ≤ 1000) :
    Calls Try.prog 122 #[.agg #[.slice (some ⟨b0, 0, none⟩) sa.length sa.length, .slice (some ⟨b1, 0, none⟩) da.length da.length], .agg #[.slice (some ⟨b2, 0, none⟩) sb.length sb.length, .slice (some ⟨b3, 0, none⟩) db.length db.length]] w (KPost w c SS DD) := by
  have HR := hideP hres
  have HWP := hideP hWP
  clear hres hWP
  have W0 := hideP (wid_new w h0 h1 h2 h3 27 27 27)
  have KA : Hid (∀ w', Calls Try.prog 91 #[.agg #[.slice (some ⟨b0, 0, none⟩) sa.length sa.length, .slice (some ⟨b1, 0, none⟩) da.length da.length]] w' fun e w'' => e = .returned (.bool true) ∧ Below w'.heap.size w' w'') := fun w' => by
    have := isScalar_any _ (.slice (some ⟨b1, 0, none⟩) da.length da.length) sa _ w' w h0
    rw [decide_eq_true hsa] at this
    exact this
  have KW : Hid (∀ w', Below w.heap.size w w' → Calls Try.prog 147 #[.agg #[.slice (some ⟨b2, 0, none⟩) sb.length sb.length, .slice (some ⟨b3, 0, none⟩) db.length db.length]] w' fun e w'' => ∃ g, e = .returned (.agg #[.slice (some ⟨g, 0, none⟩) (tb.length + 1) (tb.length + 1), .slice (some ⟨b3, 0, none⟩) db.length db.length]) ∧ Rd w''.heap.size w'' (.slice (some ⟨g, 0, none⟩) (tb.length + 1) (tb.length + 1)) ((n : Int) :: tb) ∧ Below w'.heap.size w' w'' ∧ (g < w.heap.size ∨ w'.heap.size ≤ g)) := fun w' h => by
    have := withAxes_sl b2 b3 sb db w' ((h2.keep h).up h.size) ((h3.keep h).up h.size)
    rw [hax] at this
    refine this.mono ?_
    rintro e w'' ⟨g, rfl, h1', h2', h3'⟩
    refine ⟨g, rfl, h1', h2', ?_⟩
    rcases h3' with ⟨rfl, hne⟩ | h3'
    · exact .inl (rd_cell h2 (i := 0) (by omega)).1
    · exact .inr h3'
  have KAB := hideP (fun w' => cellAbs_any x w' x0 x1)
  have CX : Hid (b1 < w.heap.size ∧ w.cell? ⟨b1, 0, none⟩ = some (.int .i64 x)) := by
    have := rd_cell h1 (i := 0) (by rw [hda]; simp)
    rw [hda] at this
    exact this
  have hdl : da.length = 1 := by rw [hda]; rfl
  have H3 := hideP h3
  clear h0 h1 h2 h3 hsa hda hax
  have hl0 : 0 < da.length := by omega
  clear hdl
  generalize da.length = lda at *
  generalize sa.length = lsa at *
  go_enter Try.func122, Try.ntmps122
  go_wp2_with fail
  refine (KA.out _).mono ?_
  rintro e w1 ⟨rfl, hb1⟩
  have W1 := hideP (W0.out.keep hb1)
  have F1 : Hid (∀ o, w1.frozen? ⟨w.heap.size + 1, o, none⟩ = false) := fun o => (hb1.frozen (p := ⟨w.heap.size + 1, o, none⟩) (by show w.heap.size + 1 < _; simp)).trans (by simp [go_sem])
  have hs1 := W1.out.2.1
  clear hb1 W0
  have c2 := W1.out.2.2.1.2.2.1
  have c3 := W1.out.2.2.1.2.2.2
  go_wp2_with (go_at_call 83; refine (refuse_no _ _).mono ?_; rintro e w1 ⟨rfl, rfl⟩)
  clear c2 c3
  refine (KW.out _ W1.out.1).mono ?_
  rintro e w2 ⟨g, rfl, hax2, hb2, hloc⟩
  have W2 := hideP (W1.out.keep hb2)
  have F2 : Hid (∀ o, w2.frozen? ⟨w.heap.size + 1, o, none⟩ = false) := fun o => (hb2.frozen (p := ⟨w.heap.size + 1, o, none⟩) (by show w.heap.size + 1 < _; omega)).trans (F1.out o)
  have hs2 := W2.out.2.1
  have HG := hideP hax2
  clear hb2 hax2
  have c2 := W2.out.2.2.1.2.2.1
  have c3 := W2.out.2.2.1.2.2.2
  have fb := F2.out
  have gne : ¬ g = w.heap.size + 1 := by omega
  have RG3 : Hid (Rd ((w2.setCell ⟨w.heap.size + 1, 0, none⟩ (.slice (some ⟨g, 0, none⟩) (tb.length + 1) (tb.length + 1))).setCell ⟨w.heap.size + 1, 1, none⟩ (.slice (some ⟨b3, 0, none⟩) db.length db.length)).heap.size ((w2.setCell ⟨w.heap.size + 1, 0, none⟩ (.slice (some ⟨g, 0, none⟩) (tb.length + 1) (tb.length + 1))).setCell ⟨w.heap.size + 1, 1, none⟩ (.slice (some ⟨b3, 0, none⟩) db.length db.length)) (.slice (some ⟨g, 0, none⟩) (tb.length + 1) (tb.length + 1)) ((n : Int) :: tb)) := by
    have := (HG.out.aside gne 0 (.slice (some ⟨g, 0, none⟩) (tb.length + 1) (tb.length + 1))).aside gne 1 (.slice (some ⟨b3, 0, none⟩) db.length db.length)
    show Rd _ _ _ _
    simpa using this
  have B03 : Hid (Below w.heap.size w ((w2.setCell ⟨w.heap.size + 1, 0, none⟩ (.slice (some ⟨g, 0, none⟩) (tb.length + 1) (tb.length + 1))).setCell ⟨w.heap.size + 1, 1, none⟩ (.slice (some ⟨b3, 0, none⟩) db.length db.length))) := (W2.out.1.setCell (by simp) _).setCell (by simp) _
  have P3 : Hid (((w2.setCell ⟨w.heap.size + 1, 0, none⟩ (.slice (some ⟨g, 0, none⟩) (tb.length + 1) (tb.length + 1))).setCell ⟨w.heap.size + 1, 1, none⟩ (.slice (some ⟨b3, 0, none⟩) db.length db.length)).cell? ⟨w.heap.size, 1, none⟩ = some (.slice (some ⟨b1, 0, none⟩) lda lda) ∧ ((w2.setCell ⟨w.heap.size + 1, 0, none⟩ (.slice (some ⟨g, 0, none⟩) (tb.length + 1) (tb.length + 1))).setCell ⟨w.heap.size + 1, 1, none⟩ (.slice (some ⟨b3, 0, none⟩) db.length db.length)).cell? ⟨w.heap.size + 1, 0, none⟩ = some (.slice (some ⟨g, 0, none⟩) (tb.length + 1) (tb.length + 1)) ∧ ((w2.setCell ⟨w.heap.size + 1, 0, none⟩ (.slice (some ⟨g, 0, none⟩) (tb.length + 1) (tb.length + 1))).setCell ⟨w.heap.size + 1, 1, none⟩ (.slice (some ⟨b3, 0, none⟩) db.length db.length)).cell? ⟨w.heap.size + 1, 1, none⟩ = some (.slice (some ⟨b3, 0, none⟩) db.length db.length)) := by
    have q1 := W2.out.2.2.1.2.1
    exact ⟨by simp [go_sem, q1], by simp [go_sem, c2], by simp [go_sem, c3]⟩
  have R3 : Hid (((w2.setCell ⟨w.heap.size + 1, 0, none⟩ (.slice (some ⟨g, 0, none⟩) (tb.length + 1) (tb.length + 1))).setCell ⟨w.heap.size + 1, 1, none⟩ (.slice (some ⟨b3, 0, none⟩) db.length db.length)).cell? ⟨w.heap.size + 1 + 1, 0, none⟩ = some (.slice none 0 0) ∧ ((w2.setCell ⟨w.heap.size + 1, 0, none⟩ (.slice (some ⟨g, 0, none⟩) (tb.length + 1) (tb.length + 1))).setCell ⟨w.heap.size + 1, 1, none⟩ (.slice (some ⟨b3, 0, none⟩) db.length db.length)).cell? ⟨w.heap.size + 1 + 1, 1, none⟩ = some (.slice none 0 0) ∧ ∀ o, ((w2.setCell ⟨w.heap.size + 1, 0, none⟩ (.slice (some ⟨g, 0, none⟩) (tb.length + 1) (tb.length + 1))).setCell ⟨w.heap.size + 1, 1, none⟩ (.slice (some ⟨b3, 0, none⟩) db.length db.length)).frozen? ⟨w.heap.size + 1 + 1, o, none⟩ = false) := by
    obtain ⟨q1, q2, q3⟩ := W2.out.2.2.2.1
    exact ⟨by simp [go_sem, q1], by simp [go_sem, q2], fun o => by simp [go_sem, q3]⟩
  have hs3 : w.heap.size + 1 + 1 < ((w2.setCell ⟨w.heap.size + 1, 0, none⟩ (.slice (some ⟨g, 0, none⟩) (tb.length + 1) (tb.length + 1))).setCell ⟨w.heap.size + 1, 1, none⟩ (.slice (some ⟨b3, 0, none⟩) db.length db.length)).heap.size := by simp; omega
  go_upto_region 3 with fail
  clear c2 c3 fb F1 F2 W1 W2 HG KA KW hs1 hs2 hloc gne
  generalize ((w2.setCell ⟨w.heap.size + 1, 0, none⟩ (.slice (some ⟨g, 0, none⟩) (tb.length + 1) (tb.length + 1))).setCell ⟨w.heap.size + 1, 1, none⟩ (.slice (some ⟨b3, 0, none⟩) db.length db.length)) = w3 at *
  have CX3 : Hid (∀ w', Below w3.heap.size w3 w' → w'.cell? ⟨w.heap.size, 1, none⟩ = some (.slice (some ⟨b1, 0, none⟩) lda lda) ∧ w'.cell? ⟨b1, 0, none⟩ = some (.int .i64 x) ∧ w'.cell? ⟨w.heap.size + 1, 0, none⟩ = some (.slice (some ⟨g, 0, none⟩) (tb.length + 1) (tb.length + 1)) ∧ w'.cell? ⟨g, 0, none⟩ = some (.int .i64 (n : Int))) := fun w' hb => by
    have k0 := B03.out.size
    have kx : b1 < w.heap.size := CX.out.1
    obtain ⟨kg, cg⟩ := rd_head RG3.out
    exact ⟨(hb.cell (p := ⟨w.heap.size, 1, none⟩) (by show w.heap.size < _; omega)).trans P3.out.1, (hb.cell (p := ⟨b1, 0, none⟩) (by show b1 < _; omega)).trans ((B03.out.cell (p := ⟨b1, 0, none⟩) kx).trans CX.out.2), (hb.cell (p := ⟨w.heap.size + 1, 0, none⟩) (by show w.heap.size + 1 < _; omega)).trans P3.out.2.1, (hb.cell (p := ⟨g, 0, none⟩) kg).trans cg⟩
  have KAB' : Hid (∀ w', Calls Try.prog 87 #[.int .i64 x] w' fun e w'' => e = .returned (.int .i64 (W : Int)) ∧ w'' = w') := fun w' => by
    have := cellAbs_same x w' x0 x1
    rw [hW] at this
    exact this
  clear KAB
  have CQ1 : ∀ k, (w3.drewN k).cell? ⟨w.heap.size, 1, none⟩ = some (.slice (some ⟨b1, 0, none⟩) lda lda) := fun k => (CX3.out _ (below_drewN (Below.refl _ _) k)).1
  have CQ2 : ∀ k, (w3.drewN k).cell? ⟨b1, 0, none⟩ = some (.int .i64 x) := fun k => (CX3.out _ (below_drewN (Below.refl _ _) k)).2.1
  have CQ3 : ∀ k, (w3.drewN k).cell? ⟨w.heap.size + 1, 0, none⟩ = some (.slice (some ⟨g, 0, none⟩) (tb.length + 1) (tb.length + 1)) := fun k => (CX3.out _ (below_drewN (Below.refl _ _) k)).2.2.1
  have CQ4 : ∀ k, (w3.drewN k).cell? ⟨g, 0, none⟩ = some (.int .i64 (n : Int)) := fun k => (CX3.out _ (below_drewN (Below.refl _ _) k)).2.2.2
  have hl0' : (0 : Int) < (lda : Int) := by omega
  go_quiet ((go_at_call 87; exact Calls.quiet_of_same (KAB'.out _)))
  have B4 := hideP (fun k => below_drewN (Below.refl w3.heap.size w3) k)
  replace B4 := hideP (B4.out nq)
  generalize w3.drewN nq = w4 at *
  clear CQ1 CQ2 CQ3 CQ4
  obtain ⟨o2, ho2⟩ : ∃ o2 : Nat, o2 = if tb.length = 0 then 0 else 1 := ⟨_, rfl⟩
  have HO2 := hideP ho2
  have PX : Hid (∀ W', Below w4.heap.size w4 W' → (W'.cell? ⟨w.heap.size + 1, 0, none⟩ = some (.slice (some ⟨g, 0, none⟩) (tb.length + 1) (tb.length + 1)) ∧ W'.cell? ⟨w.heap.size + 1, 1, none⟩ = some (.slice (some ⟨b3, 0, none⟩) db.length db.length)) ∧ (W'.cell? ⟨w.heap.size + 1 + 1, 0, none⟩ = some (.slice none 0 0) ∧ W'.cell? ⟨w.heap.size + 1 + 1, 1, none⟩ = some (.slice none 0 0) ∧ ∀ o, W'.frozen? ⟨w.heap.size + 1 + 1, o, none⟩ = false) ∧ w.heap.size + 1 + 1 < W'.heap.size ∧ (W'.cell? ⟨w.heap.size, 1, none⟩ = some (.slice (some ⟨b1, 0, none⟩) lda lda) ∧ W'.cell? ⟨b1, 0, none⟩ = some (.int .i64 x)) ∧ Below w3.heap.size w3 W' ∧ Below w.heap.size w W') := fun W' hb => by
    have k : Below w3.heap.size w3 W' := B4.out.trans (hb.mono B4.out.size)
    have ks := k.size
    have kx : b1 < w.heap.size := CX.out.1
    exact ⟨⟨(k.cell (p := ⟨w.heap.size + 1, 0, none⟩) (by show w.heap.size + 1 < _; omega)).trans P3.out.2.1, (k.cell (p := ⟨w.heap.size + 1, 1, none⟩) (by show w.heap.size + 1 < _; omega)).trans P3.out.2.2⟩,
      ⟨(k.cell (p := ⟨w.heap.size + 1 + 1, 0, none⟩) (by show w.heap.size + 1 + 1 < _; omega)).trans R3.out.1, (k.cell (p := ⟨w.heap.size + 1 + 1, 1, none⟩) (by show w.heap.size + 1 + 1 < _; omega)).trans R3.out.2.1, fun o => (k.frozen (p := ⟨w.heap.size + 1 + 1, o, none⟩) (by show w.heap.size + 1 + 1 < _; omega)).trans (R3.out.2.2 o)⟩, by omega,
      ⟨(CX3.out W' k).1, (CX3.out W' k).2.1⟩, k, B03.out.trans (k.mono (by omega))⟩
  have RT : Hid (∀ W', Below w4.heap.size w4 W' → Rd W'.heap.size W' (.slice (some ⟨g, o2, none⟩) tb.length tb.length) tb) := fun W' hb => by
    have k := (PX.out W' hb).2.2.2.2.1
    exact rd_one ho2 ((RG3.out.keep k).up k.size)
  have KT : Hid (∀ w' v, Rd w'.heap.size w' v tb → Calls Try.prog 37 #[v] w' fun e w'' => e = .returned (.int .i64 (TP : Int)) ∧ w'' = w') := fun w' v h => by
    have := cellCount_any _ v tb w' hbb h
    rw [hTP] at this
    exact this
  have KJ : Hid (∀ (W' : World) v, Rd W'.heap.size W' v tb → Calls Try.prog 84 #[.slice (some ⟨W'.heap.size + 1, 0, none⟩) 2 2] ((W'.alloc (.cells #[.int .i64 (W : Int)] 3)).alloc (.cells #[.slice (some ⟨W'.heap.size, 0, none⟩) 1 1, v] 22)) fun e w' => ∃ zs ys, e = .returned (.slice zs (tb.length + 1) ys) ∧ Own W'.heap.size w' (.slice zs (tb.length + 1) ys) ((W : Int) :: tb) ∧ Below W'.heap.size W' w') := fun W' v hv => joined_lit (W : Int) v tb W' (by omega) hv
  have KFIT : Hid (∀ w' v, Rd w'.heap.size w' v ((W : Int) :: tb) → Calls Try.prog 131 #[v] w' fun e w'' => (Pl.fitsB ((W : Int) :: tb) = true → e = .returned (.tuple #[])) ∧ (Pl.fitsB ((W : Int) :: tb) = false → e = .panicked [thrown 6]) ∧ w'' = w') := fun w' v h => (needFit_any _ _ _ w' (by simp; omega) h).mono (by
      rintro e w'' ⟨rfl, ⟨h, rfl⟩ | ⟨h, rfl⟩⟩
      · exact ⟨fun _ => rfl, fun h' => by rw [h] at h'; (try cases h'); (try (simp at h)), rfl⟩
      · exact ⟨fun h' => by rw [h] at h'; (try cases h'); (try (simp at h)), fun _ => rfl, rfl⟩)
  clear ho2 P3 R3 B03 RG3 hbb hTP CX3 KAB' CX
  generalize hlbt : tb.length = lb at *
  have HLT : Hid (tb.length = lb) := hlbt
  clear hlbt
  have cb : ∀ o, (w4.alloc o).cell? ⟨w.heap.size + 1, 0, none⟩ = some (.slice (some ⟨g, 0, none⟩) (lb + 1) (lb + 1)) := fun o => (PX.out (w4.alloc o) ((Below.refl _ _).alloc (Nat.le_refl _) _)).1.1
  go_upto_region 4 with fail
  go_cut [7] (fun s7 wy => ∃ zs ys, s7 = .slice zs (lb + 1) ys ∧ Own w4.heap.size wy (.slice zs (lb + 1) ys) ((W : Int) :: tb) ∧ Below w4.heap.size w4 wy)
  case first =>
    by_cases ht : lb = 0
    · have RZ : Hid (Rd w4.heap.size w4 (.slice (some ⟨g, 0, none⟩) 0 0) tb) := rd_zero _ _ _ _ _ (HLT.out.trans ht)
      clear HLT HO2 PX RT
      subst ht
      go_wp2_with fail
      refine (KJ.out _ _ RZ.out).mono ?_
      rintro e w5 ⟨zs, ys, rfl, ho5, hb5⟩
      have O5 := hideP ho5
      have B5 := hideP hb5
      clear ho5 hb5
      go_wp2_with fail
      go_meet
      case rel => exact ⟨_, _, rfl, O5.out, B5.out⟩
    · have RZ : Hid (Rd w4.heap.size w4 (.slice (some ⟨g, 1, none⟩) lb lb) tb) := by
        have := RT.out w4 (Below.refl _ _)
        rw [HO2.out, if_neg ht] at this
        exact this
      clear PX RT
      go_wp2_with fail
      refine (KJ.out _ _ RZ.out).mono ?_
      rintro e w5 ⟨zs, ys, rfl, ho5, hb5⟩
      have O5 := hideP ho5
      have B5 := hideP hb5
      clear ho5 hb5
      go_wp2_with fail
      go_meet
      case rel => exact ⟨_, _, rfl, O5.out, B5.out⟩
  case rest =>
    obtain ⟨zs, ys, rfl, ho5, hb5⟩ := hcut
    rename World => w5
    have O5 := hideP ho5
    have B5 := hideP hb5
    have RD5 := hideP ho5.rd
    clear ho5 hb5 cb KJ
    by_cases hf : Pl.fitsB ((W : Int) :: tb) = true
    · have KF : Hid (∀ w' v, Rd w'.heap.size w' v ((W : Int) :: tb) → Calls Try.prog 131 #[v] w' fun e w'' => e = .returned (.tuple #[]) ∧ w'' = w') := fun w' v h => (KFIT.out w' v h).mono (fun e w'' hh => ⟨hh.1 hf, hh.2.2⟩)
      have e := HR.out
      rw [if_pos hf] at e
      simp only [Prod.mk.injEq] at e
      obtain ⟨rfl, rfl, rfl⟩ := e
      have hcp := HWP.out hf
      obtain ⟨i0, hi, hz0, hz1, hz2⟩ := info_parts Try.info3
      have HI := hideP (And.intro hi (And.intro hz0 (And.intro hz1 hz2)))
      have HSZ : Hid ((Try.prog.info? 3).map (·.size) = some 1) := by show _ = _; rw [hi]; simp [hz1]
      have emin : (if (n : Int) < (W : Int) then (n : Int) else (W : Int)) = (go : Int) := by
        rw [← hgo]
        unfold Pl.gone
        rw [hW]
        split <;> omega
      have eminN : (if n < W then (n : Int) else (W : Int)) = (go : Int) := by
        rw [← emin]
        by_cases h : n < W
        · rw [if_pos h, if_pos (by omega)]
        · rw [if_neg h, if_neg (by omega)]
      have RT5 := hideP (RT.out w5 B5.out)
      have cb := (PX.out w5 B5.out).1.1
      have PX5 : Hid (∀ W', Below w5.heap.size w5 W' → Below w4.heap.size w4 W') := fun W' hb => B5.out.trans (hb.mono B5.out.size)
      obtain ⟨cp, hcpe⟩ : ∃ cp : Nat, W * TP = cp := ⟨_, rfl⟩
      have ecp : ((W : Int) * (TP : Int)) = (cp : Int) := by rw [← hcpe]; simp
      have HCP := hideP hcpe
      rw [hcpe] at hcp
      have hs45 := B5.out.size
      have hs4 := (PX.out w4 (Below.refl _ _)).2.2.1
      clear hi hz0 hz1 hz2 KFIT hf HR HWP RT hcpe
      go_wp2_with (first
        | (go_at_call 131; refine (KF.out _ _ RD5.out).mono ?_; rintro e w5 ⟨rfl, rfl⟩)
        | (go_at_call 37; refine (KT.out _ _ RT5.out).mono ?_; rintro e w5 ⟨rfl, rfl⟩)
        | (at_make; refine wpList_make_full _ rfl _ _ 22 rfl w5.heap.size 3 i0 (.int .i64 0) 1 Try.underlying22 HI.out.1 HI.out.2.1 HI.out.2.2.1 _ _ _ _ cp rfl rfl rfl rfl ?b2 ?b3 ?b4 ?_)
        | (refine wpList_lo1 _ rfl (.tmp 36) (.const (.int .i64 1)) g lb o2 HO2.out rfl rfl rfl ?_))
      case b2 => rw [HI.out.2.2.2]; omega
      case b3 => unfold maxLen; omega
      case b4 => exact Nat.le_refl _
      intro w6 hown hgrow
      rw [made_zeros] at hown
      have B6 : Hid (Below w5.heap.size w5 w6) := (Below.refl _ _).grown hgrow (Nat.le_refl _) (by intro k h; cases h)
      have G6 : Hid (w6.heap[w5.heap.size]? = some (.cells ((List.replicate cp (0 : Int)).map (Value.int .i64)).toArray 3 (0, 0))) := row_whole hown
      have hs6 : w5.heap.size < w6.heap.size := by
        have := G6.out
        exact (Array.getElem?_eq_some_iff.1 this).1
      clear hown hgrow cb KT KF RT5 emin eminN
      have PZ : Hid (∀ W', Below w5.heap.size w6 W' → Below w5.heap.size w5 W' ∧ (W'.cell? ⟨w.heap.size, 1, none⟩ = some (.slice (some ⟨b1, 0, none⟩) lda lda) ∧ W'.cell? ⟨b1, 0, none⟩ = some (.int .i64 x)) ∧ W'.cell? ⟨w.heap.size + 1, 1, none⟩ = some (.slice (some ⟨b3, 0, none⟩) db.length db.length) ∧ (W'.cell? ⟨w.heap.size + 1 + 1, 0, none⟩ = some (.slice none 0 0) ∧ W'.cell? ⟨w.heap.size + 1 + 1, 1, none⟩ = some (.slice none 0 0) ∧ ∀ o, W'.frozen? ⟨w.heap.size + 1 + 1, o, none⟩ = false) ∧ Below w.heap.size w W') := fun W' hb => by
        have k := B6.out.trans hb
        have z := PX.out W' (PX5.out W' k)
        exact ⟨k, z.2.2.2.1, z.1.2, z.2.1, z.2.2.2.2.2⟩
      have FIN : Hid (∀ W', Below w5.heap.size w5 W' → W'.heap[w5.heap.size]? = some (.cells ((Pl.takeD x n TP W go db).map (Value.int .i64)).toArray 3 (0, 0)) → (Pl.takeD x n TP W go db).length = cp → Own w4.heap.size W' (.slice zs (lb + 1) ys) ((W : Int) :: tb) ∧ Own w5.heap.size W' (.slice (some ⟨w5.heap.size, 0, none⟩) cp cp) (Pl.takeD x n TP W go db) ∧ Apart (.slice zs (lb + 1) ys) (.slice (some ⟨w5.heap.size, 0, none⟩) cp cp) ((W : Int) :: tb) (Pl.takeD x n TP W go db)) := fun W' hb hg hl => by
        have o1 := O5.out.keep hb
        have o2 := own_blk w5.heap.size w5.heap.size _ cp hl W' hg (Nat.le_refl _)
        exact ⟨o1, o2, apart_right (B := w5.heap.size) o2 O5.out.lt⟩
      by_cases hx : x < 0
      · obtain ⟨d1, hd1⟩ : ∃ d1 : Nat, (W : Int) - (go : Int) = d1 := ⟨W - go, by omega⟩
        obtain ⟨d2, hd2⟩ : ∃ d2 : Nat, (n : Int) - (go : Int) = d2 := ⟨n - go, by omega⟩
        have ED : Hid (Pl.takeD x n TP W go db = List.replicate (d1 * TP) 0 ++ (db.drop (d2 * TP)).take (n * TP - d2 * TP)) := by
          show _ = _
          unfold Pl.takeD
          rw [if_pos hx, show W - go = d1 by omega, show n - go = d2 by omega]
        have KR1 : Hid (∀ w', Calls Try.prog 133 #[.slice (some ⟨w5.heap.size, 0, none⟩) cp cp, .int .i64 (TP : Int), .int .i64 (d1 : Int), .int .i64 (W : Int)] w' fun e w'' => ∃ o c, e = .returned (.slice (some ⟨w5.heap.size, o, none⟩) (W * TP - d1 * TP) c) ∧ (0 < W * TP - d1 * TP → o = 0 + d1 * TP) ∧ w'' = w') := fun w' => rows_at w5.heap.size 0 cp TP d1 W cp w' (by omega) (by rw [HCP.out]; exact Nat.le_refl _) (Nat.le_refl _) (by omega)
        have KR2 : Hid (∀ w', Below w.heap.size w w' → Calls Try.prog 133 #[.slice (some ⟨b3, 0, none⟩) db.length db.length, .int .i64 (TP : Int), .int .i64 (d2 : Int), .int .i64 (n : Int)] w' fun e w'' => ∃ v, e = .returned v ∧ Rd w.heap.size w' v ((db.drop (d2 * TP)).take (n * TP - d2 * TP)) ∧ w'' = w') := fun w' hb => rows_any w.heap.size b3 0 db.length TP d2 n db w' (H3.out.keep hb) (by omega) hrows (Nat.le_refl _) (by omega)
        have LN : Hid (((db.drop (d2 * TP)).take (n * TP - d2 * TP)).length = W * TP - d1 * TP ∧ d1 * TP ≤ W * TP) := by
          have e1 : d1 * TP + go * TP = W * TP := by rw [← Nat.add_mul]; congr 1; omega
          have e2 : d2 * TP + go * TP = n * TP := by rw [← Nat.add_mul]; congr 1; omega
          refine ⟨?_, by omega⟩
          rw [List.length_take, List.length_drop]
          omega
        rw [HCP.out] at KR1 LN
        generalize (db.drop (d2 * TP)).take (n * TP - d2 * TP) = LD at *
        generalize d1 * TP = q1 at *
        have ca := (PZ.out w6 (Below.refl _ _)).2.1.1
        have cx := (PZ.out w6 (Below.refl _ _)).2.1.2
        go_upto_region 10 with fail
        clear ca cx
        have SW := hideP (show Below w5.heap.size w6 w6.drew from (Below.refl _ _).drew)
        have GD : Hid (w6.drew.heap[w5.heap.size]? = some (.cells ((List.replicate cp (0 : Int)).map (Value.int .i64)).toArray 3 (0, 0))) := G6.out
        refine wp_region_held (S := fun w' => Below w5.heap.size w6 w') (by kernel_rfl) ?_
        change wpAnyH _ _ _ _ _ _ _ _ (World.drew _)
        generalize World.drew w6 = wd at SW GD ⊢
        refine wpAnyH_take (i := 0) (v := .slice (some ⟨w5.heap.size, 0, none⟩) cp cp) rfl (by kernel_rfl) (by kernel_rfl) (by kernel_rfl) (fun _ _ _ h => h) (Or.inl ⟨by rfl, ?_⟩) SW.out ?_
        · intro w' hS
          clear hS
          go_simp
        refine wpAnyH_take (i := 1) (v := .int .i64 (TP : Int)) rfl (by kernel_rfl) (by kernel_rfl) (by kernel_rfl) (fun _ _ _ h => h) (Or.inl ⟨by rfl, ?_⟩) SW.out ?_
        · intro w' hS
          clear hS
          go_simp
        refine wpAnyH_take (i := 2) (v := .int .i64 (W : Int)) rfl (by kernel_rfl) (by kernel_rfl) (by kernel_rfl) (fun _ _ _ h => h) (Or.inl ⟨by rfl, ?_⟩) SW.out ?_
        · intro w' hS
          clear hS
          go_simp
        refine wpAnyH_take (i := 3) (v := .int .i64 (go : Int)) rfl (by kernel_rfl) (by kernel_rfl) (by kernel_rfl) (fun _ _ _ h => h) (Or.inl ⟨by rfl, ?_⟩) SW.out ?_
        · intro w' hS
          clear hS
          go_simp
        refine wpAnyH_take (i := 4) (v := .int .i64 (d1 : Int)) rfl (by kernel_rfl) (by kernel_rfl) (by kernel_rfl) (fun _ _ _ h => h) (Or.inl ⟨by rfl, ?_⟩) SW.out ?_
        · intro w' hS
          clear hS
          go_simp
          rw [IntKind.wrap_i64]
          omega
        refine wpAnyH_take (i := 5) (v := .int .i64 (W : Int)) rfl (by kernel_rfl) (by kernel_rfl) (by kernel_rfl) (fun _ _ _ h => h) (Or.inl ⟨by rfl, ?_⟩) SW.out ?_
        · intro w' hS
          clear hS
          go_simp
        refine wpAnyH_take (i := 7) (v := .pointer (some ⟨w.heap.size + 1, 1, none⟩)) rfl (by kernel_rfl) (by kernel_rfl) (by kernel_rfl) (fun _ _ _ h => h) (Or.inl ⟨by rfl, ?_⟩) SW.out ?_
        · intro w' hS
          clear hS
          go_simp
        refine wpAnyH_take (i := 8) (v := .slice (some ⟨b3, 0, none⟩) db.length db.length) rfl (by kernel_rfl) (by kernel_rfl) (by kernel_rfl) (fun _ _ _ h => h) (Or.inl ⟨by rfl, ?_⟩) SW.out ?_
        · intro w' hS
          have := (PZ.out w' hS).2.2.1
          clear hS
          go_simp
        refine wpAnyH_take (i := 9) (v := .int .i64 (TP : Int)) rfl (by kernel_rfl) (by kernel_rfl) (by kernel_rfl) (fun _ _ _ h => h) (Or.inl ⟨by rfl, ?_⟩) SW.out ?_
        · intro w' hS
          clear hS
          go_simp
        refine wpAnyH_take (i := 10) (v := .int .i64 (n : Int)) rfl (by kernel_rfl) (by kernel_rfl) (by kernel_rfl) (fun _ _ _ h => h) (Or.inl ⟨by rfl, ?_⟩) SW.out ?_
        · intro w' hS
          clear hS
          go_simp
        refine wpAnyH_take (i := 11) (v := .int .i64 (go : Int)) rfl (by kernel_rfl) (by kernel_rfl) (by kernel_rfl) (fun _ _ _ h => h) (Or.inl ⟨by rfl, ?_⟩) SW.out ?_
        · intro w' hS
          clear hS
          go_simp
        refine wpAnyH_take (i := 12) (v := .int .i64 (d2 : Int)) rfl (by kernel_rfl) (by kernel_rfl) (by kernel_rfl) (fun _ _ _ h => h) (Or.inl ⟨by rfl, ?_⟩) SW.out ?_
        · intro w' hS
          clear hS
          go_simp
          rw [IntKind.wrap_i64]
          omega
        refine wpAnyH_take (i := 13) (v := .int .i64 (n : Int)) rfl (by kernel_rfl) (by kernel_rfl) (by kernel_rfl) (fun _ _ _ h => h) (Or.inl ⟨by rfl, ?_⟩) SW.out ?_
        · intro w' hS
          clear hS
          go_simp
        refine wpAnyH_ready (rs := [6]) (by kernel_rfl) (by simp) ?_
        refine AllReadyH.cons rfl (fun K hK => ?_) AllReadyH.nil
        go_simp
        refine (KR1.out wd).mono ?_
        rintro e wd ⟨oo, oc, rfl, hoo, rfl⟩
        refine hK.out _ _ SW.out (fun _ => ?_)
        clear hK
        refine wpAnyH_ready (rs := [14]) (by kernel_rfl) (by simp) ?_
        refine AllReadyH.cons rfl (fun K hK => ?_) AllReadyH.nil
        go_simp
        refine (KR2.out _ (PZ.out _ SW.out).2.2.2.2).mono ?_
        rintro e wd ⟨v, rfl, hrd, rfl⟩
        obtain ⟨sp, sc, ev⟩ := hrd.form
        subst ev
        obtain ⟨_, hsrc⟩ := rd_src hrd
        clear hrd
        refine hK.out _ _ SW.out (fun _ => ?_)
        clear hK
        have F1 : Hid ((LD.map (Value.int .i64)).length = Nat.min LD.length (cp - q1)) := by
          show _ = _
          rw [List.length_map]
          show _ = min _ _
          have := LN.out
          omega
        have F2 : Hid (0 < (LD.map (Value.int .i64)).length → (some ⟨w5.heap.size, oo, none⟩ : Option Addr) = some ⟨w5.heap.size, q1, none⟩ ∧ ∃ ad : Addr, sp = some ad ∧ ∀ j v, (LD.map (Value.int .i64))[j]? = some v → wd.cell? (ad.add j) = some v) := fun h => by
          rw [List.length_map] at h
          obtain ⟨ad, h1, _, h2⟩ := hsrc h
          have hq := hoo (by have := LN.out; omega)
          rw [Nat.zero_add] at hq
          exact ⟨by rw [hq], ad, h1, h2⟩
        have F3 : Hid (q1 + (LD.map (Value.int .i64)).length ≤ ((List.replicate cp (0 : Int)).map (Value.int .i64)).length) := by
          show _ ≤ _
          simp only [List.length_map, List.length_replicate]
          have := LN.out
          omega
        have F4 : Hid (∀ v ∈ LD.map (Value.int .i64), v.oneCell' = true) := fun v hv => by
          obtain ⟨y, _, rfl⟩ := List.mem_map.1 hv
          rfl
        have F5 : Hid (splice ((List.replicate cp (0 : Int)).map (Value.int .i64)) q1 (LD.map (Value.int .i64)) = (Pl.takeD x n TP W go db).map (Value.int .i64)) := by
          show _ = _
          have := LN.out
          rw [splice_zeros cp q1 LD (by omega), ED.out]
          congr 1
          rw [show cp - q1 - LD.length = 0 by omega, List.replicate_zero, List.append_nil]
        have F6 : Hid ((Pl.takeD x n TP W go db).length = cp) := by
          show _ = _
          rw [ED.out, List.length_append, List.length_replicate]
          have := LN.out
          omega
        generalize hcs : LD.map (Value.int .i64) = cs at *
        have HCS := hideP hcs
        clear hcs
        refine wpAnyH_ready (rs := [15]) (by kernel_rfl) (by simp) ?_
        refine AllReadyH.cons rfl (fun K hK => ?_) AllReadyH.nil
        refine step_copy_splice rfl (.tmp 57) (.tmp 65) 22 22 rfl 3 Try.underlying22 HSZ.out (some ⟨w5.heap.size, oo, none⟩) sp (cp - q1) oc LD.length sc rfl rfl w5.heap.size q1 ((List.replicate cp (0 : Int)).map (Value.int .i64)) 3 GD.out cs F1.out F2.out F3.out F4.out w5.heap.size w6 SW.out (Nat.le_refl _) ?_
        intro w9 HG9 hB9
        refine hK.out _ _ hB9 (fun _ => ?_)
        clear hK
        refine wpAnyH_done (by kernel_rfl) ?_ _
        have G9 : Hid (w9.heap[w5.heap.size]? = some (.cells ((Pl.takeD x n TP W go db).map (Value.int .i64)).toArray 3 (0, 0))) := by
          have := HG9.out
          rw [F5.out] at this
          exact this
        have Z9 := hideP (PZ.out w9 hB9)
        have FF := hideP (FIN.out w9 Z9.out.1 G9.out F6.out)
        have hs9 := Z9.out.1.size
        clear hB9 HG9 G9
        obtain ⟨r0, r1, f2⟩ := Z9.out.2.2.2.1
        go_wp2_with fail
        refine bodyPost_ret (v := .agg #[.slice zs (lb + 1) ys, .slice (some ⟨w5.heap.size, 0, none⟩) cp cp]) (by simp [results, Try.results122, go_sem, r0, r1]) rfl ⟨(Z9.out.2.2.2.2.setCell (by simp; omega) _).setCell (by simp; omega) _, .inl ⟨rfl, _, _, rfl, ?_, ?_, FF.out.2.2⟩⟩
        · exact Own.base (B := w4.heap.size) (Own.store (Own.store FF.out.1 (by omega) _) (by omega) _) (by omega)
        · exact Own.base (B := w5.heap.size) (Own.store (Own.store FF.out.2.1 (by omega) _) (by omega) _) (by omega)
      · have hx' : decide (x < 0) = false := by rw [decide_eq_false_iff_not]; exact hx
        have ED : Hid (Pl.takeD x n TP W go db = db.take (go * TP) ++ List.replicate ((W - go) * TP) 0) := by
          show _ = _
          unfold Pl.takeD
          rw [if_neg hx]
        have KR2 : Hid (∀ w', Below w.heap.size w w' → Calls Try.prog 133 #[.slice (some ⟨b3, 0, none⟩) db.length db.length, .int .i64 (TP : Int), .int .i64 0, .int .i64 (go : Int)] w' fun e w'' => ∃ v, e = .returned v ∧ Rd w.heap.size w' v (db.take (go * TP)) ∧ w'' = w') := fun w' hb => by
          have := rows_any w.heap.size b3 0 db.length TP 0 go db w' (H3.out.keep hb) (by omega) (Nat.le_trans (Nat.mul_le_mul_right TP hgn) hrows) (Nat.le_refl _) (by omega)
          rw [Nat.zero_mul, List.drop_zero, Nat.sub_zero] at this
          exact this
        have LN : Hid ((db.take (go * TP)).length = go * TP ∧ go * TP ≤ cp ∧ (W - go) * TP = cp - go * TP) := by
          have h1 := Nat.le_trans (Nat.mul_le_mul_right TP hgn) hrows
          have h2 : go * TP ≤ W * TP := Nat.mul_le_mul_right TP hgW
          have h3 := HCP.out
          refine ⟨by rw [List.length_take]; omega, by omega, ?_⟩
          rw [Nat.sub_mul]
          omega
        generalize db.take (go * TP) = LD at *
        generalize (W - go) * TP = q2 at *
        generalize go * TP = q1 at *
        have ca := (PZ.out w6 (Below.refl _ _)).2.1.1
        have cx := (PZ.out w6 (Below.refl _ _)).2.1.2
        have cd := (PZ.out w6 (Below.refl _ _)).2.2.1
        have BW6 := hideP (PZ.out w6 (Below.refl _ _)).2.2.2.2
        clear hx
        go_upto_region 11 with fail
        clear ca cx
        go_wp2_with fail
        refine (KR2.out _ BW6.out).mono ?_
        rintro e w6 ⟨v, rfl, hrd, rfl⟩
        obtain ⟨sp, sc, ev⟩ := hrd.form
        subst ev
        obtain ⟨_, hsrc⟩ := rd_src hrd
        have F1 : Hid ((LD.map (Value.int .i64)).length = Nat.min LD.length cp) := by
          show _ = _
          rw [List.length_map]
          show _ = min _ _
          have := LN.out
          omega
        have F2 : Hid (0 < (LD.map (Value.int .i64)).length → ∃ ad : Addr, sp = some ad ∧ ∀ j v, (LD.map (Value.int .i64))[j]? = some v → w6.cell? (ad.add j) = some v) := fun h => by
          rw [List.length_map] at h
          obtain ⟨ad, h1, _, h2⟩ := hsrc h
          exact ⟨ad, h1, h2⟩
        have F3 : Hid (0 + (LD.map (Value.int .i64)).length ≤ ((List.replicate cp (0 : Int)).map (Value.int .i64)).length) := by
          show _ ≤ _
          simp only [List.length_map, List.length_replicate]
          have := LN.out
          omega
        have F4 : Hid (∀ v ∈ LD.map (Value.int .i64), v.oneCell' = true) := fun v hv => by
          obtain ⟨y, _, rfl⟩ := List.mem_map.1 hv
          rfl
        have F5 : Hid (splice ((List.replicate cp (0 : Int)).map (Value.int .i64)) 0 (LD.map (Value.int .i64)) = (Pl.takeD x n TP W go db).map (Value.int .i64)) := by
          show _ = _
          have := LN.out
          rw [splice_zeros cp 0 LD (by omega), ED.out]
          congr 1
          rw [List.replicate_zero, List.nil_append]
          congr 2
          omega
        have F6 : Hid ((Pl.takeD x n TP W go db).length = cp) := by
          show _ = _
          rw [ED.out, List.length_append, List.length_replicate]
          have := LN.out
          omega
        have BB := hideP (Below.refl w5.heap.size w6)
        clear hrd hsrc cd
        generalize hcs : LD.map (Value.int .i64) = cs at *
        have HCS := hideP hcs
        clear hcs
        generalize hcur : (List.replicate cp (0 : Int)).map (Value.int .i64) = cur at *
        clear hcur
        go_wp2_with (refine wpList_copy_splice rfl (.tmp 67) (.tmp 72) 22 22 rfl 3 Try.underlying22 HSZ.out (some ⟨w5.heap.size, 0, none⟩) sp cp cp LD.length sc rfl rfl w5.heap.size 0 cur 3 G6.out cs F1.out (fun h => ⟨rfl, F2.out h⟩) F3.out F4.out w5.heap.size w6 BB.out (Nat.le_refl _) ?_)
        intro w9 HG9 hB9
        have G9 : Hid (w9.heap[w5.heap.size]? = some (.cells ((Pl.takeD x n TP W go db).map (Value.int .i64)).toArray 3 (0, 0))) := by
          have := HG9.out
          rw [F5.out] at this
          exact this
        have Z9 := hideP (PZ.out w9 hB9)
        have FF := hideP (FIN.out w9 Z9.out.1 G9.out F6.out)
        have hs9 := Z9.out.1.size
        clear hB9 HG9 G9
        obtain ⟨r0, r1, f2⟩ := Z9.out.2.2.2.1
        go_wp2_with fail
        refine bodyPost_ret (v := .agg #[.slice zs (lb + 1) ys, .slice (some ⟨w5.heap.size, 0, none⟩) cp cp]) (by simp [results, Try.results122, go_sem, r0, r1]) rfl ⟨(Z9.out.2.2.2.2.setCell (by simp; omega) _).setCell (by simp; omega) _, .inl ⟨rfl, _, _, rfl, ?_, ?_, FF.out.2.2⟩⟩
        · exact Own.base (B := w4.heap.size) (Own.store (Own.store FF.out.1 (by omega) _) (by omega) _) (by omega)
        · exact Own.base (B := w5.heap.size) (Own.store (Own.store FF.out.2.1 (by omega) _) (by omega) _) (by omega)
    · have hf' : Pl.fitsB ((W : Int) :: tb) = false := by simpa using hf
      have e := HR.out
      rw [if_neg hf] at e
      simp only [Prod.mk.injEq] at e
      obtain ⟨rfl, rfl, rfl⟩ := e
      have KF : Hid (∀ w' v, Rd w'.heap.size w' v ((W : Int) :: tb) → Calls Try.prog 131 #[v] w' fun e w'' => e = .panicked [thrown 6] ∧ w'' = w') := fun w' v h => (KFIT.out w' v h).mono (fun e w'' hh => ⟨hh.2.1 hf', hh.2.2⟩)
      have BW := hideP (PX.out w5 B5.out).2.2.2.2.2
      clear KFIT hf hf' HR HWP PX RT
      go_wp2_with (go_at_call 131; refine (KF.out _ _ RD5.out).mono ?_; rintro e w5 ⟨rfl, rfl⟩)
      exact ⟨rfl, BW.out, .inr ⟨by decide, rfl, rfl, rfl⟩⟩

end Go.Proofs.Ytmobjomebmipdaa
