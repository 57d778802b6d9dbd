import Derived.Test.YtmobjomebmipdaaDyU
namespace Go.Proofs.Ytmobjomebmipdaa
open Go.RowKit
set_option linter.unusedVariables false

/-- joined([]int{d}, list): where it lies -/
theorem joined2_row (b : Nat) (u t : Value) (xs ys : List Int) (w : World) (hl : xs.length ≤ 1048576) (hl' : ys.length ≤ 1048576) (hb : b < w.heap.size) (c0 : w.cell? ⟨b, 0, none⟩ = some u) (c1 : w.cell? ⟨b, 1, none⟩ = some t)
    (h0 : Rd w.heap.size w u xs) (h1 : Rd w.heap.size w t ys) :
    Calls Try.prog 84 #[.slice (some ⟨b, 0, none⟩) 2 2] w fun e w' => ∃ v, e = .returned v ∧ w'.ownsRow w.heap.size 3 1 v (xs ++ ys).length ((xs ++ ys).map (Value.int .i64)) ∧ Below w.heap.size w w' := by
  have K := hideP (concat2 b u t xs ys w hl hl' hb c0 c1 h0 h1)
  clear c0 c1 h0 h1
  go_enter Try.func84, Try.ntmps84
  go_wp2_with (go_at_call 136; refine K.out.mono ?_; rintro e w' ⟨v, rfl, ho, hb'⟩)
  go_ret
  exact ⟨_, rfl, ho, hb'⟩
theorem row_at {w : World} {base n : Nat} {v : Value} {xs : List Value} (h : w.ownsRow base 3 1 v n xs) (hn : 0 < n) : ∃ g cap, v = .slice (some ⟨g, 0, none⟩) n cap ∧ n ≤ cap ∧ cap ≤ 9223372036854775807 := by
  rcases h.2 with ⟨_, h0⟩ | ⟨g, cap, cur, e, _, _, h1, h2, _⟩
  · omega
  · exact ⟨g, cap, e, h1, by unfold maxLen at h2; omega⟩
theorem joined_litR (d : Int) (v : Value) (tb : List Int) (W : World) (hl : tb.length ≤ 1048576) (hv : Rd W.heap.size W v tb) :
    Calls Try.prog 84 #[.slice (some ⟨W.heap.size + 1, 0, none⟩) 2 2] ((W.alloc (.cells #[.int .i64 d] 3)).alloc (.cells #[.slice (some ⟨W.heap.size, 0, none⟩) 1 1, v] 22)) fun e w' => ∃ g k, e = .returned (.slice (some ⟨g, 0, none⟩) (tb.length + 1) k) ∧ tb.length + 1 ≤ k ∧ k ≤ 9223372036854775807 ∧ Own W.heap.size w' (.slice (some ⟨g, 0, none⟩) (tb.length + 1) k) (d :: tb) ∧ Below W.heap.size W w' := by
  have hA : Below W.heap.size W ((W.alloc (.cells #[.int .i64 d] 3)).alloc (.cells #[.slice (some ⟨W.heap.size, 0, none⟩) 1 1, v] 22)) := ((Below.refl _ _).alloc (Nat.le_refl _) _).alloc (by simp) _
  have RL := (own_lit W _ d ((Below.refl _ _).alloc (by simp) (.cells #[.slice (some ⟨W.heap.size, 0, none⟩) 1 1, v] 22))).rd
  refine (joined2_row (W.heap.size + 1) (.slice (some ⟨W.heap.size, 0, none⟩) 1 1) v [d] tb _ (by simp) hl (by simp) (by simp [go_sem]) (by simp [go_sem]) RL ((hv.keep hA).up hA.size)).mono ?_
  rintro e w' ⟨sv, rfl, ho, hb⟩
  have el : ([d] ++ tb).length = tb.length + 1 := by simp
  rw [el] at ho
  obtain ⟨g, cap, e, h1, h2⟩ := row_at ho (by omega)
  subst e
  rw [← el] at ho
  have o := own_of_any ho
  rw [el] at o
  exact ⟨g, cap, rfl, h1, h2, o.base hA.size, hA.trans (hb.mono hA.size)⟩

/-- a slice with its first cell cut off, whatever the capacity -/
theorem exec_lok {o : Oper} {a : Act} (x y : Operand) (g m k o2 : Nat) (h : o2 = if k = 1 then 0 else 1) (ho : o.op = Op.slice 22 x (some y) none none) (hx : a.eval x = .slice (some ⟨g, 0, none⟩) (m + 1) k) (hy : a.eval y = .int .i64 1) (w : World) :
    (execOp a.eval o).run Try.prog w = .ok (.value (.slice (some ⟨g, o2, none⟩) m (k - 1))) w := by
  have e : (Instr.sliceAt 22 (.slice (some ⟨g, 0, none⟩) (m + 1) k) (some (.int .i64 ((1 : Nat) : Int))) none none).run Try.prog w = .ok (.slice (some ⟨g, o2, none⟩) m (k - 1)) w := by
    rw [run_sliceAt_slice _ _ _ _ _ _ und22, run_slice_l _ _ _ _ _ und22 _ _ (by omega) (by omega), sizeOf3]
    subst h
    by_cases hm : k = 1
    · subst hm
      simp [sliced, Result.andThen]
    · simp [sliced, Result.andThen, Addr.add, hm]
  have e' : (Instr.sliceAt 22 (.slice (some ⟨g, 0, none⟩) (m + 1) k) (some (.int .i64 1)) none none).run Try.prog w = .ok (.slice (some ⟨g, o2, none⟩) m (k - 1)) w := e
  simp [execOp, ho, hx, hy, e', Result.andThen]
theorem rd_onek {B b2 o2 k m : Nat} {w : World} {xs : List Int} (hx : xs.length = m + 1) (hk : m + 1 ≤ k) (ho2 : o2 = if k = 1 then 0 else 1) (h2 : Rd B w (.slice (some ⟨b2, 0, none⟩) xs.length k) xs) : Rd B w (.slice (some ⟨b2, o2, none⟩) m (k - 1)) xs.tail := by
  have ht : xs.tail.length = m := by rw [List.length_tail]; omega
  by_cases hm : m = 0
  · rw [hm]
    exact rd_zero _ _ _ _ _ (by omega)
  · rw [if_neg (by omega)] at ho2
    subst ho2
    have := rd_tail h2 (by omega) (k - 1)
    rw [hx] at this
    simpa using this

theorem Rd.aside2 {B g c A : Nat} {w : World} {zs : List Int} {q : Option Addr} {m k : Nat} (h : Rd B w (.slice (some ⟨g, 0, none⟩) zs.length c) zs) (hA : w.cell? ⟨A, 0, none⟩ = some (.slice q m k)) (v0 v1 : Value) : Rd B ((w.setCell ⟨A, 0, none⟩ v0).setCell ⟨A, 1, none⟩ v1) (.slice (some ⟨g, 0, none⟩) zs.length c) zs := by
  rcases rd_ne h hA with h0 | hn
  · rw [h0]
    exact rd_zero _ _ _ _ _ h0
  · exact (h.aside hn 0 v0).aside hn 1 v1

/-- two arrays in their variables, and the answer's behind them -/
structure Cs (w : World) (xs da ys db : List Int) (ga ka g1 k1 gb kb g3 k3 : Nat) (wx : World) : Prop where
  bel : Below w.heap.size w wx
  size : w.heap.size + 1 + 1 < wx.heap.size
  a0 : wx.cell? ⟨w.heap.size, 0, none⟩ = some (.slice (some ⟨ga, 0, none⟩) xs.length ka)
  a1 : wx.cell? ⟨w.heap.size, 1, none⟩ = some (.slice (some ⟨g1, 0, none⟩) da.length k1)
  b0 : wx.cell? ⟨w.heap.size + 1, 0, none⟩ = some (.slice (some ⟨gb, 0, none⟩) ys.length kb)
  b1 : wx.cell? ⟨w.heap.size + 1, 1, none⟩ = some (.slice (some ⟨g3, 0, none⟩) db.length k3)
  res : wx.cell? ⟨w.heap.size + 1 + 1, 0, none⟩ = some (.slice none 0 0) ∧ wx.cell? ⟨w.heap.size + 1 + 1, 1, none⟩ = some (.slice none 0 0) ∧ ∀ o, wx.frozen? ⟨w.heap.size + 1 + 1, o, none⟩ = false
  fa : ∀ o, wx.frozen? ⟨w.heap.size, o, none⟩ = false
  fb : ∀ o, wx.frozen? ⟨w.heap.size + 1, o, none⟩ = false
  xa : Rd wx.heap.size wx (.slice (some ⟨ga, 0, none⟩) xs.length ka) xs
  xd : Rd wx.heap.size wx (.slice (some ⟨g1, 0, none⟩) da.length k1) da
  xb : Rd wx.heap.size wx (.slice (some ⟨gb, 0, none⟩) ys.length kb) ys
  xe : Rd wx.heap.size wx (.slice (some ⟨g3, 0, none⟩) db.length k3) db
  ca : xs.length ≤ ka ∧ ka ≤ 9223372036854775807
  cb : ys.length ≤ kb ∧ kb ≤ 9223372036854775807

theorem Cs.keep {w wx w' : World} {xs da ys db : List Int} {ga ka g1 k1 gb kb g3 k3 : Nat} (h : Cs w xs da ys db ga ka g1 k1 gb kb g3 k3 wx) (hb : Below wx.heap.size wx w') : Cs w xs da ys db ga ka g1 k1 gb kb g3 k3 w' := by
  have hs := hb.size
  have h2 := h.size
  have k : ∀ b o v, b < wx.heap.size → wx.cell? ⟨b, o, none⟩ = some v → w'.cell? ⟨b, o, none⟩ = some v := fun b o v hlt e => (hb.cell (p := ⟨b, o, none⟩) hlt).trans e
  have f : ∀ b o, b < wx.heap.size → wx.frozen? ⟨b, o, none⟩ = false → w'.frozen? ⟨b, o, none⟩ = false := fun b o hlt e => (hb.frozen (p := ⟨b, o, none⟩) hlt).trans e
  exact ⟨h.bel.trans (hb.mono (by omega)), by omega, k _ _ _ (by omega) h.a0, k _ _ _ (by omega) h.a1, k _ _ _ (by omega) h.b0, k _ _ _ (by omega) h.b1, ⟨k _ _ _ (by omega) h.res.1, k _ _ _ (by omega) h.res.2.1, fun o => f _ _ (by omega) (h.res.2.2 o)⟩, fun o => f _ _ (by omega) (h.fa o), fun o => f _ _ (by omega) (h.fb o),
    (h.xa.keep hb).up hs, (h.xd.keep hb).up hs, (h.xb.keep hb).up hs, (h.xe.keep hb).up hs, h.ca, h.cb⟩

theorem Cs.putA {w wx : World} {xs da ys db : List Int} {ga ka g1 k1 gb kb g3 k3 : Nat} (h : Cs w xs da ys db ga ka g1 k1 gb kb g3 k3 wx) {xs' da' : List Int} {ga' ka' g1' k1' : Nat} (hx : Rd wx.heap.size wx (.slice (some ⟨ga', 0, none⟩) xs'.length ka') xs') (hd : Rd wx.heap.size wx (.slice (some ⟨g1', 0, none⟩) da'.length k1') da') (hc : xs'.length ≤ ka' ∧ ka' ≤ 9223372036854775807) :
    Cs w xs' da' ys db ga' ka' g1' k1' gb kb g3 k3 ((wx.setCell ⟨w.heap.size, 0, none⟩ (.slice (some ⟨ga', 0, none⟩) xs'.length ka')).setCell ⟨w.heap.size, 1, none⟩ (.slice (some ⟨g1', 0, none⟩) da'.length k1')) := by
  have h2 := h.size
  have e0 := h.a0
  have e1 := h.a1
  have e2 := h.b0
  have e3 := h.b1
  obtain ⟨e4, e5, e6⟩ := h.res
  have f1 := h.fa
  have f2 := h.fb
  refine ⟨(h.bel.setCell (by simp) _).setCell (by simp) _, by simpa using h2, by simp [go_sem, e0], by simp [go_sem, e1], by simp [go_sem, e2], by simp [go_sem, e3], ⟨by simp [go_sem, e4], by simp [go_sem, e5], fun o => by simp [go_sem, e6]⟩, fun o => by simp [go_sem, f1], fun o => by simp [go_sem, f2], ?_, ?_, ?_, ?_, hc, h.cb⟩
  · simpa using hx.aside2 e0 (.slice (some ⟨ga', 0, none⟩) xs'.length ka') (.slice (some ⟨g1', 0, none⟩) da'.length k1')
  · simpa using hd.aside2 e0 (.slice (some ⟨ga', 0, none⟩) xs'.length ka') (.slice (some ⟨g1', 0, none⟩) da'.length k1')
  · simpa using h.xb.aside2 e0 (.slice (some ⟨ga', 0, none⟩) xs'.length ka') (.slice (some ⟨g1', 0, none⟩) da'.length k1')
  · simpa using h.xe.aside2 e0 (.slice (some ⟨ga', 0, none⟩) xs'.length ka') (.slice (some ⟨g1', 0, none⟩) da'.length k1')

theorem Cs.putB {w wx : World} {xs da ys db : List Int} {ga ka g1 k1 gb kb g3 k3 : Nat} (h : Cs w xs da ys db ga ka g1 k1 gb kb g3 k3 wx) {xs' da' : List Int} {ga' ka' g1' k1' : Nat} (hx : Rd wx.heap.size wx (.slice (some ⟨ga', 0, none⟩) xs'.length ka') xs') (hd : Rd wx.heap.size wx (.slice (some ⟨g1', 0, none⟩) da'.length k1') da') (hc : xs'.length ≤ ka' ∧ ka' ≤ 9223372036854775807) :
    Cs w xs da xs' da' ga ka g1 k1 ga' ka' g1' k1' ((wx.setCell ⟨w.heap.size + 1, 0, none⟩ (.slice (some ⟨ga', 0, none⟩) xs'.length ka')).setCell ⟨w.heap.size + 1, 1, none⟩ (.slice (some ⟨g1', 0, none⟩) da'.length k1')) := by
  have h2 := h.size
  have e0 := h.a0
  have e1 := h.a1
  have e2 := h.b0
  have e3 := h.b1
  obtain ⟨e4, e5, e6⟩ := h.res
  have f1 := h.fa
  have f2 := h.fb
  refine ⟨(h.bel.setCell (by simp) _).setCell (by simp) _, by simpa using h2, by simp [go_sem, e0], by simp [go_sem, e1], by simp [go_sem, e2], by simp [go_sem, e3], ⟨by simp [go_sem, e4], by simp [go_sem, e5], fun o => by simp [go_sem, e6]⟩, fun o => by simp [go_sem, f1], fun o => by simp [go_sem, f2], ?_, ?_, ?_, ?_, h.ca, hc⟩
  · simpa using h.xa.aside2 e2 (.slice (some ⟨ga', 0, none⟩) xs'.length ka') (.slice (some ⟨g1', 0, none⟩) da'.length k1')
  · simpa using h.xd.aside2 e2 (.slice (some ⟨ga', 0, none⟩) xs'.length ka') (.slice (some ⟨g1', 0, none⟩) da'.length k1')
  · simpa using hx.aside2 e2 (.slice (some ⟨ga', 0, none⟩) xs'.length ka') (.slice (some ⟨g1', 0, none⟩) da'.length k1')
  · simpa using hd.aside2 e2 (.slice (some ⟨ga', 0, none⟩) xs'.length ka') (.slice (some ⟨g1', 0, none⟩) da'.length k1')

theorem Cs.new (w : World) (xs da ys db : List Int) (b0 b1 b2 b3 : Nat) (h0 : Rd w.heap.size w (.slice (some ⟨b0, 0, none⟩) xs.length xs.length) xs) (h1 : Rd w.heap.size w (.slice (some ⟨b1, 0, none⟩) da.length da.length) da) (h2 : Rd w.heap.size w (.slice (some ⟨b2, 0, none⟩) ys.length ys.length) ys) (h3 : Rd w.heap.size w (.slice (some ⟨b3, 0, none⟩) db.length db.length) db) (hx : xs.length ≤ 9223372036854775807) (hy : ys.length ≤ 9223372036854775807) :
    Cs w xs da ys db b0 xs.length b1 da.length b2 ys.length b3 db.length (((w.alloc (.cells #[.slice (some ⟨b0, 0, none⟩) xs.length xs.length, .slice (some ⟨b1, 0, none⟩) da.length da.length] 27)).alloc (.cells #[.slice (some ⟨b2, 0, none⟩) ys.length ys.length, .slice (some ⟨b3, 0, none⟩) db.length db.length] 27)).alloc (.cells #[.slice none 0 0, .slice none 0 0] 27)) := by
  obtain ⟨q1, q2, ⟨q3, q4, q5, q6⟩, q7, q8, q9, q10, q11⟩ := wid_new w h0 h1 h2 h3 27 27 27
  exact ⟨q1, q2, q3, q4, q5, q6, q7, fun o => by simp [go_sem], fun o => by simp [go_sem], q8, q9, q10, q11, ⟨Nat.le_refl _, hx⟩, ⟨Nat.le_refl _, hy⟩⟩

set_option maxRecDepth 100000 in
set_option maxHeartbeats 4000000 in
/-- impl.asRow -/
theorem asRow_any (ga ka g1 n1 k1 : Nat) (xs : List Int) (w : World) (hl : xs.length ≤ 1048576) (h0 : Rd w.heap.size w (.slice (some ⟨ga, 0, none⟩) xs.length ka) xs) :
    Calls Try.prog 148 #[.agg #[.slice (some ⟨ga, 0, none⟩) xs.length ka, .slice (some ⟨g1, 0, none⟩) n1 k1]] w fun e w' => ∃ g k, e = .returned (.agg #[.slice (some ⟨g, 0, none⟩) (xs.length + 1) k, .slice (some ⟨g1, 0, none⟩) n1 k1]) ∧ xs.length + 1 ≤ k ∧ k ≤ 9223372036854775807 ∧ Rd w'.heap.size w' (.slice (some ⟨g, 0, none⟩) (xs.length + 1) k) (1 :: xs) ∧ Below w.heap.size w w' := by
  have H0 := hideP h0
  have PB : Hid (∀ W, Below (w.heap.size + 1) ((w.alloc (.cells #[.slice (some ⟨ga, 0, none⟩) xs.length ka, .slice (some ⟨g1, 0, none⟩) n1 k1] 27)).alloc (.cells #[.slice none 0 0, .slice none 0 0] 27)) W → (W.cell? ⟨w.heap.size, 0, none⟩ = some (.slice (some ⟨ga, 0, none⟩) xs.length ka) ∧ W.cell? ⟨w.heap.size, 1, none⟩ = some (.slice (some ⟨g1, 0, none⟩) n1 k1)) ∧ True ∧ Below w.heap.size w W) := fun W hb => by
    refine ⟨⟨(hb.cell (p := ⟨w.heap.size, 0, none⟩) (by show w.heap.size < _; omega)).trans (by simp [go_sem]), (hb.cell (p := ⟨w.heap.size, 1, none⟩) (by show w.heap.size < _; omega)).trans (by simp [go_sem])⟩, trivial, ?_⟩
    exact (((Below.refl _ _).alloc (Nat.le_refl _) _).alloc (by simp) _).trans (hb.mono (by omega))
  have RS : Hid (∀ W, Below ((w.alloc (.cells #[.slice (some ⟨ga, 0, none⟩) xs.length ka, .slice (some ⟨g1, 0, none⟩) n1 k1] 27)).alloc (.cells #[.slice none 0 0, .slice none 0 0] 27)).heap.size ((w.alloc (.cells #[.slice (some ⟨ga, 0, none⟩) xs.length ka, .slice (some ⟨g1, 0, none⟩) n1 k1] 27)).alloc (.cells #[.slice none 0 0, .slice none 0 0] 27)) W → W.cell? ⟨w.heap.size + 1, 0, none⟩ = some (.slice none 0 0) ∧ W.cell? ⟨w.heap.size + 1, 1, none⟩ = some (.slice none 0 0) ∧ ∀ o, W.frozen? ⟨w.heap.size + 1, o, none⟩ = false) := fun W hb =>
    ⟨(hb.cell (p := ⟨w.heap.size + 1, 0, none⟩) (by show w.heap.size + 1 < _; simp)).trans (by simp [go_sem]), (hb.cell (p := ⟨w.heap.size + 1, 1, none⟩) (by show w.heap.size + 1 < _; simp)).trans (by simp [go_sem]), fun o => (hb.frozen (p := ⟨w.heap.size + 1, o, none⟩) (by show w.heap.size + 1 < _; simp)).trans (by simp [go_sem])⟩
  have A3 : Hid (∀ (W : World) o, Below W.heap.size W (W.alloc o)) := fun W o => (Below.refl _ _).alloc (Nat.le_refl _) _
  have hsW : w.heap.size + 1 + 1 ≤ ((w.alloc (.cells #[.slice (some ⟨ga, 0, none⟩) xs.length ka, .slice (some ⟨g1, 0, none⟩) n1 k1] 27)).alloc (.cells #[.slice none 0 0, .slice none 0 0] 27)).heap.size := by simp
  clear h0
  go_enter Try.func148, Try.ntmps148
  go_wp2_with fail
  generalize ((w.alloc (.cells #[.slice (some ⟨ga, 0, none⟩) xs.length ka, .slice (some ⟨g1, 0, none⟩) n1 k1] 27)).alloc (.cells #[.slice none 0 0, .slice none 0 0] 27)) = W1 at *
  have SD := hideP (show Below W1.heap.size W1 W1.drew from (Below.refl _ _).drew)
  refine wp_region_held (S := fun w' => Below (w.heap.size + 1) W1 w') (by kernel_rfl) ?_
  change wpAnyH _ _ _ _ _ _ _ _ (World.drew _)
  generalize World.drew W1 = wd at SD ⊢
  have SW : Hid (Below (w.heap.size + 1) W1 wd) := SD.out.mono (by omega)
  have hWd : w.heap.size + 1 ≤ wd.heap.size := by have := SD.out.size; omega
  have hWd2 : w.heap.size + 1 + 1 ≤ wd.heap.size := by have := SD.out.size; omega
  have RX : Hid (Rd wd.heap.size wd (.slice (some ⟨ga, 0, none⟩) xs.length ka) xs) := by
    have k := (PB.out wd SW.out).2.2
    exact (H0.out.keep k).up k.size
  refine wpAnyH_take (i := 1) (v := .pointer (some ⟨w.heap.size, 0, none⟩)) rfl (by kernel_rfl) (by kernel_rfl) (by kernel_rfl) (fun _ _ _ h => h) (Or.inl ⟨by rfl, ?_⟩) SW.out ?_
  · intro w' hS
    clear hS
    go_simp
  refine wpAnyH_take (i := 2) (v := .slice (some ⟨ga, 0, none⟩) xs.length ka) rfl (by kernel_rfl) (by kernel_rfl) (by kernel_rfl) (fun _ _ _ h => h) (Or.inl ⟨by rfl, ?_⟩) SW.out ?_
  · intro w' hS
    have := (PB.out w' hS).1.1
    clear hS
    go_simp
  refine wpAnyH_take (i := 5) (v := .pointer (some ⟨w.heap.size, 1, none⟩)) rfl (by kernel_rfl) (by kernel_rfl) (by kernel_rfl) (fun _ _ _ h => h) (Or.inl ⟨by rfl, ?_⟩) SW.out ?_
  · intro w' hS
    clear hS
    go_simp
  refine wpAnyH_take (i := 6) (v := .slice (some ⟨g1, 0, none⟩) n1 k1) rfl (by kernel_rfl) (by kernel_rfl) (by kernel_rfl) (fun _ _ _ h => h) (Or.inl ⟨by rfl, ?_⟩) SW.out ?_
  · intro w' hS
    have := (PB.out w' hS).1.2
    clear hS
    go_simp
  refine wpAnyH_ready (rs := [0]) (by kernel_rfl) (by simp) ?_
  refine AllReadyH.cons rfl (fun K hK => ?_) AllReadyH.nil
  go_simp
  refine hK.out _ _ (SW.out.trans ((A3.out wd (.cells #[.int .i64 1] 3)).mono hWd)) (fun _ => ?_)
  clear hK
  refine wpAnyH_ready (rs := [3]) (by kernel_rfl) (by simp) ?_
  refine AllReadyH.cons rfl (fun K hK => ?_) AllReadyH.nil
  go_simp
  have S2 := hideP ((SW.out.trans ((A3.out wd (.cells #[.int .i64 1] 3)).mono hWd)).trans ((A3.out (wd.alloc (.cells #[.int .i64 1] 3)) (.cells #[.slice (some ⟨wd.heap.size, 0, none⟩) 1 1, .slice (some ⟨ga, 0, none⟩) xs.length ka] 22)).mono (by simp; omega)))
  refine hK.out _ _ S2.out (fun _ => ?_)
  clear hK
  refine wpAnyH_ready (rs := [4]) (by kernel_rfl) (by simp) ?_
  refine AllReadyH.cons rfl (fun K hK => ?_) AllReadyH.nil
  go_simp
  have J := joined_litR 1 (.slice (some ⟨ga, 0, none⟩) xs.length ka) xs wd hl (RX.out)
  refine J.mono ?_
  clear J
  rintro e w5 ⟨g, k, rfl, hk0, hk1, ho5, hb5⟩
  have B5 := hideP hb5
  have O5 := hideP ho5
  clear hb5 ho5
  have S5 := hideP (SW.out.trans (B5.out.mono hWd))
  refine hK.out _ _ S5.out (fun _ => ?_)
  clear hK
  refine wpAnyH_ready (rs := [7]) (by kernel_rfl) (by simp) ?_
  refine AllReadyH.cons rfl (fun K hK => ?_) AllReadyH.nil
  go_simp
  refine hK.out _ _ S5.out (fun _ => ?_)
  clear hK
  have Z5 := hideP (PB.out w5 S5.out)
  obtain ⟨r0, r1, f2⟩ := RS.out w5 (SD.out.trans (B5.out.mono SD.out.size))
  have hs5 := B5.out.size
  refine wpAnyH_ready (rs := [8]) (by kernel_rfl) (by simp) ?_
  refine AllReadyH.cons rfl (fun K hK => ?_) AllReadyH.nil
  go_simp
  refine hK.out _ _ ((S5.out.setCell (by simp) _).setCell (by simp) _) (fun _ => ?_)
  clear hK
  refine wpAnyH_done (by kernel_rfl) ?_ _
  go_wp2_with fail
  refine bodyPost_ret (v := .agg #[.slice (some ⟨g, 0, none⟩) (xs.length + 1) k, .slice (some ⟨g1, 0, none⟩) n1 k1]) (by simp [results, Try.results148, go_sem, r0, r1]) rfl ⟨g, k, rfl, hk0, hk1, ?_, (Z5.out.2.2.setCell (by simp) _).setCell (by simp) _⟩
  have := (Own.store (Own.store O5.out (show w.heap.size + 1 < wd.heap.size by omega) (.slice (some ⟨g, 0, none⟩) (xs.length + 1) k) (o := 0)) (show w.heap.size + 1 < wd.heap.size by omega) (.slice (some ⟨g1, 0, none⟩) n1 k1) (o := 1)).rd
  exact this

end Go.Proofs.Ytmobjomebmipdaa
