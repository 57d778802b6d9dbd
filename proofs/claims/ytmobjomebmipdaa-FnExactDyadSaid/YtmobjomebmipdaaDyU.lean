import Derived.Test.YtmobjomebmipdaaDyT
namespace Go.Proofs.Ytmobjomebmipdaa
open Go.RowKit
set_option linter.unusedVariables false

set_option maxRecDepth 100000 in
set_option maxHeartbeats 4000000 in
/-- impl.take of valid arrays -/
theorem take_any (b0 b1 b2 b3 : Nat) (sa da sb db : List Int) (w : World)
    (h0 : Rd w.heap.size w (.slice (some ⟨b0, 0, none⟩) sa.length sa.length) sa) (h1 : Rd w.heap.size w (.slice (some ⟨b1, 0, none⟩) da.length da.length) da) (h2 : Rd w.heap.size w (.slice (some ⟨b2, 0, none⟩) sb.length sb.length) sb) (h3 : Rd w.heap.size w (.slice (some ⟨b3, 0, none⟩) db.length db.length) db)
    (oka : Pl.okB sa da = true) (okb : Pl.okB sb db = true) (c : Int) (S D : List Int) (hres : Pl.takeM sa da sb db = (c, S, D)) :
    Calls Try.prog 122 #[.agg #[.slice (some ⟨b0, 0, none⟩) sa.length sa.length, .slice (some ⟨b1, 0, none⟩) da.length da.length], .agg #[.slice (some ⟨b2, 0, none⟩) sb.length sb.length, .slice (some ⟨b3, 0, none⟩) db.length db.length]] w (KPost w c S D) := by
  have e := hres
  unfold Pl.takeM at e
  by_cases hsa : sa.length = 0
  · rw [if_pos hsa] at e
    obtain ⟨x, hx⟩ := List.length_eq_one_iff.1 (Pl.ok_one oka hsa)
    obtain ⟨n', tb, hax⟩ := Pl.axes_cons sb db
    have okx := Pl.axes_ok okb
    rw [hax] at okx
    have m2 := Pl.ok_max okx
    have hx2 := Pl.ok_cell oka (show x ∈ da by rw [hx]; simp)
    have hb : Pl.baseB (n' :: tb) = true := by
      have := (Pl.ok_len okx).2
      simp only [Pl.fitsB, Bool.and_eq_true] at this
      exact this.1
    have hbb : Pl.baseB tb = true := Pl.base_tail hb
    have hnr : 0 ≤ n' ∧ n' ≤ 1000 := by
      simp only [Pl.baseB, Bool.and_eq_true, List.all_cons] at hb
      exact Pl.inR_bd hb.2.1
    obtain ⟨n, rfl⟩ := Int.eq_ofNat_of_zero_le hnr.1
    have hpT := (Pl.prod_two tb hbb).1
    obtain ⟨TP, hTP⟩ := Int.eq_ofNat_of_zero_le hpT.1
    have hrow : n * TP ≤ db.length := by
      by_cases hn0 : n = 0
      · rw [hn0, Nat.zero_mul]; exact Nat.zero_le _
      · obtain ⟨hft, n'', s, e1, e2, _, _, e3⟩ := Pl.ok_rows okx (by simp) (by show ¬ (n : Int) = 0; omega)
        have en : n'' = n := by
          have : (n : Int) = n'' := e1
          omega
        have es : s = TP := by
          have := (Pl.prod_eq hft).symm.trans e2
          have h' : Pl.prodP tb = (s : Int) := this
          omega
        rw [e3, en, es]
        exact Nat.le_refl _
    rw [hax, hx] at e
    simp only [List.getD_cons_zero, List.tail_cons, hTP, Int.toNat_natCast] at e
    have hg : 0 ≤ Pl.gone x n ∧ Pl.gone x n ≤ n := by unfold Pl.gone; omega
    obtain ⟨go, hgo⟩ := Int.eq_ofNat_of_zero_le hg.1
    obtain ⟨W, hW⟩ := Int.eq_ofNat_of_zero_le (show 0 ≤ max x (-x) by omega)
    have hgw : (go : Int) ≤ W := by rw [← hgo, ← hW]; unfold Pl.gone; omega
    rw [hgo, hW, Int.toNat_natCast, Int.toNat_natCast] at e
    refine take_core b0 b1 b2 b3 sa da sb db tb x n w h0 h1 h2 h3 hsa hx hax hx2.1 hx2.2 (by omega) (by have := m2.1; simp at this; omega) hbb m2.2 TP hTP hrow W go hW hgo (by omega) (by omega) c S D e (fun hf => ?_)
    rw [Pl.fits_eq] at hf
    simp only [Bool.and_eq_true, decide_eq_true_eq] at hf
    have h4 := hf.2
    rw [Pl.prodP_cons, hTP] at h4
    have : ((W * TP : Nat) : Int) = (W : Int) * (TP : Int) := by simp
    omega
  · rw [if_neg hsa] at e
    simp only [Prod.mk.injEq] at e
    obtain ⟨rfl, rfl, rfl⟩ := e
    have KA : Hid (∀ w', Calls Try.prog 91 #[.agg #[.slice (some ⟨b0, 0, none⟩) sa.length sa.length, .slice (some ⟨b1, 0, none⟩) da.length da.length]] w' fun e w'' => e = .returned (.bool false) ∧ Below w'.heap.size w' w'') := fun w' => by
      have := isScalar_any _ (.slice (some ⟨b1, 0, none⟩) da.length da.length) sa _ w' w h0
      rw [decide_eq_false hsa] at this
      exact this
    have W0 := hideP (wid_new w h0 h1 h2 h3 27 27 27)
    clear h0 h1 h2 h3 oka okb hres hsa
    generalize sa.length = la at *
    go_enter Try.func122, Try.ntmps122
    go_wp2_with fail
    refine (KA.out _).mono ?_
    rintro e w1 ⟨rfl, hb1⟩
    have BW := hideP (W0.out.keep hb1).1
    clear hb1
    go_wp2_with (go_at_call 83; refine (refuse_yes _ _).mono ?_; rintro e w1 ⟨rfl, rfl⟩)
    exact ⟨rfl, BW.out, .inr ⟨by decide, rfl, rfl, rfl⟩⟩


theorem rd_ne {B : Nat} {w : World} {g c A : Nat} {zs : List Int} {q : Option Addr} {m k : Nat} (h : Rd B w (.slice (some ⟨g, 0, none⟩) zs.length c) zs) (hA : w.cell? ⟨A, 0, none⟩ = some (.slice q m k)) : zs.length = 0 ∨ ¬ g = A := by
  by_cases h0 : zs.length = 0
  · exact .inl h0
  · refine .inr fun e => ?_
    have := (rd_cell h (i := 0) (by omega)).2
    rw [e] at this
    rw [Nat.add_zero] at this
    rw [hA] at this
    cases this

set_option maxRecDepth 100000 in
set_option maxHeartbeats 8000000 in
/-- spec.l2Take with the number 2 -/
theorem l2Take_2 (b0 b1 b2 b3 : Nat) (sa da sb db : List Int) (w : World)
    (h0 : Rd w.heap.size w (.slice (some ⟨b0, 0, none⟩) sa.length sa.length) sa) (h1 : Rd w.heap.size w (.slice (some ⟨b1, 0, none⟩) da.length da.length) da) (h2 : Rd w.heap.size w (.slice (some ⟨b2, 0, none⟩) sb.length sb.length) sb) (h3 : Rd w.heap.size w (.slice (some ⟨b3, 0, none⟩) db.length db.length) db)
    (oka : Pl.okB sa da = true) (okb : Pl.okB sb db = true) (c : Int) (S D : List Int) (hres : Pl.takeM sa da sb db = (c, S, D)) :
    Calls Try.prog 63 #[.int .i64 2, .agg #[.slice (some ⟨b0, 0, none⟩) sa.length sa.length, .slice (some ⟨b1, 0, none⟩) da.length da.length], .agg #[.slice (some ⟨b2, 0, none⟩) sb.length sb.length, .slice (some ⟨b3, 0, none⟩) db.length db.length]] w (FPost w c S D) := by
  have e := hres
  unfold Pl.takeM at e
  have W0 := hideP (wid_new w h0 h1 h2 h3 27 27 27)
  by_cases hsa : sa.length = 0
  · rw [if_pos hsa] at e
    obtain ⟨x, hxd⟩ := List.length_eq_one_iff.1 (Pl.ok_one oka hsa)
    obtain ⟨n', tb, hax⟩ := Pl.axes_cons sb db
    have okx := Pl.axes_ok okb
    rw [hax] at okx
    have m2 := Pl.ok_max okx
    have hx2 := Pl.ok_cell oka (show x ∈ da by rw [hxd]; simp)
    have fitn := (Pl.ok_len okx).2
    have hb : Pl.baseB (n' :: tb) = true := by
      have := fitn
      simp only [Pl.fitsB, Bool.and_eq_true] at this
      exact this.1
    have hbb : Pl.baseB tb = true := Pl.base_tail hb
    have hnr : 0 ≤ n' ∧ n' ≤ 1000 := by
      simp only [Pl.baseB, Bool.and_eq_true, List.all_cons] at hb
      exact Pl.inR_bd hb.2.1
    obtain ⟨n, rfl⟩ := Int.eq_ofNat_of_zero_le hnr.1
    obtain ⟨TP, hTP⟩ := Int.eq_ofNat_of_zero_le (Pl.prod_two tb hbb).1.1
    rw [hax, hxd] at e
    simp only [List.getD_cons_zero, List.tail_cons, hTP, Int.toNat_natCast] at e
    obtain ⟨W, hW⟩ := Int.eq_ofNat_of_zero_le (show 0 ≤ max x (-x) by omega)
    have hg : 0 ≤ Pl.gone x n ∧ Pl.gone x n ≤ n := by unfold Pl.gone; omega
    obtain ⟨go, hgo⟩ := Int.eq_ofNat_of_zero_le hg.1
    rw [hgo, hW, Int.toNat_natCast, Int.toNat_natCast] at e
    have CX : Hid (b1 < w.heap.size ∧ w.cell? ⟨b1, 0, none⟩ = some (.int .i64 x)) := by
      have := rd_cell h1 (i := 0) (by rw [hxd]; simp)
      rw [hxd] at this
      exact this
    have KX : Hid (∀ w', Below w.heap.size w w' → Calls Try.prog 118 #[.agg #[.slice (some ⟨b2, 0, none⟩) sb.length sb.length, .slice (some ⟨b3, 0, none⟩) db.length db.length]] w' fun e w'' => ∃ g g1 cap, e = .returned (.agg #[.slice (some ⟨g, 0, none⟩) (tb.length + 1) (tb.length + 1), .slice (some ⟨g1, 0, none⟩) db.length cap]) ∧ db.length ≤ cap ∧ cap ≤ 9223372036854775807 ∧ Rd w''.heap.size w'' (.slice (some ⟨g, 0, none⟩) (tb.length + 1) (tb.length + 1)) ((n : Int) :: tb) ∧ Rd w''.heap.size w'' (.slice (some ⟨g1, 0, none⟩) db.length cap) db ∧ Below w'.heap.size w' w'') := fun w' h => by
      have := l2Axes_sl b2 b3 sb db w' (by have := m2.2; omega) ((h2.keep h).up h.size) ((h3.keep h).up h.size)
      rw [hax] at this
      exact this
    have hdl : 0 < da.length := by rw [hxd]; simp
    have hdl' : (0 : Int) < (da.length : Int) := by omega
    have test : ((sa.length : Int) != 0) = false := by simp [hsa]
    have W1 := W0
    have c2 := W0.out.2.2.1.2.2.1
    have c3 := W0.out.2.2.1.2.2.2
    clear h0 h1 h2 h3 hres hsa hxd hax oka okb
    generalize da.length = lda at *
    generalize sa.length = lsa at *
    go_enter Try.func63, Try.ntmps63
    go_wp2_with fail
    refine (KX.out _ W0.out.1).mono ?_
    rintro e' w2 ⟨g, g1, k1, rfl, hk1, hk2, ha2, hd2, hb2⟩
    have F2 : Hid (∀ o, w2.frozen? ⟨w.heap.size + 1, o, none⟩ = false) := fun o => (hb2.frozen (p := ⟨w.heap.size + 1, o, none⟩) (by show w.heap.size + 1 < _; simp)).trans (by simp [go_sem])
    have W2 := hideP (W0.out.keep hb2)
    clear hb2 c2 c3 W1
    have c2 := W2.out.2.2.1.2.2.1
    have c3 := W2.out.2.2.1.2.2.2
    have fb := F2.out
    have RA : Hid (Rd ((w2.setCell ⟨w.heap.size + 1, 0, none⟩ (.slice (some ⟨g, 0, none⟩) (tb.length + 1) (tb.length + 1))).setCell ⟨w.heap.size + 1, 1, none⟩ (.slice (some ⟨g1, 0, none⟩) db.length k1)).heap.size ((w2.setCell ⟨w.heap.size + 1, 0, none⟩ (.slice (some ⟨g, 0, none⟩) (tb.length + 1) (tb.length + 1))).setCell ⟨w.heap.size + 1, 1, none⟩ (.slice (some ⟨g1, 0, none⟩) db.length k1)) (.slice (some ⟨g, 0, none⟩) (tb.length + 1) (tb.length + 1)) ((n : Int) :: tb)) := by
      have ha' : Rd w2.heap.size w2 (.slice (some ⟨g, 0, none⟩) ((n : Int) :: tb).length (tb.length + 1)) ((n : Int) :: tb) := ha2
      have gne := (rd_ne ha' c2).resolve_left (by simp)
      have := (ha2.aside gne 0 (.slice (some ⟨g, 0, none⟩) (tb.length + 1) (tb.length + 1))).aside gne 1 (.slice (some ⟨g1, 0, none⟩) db.length k1)
      show Rd _ _ _ _
      simpa using this
    have RB : Hid (Rd ((w2.setCell ⟨w.heap.size + 1, 0, none⟩ (.slice (some ⟨g, 0, none⟩) (tb.length + 1) (tb.length + 1))).setCell ⟨w.heap.size + 1, 1, none⟩ (.slice (some ⟨g1, 0, none⟩) db.length k1)).heap.size ((w2.setCell ⟨w.heap.size + 1, 0, none⟩ (.slice (some ⟨g, 0, none⟩) (tb.length + 1) (tb.length + 1))).setCell ⟨w.heap.size + 1, 1, none⟩ (.slice (some ⟨g1, 0, none⟩) db.length k1)) (.slice (some ⟨g1, 0, none⟩) db.length k1) db) := by
      show Rd _ _ _ _
      rcases rd_ne hd2 c2 with h0 | gne
      · rw [h0]
        exact rd_zero _ _ _ _ _ h0
      · have := (hd2.aside gne 0 (.slice (some ⟨g, 0, none⟩) (tb.length + 1) (tb.length + 1))).aside gne 1 (.slice (some ⟨g1, 0, none⟩) db.length k1)
        simpa using this
    have B03 : Hid (Below w.heap.size w ((w2.setCell ⟨w.heap.size + 1, 0, none⟩ (.slice (some ⟨g, 0, none⟩) (tb.length + 1) (tb.length + 1))).setCell ⟨w.heap.size + 1, 1, none⟩ (.slice (some ⟨g1, 0, none⟩) db.length k1))) := (W2.out.1.setCell (by simp) _).setCell (by simp) _
    have P3 : Hid (((w2.setCell ⟨w.heap.size + 1, 0, none⟩ (.slice (some ⟨g, 0, none⟩) (tb.length + 1) (tb.length + 1))).setCell ⟨w.heap.size + 1, 1, none⟩ (.slice (some ⟨g1, 0, none⟩) db.length k1)).cell? ⟨w.heap.size, 1, none⟩ = some (.slice (some ⟨b1, 0, none⟩) lda lda) ∧ ((w2.setCell ⟨w.heap.size + 1, 0, none⟩ (.slice (some ⟨g, 0, none⟩) (tb.length + 1) (tb.length + 1))).setCell ⟨w.heap.size + 1, 1, none⟩ (.slice (some ⟨g1, 0, none⟩) db.length k1)).cell? ⟨w.heap.size + 1, 0, none⟩ = some (.slice (some ⟨g, 0, none⟩) (tb.length + 1) (tb.length + 1)) ∧ ((w2.setCell ⟨w.heap.size + 1, 0, none⟩ (.slice (some ⟨g, 0, none⟩) (tb.length + 1) (tb.length + 1))).setCell ⟨w.heap.size + 1, 1, none⟩ (.slice (some ⟨g1, 0, none⟩) db.length k1)).cell? ⟨w.heap.size + 1, 1, none⟩ = some (.slice (some ⟨g1, 0, none⟩) db.length k1)) := by
      have q1 := W2.out.2.2.1.2.1
      exact ⟨by simp [go_sem, q1], by simp [go_sem, c2], by simp [go_sem, c3]⟩
    have R3 : Hid (((w2.setCell ⟨w.heap.size + 1, 0, none⟩ (.slice (some ⟨g, 0, none⟩) (tb.length + 1) (tb.length + 1))).setCell ⟨w.heap.size + 1, 1, none⟩ (.slice (some ⟨g1, 0, none⟩) db.length k1)).cell? ⟨w.heap.size + 1 + 1, 0, none⟩ = some (.slice none 0 0) ∧ ((w2.setCell ⟨w.heap.size + 1, 0, none⟩ (.slice (some ⟨g, 0, none⟩) (tb.length + 1) (tb.length + 1))).setCell ⟨w.heap.size + 1, 1, none⟩ (.slice (some ⟨g1, 0, none⟩) db.length k1)).cell? ⟨w.heap.size + 1 + 1, 1, none⟩ = some (.slice none 0 0) ∧ ∀ o, ((w2.setCell ⟨w.heap.size + 1, 0, none⟩ (.slice (some ⟨g, 0, none⟩) (tb.length + 1) (tb.length + 1))).setCell ⟨w.heap.size + 1, 1, none⟩ (.slice (some ⟨g1, 0, none⟩) db.length k1)).frozen? ⟨w.heap.size + 1 + 1, o, none⟩ = false) := by
      obtain ⟨q1, q2, q3⟩ := W2.out.2.2.2.1
      exact ⟨by simp [go_sem, q1], by simp [go_sem, q2], fun o => by simp [go_sem, q3]⟩
    have hs2 := W2.out.2.1
    have hs3 : w.heap.size + 1 + 1 < ((w2.setCell ⟨w.heap.size + 1, 0, none⟩ (.slice (some ⟨g, 0, none⟩) (tb.length + 1) (tb.length + 1))).setCell ⟨w.heap.size + 1, 1, none⟩ (.slice (some ⟨g1, 0, none⟩) db.length k1)).heap.size := by simp; omega
    go_upto_region 4 with fail
    clear c2 c3 fb F2 W0 W2 KX ha2 hd2 hs2
    generalize ((w2.setCell ⟨w.heap.size + 1, 0, none⟩ (.slice (some ⟨g, 0, none⟩) (tb.length + 1) (tb.length + 1))).setCell ⟨w.heap.size + 1, 1, none⟩ (.slice (some ⟨g1, 0, none⟩) db.length k1)) = w3 at *
    have PX : Hid (∀ W', Below w3.heap.size w3 W' → (W'.cell? ⟨w.heap.size, 1, none⟩ = some (.slice (some ⟨b1, 0, none⟩) lda lda) ∧ W'.cell? ⟨w.heap.size + 1, 0, none⟩ = some (.slice (some ⟨g, 0, none⟩) (tb.length + 1) (tb.length + 1)) ∧ W'.cell? ⟨w.heap.size + 1, 1, none⟩ = some (.slice (some ⟨g1, 0, none⟩) db.length k1)) ∧ (W'.cell? ⟨w.heap.size + 1 + 1, 0, none⟩ = some (.slice none 0 0) ∧ W'.cell? ⟨w.heap.size + 1 + 1, 1, none⟩ = some (.slice none 0 0) ∧ ∀ o, W'.frozen? ⟨w.heap.size + 1 + 1, o, none⟩ = false) ∧ Below w.heap.size w W') := fun W' k => by
      have ks := k.size
      exact ⟨⟨(k.cell (p := ⟨w.heap.size, 1, none⟩) (by show w.heap.size < _; omega)).trans P3.out.1, (k.cell (p := ⟨w.heap.size + 1, 0, none⟩) (by show w.heap.size + 1 < _; omega)).trans P3.out.2.1, (k.cell (p := ⟨w.heap.size + 1, 1, none⟩) (by show w.heap.size + 1 < _; omega)).trans P3.out.2.2⟩,
        ⟨(k.cell (p := ⟨w.heap.size + 1 + 1, 0, none⟩) (by show w.heap.size + 1 + 1 < _; omega)).trans R3.out.1, (k.cell (p := ⟨w.heap.size + 1 + 1, 1, none⟩) (by show w.heap.size + 1 + 1 < _; omega)).trans R3.out.2.1, fun o => (k.frozen (p := ⟨w.heap.size + 1 + 1, o, none⟩) (by show w.heap.size + 1 + 1 < _; omega)).trans (R3.out.2.2 o)⟩, B03.out.trans (k.mono (by omega))⟩
    have ca := P3.out.1
    have cb := P3.out.2.1
    have cd := P3.out.2.2
    have cx : w3.cell? ⟨b1, 0, none⟩ = some (.int .i64 x) := (B03.out.cell (p := ⟨b1, 0, none⟩) CX.out.1).trans CX.out.2
    have cg : w3.cell? ⟨g, 0, none⟩ = some (.int .i64 (n : Int)) := (rd_head RA.out).2
    have hxl : -3000000000 ≤ x := hx2.1
    have hxu : x ≤ 3000000000 := hx2.2
    have hnu : n ≤ 1000 := by omega
    have hbl := m2.1
    have hld := m2.2
    clear P3 R3 CX hb
    by_cases hx : x < 0
    · have eW : (n : Int) + x + (W : Int) = (n : Int) := by omega
      have KSP : ∀ W', Below w3.heap.size w3 W' → Calls Try.prog 119 #[.agg #[.slice (some ⟨g, 0, none⟩) (tb.length + 1) (tb.length + 1), .slice (some ⟨g1, 0, none⟩) db.length k1], .int .i64 ((n : Int) + x), .int .i64 (n : Int)] W' (FPost W' c S D) := fun W' hb => by
        have := l2Span_any g g1 k1 n tb db ((n : Int) + x) W W' ((RA.out.keep hb).up hb.size) ((RB.out.keep hb).up hb.size) hk1 hk2 (by omega) (by omega) (by omega) okx TP hTP c S D (by
          rw [Pl.span_take_neg db TP n W go x _ hx hW hgo rfl]
          exact e)
        rw [eW] at this
        exact this
      have KS : Hid (∀ W', Below w3.heap.size w3 W' → Calls Try.prog 119 #[.agg #[.slice (some ⟨g, 0, none⟩) (tb.length + 1) (tb.length + 1), .slice (some ⟨g1, 0, none⟩) db.length k1], .int .i64 ((n : Int) + x), .int .i64 ((n : Int))] W' (FPost W' c S D)) := fun W' hb => KSP W' hb
      clear KSP
      try clear e
      try clear eW
      try clear hW
      try clear hgo
      try clear hm0
      try clear efi
      try clear een
      try clear em
      try clear ego
      try clear m0
      clear okx fitn hTP hbb hx2 hnr hk1 hk2 m2
      go_wp2_with fail
      refine (KS.out w3 (Below.refl _ _)).mono ?_
      rintro e w4 ⟨hb4, u0, u1, rfl, res⟩
      have Z4 := hideP (PX.out w4 hb4)
      have hs4 := hb4.size
      have R4 := hideP res
      obtain ⟨x0', y0, e0⟩ := res.1.form
      obtain ⟨x1', y1, e1⟩ := res.2.1.form
      subst e0
      subst e1
      clear res hb4 ca cb cd cg cx
      have r0 := Z4.out.2.1.1
      have r1 := Z4.out.2.1.2.1
      have f2 := Z4.out.2.1.2.2
      go_wp2_with fail
      refine bodyPost_ret (v := .tuple #[.agg #[.slice x0' S.length y0, .slice x1' D.length y1], .int .i64 c]) (by simp [results, Try.results63, go_sem, r0, r1]) rfl ⟨(Z4.out.2.2.setCell (by simp; omega) _).setCell (by simp; omega) _, _, _, rfl, ?_, ?_, R4.out.2.2⟩
      · exact Own.base (Own.store (Own.store R4.out.1 (by omega) _) (by omega) _) (by omega)
      · exact Own.base (Own.store (Own.store R4.out.2.1 (by omega) _) (by omega) _) (by omega)
    · have hx' : decide (x < 0) = false := by rw [decide_eq_false_iff_not]; exact hx
      have eW : (0 : Int) + (W : Int) = x := by omega
      have KSP : ∀ W', Below w3.heap.size w3 W' → Calls Try.prog 119 #[.agg #[.slice (some ⟨g, 0, none⟩) (tb.length + 1) (tb.length + 1), .slice (some ⟨g1, 0, none⟩) db.length k1], .int .i64 0, .int .i64 x] W' (FPost W' c S D) := fun W' hb => by
        have := l2Span_any g g1 k1 n tb db 0 W W' ((RA.out.keep hb).up hb.size) ((RB.out.keep hb).up hb.size) hk1 hk2 (by omega) (by omega) (by omega) okx TP hTP c S D (by
          rw [Pl.span_take_pos db TP n W go x hx hW hgo]
          exact e)
        rw [eW] at this
        exact this
      clear hx
      have KS : Hid (∀ W', Below w3.heap.size w3 W' → Calls Try.prog 119 #[.agg #[.slice (some ⟨g, 0, none⟩) (tb.length + 1) (tb.length + 1), .slice (some ⟨g1, 0, none⟩) db.length k1], .int .i64 (0), .int .i64 (x)] W' (FPost W' c S D)) := fun W' hb => KSP W' hb
      clear KSP
      try clear e
      try clear eW
      try clear hW
      try clear hgo
      try clear hm0
      try clear efi
      try clear een
      try clear em
      try clear ego
      try clear m0
      clear okx fitn hTP hbb hx2 hnr hk1 hk2 m2
      go_wp2_with fail
      refine (KS.out w3 (Below.refl _ _)).mono ?_
      rintro e w4 ⟨hb4, u0, u1, rfl, res⟩
      have Z4 := hideP (PX.out w4 hb4)
      have hs4 := hb4.size
      have R4 := hideP res
      obtain ⟨x0', y0, e0⟩ := res.1.form
      obtain ⟨x1', y1, e1⟩ := res.2.1.form
      subst e0
      subst e1
      clear res hb4 ca cb cd cg cx
      have r0 := Z4.out.2.1.1
      have r1 := Z4.out.2.1.2.1
      have f2 := Z4.out.2.1.2.2
      go_wp2_with fail
      refine bodyPost_ret (v := .tuple #[.agg #[.slice x0' S.length y0, .slice x1' D.length y1], .int .i64 c]) (by simp [results, Try.results63, go_sem, r0, r1]) rfl ⟨(Z4.out.2.2.setCell (by simp; omega) _).setCell (by simp; omega) _, _, _, rfl, ?_, ?_, R4.out.2.2⟩
      · exact Own.base (Own.store (Own.store R4.out.1 (by omega) _) (by omega) _) (by omega)
      · exact Own.base (Own.store (Own.store R4.out.2.1 (by omega) _) (by omega) _) (by omega)
  · rw [if_neg hsa] at e
    simp only [Prod.mk.injEq] at e
    obtain ⟨rfl, rfl, rfl⟩ := e
    have test : ((sa.length : Int) != 0) = true := by simp [hsa]
    clear h0 h1 h2 h3 oka okb hres hsa
    generalize sa.length = la at *
    go_enter Try.func63, Try.ntmps63
    go_wp2_with fail
    refine bodyPost_ret (v := .tuple #[.agg #[.slice none 0 0, .slice none 0 0], .int .i64 2]) (by simp [results, Try.results63, go_sem]) rfl ⟨W0.out.1, _, _, rfl, Own.nil _ _, Own.nil _ _, .inl rfl⟩


set_option maxRecDepth 100000 in
set_option maxHeartbeats 8000000 in
/-- spec.l2Take with the number 3 -/
theorem l2Take_3 (b0 b1 b2 b3 : Nat) (sa da sb db : List Int) (w : World)
    (h0 : Rd w.heap.size w (.slice (some ⟨b0, 0, none⟩) sa.length sa.length) sa) (h1 : Rd w.heap.size w (.slice (some ⟨b1, 0, none⟩) da.length da.length) da) (h2 : Rd w.heap.size w (.slice (some ⟨b2, 0, none⟩) sb.length sb.length) sb) (h3 : Rd w.heap.size w (.slice (some ⟨b3, 0, none⟩) db.length db.length) db)
    (oka : Pl.okB sa da = true) (okb : Pl.okB sb db = true) (c : Int) (S D : List Int) (hres : Pl.dropM sa da sb db = (c, S, D)) :
    Calls Try.prog 63 #[.int .i64 3, .agg #[.slice (some ⟨b0, 0, none⟩) sa.length sa.length, .slice (some ⟨b1, 0, none⟩) da.length da.length], .agg #[.slice (some ⟨b2, 0, none⟩) sb.length sb.length, .slice (some ⟨b3, 0, none⟩) db.length db.length]] w (FPost w c S D) := by
  have e := hres
  unfold Pl.dropM at e
  have W0 := hideP (wid_new w h0 h1 h2 h3 27 27 27)
  by_cases hsa : sa.length = 0
  · rw [if_pos hsa] at e
    obtain ⟨x, hxd⟩ := List.length_eq_one_iff.1 (Pl.ok_one oka hsa)
    obtain ⟨n', tb, hax⟩ := Pl.axes_cons sb db
    have okx := Pl.axes_ok okb
    rw [hax] at okx
    have m2 := Pl.ok_max okx
    have hx2 := Pl.ok_cell oka (show x ∈ da by rw [hxd]; simp)
    have fitn := (Pl.ok_len okx).2
    have hb : Pl.baseB (n' :: tb) = true := by
      have := fitn
      simp only [Pl.fitsB, Bool.and_eq_true] at this
      exact this.1
    have hbb : Pl.baseB tb = true := Pl.base_tail hb
    have hnr : 0 ≤ n' ∧ n' ≤ 1000 := by
      simp only [Pl.baseB, Bool.and_eq_true, List.all_cons] at hb
      exact Pl.inR_bd hb.2.1
    obtain ⟨n, rfl⟩ := Int.eq_ofNat_of_zero_le hnr.1
    obtain ⟨TP, hTP⟩ := Int.eq_ofNat_of_zero_le (Pl.prod_two tb hbb).1.1
    rw [hax, hxd] at e
    simp only [List.getD_cons_zero, List.tail_cons, hTP, Int.toNat_natCast] at e
    have hg : 0 ≤ Pl.gone x n ∧ Pl.gone x n ≤ n := by unfold Pl.gone; omega
    obtain ⟨go, hgo⟩ := Int.eq_ofNat_of_zero_le hg.1
    obtain ⟨m, hm0⟩ : ∃ m : Nat, m = n - go := ⟨_, rfl⟩
    rw [hgo] at e
    have CX : Hid (b1 < w.heap.size ∧ w.cell? ⟨b1, 0, none⟩ = some (.int .i64 x)) := by
      have := rd_cell h1 (i := 0) (by rw [hxd]; simp)
      rw [hxd] at this
      exact this
    have KX : Hid (∀ w', Below w.heap.size w w' → Calls Try.prog 118 #[.agg #[.slice (some ⟨b2, 0, none⟩) sb.length sb.length, .slice (some ⟨b3, 0, none⟩) db.length db.length]] w' fun e w'' => ∃ g g1 cap, e = .returned (.agg #[.slice (some ⟨g, 0, none⟩) (tb.length + 1) (tb.length + 1), .slice (some ⟨g1, 0, none⟩) db.length cap]) ∧ db.length ≤ cap ∧ cap ≤ 9223372036854775807 ∧ Rd w''.heap.size w'' (.slice (some ⟨g, 0, none⟩) (tb.length + 1) (tb.length + 1)) ((n : Int) :: tb) ∧ Rd w''.heap.size w'' (.slice (some ⟨g1, 0, none⟩) db.length cap) db ∧ Below w'.heap.size w' w'') := fun w' h => by
      have := l2Axes_sl b2 b3 sb db w' (by have := m2.2; omega) ((h2.keep h).up h.size) ((h3.keep h).up h.size)
      rw [hax] at this
      exact this
    have hdl : 0 < da.length := by rw [hxd]; simp
    have hdl' : (0 : Int) < (da.length : Int) := by omega
    have test : ((sa.length : Int) != 0) = false := by simp [hsa]
    have W1 := W0
    have c2 := W0.out.2.2.1.2.2.1
    have c3 := W0.out.2.2.1.2.2.2
    clear h0 h1 h2 h3 hres hsa hxd hax oka okb
    generalize da.length = lda at *
    generalize sa.length = lsa at *
    go_enter Try.func63, Try.ntmps63
    go_wp2_with fail
    refine (KX.out _ W0.out.1).mono ?_
    rintro e' w2 ⟨g, g1, k1, rfl, hk1, hk2, ha2, hd2, hb2⟩
    have F2 : Hid (∀ o, w2.frozen? ⟨w.heap.size + 1, o, none⟩ = false) := fun o => (hb2.frozen (p := ⟨w.heap.size + 1, o, none⟩) (by show w.heap.size + 1 < _; simp)).trans (by simp [go_sem])
    have W2 := hideP (W0.out.keep hb2)
    clear hb2 c2 c3 W1
    have c2 := W2.out.2.2.1.2.2.1
    have c3 := W2.out.2.2.1.2.2.2
    have fb := F2.out
    have RA : Hid (Rd ((w2.setCell ⟨w.heap.size + 1, 0, none⟩ (.slice (some ⟨g, 0, none⟩) (tb.length + 1) (tb.length + 1))).setCell ⟨w.heap.size + 1, 1, none⟩ (.slice (some ⟨g1, 0, none⟩) db.length k1)).heap.size ((w2.setCell ⟨w.heap.size + 1, 0, none⟩ (.slice (some ⟨g, 0, none⟩) (tb.length + 1) (tb.length + 1))).setCell ⟨w.heap.size + 1, 1, none⟩ (.slice (some ⟨g1, 0, none⟩) db.length k1)) (.slice (some ⟨g, 0, none⟩) (tb.length + 1) (tb.length + 1)) ((n : Int) :: tb)) := by
      have ha' : Rd w2.heap.size w2 (.slice (some ⟨g, 0, none⟩) ((n : Int) :: tb).length (tb.length + 1)) ((n : Int) :: tb) := ha2
      have gne := (rd_ne ha' c2).resolve_left (by simp)
      have := (ha2.aside gne 0 (.slice (some ⟨g, 0, none⟩) (tb.length + 1) (tb.length + 1))).aside gne 1 (.slice (some ⟨g1, 0, none⟩) db.length k1)
      show Rd _ _ _ _
      simpa using this
    have RB : Hid (Rd ((w2.setCell ⟨w.heap.size + 1, 0, none⟩ (.slice (some ⟨g, 0, none⟩) (tb.length + 1) (tb.length + 1))).setCell ⟨w.heap.size + 1, 1, none⟩ (.slice (some ⟨g1, 0, none⟩) db.length k1)).heap.size ((w2.setCell ⟨w.heap.size + 1, 0, none⟩ (.slice (some ⟨g, 0, none⟩) (tb.length + 1) (tb.length + 1))).setCell ⟨w.heap.size + 1, 1, none⟩ (.slice (some ⟨g1, 0, none⟩) db.length k1)) (.slice (some ⟨g1, 0, none⟩) db.length k1) db) := by
      show Rd _ _ _ _
      rcases rd_ne hd2 c2 with h0 | gne
      · rw [h0]
        exact rd_zero _ _ _ _ _ h0
      · have := (hd2.aside gne 0 (.slice (some ⟨g, 0, none⟩) (tb.length + 1) (tb.length + 1))).aside gne 1 (.slice (some ⟨g1, 0, none⟩) db.length k1)
        simpa using this
    have B03 : Hid (Below w.heap.size w ((w2.setCell ⟨w.heap.size + 1, 0, none⟩ (.slice (some ⟨g, 0, none⟩) (tb.length + 1) (tb.length + 1))).setCell ⟨w.heap.size + 1, 1, none⟩ (.slice (some ⟨g1, 0, none⟩) db.length k1))) := (W2.out.1.setCell (by simp) _).setCell (by simp) _
    have P3 : Hid (((w2.setCell ⟨w.heap.size + 1, 0, none⟩ (.slice (some ⟨g, 0, none⟩) (tb.length + 1) (tb.length + 1))).setCell ⟨w.heap.size + 1, 1, none⟩ (.slice (some ⟨g1, 0, none⟩) db.length k1)).cell? ⟨w.heap.size, 1, none⟩ = some (.slice (some ⟨b1, 0, none⟩) lda lda) ∧ ((w2.setCell ⟨w.heap.size + 1, 0, none⟩ (.slice (some ⟨g, 0, none⟩) (tb.length + 1) (tb.length + 1))).setCell ⟨w.heap.size + 1, 1, none⟩ (.slice (some ⟨g1, 0, none⟩) db.length k1)).cell? ⟨w.heap.size + 1, 0, none⟩ = some (.slice (some ⟨g, 0, none⟩) (tb.length + 1) (tb.length + 1)) ∧ ((w2.setCell ⟨w.heap.size + 1, 0, none⟩ (.slice (some ⟨g, 0, none⟩) (tb.length + 1) (tb.length + 1))).setCell ⟨w.heap.size + 1, 1, none⟩ (.slice (some ⟨g1, 0, none⟩) db.length k1)).cell? ⟨w.heap.size + 1, 1, none⟩ = some (.slice (some ⟨g1, 0, none⟩) db.length k1)) := by
      have q1 := W2.out.2.2.1.2.1
      exact ⟨by simp [go_sem, q1], by simp [go_sem, c2], by simp [go_sem, c3]⟩
    have R3 : Hid (((w2.setCell ⟨w.heap.size + 1, 0, none⟩ (.slice (some ⟨g, 0, none⟩) (tb.length + 1) (tb.length + 1))).setCell ⟨w.heap.size + 1, 1, none⟩ (.slice (some ⟨g1, 0, none⟩) db.length k1)).cell? ⟨w.heap.size + 1 + 1, 0, none⟩ = some (.slice none 0 0) ∧ ((w2.setCell ⟨w.heap.size + 1, 0, none⟩ (.slice (some ⟨g, 0, none⟩) (tb.length + 1) (tb.length + 1))).setCell ⟨w.heap.size + 1, 1, none⟩ (.slice (some ⟨g1, 0, none⟩) db.length k1)).cell? ⟨w.heap.size + 1 + 1, 1, none⟩ = some (.slice none 0 0) ∧ ∀ o, ((w2.setCell ⟨w.heap.size + 1, 0, none⟩ (.slice (some ⟨g, 0, none⟩) (tb.length + 1) (tb.length + 1))).setCell ⟨w.heap.size + 1, 1, none⟩ (.slice (some ⟨g1, 0, none⟩) db.length k1)).frozen? ⟨w.heap.size + 1 + 1, o, none⟩ = false) := by
      obtain ⟨q1, q2, q3⟩ := W2.out.2.2.2.1
      exact ⟨by simp [go_sem, q1], by simp [go_sem, q2], fun o => by simp [go_sem, q3]⟩
    have hs2 := W2.out.2.1
    have hs3 : w.heap.size + 1 + 1 < ((w2.setCell ⟨w.heap.size + 1, 0, none⟩ (.slice (some ⟨g, 0, none⟩) (tb.length + 1) (tb.length + 1))).setCell ⟨w.heap.size + 1, 1, none⟩ (.slice (some ⟨g1, 0, none⟩) db.length k1)).heap.size := by simp; omega
    go_upto_region 4 with fail
    clear c2 c3 fb F2 W0 W2 KX ha2 hd2 hs2
    generalize ((w2.setCell ⟨w.heap.size + 1, 0, none⟩ (.slice (some ⟨g, 0, none⟩) (tb.length + 1) (tb.length + 1))).setCell ⟨w.heap.size + 1, 1, none⟩ (.slice (some ⟨g1, 0, none⟩) db.length k1)) = w3 at *
    have PX : Hid (∀ W', Below w3.heap.size w3 W' → (W'.cell? ⟨w.heap.size, 1, none⟩ = some (.slice (some ⟨b1, 0, none⟩) lda lda) ∧ W'.cell? ⟨w.heap.size + 1, 0, none⟩ = some (.slice (some ⟨g, 0, none⟩) (tb.length + 1) (tb.length + 1)) ∧ W'.cell? ⟨w.heap.size + 1, 1, none⟩ = some (.slice (some ⟨g1, 0, none⟩) db.length k1)) ∧ (W'.cell? ⟨w.heap.size + 1 + 1, 0, none⟩ = some (.slice none 0 0) ∧ W'.cell? ⟨w.heap.size + 1 + 1, 1, none⟩ = some (.slice none 0 0) ∧ ∀ o, W'.frozen? ⟨w.heap.size + 1 + 1, o, none⟩ = false) ∧ Below w.heap.size w W') := fun W' k => by
      have ks := k.size
      exact ⟨⟨(k.cell (p := ⟨w.heap.size, 1, none⟩) (by show w.heap.size < _; omega)).trans P3.out.1, (k.cell (p := ⟨w.heap.size + 1, 0, none⟩) (by show w.heap.size + 1 < _; omega)).trans P3.out.2.1, (k.cell (p := ⟨w.heap.size + 1, 1, none⟩) (by show w.heap.size + 1 < _; omega)).trans P3.out.2.2⟩,
        ⟨(k.cell (p := ⟨w.heap.size + 1 + 1, 0, none⟩) (by show w.heap.size + 1 + 1 < _; omega)).trans R3.out.1, (k.cell (p := ⟨w.heap.size + 1 + 1, 1, none⟩) (by show w.heap.size + 1 + 1 < _; omega)).trans R3.out.2.1, fun o => (k.frozen (p := ⟨w.heap.size + 1 + 1, o, none⟩) (by show w.heap.size + 1 + 1 < _; omega)).trans (R3.out.2.2 o)⟩, B03.out.trans (k.mono (by omega))⟩
    have ca := P3.out.1
    have cb := P3.out.2.1
    have cd := P3.out.2.2
    have cx : w3.cell? ⟨b1, 0, none⟩ = some (.int .i64 x) := (B03.out.cell (p := ⟨b1, 0, none⟩) CX.out.1).trans CX.out.2
    have cg : w3.cell? ⟨g, 0, none⟩ = some (.int .i64 (n : Int)) := (rd_head RA.out).2
    have hxl : -3000000000 ≤ x := hx2.1
    have hxu : x ≤ 3000000000 := hx2.2
    have hnu : n ≤ 1000 := by omega
    have hbl := m2.1
    have hld := m2.2
    clear P3 R3 CX hb
    by_cases hx : x < 0
    · have efi : (Pl.dropF x n).toNat = 0 := by unfold Pl.dropF; rw [if_pos hx]; rfl
      have een : (Pl.dropE x n).toNat = m := by unfold Pl.dropE; rw [if_pos hx, hgo]; omega
      have hx1 : decide ((n : Int) ≤ x) = false := by rw [decide_eq_false_iff_not]; omega
      by_cases hy : (n : Int) ≤ -x
      · have m0 : m = 0 := by unfold Pl.gone at hgo; omega
        have KSP : ∀ W', Below w3.heap.size w3 W' → Calls Try.prog 119 #[.agg #[.slice (some ⟨g, 0, none⟩) (tb.length + 1) (tb.length + 1), .slice (some ⟨g1, 0, none⟩) db.length k1], .int .i64 (0), .int .i64 (0)] W' (FPost W' c S D) := fun W' hb => by
          have hm : (m : Int) = (n : Int) - (go : Int) := by omega
          have := l2Span_any g g1 k1 n tb db (0) m W' ((RA.out.keep hb).up hb.size) ((RB.out.keep hb).up hb.size) hk1 hk2 (by omega) (by omega) (by omega) okx TP hTP c S D (by
            rw [hm, if_pos (Pl.fits_less fitn (by omega) (by omega)), Pl.span_in db TP n (0) 0 m (by omega) (by omega), ← e]
            congr 2
            rw [efi, een, ← Nat.sub_mul]
            first | rfl | (rw [← hm0]) | (congr 1; congr 1; omega) | (congr 1; omega) | (simp; omega) | simp)
          rw [show (0) + (m : Int) = (0) by omega] at this
          exact this
        clear hx
        have KS : Hid (∀ W', Below w3.heap.size w3 W' → Calls Try.prog 119 #[.agg #[.slice (some ⟨g, 0, none⟩) (tb.length + 1) (tb.length + 1), .slice (some ⟨g1, 0, none⟩) db.length k1], .int .i64 (0), .int .i64 (0)] W' (FPost W' c S D)) := fun W' hb => KSP W' hb
        clear KSP
        try clear e
        try clear eW
        try clear hW
        try clear hgo
        try clear hm0
        try clear efi
        try clear een
        try clear em
        try clear ego
        try clear m0
        clear okx fitn hTP hbb hx2 hnr hk1 hk2 m2
        go_wp2_with fail
        refine (KS.out w3 (Below.refl _ _)).mono ?_
        rintro e w4 ⟨hb4, u0, u1, rfl, res⟩
        have Z4 := hideP (PX.out w4 hb4)
        have hs4 := hb4.size
        have R4 := hideP res
        obtain ⟨x0', y0, e0⟩ := res.1.form
        obtain ⟨x1', y1, e1⟩ := res.2.1.form
        subst e0
        subst e1
        clear res hb4 ca cb cd cg cx
        have r0 := Z4.out.2.1.1
        have r1 := Z4.out.2.1.2.1
        have f2 := Z4.out.2.1.2.2
        go_wp2_with fail
        refine bodyPost_ret (v := .tuple #[.agg #[.slice x0' S.length y0, .slice x1' D.length y1], .int .i64 c]) (by simp [results, Try.results63, go_sem, r0, r1]) rfl ⟨(Z4.out.2.2.setCell (by simp; omega) _).setCell (by simp; omega) _, _, _, rfl, ?_, ?_, R4.out.2.2⟩
        · exact Own.base (Own.store (Own.store R4.out.1 (by omega) _) (by omega) _) (by omega)
        · exact Own.base (Own.store (Own.store R4.out.2.1 (by omega) _) (by omega) _) (by omega)
      · have hy1 : decide ((n : Int) ≤ -x) = false := by rw [decide_eq_false_iff_not]; exact hy
        have em : (n : Int) + x = (m : Int) := by unfold Pl.gone at hgo; omega
        have KSP : ∀ W', Below w3.heap.size w3 W' → Calls Try.prog 119 #[.agg #[.slice (some ⟨g, 0, none⟩) (tb.length + 1) (tb.length + 1), .slice (some ⟨g1, 0, none⟩) db.length k1], .int .i64 (0), .int .i64 ((n : Int) + x)] W' (FPost W' c S D) := fun W' hb => by
          have hm : (m : Int) = (n : Int) - (go : Int) := by omega
          have := l2Span_any g g1 k1 n tb db (0) m W' ((RA.out.keep hb).up hb.size) ((RB.out.keep hb).up hb.size) hk1 hk2 (by omega) (by omega) (by omega) okx TP hTP c S D (by
            rw [hm, if_pos (Pl.fits_less fitn (by omega) (by omega)), Pl.span_in db TP n (0) 0 m (by omega) (by omega), ← e]
            congr 2
            rw [efi, een, ← Nat.sub_mul]
            first | rfl | (rw [← hm0]) | (congr 1; congr 1; omega) | (congr 1; omega) | (simp; omega) | simp)
          rw [show (0) + (m : Int) = ((n : Int) + x) by omega] at this
          exact this
        clear hy
        have KS : Hid (∀ W', Below w3.heap.size w3 W' → Calls Try.prog 119 #[.agg #[.slice (some ⟨g, 0, none⟩) (tb.length + 1) (tb.length + 1), .slice (some ⟨g1, 0, none⟩) db.length k1], .int .i64 (0), .int .i64 ((n : Int) + x)] W' (FPost W' c S D)) := fun W' hb => KSP W' hb
        clear KSP
        try clear e
        try clear eW
        try clear hW
        try clear hgo
        try clear hm0
        try clear efi
        try clear een
        try clear em
        try clear ego
        try clear m0
        clear okx fitn hTP hbb hx2 hnr hk1 hk2 m2
        go_wp2_with fail
        refine (KS.out w3 (Below.refl _ _)).mono ?_
        rintro e w4 ⟨hb4, u0, u1, rfl, res⟩
        have Z4 := hideP (PX.out w4 hb4)
        have hs4 := hb4.size
        have R4 := hideP res
        obtain ⟨x0', y0, e0⟩ := res.1.form
        obtain ⟨x1', y1, e1⟩ := res.2.1.form
        subst e0
        subst e1
        clear res hb4 ca cb cd cg cx
        have r0 := Z4.out.2.1.1
        have r1 := Z4.out.2.1.2.1
        have f2 := Z4.out.2.1.2.2
        go_wp2_with fail
        refine bodyPost_ret (v := .tuple #[.agg #[.slice x0' S.length y0, .slice x1' D.length y1], .int .i64 c]) (by simp [results, Try.results63, go_sem, r0, r1]) rfl ⟨(Z4.out.2.2.setCell (by simp; omega) _).setCell (by simp; omega) _, _, _, rfl, ?_, ?_, R4.out.2.2⟩
        · exact Own.base (Own.store (Own.store R4.out.1 (by omega) _) (by omega) _) (by omega)
        · exact Own.base (Own.store (Own.store R4.out.2.1 (by omega) _) (by omega) _) (by omega)
    · have efi : (Pl.dropF x n).toNat = go := by unfold Pl.dropF; rw [if_neg hx, hgo]; rfl
      have een : (Pl.dropE x n).toNat = n := by unfold Pl.dropE; rw [if_neg hx]; rfl
      have hx1 : decide (x < 0) = false := by rw [decide_eq_false_iff_not]; exact hx
      by_cases hy : (n : Int) ≤ x
      · have m0 : m = 0 := by unfold Pl.gone at hgo; omega
        have KSP : ∀ W', Below w3.heap.size w3 W' → Calls Try.prog 119 #[.agg #[.slice (some ⟨g, 0, none⟩) (tb.length + 1) (tb.length + 1), .slice (some ⟨g1, 0, none⟩) db.length k1], .int .i64 0, .int .i64 0] W' (FPost W' c S D) := fun W' hb => by
          have hm : (m : Int) = (n : Int) - (go : Int) := by omega
          have := l2Span_any g g1 k1 n tb db 0 m W' ((RA.out.keep hb).up hb.size) ((RB.out.keep hb).up hb.size) hk1 hk2 (by omega) (by omega) (by omega) okx TP hTP c S D (by
            rw [hm, if_pos (Pl.fits_less fitn (by omega) (by omega)), Pl.span_in db TP n 0 0 m (by omega) (by omega), ← e, efi, een, m0, show n = go by unfold Pl.gone at hgo; omega]
            simp)
          rw [m0] at this
          exact this
        clear hx
        have KS : Hid (∀ W', Below w3.heap.size w3 W' → Calls Try.prog 119 #[.agg #[.slice (some ⟨g, 0, none⟩) (tb.length + 1) (tb.length + 1), .slice (some ⟨g1, 0, none⟩) db.length k1], .int .i64 (0), .int .i64 (0)] W' (FPost W' c S D)) := fun W' hb => KSP W' hb
        clear KSP
        try clear e
        try clear eW
        try clear hW
        try clear hgo
        try clear hm0
        try clear efi
        try clear een
        try clear em
        try clear ego
        try clear m0
        clear okx fitn hTP hbb hx2 hnr hk1 hk2 m2
        go_wp2_with fail
        refine (KS.out w3 (Below.refl _ _)).mono ?_
        rintro e w4 ⟨hb4, u0, u1, rfl, res⟩
        have Z4 := hideP (PX.out w4 hb4)
        have hs4 := hb4.size
        have R4 := hideP res
        obtain ⟨x0', y0, e0⟩ := res.1.form
        obtain ⟨x1', y1, e1⟩ := res.2.1.form
        subst e0
        subst e1
        clear res hb4 ca cb cd cg cx
        have r0 := Z4.out.2.1.1
        have r1 := Z4.out.2.1.2.1
        have f2 := Z4.out.2.1.2.2
        go_wp2_with fail
        refine bodyPost_ret (v := .tuple #[.agg #[.slice x0' S.length y0, .slice x1' D.length y1], .int .i64 c]) (by simp [results, Try.results63, go_sem, r0, r1]) rfl ⟨(Z4.out.2.2.setCell (by simp; omega) _).setCell (by simp; omega) _, _, _, rfl, ?_, ?_, R4.out.2.2⟩
        · exact Own.base (Own.store (Own.store R4.out.1 (by omega) _) (by omega) _) (by omega)
        · exact Own.base (Own.store (Own.store R4.out.2.1 (by omega) _) (by omega) _) (by omega)
      · have hy1 : decide ((n : Int) ≤ x) = false := by rw [decide_eq_false_iff_not]; exact hy
        have hy2 : decide ((n : Int) ≤ -x) = false ∨ (n : Int) ≤ -x := by by_cases h : (n : Int) ≤ -x; exact .inr h; exact .inl (by rw [decide_eq_false_iff_not]; exact h)
        have hyx : decide ((n : Int) ≤ -x) = false := by rw [decide_eq_false_iff_not]; omega
        have ego : (go : Int) = x := by unfold Pl.gone at hgo; omega
        clear hy2
        have KSP : ∀ W', Below w3.heap.size w3 W' → Calls Try.prog 119 #[.agg #[.slice (some ⟨g, 0, none⟩) (tb.length + 1) (tb.length + 1), .slice (some ⟨g1, 0, none⟩) db.length k1], .int .i64 (x), .int .i64 ((n : Int))] W' (FPost W' c S D) := fun W' hb => by
          have hm : (m : Int) = (n : Int) - (go : Int) := by omega
          have := l2Span_any g g1 k1 n tb db (x) m W' ((RA.out.keep hb).up hb.size) ((RB.out.keep hb).up hb.size) hk1 hk2 (by omega) (by omega) (by omega) okx TP hTP c S D (by
            rw [hm, if_pos (Pl.fits_less fitn (by omega) (by omega)), Pl.span_in db TP n (x) go m (by omega) (by omega), ← e]
            congr 2
            rw [efi, een, ← Nat.sub_mul]
            first | rfl | (rw [← hm0]) | (congr 1; congr 1; omega) | (congr 1; omega) | (simp; omega) | simp)
          rw [show (x) + (m : Int) = ((n : Int)) by omega] at this
          exact this
        clear hx hy
        have KS : Hid (∀ W', Below w3.heap.size w3 W' → Calls Try.prog 119 #[.agg #[.slice (some ⟨g, 0, none⟩) (tb.length + 1) (tb.length + 1), .slice (some ⟨g1, 0, none⟩) db.length k1], .int .i64 (x), .int .i64 ((n : Int))] W' (FPost W' c S D)) := fun W' hb => KSP W' hb
        clear KSP
        try clear e
        try clear eW
        try clear hW
        try clear hgo
        try clear hm0
        try clear efi
        try clear een
        try clear em
        try clear ego
        try clear m0
        clear okx fitn hTP hbb hx2 hnr hk1 hk2 m2
        go_wp2_with fail
        refine (KS.out w3 (Below.refl _ _)).mono ?_
        rintro e w4 ⟨hb4, u0, u1, rfl, res⟩
        have Z4 := hideP (PX.out w4 hb4)
        have hs4 := hb4.size
        have R4 := hideP res
        obtain ⟨x0', y0, e0⟩ := res.1.form
        obtain ⟨x1', y1, e1⟩ := res.2.1.form
        subst e0
        subst e1
        clear res hb4 ca cb cd cg cx
        have r0 := Z4.out.2.1.1
        have r1 := Z4.out.2.1.2.1
        have f2 := Z4.out.2.1.2.2
        go_wp2_with fail
        refine bodyPost_ret (v := .tuple #[.agg #[.slice x0' S.length y0, .slice x1' D.length y1], .int .i64 c]) (by simp [results, Try.results63, go_sem, r0, r1]) rfl ⟨(Z4.out.2.2.setCell (by simp; omega) _).setCell (by simp; omega) _, _, _, rfl, ?_, ?_, R4.out.2.2⟩
        · exact Own.base (Own.store (Own.store R4.out.1 (by omega) _) (by omega) _) (by omega)
        · exact Own.base (Own.store (Own.store R4.out.2.1 (by omega) _) (by omega) _) (by omega)
  · rw [if_neg hsa] at e
    simp only [Prod.mk.injEq] at e
    obtain ⟨rfl, rfl, rfl⟩ := e
    have test : ((sa.length : Int) != 0) = true := by simp [hsa]
    clear h0 h1 h2 h3 oka okb hres hsa
    generalize sa.length = la at *
    go_enter Try.func63, Try.ntmps63
    go_wp2_with fail
    refine bodyPost_ret (v := .tuple #[.agg #[.slice none 0 0, .slice none 0 0], .int .i64 2]) (by simp [results, Try.results63, go_sem]) rfl ⟨W0.out.1, _, _, rfl, Own.nil _ _, Own.nil _ _, .inl rfl⟩

end Go.Proofs.Ytmobjomebmipdaa
