import Derived.Test.YtmobjomebmipdaaDyA
import Derived.Test.YtmobjomebmipdaaDy3
import Derived.Test.YtmobjomebmipdaaSpec1
import Derived.Test.YtmobjomebmipdaaTwoR
import Derived.Deep.DeepCutAuto
namespace Go.Proofs.Ytmobjomebmipdaa
open Go.RowKit
set_option linter.unusedVariables false

namespace Pl
theorem axes_ok {sh da : List Int} (h : okB sh da = true) : okB (axesS sh da) da = true := by
  unfold axesS
  split
  · rename_i h0
    have h1 := ok_one h h0
    have hv : ∀ x ∈ da, -3000000000 ≤ x ∧ x ≤ 3000000000 := fun x hx => ok_cell h hx
    match da, h1, hv with
    | [x], _, hv =>
      have := hv x (by simp)
      simp [okB, fitsB, baseB, inR, prodC, stepC, valB]
      exact this
  · exact h
theorem axes_cons (sh da : List Int) : ∃ n tb, axesS sh da = n :: tb := by
  unfold axesS
  split
  · exact ⟨_, _, rfl⟩
  · rename_i h0
    match sh, h0 with
    | x :: l, _ => exact ⟨x, l, rfl⟩
/-- what is left of the rows: how many are dropped, the first row, the one behind the last -/
def gone (x n : Int) : Int := min (max x (-x)) n
def dropF (x n : Int) : Int := if x < 0 then 0 else gone x n
def dropE (x n : Int) : Int := if x < 0 then n - gone x n else n
def dropM (sa da sb db : List Int) : Int × List Int × List Int :=
  if sa.length = 0 then (0, ((axesS sb db).getD 0 0 - gone (da.getD 0 0) ((axesS sb db).getD 0 0)) :: (axesS sb db).tail,
    (db.drop ((dropF (da.getD 0 0) ((axesS sb db).getD 0 0)).toNat * (prodP (axesS sb db).tail).toNat)).take ((dropE (da.getD 0 0) ((axesS sb db).getD 0 0)).toNat * (prodP (axesS sb db).tail).toNat - (dropF (da.getD 0 0) ((axesS sb db).getD 0 0)).toNat * (prodP (axesS sb db).tail).toNat))
  else (2, [], [])
end Pl

theorem Rd.aside {B g o c A : Nat} {w : World} {m : Nat} {zs : List Int} (h : Rd B w (.slice (some ⟨g, o, none⟩) m c) zs) (hn : ¬ g = A) (i : Nat) (v : Value) : Rd B (w.setCell ⟨A, i, none⟩ v) (.slice (some ⟨g, o, none⟩) m c) zs := by
  obtain ⟨ao, cap, e, h⟩ := h
  refine ⟨ao, cap, e, ?_⟩
  rcases h with h | ⟨b, off, h1, h2, h3⟩
  · exact .inl h
  · refine .inr ⟨b, off, h1, h2, fun j hj => ?_⟩
    have eb : b = g := by
      simp only [Value.slice.injEq] at e
      have := e.1.trans h2
      simp only [Option.some.injEq, Addr.mk.injEq] at this
      exact this.1.symm
    rw [← h3 j hj]
    exact World.cell?_of_block (heap_setCell_other _ _ _ _ (by rw [eb]; exact hn))

set_option maxRecDepth 100000 in
set_option maxHeartbeats 8000000 in
/-- impl.drop by a scalar -/
theorem drop_core (b0 b1 b2 b3 : Nat) (sa da sb db tb : List Int) (x : Int) (n : Nat) (w : World)
    (h0 : Rd w.heap.size w (.slice (some ⟨b0, 0, none⟩) sa.length sa.length) sa) (h1 : Rd w.heap.size w (.slice (some ⟨b1, 0, none⟩) da.length da.length) da) (h2 : Rd w.heap.size w (.slice (some ⟨b2, 0, none⟩) sb.length sb.length) sb) (h3 : Rd w.heap.size w (.slice (some ⟨b3, 0, none⟩) db.length db.length) db)
    (hsa : sa.length = 0) (hda : da = [x]) (hax : Pl.axesS sb db = (n : Int) :: tb) (x0 : -3000000000 ≤ x) (x1 : x ≤ 3000000000) (hn1 : n ≤ 1000) (htb : tb.length ≤ 2) (hbb : Pl.baseB tb = true) (hle : db.length ≤ 1000)
    (TP : Nat) (hTP : Pl.prodP tb = TP) (hrows : n * TP ≤ db.length ∨ n = 0)
    (go fi en : Nat) (hgo : Pl.gone x n = go) (hfi : Pl.dropF x n = fi) (hen : Pl.dropE x n = en) (hgn : go ≤ n) (hfe : fi ≤ en) (hend : en * TP ≤ db.length) :
    Calls Try.prog 123 #[.agg #[.slice (some ⟨b0, 0, none⟩) sa.length sa.length, .slice (some ⟨b1, 0, none⟩) da.length da.length], .agg #[.slice (some ⟨b2, 0, none⟩) sb.length sb.length, .slice (some ⟨b3, 0, none⟩) db.length db.length]] w (KPost w 0 (((n : Int) - (go : Int)) :: tb) ((db.drop (fi * TP)).take (en * TP - fi * TP))) := by
  have W0 := hideP (wid_new w h0 h1 h2 h3 27 27 27)
  have KA : Hid (∀ w', Calls Try.prog 91 #[.agg #[.slice (some ⟨b0, 0, none⟩) sa.length sa.length, .slice (some ⟨b1, 0, none⟩) da.length da.length]] w' fun e w'' => e = .returned (.bool true) ∧ Below w'.heap.size w' w'') := fun w' => by
    have := isScalar_any _ (.slice (some ⟨b1, 0, none⟩) da.length da.length) sa _ w' w h0
    rw [decide_eq_true hsa] at this
    exact this
  have KW : Hid (∀ w', Below w.heap.size w w' → Calls Try.prog 147 #[.agg #[.slice (some ⟨b2, 0, none⟩) sb.length sb.length, .slice (some ⟨b3, 0, none⟩) db.length db.length]] w' fun e w'' => ∃ g, e = .returned (.agg #[.slice (some ⟨g, 0, none⟩) (tb.length + 1) (tb.length + 1), .slice (some ⟨b3, 0, none⟩) db.length db.length]) ∧ Rd w''.heap.size w'' (.slice (some ⟨g, 0, none⟩) (tb.length + 1) (tb.length + 1)) ((n : Int) :: tb) ∧ Below w'.heap.size w' w'' ∧ (g < w.heap.size ∨ w'.heap.size ≤ g)) := fun w' h => by
    have := withAxes_sl b2 b3 sb db w' ((h2.keep h).up h.size) ((h3.keep h).up h.size)
    rw [hax] at this
    refine this.mono ?_
    rintro e w'' ⟨g, rfl, h1', h2', h3'⟩
    refine ⟨g, rfl, h1', h2', ?_⟩
    rcases h3' with ⟨rfl, hne⟩ | h3'
    · exact .inl (rd_cell h2 (i := 0) (by omega)).1
    · exact .inr h3'
  have KAB := hideP (fun w' => cellAbs_any x w' x0 x1)
  have CX : Hid (b1 < w.heap.size ∧ w.cell? ⟨b1, 0, none⟩ = some (.int .i64 x)) := by
    have := rd_cell h1 (i := 0) (by rw [hda]; simp)
    rw [hda] at this
    exact this
  have hdl : da.length = 1 := by rw [hda]; rfl
  have H3 := hideP h3
  clear h0 h1 h2 h3 hsa hda hax
  have hl0 : 0 < da.length := by omega
  clear hdl
  generalize da.length = lda at *
  generalize sa.length = lsa at *
  go_enter Try.func123, Try.ntmps123
  go_wp2_with fail
  refine (KA.out _).mono ?_
  rintro e w1 ⟨rfl, hb1⟩
  have W1 := hideP (W0.out.keep hb1)
  have F1 : Hid (∀ o, w1.frozen? ⟨w.heap.size + 1, o, none⟩ = false) := fun o => (hb1.frozen (p := ⟨w.heap.size + 1, o, none⟩) (by show w.heap.size + 1 < _; simp)).trans (by simp [go_sem])
  have hs1 := W1.out.2.1
  clear hb1 W0
  have c2 := W1.out.2.2.1.2.2.1
  have c3 := W1.out.2.2.1.2.2.2
  go_wp2_with (go_at_call 83; refine (refuse_no _ _).mono ?_; rintro e w1 ⟨rfl, rfl⟩)
  clear c2 c3
  refine (KW.out _ W1.out.1).mono ?_
  rintro e w2 ⟨g, rfl, hax2, hb2, hloc⟩
  have W2 := hideP (W1.out.keep hb2)
  have F2 : Hid (∀ o, w2.frozen? ⟨w.heap.size + 1, o, none⟩ = false) := fun o => (hb2.frozen (p := ⟨w.heap.size + 1, o, none⟩) (by show w.heap.size + 1 < _; omega)).trans (F1.out o)
  have hs2 := W2.out.2.1
  have HG := hideP hax2
  clear hb2 hax2
  have c2 := W2.out.2.2.1.2.2.1
  have c3 := W2.out.2.2.1.2.2.2
  have fb := F2.out
  have gne : ¬ g = w.heap.size + 1 := by omega
  have RG3 : Hid (Rd ((w2.setCell ⟨w.heap.size + 1, 0, none⟩ (.slice (some ⟨g, 0, none⟩) (tb.length + 1) (tb.length + 1))).setCell ⟨w.heap.size + 1, 1, none⟩ (.slice (some ⟨b3, 0, none⟩) db.length db.length)).heap.size ((w2.setCell ⟨w.heap.size + 1, 0, none⟩ (.slice (some ⟨g, 0, none⟩) (tb.length + 1) (tb.length + 1))).setCell ⟨w.heap.size + 1, 1, none⟩ (.slice (some ⟨b3, 0, none⟩) db.length db.length)) (.slice (some ⟨g, 0, none⟩) (tb.length + 1) (tb.length + 1)) ((n : Int) :: tb)) := by
    have := (HG.out.aside gne 0 (.slice (some ⟨g, 0, none⟩) (tb.length + 1) (tb.length + 1))).aside gne 1 (.slice (some ⟨b3, 0, none⟩) db.length db.length)
    show Rd _ _ _ _
    simpa using this
  have B03 : Hid (Below w.heap.size w ((w2.setCell ⟨w.heap.size + 1, 0, none⟩ (.slice (some ⟨g, 0, none⟩) (tb.length + 1) (tb.length + 1))).setCell ⟨w.heap.size + 1, 1, none⟩ (.slice (some ⟨b3, 0, none⟩) db.length db.length))) := (W2.out.1.setCell (by simp) _).setCell (by simp) _
  have P3 : Hid (((w2.setCell ⟨w.heap.size + 1, 0, none⟩ (.slice (some ⟨g, 0, none⟩) (tb.length + 1) (tb.length + 1))).setCell ⟨w.heap.size + 1, 1, none⟩ (.slice (some ⟨b3, 0, none⟩) db.length db.length)).cell? ⟨w.heap.size, 1, none⟩ = some (.slice (some ⟨b1, 0, none⟩) lda lda) ∧ ((w2.setCell ⟨w.heap.size + 1, 0, none⟩ (.slice (some ⟨g, 0, none⟩) (tb.length + 1) (tb.length + 1))).setCell ⟨w.heap.size + 1, 1, none⟩ (.slice (some ⟨b3, 0, none⟩) db.length db.length)).cell? ⟨w.heap.size + 1, 0, none⟩ = some (.slice (some ⟨g, 0, none⟩) (tb.length + 1) (tb.length + 1)) ∧ ((w2.setCell ⟨w.heap.size + 1, 0, none⟩ (.slice (some ⟨g, 0, none⟩) (tb.length + 1) (tb.length + 1))).setCell ⟨w.heap.size + 1, 1, none⟩ (.slice (some ⟨b3, 0, none⟩) db.length db.length)).cell? ⟨w.heap.size + 1, 1, none⟩ = some (.slice (some ⟨b3, 0, none⟩) db.length db.length)) := by
    have q1 := W2.out.2.2.1.2.1
    exact ⟨by simp [go_sem, q1], by simp [go_sem, c2], by simp [go_sem, c3]⟩
  have R3 : Hid (((w2.setCell ⟨w.heap.size + 1, 0, none⟩ (.slice (some ⟨g, 0, none⟩) (tb.length + 1) (tb.length + 1))).setCell ⟨w.heap.size + 1, 1, none⟩ (.slice (some ⟨b3, 0, none⟩) db.length db.length)).cell? ⟨w.heap.size + 1 + 1, 0, none⟩ = some (.slice none 0 0) ∧ ((w2.setCell ⟨w.heap.size + 1, 0, none⟩ (.slice (some ⟨g, 0, none⟩) (tb.length + 1) (tb.length + 1))).setCell ⟨w.heap.size + 1, 1, none⟩ (.slice (some ⟨b3, 0, none⟩) db.length db.length)).cell? ⟨w.heap.size + 1 + 1, 1, none⟩ = some (.slice none 0 0) ∧ ∀ o, ((w2.setCell ⟨w.heap.size + 1, 0, none⟩ (.slice (some ⟨g, 0, none⟩) (tb.length + 1) (tb.length + 1))).setCell ⟨w.heap.size + 1, 1, none⟩ (.slice (some ⟨b3, 0, none⟩) db.length db.length)).frozen? ⟨w.heap.size + 1 + 1, o, none⟩ = false) := by
    obtain ⟨q1, q2, q3⟩ := W2.out.2.2.2.1
    exact ⟨by simp [go_sem, q1], by simp [go_sem, q2], fun o => by simp [go_sem, q3]⟩
  have hs3 : w.heap.size + 1 + 1 < ((w2.setCell ⟨w.heap.size + 1, 0, none⟩ (.slice (some ⟨g, 0, none⟩) (tb.length + 1) (tb.length + 1))).setCell ⟨w.heap.size + 1, 1, none⟩ (.slice (some ⟨b3, 0, none⟩) db.length db.length)).heap.size := by simp; omega
  go_upto_region 3 with fail
  clear c2 c3 fb F1 F2 W1 W2 HG KA KW hs1 hs2 hloc gne
  generalize ((w2.setCell ⟨w.heap.size + 1, 0, none⟩ (.slice (some ⟨g, 0, none⟩) (tb.length + 1) (tb.length + 1))).setCell ⟨w.heap.size + 1, 1, none⟩ (.slice (some ⟨b3, 0, none⟩) db.length db.length)) = w3 at *
  have ca := P3.out.1
  have cb := P3.out.2.1
  have cx : w3.cell? ⟨b1, 0, none⟩ = some (.int .i64 x) := (B03.out.cell (p := ⟨b1, 0, none⟩) CX.out.1).trans CX.out.2
  have cg : w3.cell? ⟨g, 0, none⟩ = some (.int .i64 (n : Int)) := (rd_head RG3.out).2
  go_wp2_with fail
  refine (KAB.out _).mono ?_
  rintro e w4 ⟨hb4, hor⟩
  rcases hor with ⟨_, rfl⟩ | ⟨h, _⟩
  · have B4 := hideP hb4
    clear hb4 ca cb cx cg
    have emin : (if (n : Int) < max x (-x) then (n : Int) else max x (-x)) = (go : Int) := by
      rw [← hgo]
      unfold Pl.gone
      split <;> omega
    go_upto_region 5 with fail
    clear emin
    obtain ⟨dd, hdd⟩ : ∃ dd : Nat, (n : Int) - (go : Int) = dd := ⟨n - go, by omega⟩
    rw [hdd]
    have A3 : Hid (∀ (W : World) o, Below W.heap.size W (W.alloc o)) := fun W o => (Below.refl _ _).alloc (Nat.le_refl _) _
    obtain ⟨o2, ho2⟩ : ∃ o2 : Nat, o2 = if tb.length = 0 then 0 else 1 := ⟨_, rfl⟩
    have HO2 := hideP ho2
    have KT : Hid (∀ w' v, Rd w'.heap.size w' v tb → Calls Try.prog 37 #[v] w' fun e w'' => e = .returned (.int .i64 (TP : Int)) ∧ w'' = w') := fun w' v h => by
      have := cellCount_any _ v tb w' hbb h
      rw [hTP] at this
      exact this
    have PX : Hid (∀ W, Below w4.heap.size w4 W → (W.cell? ⟨w.heap.size + 1, 0, none⟩ = some (.slice (some ⟨g, 0, none⟩) (tb.length + 1) (tb.length + 1)) ∧ W.cell? ⟨w.heap.size + 1, 1, none⟩ = some (.slice (some ⟨b3, 0, none⟩) db.length db.length)) ∧ (W.cell? ⟨w.heap.size + 1 + 1, 0, none⟩ = some (.slice none 0 0) ∧ W.cell? ⟨w.heap.size + 1 + 1, 1, none⟩ = some (.slice none 0 0) ∧ ∀ o, W.frozen? ⟨w.heap.size + 1 + 1, o, none⟩ = false) ∧ w.heap.size + 1 + 1 < W.heap.size ∧ W.cell? ⟨w.heap.size, 1, none⟩ = some (.slice (some ⟨b1, 0, none⟩) lda lda) ∧ Below w3.heap.size w3 W ∧ Below w.heap.size w W) := fun W hb => by
      have k : Below w3.heap.size w3 W := B4.out.trans (hb.mono B4.out.size)
      have ks := k.size
      exact ⟨⟨(k.cell (p := ⟨w.heap.size + 1, 0, none⟩) (by show w.heap.size + 1 < _; omega)).trans P3.out.2.1, (k.cell (p := ⟨w.heap.size + 1, 1, none⟩) (by show w.heap.size + 1 < _; omega)).trans P3.out.2.2⟩,
        ⟨(k.cell (p := ⟨w.heap.size + 1 + 1, 0, none⟩) (by show w.heap.size + 1 + 1 < _; omega)).trans R3.out.1, (k.cell (p := ⟨w.heap.size + 1 + 1, 1, none⟩) (by show w.heap.size + 1 + 1 < _; omega)).trans R3.out.2.1, fun o => (k.frozen (p := ⟨w.heap.size + 1 + 1, o, none⟩) (by show w.heap.size + 1 + 1 < _; omega)).trans (R3.out.2.2 o)⟩, by omega,
        (k.cell (p := ⟨w.heap.size, 1, none⟩) (by show w.heap.size < _; omega)).trans P3.out.1, k, B03.out.trans (k.mono (by omega))⟩
    have RT : Hid (∀ W, Below w4.heap.size w4 W → Rd W.heap.size W (.slice (some ⟨g, o2, none⟩) tb.length tb.length) tb) := fun W hb => by
      have k := (PX.out W hb).2.2.2.2.1
      exact rd_one ho2 ((RG3.out.keep k).up k.size)
    have KRW : Hid (∀ W, Below w.heap.size w W → Calls Try.prog 133 #[.slice (some ⟨b3, 0, none⟩) db.length db.length, .int .i64 (TP : Int), .int .i64 (fi : Int), .int .i64 (en : Int)] W fun e w'' => ∃ v, e = .returned v ∧ Rd w.heap.size W v ((db.drop (fi * TP)).take (en * TP - fi * TP)) ∧ w'' = W) := fun W hb => rows_any w.heap.size b3 0 db.length TP fi en db W (H3.out.keep hb) hfe hend (Nat.le_refl _) (by omega)
    have DL : ((db.drop (fi * TP)).take (en * TP - fi * TP)).length ≤ 1000 := by rw [List.length_take, List.length_drop]; omega
    clear ho2 P3 R3 B03 RG3 hbb hTP hrows KAB
    generalize (db.drop (fi * TP)).take (en * TP - fi * TP) = DD at *
    by_cases hx : x < 0
    · have efi : fi = 0 := by
        have := hfi
        unfold Pl.dropF at this
        rw [if_pos hx] at this
        omega
      have een : dd = en := by
        have := hen
        unfold Pl.dropE at this
        rw [if_pos hx, hgo, hdd] at this
        omega
      subst efi
      subst een
      clear hfi hen hgo
      generalize hlbt : tb.length = lb at *
      have HLT : Hid (tb.length = lb) := hlbt
      clear hlbt
      have cb := (PX.out w4 (Below.refl _ _)).1.1
      have ca := (PX.out w4 (Below.refl _ _)).2.2.2.1
      have cx : w4.cell? ⟨b1, 0, none⟩ = some (.int .i64 x) := ((PX.out w4 (Below.refl _ _)).2.2.2.2.2.cell (p := ⟨b1, 0, none⟩) CX.out.1).trans CX.out.2
      go_upto_region 8 with fail
      clear ca cx
      go_cut [9] (fun s9 wy => s9 = .int .i64 (TP : Int) ∧ wy = w4)
      case first =>
        by_cases ht : lb = 0
        · have RZ : Hid (Rd w4.heap.size w4 (.slice (some ⟨g, 0, none⟩) 0 0) tb) := rd_zero _ _ _ _ _ (HLT.out.trans ht)
          clear HLT HO2 PX RT
          subst ht
          go_wp2_with (go_at_call 37; refine (KT.out _ _ RZ.out).mono ?_; rintro e w4 ⟨rfl, rfl⟩)
          go_meet
          case rel => exact ⟨rfl, rfl⟩
        · have RZ : Hid (Rd w4.heap.size w4 (.slice (some ⟨g, 1, none⟩) lb lb) tb) := by
            have := RT.out w4 (Below.refl _ _)
            rw [HO2.out, if_neg ht] at this
            exact this
          go_wp2_with (go_at_call 37; refine (KT.out _ _ RZ.out).mono ?_; rintro e w4 ⟨rfl, rfl⟩)
          go_meet
          case rel => exact ⟨rfl, rfl⟩
      case rest =>
        obtain ⟨rfl, rfl⟩ := hcut
        rename World => w4
        clear cb
        have e0 := HLT.out
        subst e0
        have DR := hideP (show Below w4.heap.size w4 w4.drew from (Below.refl _ _).drew)
        have hSle : w.heap.size + 1 + 1 ≤ w4.heap.size := by have := (PX.out w4 (Below.refl _ _)).2.2.1; omega
        have LB : Hid (∀ w', Below (w.heap.size + 1 + 1) w4 w' → w'.cell? ⟨w.heap.size + 1, 0, none⟩ = some (.slice (some ⟨g, 0, none⟩) (tb.length + 1) (tb.length + 1)) ∧ w'.cell? ⟨w.heap.size + 1, 1, none⟩ = some (.slice (some ⟨b3, 0, none⟩) db.length db.length)) := fun w' h => ⟨(h.cell (p := ⟨w.heap.size + 1, 0, none⟩) (by show w.heap.size + 1 < _; omega)).trans (PX.out w4 (Below.refl _ _)).1.1, (h.cell (p := ⟨w.heap.size + 1, 1, none⟩) (by show w.heap.size + 1 < _; omega)).trans (PX.out w4 (Below.refl _ _)).1.2⟩
        go_wp2_with fail
        refine wp_region_held (S := fun w' => Below (w.heap.size + 1 + 1) w4 w') (by kernel_rfl) ?_
        change wpAnyH _ _ _ _ _ _ _ _ (World.drew _)
        generalize World.drew w4 = wd at DR ⊢
        refine wpAnyH_take (i := 0) (v := .int .i64 (n : Int)) rfl (by kernel_rfl) (by kernel_rfl) (by kernel_rfl) (fun _ _ _ h => h) (Or.inl ⟨by rfl, ?_⟩) (DR.out.mono hSle) ?_
        · intro w' hS
          clear hS
          go_simp
        refine wpAnyH_take (i := 1) (v := .int .i64 (go : Int)) rfl (by kernel_rfl) (by kernel_rfl) (by kernel_rfl) (fun _ _ _ h => h) (Or.inl ⟨by rfl, ?_⟩) (DR.out.mono hSle) ?_
        · intro w' hS
          clear hS
          go_simp
        refine wpAnyH_take (i := 2) (v := .int .i64 (dd : Int)) rfl (by kernel_rfl) (by kernel_rfl) (by kernel_rfl) (fun _ _ _ h => h) (Or.inl ⟨by rfl, ?_⟩) (DR.out.mono hSle) ?_
        · intro w' hS
          clear hS
          go_simp
          rw [IntKind.wrap_i64]
          omega
        refine wpAnyH_take (i := 4) (v := .pointer (some ⟨w.heap.size + 1, 0, none⟩)) rfl (by kernel_rfl) (by kernel_rfl) (by kernel_rfl) (fun _ _ _ h => h) (Or.inl ⟨by rfl, ?_⟩) (DR.out.mono hSle) ?_
        · intro w' hS
          clear hS
          go_simp
        refine wpAnyH_take (i := 5) (v := .slice (some ⟨g, 0, none⟩) (tb.length + 1) (tb.length + 1)) rfl (by kernel_rfl) (by kernel_rfl) (by kernel_rfl) (fun _ _ _ h => h) (Or.inl ⟨by rfl, ?_⟩) (DR.out.mono hSle) ?_
        · intro w' hS
          have := (LB.out w' hS).1
          clear hS
          go_simp
        refine wpAnyH_take (i := 6) (v := .slice (some ⟨g, o2, none⟩) tb.length tb.length) rfl (by kernel_rfl) (by kernel_rfl) (by kernel_rfl) (fun _ _ _ h => h) (Or.inl ⟨by rfl, fun w' _ => exec_lo1 (.tmp 46) (.const (.int .i64 1)) g tb.length o2 HO2.out (by kernel_rfl) (by kernel_rfl) (by kernel_rfl) w'⟩) (DR.out.mono hSle) ?_
        refine wpAnyH_take (i := 9) (v := .pointer (some ⟨w.heap.size + 1, 1, none⟩)) rfl (by kernel_rfl) (by kernel_rfl) (by kernel_rfl) (fun _ _ _ h => h) (Or.inl ⟨by rfl, ?_⟩) (DR.out.mono hSle) ?_
        · intro w' hS
          clear hS
          go_simp
        refine wpAnyH_take (i := 10) (v := .slice (some ⟨b3, 0, none⟩) db.length db.length) rfl (by kernel_rfl) (by kernel_rfl) (by kernel_rfl) (fun _ _ _ h => h) (Or.inl ⟨by rfl, ?_⟩) (DR.out.mono hSle) ?_
        · intro w' hS
          have := (LB.out w' hS).2
          clear hS
          go_simp
        refine wpAnyH_take (i := 11) (v := .int .i64 (TP : Int)) rfl (by kernel_rfl) (by kernel_rfl) (by kernel_rfl) (fun _ _ _ h => h) (Or.inl ⟨by rfl, ?_⟩) (DR.out.mono hSle) ?_
        · intro w' hS
          clear hS
          go_simp
        refine wpAnyH_take (i := 12) (v := .int .i64 0) rfl (by kernel_rfl) (by kernel_rfl) (by kernel_rfl) (fun _ _ _ h => h) (Or.inl ⟨by rfl, ?_⟩) (DR.out.mono hSle) ?_
        · intro w' hS
          clear hS
          go_simp
        refine wpAnyH_take (i := 13) (v := .int .i64 (dd : Int)) rfl (by kernel_rfl) (by kernel_rfl) (by kernel_rfl) (fun _ _ _ h => h) (Or.inl ⟨by rfl, ?_⟩) (DR.out.mono hSle) ?_
        · intro w' hS
          clear hS
          go_simp
        refine wpAnyH_ready (rs := [3]) (by kernel_rfl) (by simp) ?_
        refine AllReadyH.cons rfl (fun K hK => ?_) AllReadyH.nil
        go_simp
        have D1 := hideP (DR.out.trans ((A3.out wd (.cells #[.int .i64 (dd : Int)] 3)).mono DR.out.size))
        refine hK.out _ _ (D1.out.mono hSle) (fun _ => ?_)
        clear hK
        refine wpAnyH_ready (rs := [7]) (by kernel_rfl) (by simp) ?_
        refine AllReadyH.cons rfl (fun K hK => ?_) AllReadyH.nil
        go_simp
        have D2 := hideP (D1.out.trans ((A3.out (wd.alloc (.cells #[.int .i64 (dd : Int)] 3)) (.cells #[.slice (some ⟨wd.heap.size, 0, none⟩) 1 1, .slice (some ⟨g, o2, none⟩) tb.length tb.length] 22)).mono D1.out.size))
        refine hK.out _ _ (D2.out.mono hSle) (fun _ => ?_)
        clear hK
        refine wpAnyH_ready (rs := [8]) (by kernel_rfl) (by simp) ?_
        refine AllReadyH.cons rfl (fun K hK => ?_) AllReadyH.nil
        go_simp
        have RL : Hid (Rd ((wd.alloc (.cells #[.int .i64 (dd : Int)] 3)).alloc (.cells #[.slice (some ⟨wd.heap.size, 0, none⟩) 1 1, .slice (some ⟨g, o2, none⟩) tb.length tb.length] 22)).heap.size ((wd.alloc (.cells #[.int .i64 (dd : Int)] 3)).alloc (.cells #[.slice (some ⟨wd.heap.size, 0, none⟩) 1 1, .slice (some ⟨g, o2, none⟩) tb.length tb.length] 22)) (.slice (some ⟨wd.heap.size, 0, none⟩) 1 1) [(dd : Int)]) := (own_lit wd _ (dd : Int) ((Below.refl _ _).alloc (by simp) _)).rd
        have J := joined2 (wd.heap.size + 1) (.slice (some ⟨wd.heap.size, 0, none⟩) 1 1) (.slice (some ⟨g, o2, none⟩) tb.length tb.length) [(dd : Int)] tb _ (by simp) (by omega) (by simp) (by simp [go_sem]) (by simp [go_sem]) RL.out (RT.out _ D2.out)
        refine J.mono ?_
        clear J
        rintro e w5 ⟨sv, rfl, hv, hb5⟩
        have B5 := hideP (D2.out.trans (hb5.mono D2.out.size))
        have HV := hideP (hv.base (show w4.heap.size ≤ _ from D2.out.size))
        obtain ⟨zs, ys, ez⟩ := hv.form
        have el : ([(dd : Int)] ++ tb).length = tb.length + 1 := by simp
        rw [el] at ez
        clear el
        subst ez
        clear hb5 hv D1 D2 DR RL
        refine hK.out _ _ (B5.out.mono hSle) (fun _ => ?_)
        clear hK
        refine wpAnyH_ready (rs := [14]) (by kernel_rfl) (by simp) ?_
        refine AllReadyH.cons rfl (fun K hK => ?_) AllReadyH.nil
        go_simp
        refine (KRW.out w5 (PX.out w5 B5.out).2.2.2.2.2).mono ?_
        rintro e w5 ⟨rv, rfl, hrd, rfl⟩
        have RR := hideP (hrd.up (PX.out w5 B5.out).2.2.2.2.2.size)
        obtain ⟨zr, yr, er⟩ := hrd.form
        subst er
        clear hrd
        refine hK.out _ _ (B5.out.mono hSle) (fun _ => ?_)
        clear hK
        refine wpAnyH_ready (rs := [15]) (by kernel_rfl) (by simp) ?_
        refine AllReadyH.cons rfl (fun K hK => ?_) AllReadyH.nil
        go_simp
        have D6 := hideP (B5.out.trans ((A3.out w5 (.cells #[.slice zr DD.length yr] 22)).mono B5.out.size))
        refine hK.out _ _ (D6.out.mono hSle) (fun _ => ?_)
        clear hK
        refine wpAnyH_ready (rs := [16]) (by kernel_rfl) (by simp) ?_
        refine AllReadyH.cons rfl (fun K hK => ?_) AllReadyH.nil
        go_simp
        have J := joined1_own w5.heap.size (.slice zr DD.length yr) DD (w5.alloc (.cells #[.slice zr DD.length yr] 22)) (by omega) (by simp) (by simp [go_sem]) ((RR.out.keep (A3.out _ _)).up (by simp))
        refine J.mono ?_
        clear J
        rintro e w7 ⟨ao, cap, rfl, ho7, hb7⟩
        have B7 := hideP (D6.out.trans (hb7.mono D6.out.size))
        have K57 : Hid (Below w5.heap.size w5 w7) := (A3.out _ _).trans (hb7.mono (by simp))
        have O7 := hideP (ho7.base (show w5.heap.size ≤ _ by simp))
        have HV7 := hideP (HV.out.keep K57.out)
        have AP := hideP (apart_right (B := w5.heap.size) O7.out HV.out.lt)
        have hs7 := B7.out.size
        have hs57 := K57.out.size
        have hs45 := B5.out.size
        clear hb7 ho7 D6
        refine hK.out _ _ (B7.out.mono hSle) (fun _ => ?_)
        clear hK
        have Z7 := hideP (PX.out w7 B7.out)
        obtain ⟨r0, r1, f2⟩ := Z7.out.2.1
        have hsb := Z7.out.2.2.1
        have hs44 := (PX.out w4 (Below.refl _ _)).2.2.1
        refine wpAnyH_ready (rs := [17]) (by kernel_rfl) (by simp) ?_
        refine AllReadyH.cons rfl (fun K hK => ?_) AllReadyH.nil
        go_simp
        refine hK.out _ _ (B7.out.mono hSle) (fun _ => ?_)
        clear hK
        refine wpAnyH_ready (rs := [18]) (by kernel_rfl) (by simp) ?_
        refine AllReadyH.cons rfl (fun K hK => ?_) AllReadyH.nil
        go_simp
        refine hK.out _ _ (((B7.out.mono hSle).setCell (by simp) _).setCell (by simp) _) (fun _ => ?_)
        clear hK
        refine wpAnyH_done (by kernel_rfl) ?_ _
        go_wp2_with fail
        refine bodyPost_ret (v := .agg #[.slice zs (tb.length + 1) ys, .slice ao DD.length cap]) (by simp [results, Try.results123, go_sem, r0, r1]) rfl ⟨(Z7.out.2.2.2.2.2.setCell (by simp; omega) _).setCell (by simp; omega) _, .inl ⟨rfl, _, _, rfl, ?_, ?_, AP.out⟩⟩
        · have hh : Own w4.heap.size w7 (.slice zs (tb.length + 1) ys) ((dd : Int) :: tb) := HV7.out
          rw [hdd]
          exact Own.base (B := w4.heap.size) (Own.store (Own.store hh (by omega) _) (by omega) _) (by omega)
        · exact Own.base (Own.store (Own.store O7.out (by omega) _) (by omega) _) (by omega)
    · have efi : go = fi := by
        have := hfi
        unfold Pl.dropF at this
        rw [if_neg hx, hgo] at this
        omega
      have een : n = en := by
        have := hen
        unfold Pl.dropE at this
        rw [if_neg hx] at this
        omega
      have hx' : decide (x < 0) = false := by rw [decide_eq_false_iff_not]; exact hx
      clear hfi hen hgo hx
      subst efi
      subst een
      generalize hlbt : tb.length = lb at *
      have HLT : Hid (tb.length = lb) := hlbt
      clear hlbt
      have cb := (PX.out w4 (Below.refl _ _)).1.1
      have ca := (PX.out w4 (Below.refl _ _)).2.2.2.1
      have cx : w4.cell? ⟨b1, 0, none⟩ = some (.int .i64 x) := ((PX.out w4 (Below.refl _ _)).2.2.2.2.2.cell (p := ⟨b1, 0, none⟩) CX.out.1).trans CX.out.2
      go_upto_region 8 with fail
      clear ca cx
      go_cut [9] (fun s9 wy => s9 = .int .i64 (TP : Int) ∧ wy = w4)
      case first =>
        by_cases ht : lb = 0
        · have RZ : Hid (Rd w4.heap.size w4 (.slice (some ⟨g, 0, none⟩) 0 0) tb) := rd_zero _ _ _ _ _ (HLT.out.trans ht)
          clear HLT HO2 PX RT
          subst ht
          go_wp2_with (go_at_call 37; refine (KT.out _ _ RZ.out).mono ?_; rintro e w4 ⟨rfl, rfl⟩)
          go_meet
          case rel => exact ⟨rfl, rfl⟩
        · have RZ : Hid (Rd w4.heap.size w4 (.slice (some ⟨g, 1, none⟩) lb lb) tb) := by
            have := RT.out w4 (Below.refl _ _)
            rw [HO2.out, if_neg ht] at this
            exact this
          go_wp2_with (go_at_call 37; refine (KT.out _ _ RZ.out).mono ?_; rintro e w4 ⟨rfl, rfl⟩)
          go_meet
          case rel => exact ⟨rfl, rfl⟩
      case rest =>
        obtain ⟨rfl, rfl⟩ := hcut
        rename World => w4
        clear cb
        have e0 := HLT.out
        subst e0
        have DR := hideP (show Below w4.heap.size w4 w4.drew from (Below.refl _ _).drew)
        have hSle : w.heap.size + 1 + 1 ≤ w4.heap.size := by have := (PX.out w4 (Below.refl _ _)).2.2.1; omega
        have LB : Hid (∀ w', Below (w.heap.size + 1 + 1) w4 w' → w'.cell? ⟨w.heap.size + 1, 0, none⟩ = some (.slice (some ⟨g, 0, none⟩) (tb.length + 1) (tb.length + 1)) ∧ w'.cell? ⟨w.heap.size + 1, 1, none⟩ = some (.slice (some ⟨b3, 0, none⟩) db.length db.length)) := fun w' h => ⟨(h.cell (p := ⟨w.heap.size + 1, 0, none⟩) (by show w.heap.size + 1 < _; omega)).trans (PX.out w4 (Below.refl _ _)).1.1, (h.cell (p := ⟨w.heap.size + 1, 1, none⟩) (by show w.heap.size + 1 < _; omega)).trans (PX.out w4 (Below.refl _ _)).1.2⟩
        go_wp2_with fail
        refine wp_region_held (S := fun w' => Below (w.heap.size + 1 + 1) w4 w') (by kernel_rfl) ?_
        change wpAnyH _ _ _ _ _ _ _ _ (World.drew _)
        generalize World.drew w4 = wd at DR ⊢
        refine wpAnyH_take (i := 0) (v := .int .i64 (n : Int)) rfl (by kernel_rfl) (by kernel_rfl) (by kernel_rfl) (fun _ _ _ h => h) (Or.inl ⟨by rfl, ?_⟩) (DR.out.mono hSle) ?_
        · intro w' hS
          clear hS
          go_simp
        refine wpAnyH_take (i := 1) (v := .int .i64 (go : Int)) rfl (by kernel_rfl) (by kernel_rfl) (by kernel_rfl) (fun _ _ _ h => h) (Or.inl ⟨by rfl, ?_⟩) (DR.out.mono hSle) ?_
        · intro w' hS
          clear hS
          go_simp
        refine wpAnyH_take (i := 2) (v := .int .i64 (dd : Int)) rfl (by kernel_rfl) (by kernel_rfl) (by kernel_rfl) (fun _ _ _ h => h) (Or.inl ⟨by rfl, ?_⟩) (DR.out.mono hSle) ?_
        · intro w' hS
          clear hS
          go_simp
          rw [IntKind.wrap_i64]
          omega
        refine wpAnyH_take (i := 4) (v := .pointer (some ⟨w.heap.size + 1, 0, none⟩)) rfl (by kernel_rfl) (by kernel_rfl) (by kernel_rfl) (fun _ _ _ h => h) (Or.inl ⟨by rfl, ?_⟩) (DR.out.mono hSle) ?_
        · intro w' hS
          clear hS
          go_simp
        refine wpAnyH_take (i := 5) (v := .slice (some ⟨g, 0, none⟩) (tb.length + 1) (tb.length + 1)) rfl (by kernel_rfl) (by kernel_rfl) (by kernel_rfl) (fun _ _ _ h => h) (Or.inl ⟨by rfl, ?_⟩) (DR.out.mono hSle) ?_
        · intro w' hS
          have := (LB.out w' hS).1
          clear hS
          go_simp
        refine wpAnyH_take (i := 6) (v := .slice (some ⟨g, o2, none⟩) tb.length tb.length) rfl (by kernel_rfl) (by kernel_rfl) (by kernel_rfl) (fun _ _ _ h => h) (Or.inl ⟨by rfl, fun w' _ => exec_lo1 (.tmp 46) (.const (.int .i64 1)) g tb.length o2 HO2.out (by kernel_rfl) (by kernel_rfl) (by kernel_rfl) w'⟩) (DR.out.mono hSle) ?_
        refine wpAnyH_take (i := 9) (v := .pointer (some ⟨w.heap.size + 1, 1, none⟩)) rfl (by kernel_rfl) (by kernel_rfl) (by kernel_rfl) (fun _ _ _ h => h) (Or.inl ⟨by rfl, ?_⟩) (DR.out.mono hSle) ?_
        · intro w' hS
          clear hS
          go_simp
        refine wpAnyH_take (i := 10) (v := .slice (some ⟨b3, 0, none⟩) db.length db.length) rfl (by kernel_rfl) (by kernel_rfl) (by kernel_rfl) (fun _ _ _ h => h) (Or.inl ⟨by rfl, ?_⟩) (DR.out.mono hSle) ?_
        · intro w' hS
          have := (LB.out w' hS).2
          clear hS
          go_simp
        refine wpAnyH_take (i := 11) (v := .int .i64 (TP : Int)) rfl (by kernel_rfl) (by kernel_rfl) (by kernel_rfl) (fun _ _ _ h => h) (Or.inl ⟨by rfl, ?_⟩) (DR.out.mono hSle) ?_
        · intro w' hS
          clear hS
          go_simp
        refine wpAnyH_take (i := 12) (v := .int .i64 (go : Int)) rfl (by kernel_rfl) (by kernel_rfl) (by kernel_rfl) (fun _ _ _ h => h) (Or.inl ⟨by rfl, ?_⟩) (DR.out.mono hSle) ?_
        · intro w' hS
          clear hS
          go_simp
        refine wpAnyH_take (i := 13) (v := .int .i64 (n : Int)) rfl (by kernel_rfl) (by kernel_rfl) (by kernel_rfl) (fun _ _ _ h => h) (Or.inl ⟨by rfl, ?_⟩) (DR.out.mono hSle) ?_
        · intro w' hS
          clear hS
          go_simp
        refine wpAnyH_ready (rs := [3]) (by kernel_rfl) (by simp) ?_
        refine AllReadyH.cons rfl (fun K hK => ?_) AllReadyH.nil
        go_simp
        have D1 := hideP (DR.out.trans ((A3.out wd (.cells #[.int .i64 (dd : Int)] 3)).mono DR.out.size))
        refine hK.out _ _ (D1.out.mono hSle) (fun _ => ?_)
        clear hK
        refine wpAnyH_ready (rs := [7]) (by kernel_rfl) (by simp) ?_
        refine AllReadyH.cons rfl (fun K hK => ?_) AllReadyH.nil
        go_simp
        have D2 := hideP (D1.out.trans ((A3.out (wd.alloc (.cells #[.int .i64 (dd : Int)] 3)) (.cells #[.slice (some ⟨wd.heap.size, 0, none⟩) 1 1, .slice (some ⟨g, o2, none⟩) tb.length tb.length] 22)).mono D1.out.size))
        refine hK.out _ _ (D2.out.mono hSle) (fun _ => ?_)
        clear hK
        refine wpAnyH_ready (rs := [8]) (by kernel_rfl) (by simp) ?_
        refine AllReadyH.cons rfl (fun K hK => ?_) AllReadyH.nil
        go_simp
        have RL : Hid (Rd ((wd.alloc (.cells #[.int .i64 (dd : Int)] 3)).alloc (.cells #[.slice (some ⟨wd.heap.size, 0, none⟩) 1 1, .slice (some ⟨g, o2, none⟩) tb.length tb.length] 22)).heap.size ((wd.alloc (.cells #[.int .i64 (dd : Int)] 3)).alloc (.cells #[.slice (some ⟨wd.heap.size, 0, none⟩) 1 1, .slice (some ⟨g, o2, none⟩) tb.length tb.length] 22)) (.slice (some ⟨wd.heap.size, 0, none⟩) 1 1) [(dd : Int)]) := (own_lit wd _ (dd : Int) ((Below.refl _ _).alloc (by simp) _)).rd
        have J := joined2 (wd.heap.size + 1) (.slice (some ⟨wd.heap.size, 0, none⟩) 1 1) (.slice (some ⟨g, o2, none⟩) tb.length tb.length) [(dd : Int)] tb _ (by simp) (by omega) (by simp) (by simp [go_sem]) (by simp [go_sem]) RL.out (RT.out _ D2.out)
        refine J.mono ?_
        clear J
        rintro e w5 ⟨sv, rfl, hv, hb5⟩
        have B5 := hideP (D2.out.trans (hb5.mono D2.out.size))
        have HV := hideP (hv.base (show w4.heap.size ≤ _ from D2.out.size))
        obtain ⟨zs, ys, ez⟩ := hv.form
        have el : ([(dd : Int)] ++ tb).length = tb.length + 1 := by simp
        rw [el] at ez
        clear el
        subst ez
        clear hb5 hv D1 D2 DR RL
        refine hK.out _ _ (B5.out.mono hSle) (fun _ => ?_)
        clear hK
        refine wpAnyH_ready (rs := [14]) (by kernel_rfl) (by simp) ?_
        refine AllReadyH.cons rfl (fun K hK => ?_) AllReadyH.nil
        go_simp
        refine (KRW.out w5 (PX.out w5 B5.out).2.2.2.2.2).mono ?_
        rintro e w5 ⟨rv, rfl, hrd, rfl⟩
        have RR := hideP (hrd.up (PX.out w5 B5.out).2.2.2.2.2.size)
        obtain ⟨zr, yr, er⟩ := hrd.form
        subst er
        clear hrd
        refine hK.out _ _ (B5.out.mono hSle) (fun _ => ?_)
        clear hK
        refine wpAnyH_ready (rs := [15]) (by kernel_rfl) (by simp) ?_
        refine AllReadyH.cons rfl (fun K hK => ?_) AllReadyH.nil
        go_simp
        have D6 := hideP (B5.out.trans ((A3.out w5 (.cells #[.slice zr DD.length yr] 22)).mono B5.out.size))
        refine hK.out _ _ (D6.out.mono hSle) (fun _ => ?_)
        clear hK
        refine wpAnyH_ready (rs := [16]) (by kernel_rfl) (by simp) ?_
        refine AllReadyH.cons rfl (fun K hK => ?_) AllReadyH.nil
        go_simp
        have J := joined1_own w5.heap.size (.slice zr DD.length yr) DD (w5.alloc (.cells #[.slice zr DD.length yr] 22)) (by omega) (by simp) (by simp [go_sem]) ((RR.out.keep (A3.out _ _)).up (by simp))
        refine J.mono ?_
        clear J
        rintro e w7 ⟨ao, cap, rfl, ho7, hb7⟩
        have B7 := hideP (D6.out.trans (hb7.mono D6.out.size))
        have K57 : Hid (Below w5.heap.size w5 w7) := (A3.out _ _).trans (hb7.mono (by simp))
        have O7 := hideP (ho7.base (show w5.heap.size ≤ _ by simp))
        have HV7 := hideP (HV.out.keep K57.out)
        have AP := hideP (apart_right (B := w5.heap.size) O7.out HV.out.lt)
        have hs7 := B7.out.size
        have hs57 := K57.out.size
        have hs45 := B5.out.size
        clear hb7 ho7 D6
        refine hK.out _ _ (B7.out.mono hSle) (fun _ => ?_)
        clear hK
        have Z7 := hideP (PX.out w7 B7.out)
        obtain ⟨r0, r1, f2⟩ := Z7.out.2.1
        have hsb := Z7.out.2.2.1
        have hs44 := (PX.out w4 (Below.refl _ _)).2.2.1
        refine wpAnyH_ready (rs := [17]) (by kernel_rfl) (by simp) ?_
        refine AllReadyH.cons rfl (fun K hK => ?_) AllReadyH.nil
        go_simp
        refine hK.out _ _ (B7.out.mono hSle) (fun _ => ?_)
        clear hK
        refine wpAnyH_ready (rs := [18]) (by kernel_rfl) (by simp) ?_
        refine AllReadyH.cons rfl (fun K hK => ?_) AllReadyH.nil
        go_simp
        refine hK.out _ _ (((B7.out.mono hSle).setCell (by simp) _).setCell (by simp) _) (fun _ => ?_)
        clear hK
        refine wpAnyH_done (by kernel_rfl) ?_ _
        go_wp2_with fail
        refine bodyPost_ret (v := .agg #[.slice zs (tb.length + 1) ys, .slice ao DD.length cap]) (by simp [results, Try.results123, go_sem, r0, r1]) rfl ⟨(Z7.out.2.2.2.2.2.setCell (by simp; omega) _).setCell (by simp; omega) _, .inl ⟨rfl, _, _, rfl, ?_, ?_, AP.out⟩⟩
        · have hh : Own w4.heap.size w7 (.slice zs (tb.length + 1) ys) ((dd : Int) :: tb) := HV7.out
          rw [hdd]
          exact Own.base (B := w4.heap.size) (Own.store (Own.store hh (by omega) _) (by omega) _) (by omega)
        · exact Own.base (Own.store (Own.store O7.out (by omega) _) (by omega) _) (by omega)
  · exact absurd rfl h

set_option maxRecDepth 100000 in
set_option maxHeartbeats 4000000 in
/-- impl.drop of valid arrays -/
theorem drop_any (b0 b1 b2 b3 : Nat) (sa da sb db : List Int) (w : World)
    (h0 : Rd w.heap.size w (.slice (some ⟨b0, 0, none⟩) sa.length sa.length) sa) (h1 : Rd w.heap.size w (.slice (some ⟨b1, 0, none⟩) da.length da.length) da) (h2 : Rd w.heap.size w (.slice (some ⟨b2, 0, none⟩) sb.length sb.length) sb) (h3 : Rd w.heap.size w (.slice (some ⟨b3, 0, none⟩) db.length db.length) db)
    (oka : Pl.okB sa da = true) (okb : Pl.okB sb db = true) (c : Int) (S D : List Int) (hres : Pl.dropM sa da sb db = (c, S, D)) :
    Calls Try.prog 123 #[.agg #[.slice (some ⟨b0, 0, none⟩) sa.length sa.length, .slice (some ⟨b1, 0, none⟩) da.length da.length], .agg #[.slice (some ⟨b2, 0, none⟩) sb.length sb.length, .slice (some ⟨b3, 0, none⟩) db.length db.length]] w (KPost w c S D) := by
  have e := hres
  unfold Pl.dropM at e
  by_cases hsa : sa.length = 0
  · rw [if_pos hsa] at e
    obtain ⟨x, hx⟩ := List.length_eq_one_iff.1 (Pl.ok_one oka hsa)
    obtain ⟨n', tb, hax⟩ := Pl.axes_cons sb db
    have okx := Pl.axes_ok okb
    rw [hax] at okx
    have m2 := Pl.ok_max okx
    have hx2 := Pl.ok_cell oka (show x ∈ da by rw [hx]; simp)
    have hb : Pl.baseB (n' :: tb) = true := by
      have := (Pl.ok_len okx).2
      simp only [Pl.fitsB, Bool.and_eq_true] at this
      exact this.1
    have hbb : Pl.baseB tb = true := Pl.base_tail hb
    have hnr : 0 ≤ n' ∧ n' ≤ 1000 := by
      simp only [Pl.baseB, Bool.and_eq_true, List.all_cons] at hb
      exact Pl.inR_bd hb.2.1
    obtain ⟨n, rfl⟩ := Int.eq_ofNat_of_zero_le hnr.1
    have hpT := (Pl.prod_two tb hbb).1
    obtain ⟨TP, hTP⟩ := Int.eq_ofNat_of_zero_le hpT.1
    have hrow : n * TP ≤ db.length := by
      by_cases hn0 : n = 0
      · rw [hn0, Nat.zero_mul]; exact Nat.zero_le _
      · obtain ⟨hft, n'', s, e1, e2, _, _, e3⟩ := Pl.ok_rows okx (by simp) (by show ¬ (n : Int) = 0; omega)
        have en : n'' = n := by
          have : (n : Int) = n'' := e1
          omega
        have es : s = TP := by
          have := (Pl.prod_eq hft).symm.trans e2
          have h' : Pl.prodP tb = (s : Int) := this
          omega
        rw [e3, en, es]
        exact Nat.le_refl _
    rw [hax, hx] at e
    simp only [List.getD_cons_zero, List.tail_cons, hTP, Int.toNat_natCast, Prod.mk.injEq] at e
    obtain ⟨rfl, rfl, rfl⟩ := e
    have hg : 0 ≤ Pl.gone x n ∧ Pl.gone x n ≤ n := by unfold Pl.gone; omega
    obtain ⟨go, hgo⟩ := Int.eq_ofNat_of_zero_le hg.1
    have hF : 0 ≤ Pl.dropF x n ∧ Pl.dropF x n ≤ Pl.dropE x n ∧ Pl.dropE x n ≤ n := by
      unfold Pl.dropF Pl.dropE
      split <;> omega
    obtain ⟨fi, hfi⟩ := Int.eq_ofNat_of_zero_le hF.1
    obtain ⟨en, hen⟩ := Int.eq_ofNat_of_zero_le (show 0 ≤ Pl.dropE x n by omega)
    rw [hgo, hfi, hen, Int.toNat_natCast, Int.toNat_natCast]
    refine drop_core b0 b1 b2 b3 sa da sb db tb x n w h0 h1 h2 h3 hsa hx hax hx2.1 hx2.2 (by omega) (by have := m2.1; simp at this; omega) hbb m2.2 TP hTP (.inl hrow) go fi en hgo hfi hen (by omega) (by omega) (Nat.le_trans (Nat.mul_le_mul_right TP (by omega)) hrow)
  · rw [if_neg hsa] at e
    simp only [Prod.mk.injEq] at e
    obtain ⟨rfl, rfl, rfl⟩ := e
    have KA : Hid (∀ w', Calls Try.prog 91 #[.agg #[.slice (some ⟨b0, 0, none⟩) sa.length sa.length, .slice (some ⟨b1, 0, none⟩) da.length da.length]] w' fun e w'' => e = .returned (.bool false) ∧ Below w'.heap.size w' w'') := fun w' => by
      have := isScalar_any _ (.slice (some ⟨b1, 0, none⟩) da.length da.length) sa _ w' w h0
      rw [decide_eq_false hsa] at this
      exact this
    have W0 := hideP (wid_new w h0 h1 h2 h3 27 27 27)
    clear h0 h1 h2 h3 oka okb hres hsa
    generalize sa.length = la at *
    go_enter Try.func123, Try.ntmps123
    go_wp2_with fail
    refine (KA.out _).mono ?_
    rintro e w1 ⟨rfl, hb1⟩
    have BW := hideP (W0.out.keep hb1).1
    clear hb1
    go_wp2_with (go_at_call 83; refine (refuse_yes _ _).mono ?_; rintro e w1 ⟨rfl, rfl⟩)
    exact ⟨rfl, BW.out, .inr ⟨by decide, rfl, rfl, rfl⟩⟩

end Go.Proofs.Ytmobjomebmipdaa
