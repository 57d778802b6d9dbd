import Derived.Test.YtmobjomebmipdaaLawOk
import Derived.BigGuard
import Derived.BigCall
import Derived.BigRegion
import Derived.CellFam
import Derived.BigQuiet
namespace Go.Proofs.Ytmobjomebmipdaa
open Go.RowKit
set_option linter.unusedVariables false

/-- n numbers f from off on in the block g, that may be written -/
def Rw (g off n : Nat) (f : Nat → Int) (w : World) : Prop := g < w.heap.size ∧ ∀ t, t < n → w.cell? ⟨g, off + t, none⟩ = some (.int .i64 (f t)) ∧ w.frozen? ⟨g, off + t, none⟩ = false
/-- but for the block g all is as it was -/
def Gr (g : Nat) (w w' : World) : Prop := w.grownBy w' (some g)
theorem Gr.refl (g : Nat) (w : World) : Gr g w w := ⟨rfl, rfl, rfl, Nat.le_refl _, fun _ _ _ => rfl⟩
theorem Gr.trans {g : Nat} {w w' w'' : World} (h : Gr g w w') (h' : Gr g w' w'') : Gr g w w'' :=
  ⟨h'.os.trans h.os, h'.tape.trans h.tape, h'.output.trans h.output, Nat.le_trans h.size h'.size, fun k hk hne => (h'.block k (Nat.lt_of_lt_of_le hk h.size) hne).trans (h.block k hk hne)⟩
theorem Gr.below {g : Nat} {w w' : World} (h : Below w.heap.size w w') : Gr g w w' := ⟨h.os, h.tape, h.output, h.size, fun k hk _ => h.block k hk⟩
theorem Gr.set (w : World) (g o : Nat) (v : Value) : Gr g w (w.setCell ⟨g, o, none⟩ v) := ⟨rfl, rfl, rfl, by simp, fun k _ hk => heap_setCell_other w ⟨g, o, none⟩ k v (fun e => hk (by simp [e]))⟩
theorem Gr.drewN {g : Nat} {w w' : World} (n : Nat) (h : Gr g (w.drewN n) w') : Gr g w w' := ⟨h.os, h.tape, h.output, h.size, h.block⟩
theorem Gr.keep {g B : Nat} {w0 w w' : World} (h : Gr g w w') (hb : Below B w0 w) (hB : B ≤ g) (hw : B ≤ w.heap.size) : Below B w0 w' :=
  hb.trans ⟨h.os, h.tape, h.output, h.size, fun k hk => h.block k (by omega) (fun e => by injection e with e; omega)⟩
theorem Rw.keep {g off n : Nat} {f : Nat → Int} {w w' : World} (h : Rw g off n f w) (hb : Below w.heap.size w w') : Rw g off n f w' :=
  ⟨Nat.lt_of_lt_of_le h.1 hb.size, fun t ht => ⟨(hb.cell (p := ⟨g, off + t, none⟩) h.1).trans (h.2 t ht).1, (hb.frozen (p := ⟨g, off + t, none⟩) h.1).trans (h.2 t ht).2⟩⟩
theorem Rw.drew {g off n : Nat} {f : Nat → Int} {w : World} (h : Rw g off n f w) : Rw g off n f w.drew := h
theorem Gr.drew {g : Nat} {w w' : World} (h : Gr g w w') : Gr g w w'.drew := ⟨h.os, h.tape, h.output, h.size, h.block⟩
theorem Rw.drewN {g off n : Nat} {f : Nat → Int} {w : World} (m : Nat) (h : Rw g off n f w) : Rw g off n f (w.drewN m) := h
/-- one number put -/
def upd (f : Nat → Int) (k : Nat) (x : Int) : Nat → Int := fun t => if t = k then x else f t
theorem Rw.set {g off n k : Nat} {f : Nat → Int} {w : World} (x : Int) (h : Rw g off n f w) (hk : k < n) : Rw g off n (upd f k x) (w.setCell ⟨g, off + k, none⟩ (.int .i64 x)) := by
  refine ⟨by simpa using h.1, fun t ht => ?_⟩
  obtain ⟨h1, h2⟩ := h.2 t ht
  obtain ⟨c1, c2⟩ := h.2 k hk
  unfold upd
  by_cases e : t = k
  · subst e
    rw [if_pos rfl]
    exact ⟨World.cell?_setCell_same _ _ _ h1, by rw [World.frozen?_setCell]; exact h2⟩
  · rw [if_neg e]
    exact ⟨by rw [World.cell?_setCell_other _ _ _ _ (by intro e'; injection e' with _ e2 _; omega)]; exact h1, by rw [World.frozen?_setCell]; exact h2⟩
theorem Rw.congr {g off n : Nat} {f f' : Nat → Int} {w : World} (h : Rw g off n f w) (e : ∀ t, t < n → f t = f' t) : Rw g off n f' w := ⟨h.1, fun t ht => by rw [← e t ht]; exact h.2 t ht⟩

/-- k numbers from a on, and k from b on, put for each other -/
def swR (f : Nat → Int) (a b k : Nat) : Nat → Int := fun t => if a ≤ t ∧ t < a + k then f (t + b - a) else if b ≤ t ∧ t < b + k then f (t + a - b) else f t
theorem swR_zero (f : Nat → Int) (a b : Nat) : swR f a b 0 = f := by
  funext t
  unfold swR
  rw [if_neg (by omega), if_neg (by omega)]
theorem swR_step {f : Nat → Int} {a b i : Nat} (h : a + i < b) : upd (upd (swR f a b i) (a + i) (swR f a b i (b + i))) (b + i) (swR f a b i (a + i)) = swR f a b (i + 1) := by
  have e1 : swR f a b i (b + i) = f (b + i) := by unfold swR; rw [if_neg (by omega), if_neg (by omega)]
  have e2 : swR f a b i (a + i) = f (a + i) := by unfold swR; rw [if_neg (by omega), if_neg (by omega)]
  rw [e1, e2]
  funext t
  unfold upd swR
  by_cases h1 : t = b + i
  · subst h1
    rw [if_pos rfl, if_neg (by omega), if_pos (by omega)]
    congr 1; omega
  · rw [if_neg h1]
    by_cases h2 : t = a + i
    · subst h2
      rw [if_pos rfl, if_pos (by omega)]
      congr 1; omega
    · rw [if_neg h2]
      have h3 : (a ≤ t ∧ t < a + i) ↔ (a ≤ t ∧ t < a + (i + 1)) := by omega
      have h4 : (b ≤ t ∧ t < b + i) ↔ (b ≤ t ∧ t < b + (i + 1)) := by omega
      simp only [h3, h4]

set_option maxRecDepth 100000 in
set_option maxHeartbeats 4000000 in
/-- slices.swapRangeCmpFunc -/
theorem swapRange_any (g off cap n a b k : Nat) (f : Nat → Int) (cv : Value) (w : World) (hR : Rw g off n f w) (hab : a + k ≤ b) (hb : b + k ≤ n) (hn : n ≤ 1000000) :
    Calls Try.prog 159 #[.slice (some ⟨g, off, none⟩) n cap, .int .i64 (a : Int), .int .i64 (b : Int), .int .i64 (k : Int), cv] w fun e w' => e = .returned (.tuple #[]) ∧ Rw g off n (swR f a b k) w' ∧ Gr g w w' := by
  have HR := hideP hR
  clear hR
  go_enter Try.func159, Try.ntmps159
  go_wp2_with fail
  go_loopw [10] (fun v wr => ∃ i : Nat, i ≤ k ∧ v = .int .i64 (i : Int) ∧ Hid (Rw g off n (swR f a b i) wr) ∧ Hid (Gr g w wr)) (fun v _ => k - (intOf v).toNat)
  case atStart => exact ⟨0, Nat.zero_le _, rfl, by show Rw _ _ _ _ _; rw [swR_zero]; exact HR.out, Gr.refl _ _⟩
  case round =>
    obtain ⟨i, hi, rfl, RR, GG⟩ := hrel
    by_cases hlt : i < k
    · have hlt' : (i : Int) < (k : Int) := by omega
      have SX := hideP (swR_step (f := f) (a := a) (b := b) (i := i) (by omega))
      obtain ⟨G, hG⟩ : ∃ G, swR f a b i = G := ⟨_, rfl⟩
      rw [hG] at RR SX
      clear hG
      have hcw : ∀ t, t < n → wr.cell? ⟨g, off + t, none⟩ = some (.int .i64 (G t)) := fun t ht => (RR.out.2 t ht).1
      have hfw : ∀ t, t < n → wr.frozen? ⟨g, off + t, none⟩ = false := fun t ht => (RR.out.2 t ht).2
      have hbi : b + i < n := by omega
      have hai : a + i < n := by omega
      have NW : Hid (Rw g off n (swR f a b (i + 1)) (((wr.setCell ⟨g, off + (a + i), none⟩ (.int .i64 (G (b + i)))).setCell ⟨g, off + (b + i), none⟩ (.int .i64 (G (a + i)))).drew) ∧ Gr g w (((wr.setCell ⟨g, off + (a + i), none⟩ (.int .i64 (G (b + i)))).setCell ⟨g, off + (b + i), none⟩ (.int .i64 (G (a + i)))).drew)) := by
        refine ⟨?_, (GG.out.trans ((Gr.set _ _ _ _).trans (Gr.set _ _ _ _))).drew⟩
        rw [← SX.out]
        exact ((RR.out.set _ hai).set _ hbi).drew
      go_wp2_with fail
      go_region
      all_goals go_wp2_with fail
      go_roundw
      case rel => exact ⟨i + 1, by omega, by go_num, NW.out.1, NW.out.2⟩
      case measure => simp [intOf]; omega
    · have hlt' : ¬ (i : Int) < (k : Int) := by omega
      obtain rfl : i = k := by omega
      go_wp2_with fail
      go_end0
      exact ⟨rfl, RR.out, GG.out⟩

/-- the numbers from a to m, and from m to b, put for each other -/
def rotF (f : Nat → Int) (a m b : Nat) : Nat → Int := fun t => if a ≤ t ∧ t < a + (b - m) then f (t + (m - a)) else if a + (b - m) ≤ t ∧ t < b then f (t - (b - m)) else f t
theorem rot_gt (f : Nat → Int) {m i j : Nat} (hi : i ≤ m) (h : j < i) (hj : 0 < j) : rotF (swR f (m - i) m j) (m - (i - j)) m (m + j) = rotF f (m - i) m (m + j) := by
  obtain ⟨p, rfl⟩ : ∃ p, m = p + i := ⟨m - i, by omega⟩
  obtain ⟨d, rfl⟩ : ∃ d, i = j + d := ⟨i - j, by omega⟩
  have e1 : p + (j + d) - (j + d) = p := by omega
  have e2 : j + d - j = d := by omega
  have e3 : p + (j + d) - d = p + j := by omega
  have e4 : p + (j + d) + j - (p + (j + d)) = j := by omega
  have e5 : p + (j + d) - (p + j) = d := by omega
  have e6 : p + (j + d) - p = j + d := by omega
  funext t
  unfold rotF swR
  simp only [e1, e2, e3, e4, e5, e6]
  repeat' split
  all_goals first | rfl | (congr 1; omega) | (exfalso; omega)
theorem rot_lt (f : Nat → Int) {m i j : Nat} (hi : i ≤ m) (h : i < j) (hj : 0 < i) : rotF (swR f (m - i) (m + j - i) i) (m - i) m (m + (j - i)) = rotF f (m - i) m (m + j) := by
  obtain ⟨p, rfl⟩ : ∃ p, m = p + i := ⟨m - i, by omega⟩
  obtain ⟨d, rfl⟩ : ∃ d, j = i + d := ⟨j - i, by omega⟩
  have e1 : p + i - i = p := by omega
  have e2 : i + d - i = d := by omega
  have e3 : p + i + (i + d) - i = p + i + d := by omega
  have e4 : p + i + d - (p + i) = d := by omega
  have e5 : p + i + (i + d) - (p + i) = i + d := by omega
  have e6 : p + i - p = i := by omega
  funext t
  unfold rotF swR
  simp only [e1, e2, e3, e4, e5, e6]
  repeat' split
  all_goals first | rfl | (congr 1; omega) | (exfalso; omega)
theorem rot_eq (f : Nat → Int) {m i : Nat} (hi : i ≤ m) : swR f (m - i) m i = rotF f (m - i) m (m + i) := by
  obtain ⟨p, rfl⟩ : ∃ p, m = p + i := ⟨m - i, by omega⟩
  have e1 : p + i - i = p := by omega
  have e5 : p + i + i - (p + i) = i := by omega
  have e6 : p + i - p = i := by omega
  funext t
  unfold rotF swR
  simp only [e1, e5, e6]
  repeat' split
  all_goals first | rfl | (congr 1; omega) | (exfalso; omega)

set_option maxRecDepth 100000 in
set_option maxHeartbeats 4000000 in
/-- slices.rotateCmpFunc -/
theorem rotate_any (g off cap n a m b : Nat) (f : Nat → Int) (cv : Value) (w : World) (hR : Rw g off n f w) (ham : a < m) (hmb : m < b) (hb : b ≤ n) (hn : n ≤ 1000000) :
    Calls Try.prog 158 #[.slice (some ⟨g, off, none⟩) n cap, .int .i64 (a : Int), .int .i64 (m : Int), .int .i64 (b : Int), cv] w fun e w' => e = .returned (.tuple #[]) ∧ Rw g off n (rotF f a m b) w' ∧ Gr g w w' := by
  have HR := hideP hR
  clear hR
  go_enter Try.func158, Try.ntmps158
  go_wp2_with fail
  go_loopw [10, 11] (fun vi vj wr => ∃ (i j : Nat) (G : Nat → Int), 0 < i ∧ 0 < j ∧ i ≤ m ∧ m + j ≤ n ∧ vi = .int .i64 (i : Int) ∧ vj = .int .i64 (j : Int) ∧ Hid (rotF G (m - i) m (m + j) = rotF f a m b) ∧ Hid (Rw g off n G wr) ∧ Hid (Gr g w wr)) (fun vi vj _ => (intOf vi).toNat + (intOf vj).toNat)
  case atStart => exact ⟨m - a, b - m, f, by omega, by omega, by omega, by omega, by go_num, by go_num, by show _ = _; rw [show m - (m - a) = a by omega, show m + (b - m) = b by omega], HR, Gr.refl _ _⟩
  case round =>
    obtain ⟨i, j, G, hi0, hj0, him, hjn, rfl, rfl, HF, RR, GG⟩ := hrel
    by_cases he : i = j
    · subst he
      have hne : ((i : Int) != (i : Int)) = false := by simp
      have KS := hideP (swapRange_any g off cap n (m - i) m i G cv wr RR.out (by omega) (by omega) hn)
      have e1 : ((m - i : Nat) : Int) = (m : Int) - (i : Int) := by omega
      rw [e1] at KS
      have HE := hideP (rot_eq G him)
      clear e1
      go_wp2_with fail
      refine KS.out.mono ?_
      rintro e w2 ⟨rfl, hr, hg⟩
      have R2 : Hid (Rw g off n (rotF f a m b) w2) := by
        rw [HE.out, HF.out] at hr
        exact hr
      have G2 := hideP (GG.out.trans hg)
      clear hr hg KS
      go_wp2_with fail
      go_end0
      exact ⟨rfl, R2.out, G2.out⟩
    · have hne : ((i : Int) != (j : Int)) = true := by rw [bne_iff_ne]; omega
      by_cases hgt : j < i
      · have hgt' : (j : Int) < (i : Int) := by omega
        have KS := hideP (swapRange_any g off cap n (m - i) m j G cv wr RR.out (by omega) (by omega) hn)
        have e1 : ((m - i : Nat) : Int) = (m : Int) - (i : Int) := by omega
        rw [e1] at KS
        have HE := hideP (rot_gt G him hgt hj0)
        clear e1 he
        go_wp2_with fail
        refine KS.out.mono ?_
        rintro e w2 ⟨rfl, hr, hg⟩
        have R2 := hideP hr
        have G2 := hideP (GG.out.trans hg)
        have H2 : Hid (rotF (swR G (m - i) m j) (m - (i - j)) m (m + j) = rotF f a m b) := HE.out.trans HF.out
        clear hr hg KS
        go_wp2_with fail
        go_roundw
        case rel => exact ⟨i - j, j, _, by omega, hj0, by omega, hjn, by go_num, rfl, H2, R2, G2⟩
        case measure => simp [intOf]; omega
      · have hgt' : ¬ (j : Int) < (i : Int) := by omega
        have KS := hideP (swapRange_any g off cap n (m - i) (m + j - i) i G cv wr RR.out (by omega) (by omega) hn)
        have e1 : ((m - i : Nat) : Int) = (m : Int) - (i : Int) := by omega
        have e2 : ((m + j - i : Nat) : Int) = (m : Int) + (j : Int) - (i : Int) := by omega
        rw [e1, e2] at KS
        have HE := hideP (rot_lt (f := G) (m := m) (i := i) (j := j) him (by omega) hi0)
        clear e1 e2
        go_wp2_with fail
        refine KS.out.mono ?_
        rintro e w2 ⟨rfl, hr, hg⟩
        have R2 := hideP hr
        have G2 := hideP (GG.out.trans hg)
        have H2 : Hid (rotF (swR G (m - i) (m + j - i) i) (m - i) m (m + (j - i)) = rotF f a m b) := HE.out.trans HF.out
        clear hr hg KS
        go_wp2_with fail
        go_roundw
        case rel => exact ⟨i, j - i, _, hi0, by omega, him, by omega, rfl, by go_num, H2, R2, G2⟩
        case measure => simp [intOf]; omega

end Go.Proofs.Ytmobjomebmipdaa
