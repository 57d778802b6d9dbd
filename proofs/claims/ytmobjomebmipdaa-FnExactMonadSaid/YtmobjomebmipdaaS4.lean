import Derived.Test.YtmobjomebmipdaaS3
import Derived.Deep.CutRange
namespace Go.Proofs.Ytmobjomebmipdaa
open Go.RowKit
set_option linter.unusedVariables false

theorem Pl.srt_of {k : Int → Int} {f : Nat → Int} {a b : Nat} (h : Pl.SrtF k f a b) : Pl.Srt k (Pl.seg f a b) := by
  unfold Pl.Srt Pl.seg
  rw [List.pairwise_map]
  refine List.Pairwise.imp_of_mem (R := fun x y => x < y) (fun {x y} hx hy hxy => ?_) List.pairwise_lt_range
  have := List.mem_range.1 hx
  have := List.mem_range.1 hy
  exact h _ _ (by omega) (by omega) (by omega)
/-- what symMerge leaves -/
def SmPost (g off n a m b : Nat) (k : Int → Int) (f : Nat → Int) (w : World) (e : Ending) (w' : World) : Prop :=
  e = .returned (.tuple #[]) ∧ (∃ f', Rw g off n f' w' ∧ Pl.seg f' a b = Pl.mrg k (Pl.seg f a m) (Pl.seg f m b) ∧ ∀ t, (t < a ∨ b ≤ t) → f' t = f t) ∧ Gr g w w'
theorem shl_zero {f : Nat → Int} {a : Nat} : rotF f a (a + 1) (a + 1) = f := by
  funext t
  unfold rotF
  rw [show a + 1 - (a + 1) = 0 by omega]
  repeat' split
  all_goals first | rfl | (congr 1; omega) | (exfalso; omega)
theorem shl_at {f : Nat → Int} {a c : Nat} (h : a ≤ c) : rotF f a (a + 1) (c + 1) c = f a := by
  unfold rotF
  rw [if_neg (by omega), if_pos (by omega)]
  congr 1; omega
theorem shl_out {f : Nat → Int} {a c t : Nat} (h : t < a ∨ c < t) (hc : a ≤ c) : rotF f a (a + 1) (c + 1) t = f t := by
  unfold rotF
  rw [if_neg (by omega), if_neg (by omega)]
theorem shl_step {f : Nat → Int} {a c : Nat} (h : a ≤ c) : upd (upd (rotF f a (a + 1) (c + 1)) c (rotF f a (a + 1) (c + 1) (c + 1))) (c + 1) (rotF f a (a + 1) (c + 1) c) = rotF f a (a + 1) (c + 1 + 1) := by
  obtain ⟨d, rfl⟩ : ∃ d, c = a + d := ⟨c - a, by omega⟩
  rw [shl_at (by omega), shl_out (by omega) (by omega)]
  have e1 : a + d + 1 - (a + 1) = d := by omega
  have e2 : a + 1 - a = 1 := by omega
  have e3 : a + d + 1 + 1 - (a + 1) = d + 1 := by omega
  funext t
  unfold upd rotF
  simp only [e1, e2, e3]
  repeat' split
  all_goals first | rfl | (congr 1; omega) | (exfalso; omega) | skip
  all_goals (subst_vars; first | rfl | (congr 1; omega) | (exfalso; omega))
/-- the first number goes behind those that are less -/
theorem shl_seg {k : Int → Int} {f : Nat → Int} {a i b : Nat} (h1 : a + 1 ≤ i) (h2 : i ≤ b) (hl : ∀ t, a + 1 ≤ t → t < i → k (f t) < k (f a)) (hg : ∀ t, i ≤ t → t < b → k (f a) ≤ k (f t)) :
    Pl.seg (rotF f a (a + 1) i) a b = Pl.mrg k (Pl.seg f a (a + 1)) (Pl.seg f (a + 1) b) := by
  obtain ⟨c, rfl⟩ : ∃ c, i = c + 1 := ⟨i - 1, by omega⟩
  have e := Pl.mrg_cut (k := k) (L1 := []) (L2 := [f a]) (R1 := Pl.seg f (a + 1) (c + 1)) (R2 := Pl.seg f (c + 1) b) (by simp) (fun x hx y hy => by
    obtain ⟨t, t1, t2, rfl⟩ := Pl.seg_mem hx
    simp at hy
    subst hy
    exact hl t t1 t2)
  have e' := Pl.mrg_cut (k := k) (L1 := [f a]) (L2 := []) (R1 := []) (R2 := Pl.seg f (c + 1) b) (fun x hx y hy => by
    obtain ⟨t, t1, t2, rfl⟩ := Pl.seg_mem hy
    simp at hx
    subst hx
    exact hg t t1 t2) (by simp)
  rw [List.nil_append, Pl.nil_mrg] at e
  rw [List.append_nil, List.nil_append, Pl.nil_mrg, Pl.mrg_nil] at e'
  rw [Pl.seg_one, ← Pl.seg_cat f (show a + 1 ≤ c + 1 by omega) h2, e, e']
  rw [← Pl.seg_cat (rotF f a (a + 1) (c + 1)) (show a ≤ c + 1 by omega) h2, ← Pl.seg_cat (rotF f a (a + 1) (c + 1)) (show a ≤ c by omega) (show c ≤ c + 1 by omega), Pl.seg_one, shl_at (by omega)]
  rw [Pl.seg_congr (f := rotF f a (a + 1) (c + 1)) (f' := f) (a := c + 1) (b := b) (fun t t1 t2 => shl_out (.inr (by omega)) (by omega))]
  rw [Pl.seg_shift (f := rotF f a (a + 1) (c + 1)) (f' := f) (a := a) (b := c) (c := a + 1) (d := c + 1) (by omega) (fun t ht => by
    unfold rotF
    rw [if_pos (by omega)]
    congr 1; omega)]
  rw [List.append_assoc]

set_option maxRecDepth 100000 in
set_option maxHeartbeats 8000000 in
/-- slices.symMergeCmpFunc, where the first part is one number -/
theorem sm_left (B0 : Nat) (w0 : World) (pa g off cap n a m b : Nat) (k : Int → Int) (ok : Int → Prop) (f : Nat → Int) (w : World) (hX : Cx B0 w0 pa g n k ok) (hR : Rw g off n f w) (hm : m = a + 1) (hmb : m < b) (hb : b ≤ n) (hn : n ≤ 1000000) (hok : ∀ t, t < n → ok (f t)) (hs : Pl.SrtF k f m b) (hB : Below B0 w0 w) :
    Calls Try.prog 157 #[.slice (some ⟨g, off, none⟩) n cap, .int .i64 (a : Int), .int .i64 (m : Int), .int .i64 (b : Int), cl pa] w (SmPost g off n a m b k f w) := by
  have HR := hideP hR
  have HX := hideP hX
  have HB := hideP hB
  have HK := hideP hok
  have HS := hideP hs
  have hcf := callF57
  have hm1 : ((m : Int) - (a : Int) == 1) = true := by rw [beq_iff_eq]; omega
  have Hm := hideP hm
  clear hR hX hB hok hs hm
  have HSW : Hid (B0 ≤ w.heap.size) := Nat.le_trans HX.out.g (Nat.le_of_lt HR.out.1)
  have ham : a + 1 ≤ m := by have := Hm.out; omega
  have han : a < n := by omega
  go_enter Try.func157, Try.ntmps157
  go_wp2_with fail
  go_loopw [10, 11, 12] (fun vi vj _ wr => ∃ i j : Nat, m ≤ i ∧ i ≤ j ∧ j ≤ b ∧ vi = .int .i64 (i : Int) ∧ vj = .int .i64 (j : Int) ∧ Hid (∀ t, m ≤ t → t < i → k (f t) < k (f a)) ∧ Hid (∀ t, j ≤ t → t < b → k (f a) ≤ k (f t)) ∧ Hid (Rw g off n f wr) ∧ Hid (Gr g w wr)) (fun vi vj _ _ => (intOf vj).toNat - (intOf vi).toNat)
  case atStart => exact ⟨m, b, Nat.le_refl _, by omega, Nat.le_refl _, rfl, rfl, fun t h1 h2 => by omega, fun t h1 h2 => by omega, HR, Gr.refl _ _⟩
  case round =>
    obtain ⟨i, j, hmi, hij, hjb, rfl, rfl, HL, HG, RR, GG⟩ := hrel
    by_cases hlt : i < j
    · have hlt' : (i : Int) < (j : Int) := by omega
      obtain ⟨h, hh⟩ : ∃ h : Nat, ((i : Int) + (j : Int)) / 2 = (h : Int) := ⟨(i + j) / 2, by omega⟩
      have hih : i ≤ h := by omega
      have hhj : h < j := by omega
      have hhn : h < n := by omega
      have BW := hideP (GG.out.keep HB.out HX.out.g HSW.out)
      have hcw : ∀ t, t < n → wr.cell? ⟨g, off + t, none⟩ = some (.int .i64 (f t)) := fun t ht => (RR.out.2 t ht).1
      have KC : Hid (∀ m', Calls Try.prog 145 #[.int .i64 (f h), .int .i64 (f a), .pointer (some ⟨pa, 0, none⟩)] (wr.drewN m') fun e w' => e = .returned (.int .i64 (cmI (k (f h)) (k (f a)))) ∧ ∃ q, w' = (wr.drewN m').drewN q) := fun m' =>
        HX.out.cmp (f h) (f a) (wr.drewN m') (HK.out _ (by omega)) (HK.out _ (by omega)) (below_drewN BW.out m')
      obtain ⟨c, hc⟩ : ∃ c, cmI (k (f h)) (k (f a)) = c := ⟨_, rfl⟩
      have hcn : c < 0 ↔ k (f h) < k (f a) := by rw [← hc]; exact cmI_neg
      rw [hc] at KC
      clear hc
      by_cases hl : k (f h) < k (f a)
      · have hcl : c < 0 := hcn.2 hl
        have hcd : decide (c < 0) = true := decide_eq_true hcl
        have HL' : Hid (∀ t, m ≤ t → t < h + 1 → k (f t) < k (f a)) := fun t h1 h2 => by
          by_cases e : t = h
          · rw [e]; exact hl
          · have := HS.out t h h1 (by omega) (by omega); omega
        clear hcn hl
        go_upto_region 5 with fail
        clear hh
        go_quiet (exact Calls.quiet_of (KC.out _))
        go_wp2_with fail
        go_roundw
        case rel => exact ⟨h + 1, j, by omega, by omega, hjb, by go_num, rfl, HL', HG, (RR.out.drewN _), (GG.out.trans (Gr.below (below_drewN (Below.refl _ _) _)))⟩
        case measure => simp [intOf]; omega
      · have hcl : ¬ c < 0 := fun h => hl (hcn.1 h)
        have hcd : decide (c < 0) = false := decide_eq_false hcl
        have HG' : Hid (∀ t, h ≤ t → t < b → k (f a) ≤ k (f t)) := fun t h1 h2 => by
          by_cases e : t = h
          · rw [e]; omega
          · have := HS.out h t (by omega) (by omega) h2; omega
        clear hcn hl
        go_upto_region 5 with fail
        clear hh
        go_quiet (exact Calls.quiet_of (KC.out _))
        go_wp2_with fail
        go_roundw
        case rel => exact ⟨i, h, hmi, hih, by omega, rfl, by go_num, HL, HG', (RR.out.drewN _), (GG.out.trans (Gr.below (below_drewN (Below.refl _ _) _)))⟩
        case measure => simp [intOf]; omega
    · have hlt' : ¬ (i : Int) < (j : Int) := by omega
      obtain rfl : i = j := by omega
      have HF := hideP (fun x y => shl_seg (k := k) (f := f) (a := a) (i := i) (b := b) x hjb y)
      have R0 : Hid (Rw g off n (rotF f a (a + 1) (a + 1)) wr) := by show Rw _ _ _ _ _; rw [shl_zero]; exact RR.out
      go_wp2_with fail
      go_loopw [13] (fun vc w2 => ∃ c : Nat, a ≤ c ∧ c + 1 ≤ i ∧ vc = .int .i64 (c : Int) ∧ Hid (Rw g off n (rotF f a (a + 1) (c + 1)) w2) ∧ Hid (Gr g w w2)) (fun vc _ => i - (intOf vc).toNat)
      case atStart => exact ⟨a, Nat.le_refl _, by omega, rfl, R0, GG⟩
      case round =>
        clear R0 RR GG
        obtain ⟨c, hac, hci, rfl, RR, GG⟩ := hrel
        by_cases hc1 : c + 1 < i
        · have hc1' : (c : Int) < (i : Int) - 1 := by omega
          have SX := hideP (shl_step (f := f) (a := a) (c := c) hac)
          obtain ⟨G, hG⟩ : ∃ G, rotF f a (a + 1) (c + 1) = G := ⟨_, rfl⟩
          rw [hG] at RR SX
          clear hG
          have hcw : ∀ t, t < n → wr.cell? ⟨g, off + t, none⟩ = some (.int .i64 (G t)) := fun t ht => (RR.out.2 t ht).1
          have hfw : ∀ t, t < n → wr.frozen? ⟨g, off + t, none⟩ = false := fun t ht => (RR.out.2 t ht).2
          have hcn : c < n := by omega
          have hcn1 : c + 1 < n := by omega
          have NW : Hid (Rw g off n (rotF f a (a + 1) (c + 1 + 1)) (((wr.setCell ⟨g, off + c, none⟩ (.int .i64 (G (c + 1)))).setCell ⟨g, off + (c + 1), none⟩ (.int .i64 (G c))).drew) ∧ Gr g w (((wr.setCell ⟨g, off + c, none⟩ (.int .i64 (G (c + 1)))).setCell ⟨g, off + (c + 1), none⟩ (.int .i64 (G c))).drew)) := by
            refine ⟨?_, (GG.out.trans ((Gr.set _ _ _ _).trans (Gr.set _ _ _ _))).drew⟩
            rw [← SX.out]
            exact ((RR.out.set _ hcn).set _ hcn1).drew
          go_wp2_with fail
          go_region
          all_goals go_wp2_with fail
          go_roundw
          case rel => exact ⟨c + 1, by omega, by omega, by go_num, NW.out.1, NW.out.2⟩
          case measure => simp [intOf]; omega
        · have hc1' : ¬ (c : Int) < (i : Int) - 1 := by omega
          obtain rfl : i = c + 1 := by omega
          have HE : Hid (Pl.seg (rotF f a (a + 1) (c + 1)) a b = Pl.mrg k (Pl.seg f a m) (Pl.seg f m b)) := by
            have hmm := Hm.out
            subst hmm
            exact HF.out hmi HL.out HG.out
          go_wp2_with fail
          go_end0
          exact ⟨rfl, ⟨_, RR.out, HE.out, fun t ht => shl_out (by omega) hac⟩, GG.out⟩

set_option maxRecDepth 100000 in
set_option maxHeartbeats 8000000 in
/-- slices.symMergeCmpFunc, where the second part is one number -/
theorem sm_right (B0 : Nat) (w0 : World) (pa g off cap n a m b : Nat) (k : Int → Int) (ok : Int → Prop) (f : Nat → Int) (w : World) (hX : Cx B0 w0 pa g n k ok) (hR : Rw g off n f w) (hm1 : a + 1 < m) (hm : b = m + 1) (hb : b ≤ n) (hn : n ≤ 1000000) (hok : ∀ t, t < n → ok (f t)) (hs : Pl.SrtF k f a m) (hB : Below B0 w0 w) :
    Calls Try.prog 157 #[.slice (some ⟨g, off, none⟩) n cap, .int .i64 (a : Int), .int .i64 (m : Int), .int .i64 (b : Int), cl pa] w (SmPost g off n a m b k f w) := by
  have HR := hideP hR
  have HX := hideP hX
  have HB := hideP hB
  have HK := hideP hok
  have HS := hideP hs
  have hcf := callF57
  have hma : ((m : Int) - (a : Int) == 1) = false := by rw [beq_eq_false_iff_ne]; omega
  have hbm : ((b : Int) - (m : Int) == 1) = true := by rw [beq_iff_eq]; omega
  have Hm := hideP hm
  have hmn : m < n := by omega
  clear hR hX hB hok hs hm
  have HSW : Hid (B0 ≤ w.heap.size) := Nat.le_trans HX.out.g (Nat.le_of_lt HR.out.1)
  go_enter Try.func157, Try.ntmps157
  go_wp2_with fail
  go_loopw [14, 15, 16] (fun vi vj _ wr => ∃ i j : Nat, a ≤ i ∧ i ≤ j ∧ j ≤ m ∧ vi = .int .i64 (i : Int) ∧ vj = .int .i64 (j : Int) ∧ Hid (∀ t, a ≤ t → t < i → k (f t) ≤ k (f m)) ∧ Hid (∀ t, j ≤ t → t < m → k (f m) < k (f t)) ∧ Hid (Rw g off n f wr) ∧ Hid (Gr g w wr)) (fun vi vj _ _ => (intOf vj).toNat - (intOf vi).toNat)
  case atStart => exact ⟨a, m, Nat.le_refl _, by omega, Nat.le_refl _, rfl, rfl, fun t h1 h2 => by omega, fun t h1 h2 => by omega, HR, Gr.refl _ _⟩
  case round =>
    obtain ⟨i, j, hmi, hij, hjb, rfl, rfl, HL, HG, RR, GG⟩ := hrel
    by_cases hlt : i < j
    · have hlt' : (i : Int) < (j : Int) := by omega
      obtain ⟨h, hh⟩ : ∃ h : Nat, ((i : Int) + (j : Int)) / 2 = (h : Int) := ⟨(i + j) / 2, by omega⟩
      have hih : i ≤ h := by omega
      have hhj : h < j := by omega
      have hhn : h < n := by omega
      have BW := hideP (GG.out.keep HB.out HX.out.g HSW.out)
      have hcw : ∀ t, t < n → wr.cell? ⟨g, off + t, none⟩ = some (.int .i64 (f t)) := fun t ht => (RR.out.2 t ht).1
      have KC : Hid (∀ m', Calls Try.prog 145 #[.int .i64 (f m), .int .i64 (f h), .pointer (some ⟨pa, 0, none⟩)] (wr.drewN m') fun e w' => e = .returned (.int .i64 (cmI (k (f m)) (k (f h)))) ∧ ∃ q, w' = (wr.drewN m').drewN q) := fun m' =>
        HX.out.cmp (f m) (f h) (wr.drewN m') (HK.out _ (by omega)) (HK.out _ (by omega)) (below_drewN BW.out m')
      obtain ⟨c, hc⟩ : ∃ c, cmI (k (f m)) (k (f h)) = c := ⟨_, rfl⟩
      have hcn : c < 0 ↔ k (f m) < k (f h) := by rw [← hc]; exact cmI_neg
      rw [hc] at KC
      clear hc
      by_cases hl : k (f m) < k (f h)
      · have hcl : c < 0 := hcn.2 hl
        have hcd : decide (c < 0) = true := decide_eq_true hcl
        have HG' : Hid (∀ t, h ≤ t → t < m → k (f m) < k (f t)) := fun t h1 h2 => by
          by_cases e : t = h
          · rw [e]; exact hl
          · have := HS.out h t (by omega) (by omega) h2; omega
        clear hcn hl
        go_upto_region 17 with fail
        clear hh
        go_quiet (exact Calls.quiet_of (KC.out _))
        go_wp2_with fail
        go_roundw
        case rel => exact ⟨i, h, hmi, hih, by omega, rfl, by go_num, HL, HG', (RR.out.drewN _), (GG.out.trans (Gr.below (below_drewN (Below.refl _ _) _)))⟩
        case measure => simp [intOf]; omega
      · have hcl : ¬ c < 0 := fun h => hl (hcn.1 h)
        have hcd : decide (c < 0) = false := decide_eq_false hcl
        have HL' : Hid (∀ t, a ≤ t → t < h + 1 → k (f t) ≤ k (f m)) := fun t h1 h2 => by
          by_cases e : t = h
          · rw [e]; omega
          · have := HS.out t h h1 (by omega) (by omega); omega
        clear hcn hl
        go_upto_region 17 with fail
        clear hh
        go_quiet (exact Calls.quiet_of (KC.out _))
        go_wp2_with fail
        go_roundw
        case rel => exact ⟨h + 1, j, by omega, by omega, hjb, by go_num, rfl, HL', HG, (RR.out.drewN _), (GG.out.trans (Gr.below (below_drewN (Below.refl _ _) _)))⟩
        case measure => simp [intOf]; omega
    · have hlt' : ¬ (i : Int) < (j : Int) := by omega
      obtain rfl : i = j := by omega
      have R0 : Hid (Rw g off n (rotF f m m (m + 1)) wr) := by show Rw _ _ _ _ _; rw [ins_zero]; exact RR.out
      go_wp2_with fail
      go_loopw [17] (fun vc w2 => ∃ c : Nat, i ≤ c ∧ c ≤ m ∧ vc = .int .i64 (c : Int) ∧ Hid (Rw g off n (rotF f c m (m + 1)) w2) ∧ Hid (Gr g w w2)) (fun vc _ => (intOf vc).toNat)
      case atStart => exact ⟨m, by omega, Nat.le_refl _, rfl, R0, GG⟩
      case round =>
        clear R0 RR GG
        obtain ⟨c, hac, hci, rfl, RR, GG⟩ := hrel
        by_cases hc1 : i < c
        · have hc1' : (i : Int) < (c : Int) := by omega
          have SX := hideP (ins_step (F := f) (j := c) (i := m) (by omega) hci)
          obtain ⟨G, hG⟩ : ∃ G, rotF f c m (m + 1) = G := ⟨_, rfl⟩
          rw [hG] at RR SX
          clear hG
          have hcw : ∀ t, t < n → wr.cell? ⟨g, off + t, none⟩ = some (.int .i64 (G t)) := fun t ht => (RR.out.2 t ht).1
          have hfw : ∀ t, t < n → wr.frozen? ⟨g, off + t, none⟩ = false := fun t ht => (RR.out.2 t ht).2
          have hcn : c < n := by omega
          have hcn1 : c - 1 < n := by omega
          have hj2 : ((c - 1 : Nat) : Int) = (c : Int) - 1 := by omega
          have NW : Hid (Rw g off n (rotF f (c - 1) m (m + 1)) (((wr.setCell ⟨g, off + c, none⟩ (.int .i64 (G (c - 1)))).setCell ⟨g, off + (c - 1), none⟩ (.int .i64 (G c))).drew) ∧ Gr g w (((wr.setCell ⟨g, off + c, none⟩ (.int .i64 (G (c - 1)))).setCell ⟨g, off + (c - 1), none⟩ (.int .i64 (G c))).drew)) := by
            refine ⟨?_, (GG.out.trans ((Gr.set _ _ _ _).trans (Gr.set _ _ _ _))).drew⟩
            rw [← SX.out]
            exact ((RR.out.set _ hcn).set _ hcn1).drew
          go_wp2_with fail
          go_region
          all_goals go_wp2_with fail
          go_roundw
          case rel => exact ⟨c - 1, by omega, by omega, by congr 1; omega, NW.out.1, NW.out.2⟩
          case measure => simp [intOf]; omega
        · have hc1' : ¬ (i : Int) < (c : Int) := by omega
          obtain rfl : i = c := by omega
          have HE : Hid (Pl.seg (rotF f i m (m + 1)) a b = Pl.mrg k (Pl.seg f a m) (Pl.seg f m b)) := by
            have hmm := Hm.out
            subst hmm
            show _ = _
            rw [ins_seg hmi hci HL.out HG.out, Pl.seg_one]
            have := Pl.mrg_ins k (f m) _ (Pl.seg f a m) [] (Nat.le_refl _) (Pl.srt_of HS.out) List.Pairwise.nil
            rw [Pl.mrg_nil] at this
            exact this.symm
          go_wp2_with fail
          go_end0
          exact ⟨rfl, ⟨_, RR.out, HE.out, fun t ht => rot_out hci (by have := Hm.out; omega)⟩, GG.out⟩

end Go.Proofs.Ytmobjomebmipdaa
