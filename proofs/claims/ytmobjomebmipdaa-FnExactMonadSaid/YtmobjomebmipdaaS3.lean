import Derived.Test.YtmobjomebmipdaaS2
import Derived.Lib.QuietBelow
namespace Go.Proofs.Ytmobjomebmipdaa
open Go.RowKit
set_option linter.unusedVariables false

theorem isNaN_i (x : Int) (w : World) : Calls Try.prog 152 #[.int .i64 x] w fun e w' => e = .returned (.bool false) ∧ w' = w := by
  go_enter Try.func152, Try.ntmps152
  go_wp2
  go_ret
  exact ⟨by simp, rfl⟩
/-- what cmp.Compare says -/
def cmI (x y : Int) : Int := if x < y then -1 else if y < x then 1 else 0
theorem cmI_neg {x y : Int} : cmI x y < 0 ↔ x < y := by
  unfold cmI
  constructor
  · intro h
    split at h
    · assumption
    · split at h <;> omega
  · intro h
    rw [if_pos h]; omega
theorem compare_i (x y : Int) (w : World) : Calls Try.prog 137 #[.int .i64 x, .int .i64 y] w fun e w' => e = .returned (.int .i64 (cmI x y)) ∧ w' = w := by
  by_cases h : x < y
  · have E : Hid (cmI x y = -1) := by show _ = _; unfold cmI; rw [if_pos h]
    rw [E.out]
    go_enter Try.func137, Try.ntmps137
    go_wp2_with (go_at_call 152; refine (isNaN_i _ _).mono ?_; rintro e w ⟨rfl, rfl⟩)
    go_ret
    exact ⟨rfl, rfl⟩
  · by_cases h' : y < x
    · have E : Hid (cmI x y = 1) := by show _ = _; unfold cmI; rw [if_neg h, if_pos h']
      rw [E.out]
      go_enter Try.func137, Try.ntmps137
      go_wp2_with (go_at_call 152; refine (isNaN_i _ _).mono ?_; rintro e w ⟨rfl, rfl⟩)
      go_ret
      exact ⟨rfl, rfl⟩
    · have E : Hid (cmI x y = 0) := by show _ = _; unfold cmI; rw [if_neg h, if_neg h']
      rw [E.out]
      go_enter Try.func137, Try.ntmps137
      go_wp2_with (go_at_call 152; refine (isNaN_i _ _).mono ?_; rintro e w ⟨rfl, rfl⟩)
      go_ret
      exact ⟨rfl, rfl⟩

/-- the comparing of places: by their keys -/
def Cmp (B0 : Nat) (w0 : World) (pa : Nat) (k : Int → Int) (ok : Int → Prop) : Prop :=
  ∀ (x y : Int) (W : World), ok x → ok y → Below B0 w0 W → Calls Try.prog 145 #[.int .i64 x, .int .i64 y, .pointer (some ⟨pa, 0, none⟩)] W fun e w' => e = .returned (.int .i64 (cmI (k x) (k y))) ∧ ∃ q, w' = W.drewN q
/-- the closure -/
abbrev cl (pa : Nat) : Value := .func (.func 145) #[] #[.pointer (some ⟨pa, 0, none⟩)]
theorem callF57 (args : Array Value) (w : World) : (callFunc 145 args).run Try.prog w = .ok (.enter 145 args) w := by kernel_rfl

set_option maxRecDepth 100000 in
set_option maxHeartbeats 2000000 in
/-- impl.grade$1 -/
theorem grade1_any (pa b off cap : Nat) (u0 : Value) (da : List Int) (w0 : World) (B0 : Nat) (hb : b < B0) (hpa : pa < B0) (h0 : w0.cell? ⟨pa, 1, none⟩ = some (.slice (some ⟨b, off, none⟩) da.length cap)) (hc : ∀ i, i < da.length → w0.cell? ⟨b, off + i, none⟩ = some (.int .i64 (da.getD i 0))) :
    Cmp B0 w0 pa (fun x => da.getD x.toNat 0) (fun x => 0 ≤ x ∧ x < da.length) := by
  intro x y W hx hy hW
  obtain ⟨i, rfl⟩ := Int.eq_ofNat_of_zero_le hx.1
  obtain ⟨j, rfl⟩ := Int.eq_ofNat_of_zero_le hy.1
  have c0 := (hW.cell (p := ⟨pa, 1, none⟩) hpa).trans h0
  have ci := (hW.cell (p := ⟨b, off + i, none⟩) hb).trans (hc i (by omega))
  have cj := (hW.cell (p := ⟨b, off + j, none⟩) hb).trans (hc j (by omega))
  simp only [Int.toNat_natCast]
  have hi : (i : Int) < (da.length : Int) := hx.2
  have hj : (j : Int) < (da.length : Int) := hy.2
  clear hc h0 hx hy hW
  generalize da.getD i 0 = di at *
  generalize da.getD j 0 = dj at *
  generalize da.length = n at *
  go_enter Try.func145, Try.ntmps145
  go_wp2_with fail
  go_quiet ((go_at_call 137; exact Calls.quiet_of_same (compare_i _ _ _)))
  go_wp2_with fail
  go_ret
  exact ⟨rfl, _, rfl⟩

theorem ins_zero {F : Nat → Int} {i : Nat} : rotF F i i (i + 1) = F := by
  funext t
  unfold rotF
  rw [show i + 1 - i = 1 by omega, show i - i = 0 by omega]
  repeat' split
  all_goals first | rfl | (congr 1; omega) | (exfalso; omega)
theorem ins_step {F : Nat → Int} {j i : Nat} (h0 : 0 < j) (h : j ≤ i) : upd (upd (rotF F j i (i + 1)) j (rotF F j i (i + 1) (j - 1))) (j - 1) (rotF F j i (i + 1) j) = rotF F (j - 1) i (i + 1) := by
  obtain ⟨p, rfl⟩ : ∃ p, j = p + 1 := ⟨j - 1, by omega⟩
  obtain ⟨d, rfl⟩ : ∃ d, i = p + 1 + d := ⟨i - (p + 1), by omega⟩
  have e1 : p + 1 + d + 1 - (p + 1 + d) = 1 := by omega
  have e2 : p + 1 + d - (p + 1) = d := by omega
  have e3 : p + 1 - 1 = p := by omega
  have e4 : p + 1 + d - p = d + 1 := by omega
  funext t
  unfold upd rotF
  simp only [e1, e2, e3, e4]
  repeat' split
  all_goals first | rfl | (congr 1; omega) | (exfalso; omega) | skip
  all_goals (subst_vars; first | rfl | (congr 1; omega) | (exfalso; omega))
theorem rot_at {F : Nat → Int} {j i : Nat} (h : j ≤ i) : rotF F j i (i + 1) j = F i := by
  unfold rotF
  rw [if_pos (by omega)]
  congr 1; omega
theorem rot_low {F : Nat → Int} {j i t : Nat} (h : t < j) : rotF F j i (i + 1) t = F t := by
  unfold rotF
  rw [if_neg (by omega), if_neg (by omega)]
theorem rot_out {F : Nat → Int} {j i t : Nat} (hj : j ≤ i) (h : t < j ∨ i < t) : rotF F j i (i + 1) t = F t := by
  unfold rotF
  rw [if_neg (by omega), if_neg (by omega)]
/-- the number's place is found -/
theorem ins_seg {k : Int → Int} {F : Nat → Int} {a j i : Nat} (ha : a ≤ j) (hj : j ≤ i) (h1 : ∀ t, a ≤ t → t < j → k (F t) ≤ k (F i)) (h2 : ∀ t, j ≤ t → t < i → k (F i) < k (F t)) :
    Pl.seg (rotF F j i (i + 1)) a (i + 1) = Pl.ins k (F i) (Pl.seg F a i) := by
  rw [← Pl.seg_cat F ha hj, Pl.ins_split (fun p hp => by obtain ⟨t, t1, t2, rfl⟩ := Pl.seg_mem hp; exact h1 t t1 t2) (fun p hp => by obtain ⟨t, t1, t2, rfl⟩ := Pl.seg_mem hp; exact h2 t t1 t2)]
  rw [← Pl.seg_cat (rotF F j i (i + 1)) ha (show j ≤ i + 1 by omega), ← Pl.seg_cat (rotF F j i (i + 1)) (show j ≤ j + 1 by omega) (show j + 1 ≤ i + 1 by omega), Pl.seg_one, rot_at hj]
  rw [Pl.seg_congr (f := rotF F j i (i + 1)) (f' := F) (a := a) (b := j) (fun t _ h => rot_low h)]
  rw [Pl.seg_shift (f := rotF F j i (i + 1)) (f' := F) (a := j + 1) (b := i + 1) (c := j) (d := i) (by omega) (fun t ht => by
    unfold rotF
    rw [if_neg (by omega), if_pos (by omega)]
    congr 1; omega)]
  rfl

/-- the places below n are right ones, and the comparing stands -/
structure Cx (B0 : Nat) (w0 : World) (pa g n : Nat) (k : Int → Int) (ok : Int → Prop) : Prop where
  cmp : Cmp B0 w0 pa k ok
  g : B0 ≤ g
  ok : ∀ t : Nat, t < n → ok (t : Int)

set_option maxRecDepth 100000 in
set_option maxHeartbeats 4000000 in
/-- slices.insertionSortCmpFunc, of places in a row -/
theorem insertion_any (B0 : Nat) (w0 : World) (pa g off cap n a b : Nat) (k : Int → Int) (ok : Int → Prop) (f : Nat → Int) (w : World) (hX : Cx B0 w0 pa g n k ok) (hR : Rw g off n f w) (hab : a ≤ b) (hb : b ≤ n) (hn : n ≤ 1000000) (hid : ∀ t, a ≤ t → t < b → f t = (t : Int)) (hB : Below B0 w0 w) :
    Calls Try.prog 156 #[.slice (some ⟨g, off, none⟩) n cap, .int .i64 (a : Int), .int .i64 (b : Int), cl pa] w fun e w' => e = .returned (.tuple #[]) ∧ (∃ f', Rw g off n f' w' ∧ Pl.seg f' a b = Pl.grd k a (b - a) ∧ ∀ t, (t < a ∨ b ≤ t) → f' t = f t) ∧ Gr g w w' := by
  have HR := hideP hR
  have HX := hideP hX
  have HD := hideP hid
  have HB := hideP hB
  have hcf := callF57
  clear hR hX hid hB
  by_cases hlt0 : a < b
  · go_enter Try.func156, Try.ntmps156
    go_wp2_with fail
    go_loopw [8, 9] (fun vi _ wr => ∃ (i : Nat) (F : Nat → Int), a < i ∧ i ≤ b ∧ vi = .int .i64 (i : Int) ∧ Hid (Rw g off n F wr) ∧ Hid (Pl.seg F a i = Pl.grd k a (i - a)) ∧ Hid (∀ t, (t < a ∨ i ≤ t) → F t = f t) ∧ Hid (Gr g w wr)) (fun vi _ _ => b - (intOf vi).toNat)
    case atStart =>
      refine ⟨a + 1, f, by omega, by omega, by go_num, HR, ?_, fun t _ => rfl, Gr.refl _ _⟩
      show _ = _
      rw [Pl.seg_one, show a + 1 - a = 1 by omega, HD.out a (Nat.le_refl _) hlt0]
      rfl
    case round =>
      obtain ⟨i, F, hai, hib, rfl, RR, HG, HO, GG⟩ := hrel
      by_cases hlt : i < b
      · have hlt' : (i : Int) < (b : Int) := by omega
        go_wp2_with fail
        go_loopw [9] (fun vj w2 => ∃ j : Nat, a ≤ j ∧ j ≤ i ∧ vj = .int .i64 (j : Int) ∧ Hid (Rw g off n (rotF F j i (i + 1)) w2) ∧ Hid (∀ t, j ≤ t → t < i → k (F i) < k (F t)) ∧ Hid (Gr g w w2)) (fun vj _ => (intOf vj).toNat)
        case atStart => exact ⟨i, by omega, Nat.le_refl _, rfl, by show Rw _ _ _ _ _; rw [ins_zero]; exact RR.out, fun t h1 h2 => by omega, GG⟩
        case round =>
          obtain ⟨j, haj, hji, rfl, R2, H2, G2⟩ := hrel
          have hin : i < n := by omega
          have eFi : Hid (F i = (i : Int)) := (HO.out i (.inr (Nat.le_refl _))).trans (HD.out i (by omega) hlt)
          have BW := hideP (G2.out.keep HB.out HX.out.g (Nat.le_trans HX.out.g (Nat.le_of_lt (Nat.lt_of_lt_of_le HR.out.1 (Nat.le_refl _)))))
          have OUT : Hid (∀ w', Gr g w w' → Rw g off n (rotF F j i (i + 1)) w' → (j = a ∨ ¬ k (F i) < k (F (j - 1))) → ∃ (i' : Nat) (F' : Nat → Int), a < i' ∧ i' ≤ b ∧ Value.int .i64 ((i : Int) + 1) = .int .i64 (i' : Int) ∧ Hid (Rw g off n F' w') ∧ Hid (Pl.seg F' a i' = Pl.grd k a (i' - a)) ∧ Hid (∀ t, (t < a ∨ i' ≤ t) → F' t = f t) ∧ Hid (Gr g w w')) := fun w' hg hr hs => by
            have hsr : Pl.SrtF k F a i := Pl.srtF_of (by rw [HG.out]; exact Pl.srt_grd _ _ _)
            refine ⟨i + 1, _, by omega, by omega, by go_num, hr, ?_, fun t ht => ?_, hg⟩
            · show _ = _
              rw [ins_seg haj hji (fun t t1 t2 => by
                rcases hs with hs | hs
                · omega
                · by_cases e : t = j - 1
                  · subst e; omega
                  · have := hsr t (j - 1) t1 (by omega) (by omega); omega) H2.out, HG.out, eFi.out, show i + 1 - a = (i - a) + 1 by omega]
              show _ = Pl.ins k ((a + (i - a) : Nat) : Int) (Pl.grd k a (i - a))
              rw [show a + (i - a) = i by omega]
            · rw [rot_out hji (by omega)]
              exact HO.out t (by omega)
          have eG1 : Hid (rotF F j i (i + 1) j = F i) := rot_at hji
          by_cases hja : a < j
          · have hja' : decide ((a : Int) < (j : Int)) = true := decide_eq_true (by omega)
            have eG2 : Hid (rotF F j i (i + 1) (j - 1) = F (j - 1)) := rot_low (by omega)
            have SX := hideP (ins_step (F := F) (j := j) (i := i) (by omega) hji)
            have ok1 : Hid (ok (F i)) := by show ok _; rw [eFi.out]; exact HX.out.ok i hin
            have ok2 : Hid (ok (F (j - 1))) := by
              have hm : F (j - 1) ∈ Pl.grd k a (i - a) := by rw [← HG.out]; exact Pl.seg_in (by omega) (by omega)
              have hm := Pl.mem_grd hm
              obtain ⟨t, ht⟩ := Int.eq_ofNat_of_zero_le (show 0 ≤ F (j - 1) by omega)
              show ok _
              rw [ht]
              exact HX.out.ok t (by omega)
            obtain ⟨G, hG⟩ : ∃ G, rotF F j i (i + 1) = G := ⟨_, rfl⟩
            rw [hG] at R2 SX eG1 eG2 OUT
            clear hG
            have hcw : ∀ t, t < n → wr.cell? ⟨g, off + t, none⟩ = some (.int .i64 (G t)) := fun t ht => (R2.out.2 t ht).1
            have hfw : ∀ t, t < n → wr.frozen? ⟨g, off + t, none⟩ = false := fun t ht => (R2.out.2 t ht).2
            have KC : Hid (∀ m, Calls Try.prog 145 #[.int .i64 (G j), .int .i64 (G (j - 1)), .pointer (some ⟨pa, 0, none⟩)] (wr.drewN m) fun e w' => e = .returned (.int .i64 (cmI (k (F i)) (k (F (j - 1))))) ∧ ∃ q, w' = (wr.drewN m).drewN q) := fun m => by
              rw [← eG1.out, ← eG2.out]
              exact HX.out.cmp (G j) (G (j - 1)) (wr.drewN m) (by rw [eG1.out]; exact ok1.out) (by rw [eG2.out]; exact ok2.out) (below_drewN BW.out m)
            obtain ⟨c, hc⟩ : ∃ c, cmI (k (F i)) (k (F (j - 1))) = c := ⟨_, rfl⟩
            have hcn : c < 0 ↔ k (F i) < k (F (j - 1)) := by rw [← hc]; exact cmI_neg
            rw [hc] at KC
            have hjn : j < n := by omega
            have hj1 : j - 1 < n := by omega
            have hj2 : ((j - 1 : Nat) : Int) = (j : Int) - 1 := by omega
            clear hc ok1 ok2
            by_cases hl : k (F i) < k (F (j - 1))
            · have hcl : c < 0 := hcn.2 hl
              have HL := hideP hl
              clear hcn hl
              have NW : Hid (∀ q, Rw g off n (rotF F (j - 1) i (i + 1)) (((wr.drewN q).setCell ⟨g, off + j, none⟩ (.int .i64 (G (j - 1)))).setCell ⟨g, off + (j - 1), none⟩ (.int .i64 (G j))) ∧ Gr g w (((wr.drewN q).setCell ⟨g, off + j, none⟩ (.int .i64 (G (j - 1)))).setCell ⟨g, off + (j - 1), none⟩ (.int .i64 (G j)))) := fun q => by
                refine ⟨?_, G2.out.trans (Gr.drewN q ((Gr.set _ _ _ _).trans (Gr.set _ _ _ _)))⟩
                rw [← SX.out]
                exact ((R2.out.drewN q).set _ hjn).set _ hj1
              have HLL : Hid (∀ t, j - 1 ≤ t → t < i → k (F i) < k (F t)) := fun t h1 h2 => by
                by_cases e : t = j - 1
                · rw [e]; exact HL.out
                · exact H2.out t (by omega) h2
              go_wp2_with fail
              go_quiet (exact Calls.quiet_of (KC.out _))
              go_wp2_with fail
              go_region
              all_goals go_wp2_with fail
              go_roundw
              case rel => exact ⟨j - 1, by omega, by omega, by congr 1; omega, (NW.out _).1, HLL, (NW.out _).2⟩
              case measure => simp [intOf]; omega
            · have hcl : ¬ c < 0 := fun h => hl (hcn.1 h)
              have HL := hideP hl
              clear hcn hl
              go_wp2_with fail
              go_quiet (exact Calls.quiet_of (KC.out _))
              go_wp2_with fail
              go_roundw
              case rel => exact OUT.out _ (G2.out.trans (Gr.below (below_drewN (Below.refl _ _) _))) (R2.out.drewN _) (.inr HL.out)
              case measure => simp [intOf]; omega
          · have hja' : decide ((a : Int) < (j : Int)) = false := decide_eq_false (by omega)
            go_wp2_with fail
            go_quiet (fail)
            go_wp2_with fail
            go_roundw
            case rel => exact OUT.out _ (G2.out.trans (Gr.below (below_drewN (Below.refl _ _) _))) (R2.out.drewN _) (.inl (by omega))
            case measure => simp [intOf]; omega
      · have hlt' : ¬ (i : Int) < (b : Int) := by omega
        obtain rfl : i = b := by omega
        go_wp2_with fail
        go_end0
        exact ⟨rfl, ⟨F, RR.out, HG.out, HO.out⟩, GG.out⟩
  · obtain rfl : a = b := by omega
    have hlt' : ¬ (a : Int) + 1 < (a : Int) := by omega
    go_enter Try.func156, Try.ntmps156
    go_wp2_with fail
    go_loopw [8, 9] (fun vi _ wr => vi = .int .i64 ((a : Int) + 1) ∧ wr = w) (fun _ _ _ => 0)
    case atStart => exact ⟨by go_num, rfl⟩
    case round =>
      obtain ⟨rfl, rfl⟩ := hrel
      go_wp2_with fail
      go_end0
      exact ⟨rfl, ⟨f, HR.out, by rw [Pl.seg_nil f (Nat.le_refl _), Nat.sub_self]; rfl, fun _ _ => rfl⟩, Gr.refl _ _⟩

end Go.Proofs.Ytmobjomebmipdaa
