import Derived.Test.YtmobjomebmipdaaMon5
import Derived.Test.YtmobjomebmipdaaS1
import Derived.Test.YtmobjomebmipdaaFl1
import Derived.Deep.CutRange
namespace Go.Proofs.Ytmobjomebmipdaa
open Go.RowKit
set_option linter.unusedVariables false

/-- a row in another block -/
theorem Rw.other {g g' off n : Nat} {f : Nat → Int} {w w' : World} (h : Rw g' off n f w) (hg : Gr g w w') (hne : ¬ g' = g) : Rw g' off n f w' := by
  have hb := hg.block g' h.1 (by intro e; injection e with e; exact hne e)
  have hc : ∀ o, w'.cell? ⟨g', o, none⟩ = w.cell? ⟨g', o, none⟩ := fun o => by simp only [World.cell?, hb]
  have hf : ∀ o, w'.frozen? ⟨g', o, none⟩ = w.frozen? ⟨g', o, none⟩ := fun o => by simp only [World.frozen?, hb]
  exact ⟨Nat.lt_of_lt_of_le h.1 hg.size, fun t ht => ⟨(hc _).trans (h.2 t ht).1, (hf _).trans (h.2 t ht).2⟩⟩

/-- the first i and the last i turned -/
def revI (f : Nat → Int) (n i : Nat) : Nat → Int := fun t => if t < i ∨ n - i ≤ t then f (n - 1 - t) else f t
theorem revI_step {f : Nat → Int} {n i : Nat} (h : i < n - 1 - i) : upd (upd (revI f n i) i (revI f n i (n - 1 - i))) (n - 1 - i) (revI f n i i) = revI f n (i + 1) := by
  have e1 : revI f n i (n - 1 - i) = f (n - 1 - i) := by unfold revI; rw [if_neg (by omega)]
  have e2 : revI f n i i = f i := by unfold revI; rw [if_neg (by omega)]
  rw [e1, e2]
  funext t
  unfold upd revI
  by_cases h1 : t = n - 1 - i
  · subst h1
    rw [if_pos rfl, if_pos (by omega)]
    congr 1; omega
  · rw [if_neg h1]
    by_cases h2 : t = i
    · subst h2
      rw [if_pos rfl, if_pos (by omega)]
    · rw [if_neg h2]
      by_cases h3 : t < i ∨ n - i ≤ t
      · rw [if_pos h3, if_pos (by omega)]
      · by_cases h4 : t < i + 1 ∨ n - (i + 1) ≤ t
        · exfalso; omega
        · rw [if_neg h3, if_neg h4]

set_option maxRecDepth 100000 in
set_option maxHeartbeats 4000000 in
/-- slices.Reverse -/
theorem reverse_any (g off cap n : Nat) (f : Nat → Int) (w : World) (hR : Rw g off n f w) (hn : n ≤ 1000000) (h0 : 0 < n) :
    Calls Try.prog 142 #[.slice (some ⟨g, off, none⟩) n cap] w fun e w' => e = .returned (.tuple #[]) ∧ Rw g off n (fun t => f (n - 1 - t)) w' ∧ Gr g w w' := by
  have HR : Hid (Rw g off n (revI f n 0) w) := hR.congr fun t ht => by unfold revI; rw [if_neg (by omega)]
  clear hR
  go_enter Try.func142, Try.ntmps142
  go_wp2_with fail
  go_loopw [2, 3] (fun vi vj wr => ∃ i : Nat, 2 * i ≤ n ∧ vi = .int .i64 (i : Int) ∧ vj = .int .i64 ((n : Int) - 1 - (i : Int)) ∧ Hid (Rw g off n (revI f n i) wr) ∧ Hid (Gr g w wr)) (fun vi _ _ => n - (intOf vi).toNat)
  case atStart => exact ⟨0, by omega, rfl, by go_num, HR, Gr.refl _ _⟩
  case round =>
    obtain ⟨i, hi, rfl, rfl, RR, GG⟩ := hrel
    by_cases hlt : i < n - 1 - i
    · have hlt' : (i : Int) < (n : Int) - 1 - (i : Int) := by omega
      have SX := hideP (revI_step (f := f) hlt)
      obtain ⟨G, hG⟩ : ∃ G, revI f n i = G := ⟨_, rfl⟩
      rw [hG] at RR SX
      clear hG
      obtain ⟨j, hj⟩ : ∃ j, n - 1 - i = j := ⟨_, rfl⟩
      have hj' : (n : Int) - 1 - (i : Int) = (j : Int) := by omega
      rw [hj] at SX
      rw [hj'] at hlt' ⊢
      have hjn : j < n := by omega
      have hin : i < n := by omega
      have hcw : ∀ t, t < n → wr.cell? ⟨g, off + t, none⟩ = some (.int .i64 (G t)) := fun t ht => (RR.out.2 t ht).1
      have hfw : ∀ t, t < n → wr.frozen? ⟨g, off + t, none⟩ = false := fun t ht => (RR.out.2 t ht).2
      have NW : Hid (Rw g off n (revI f n (i + 1)) (((wr.setCell ⟨g, off + i, none⟩ (.int .i64 (G j))).setCell ⟨g, off + j, none⟩ (.int .i64 (G i))).drew) ∧ Gr g w (((wr.setCell ⟨g, off + i, none⟩ (.int .i64 (G j))).setCell ⟨g, off + j, none⟩ (.int .i64 (G i))).drew)) := by
        refine ⟨?_, (GG.out.trans ((Gr.set _ _ _ _).trans (Gr.set _ _ _ _))).drew⟩
        rw [← SX.out]
        exact ((RR.out.set _ hin).set _ hjn).drew
      have HJ := hideP hj
      clear hj hj'
      go_wp2_with fail
      go_region
      all_goals go_wp2_with fail
      go_roundw
      case rel => exact ⟨i + 1, by have := HJ.out; omega, by go_num, by have := HJ.out; congr 1; omega, NW.out.1, NW.out.2⟩
      case measure => simp [intOf]; omega
    · have hlt' : ¬ (i : Int) < (n : Int) - 1 - (i : Int) := by omega
      have RE : Hid (Rw g off n (fun t => f (n - 1 - t)) wr) := RR.out.congr fun t ht => by
        unfold revI
        by_cases h3 : t < i ∨ n - i ≤ t
        · rw [if_pos h3]
        · rw [if_neg h3]
          congr 1; omega
      go_wp2_with fail
      go_end0
      exact ⟨rfl, RE.out, GG.out⟩

theorem reverse_nil (ao : Option Addr) (cap : Nat) (w : World) : Calls Try.prog 142 #[.slice ao 0 cap] w fun e w' => e = .returned (.tuple #[]) ∧ w' = w := by
  go_enter Try.func142, Try.ntmps142
  go_wp2_with fail
  go_loopw [2, 3] (fun vi vj wr => vi = .int .i64 0 ∧ vj = .int .i64 (-1) ∧ wr = w) (fun _ _ _ => 0)
  case atStart => exact ⟨rfl, by go_num, rfl⟩
  case round =>
    obtain ⟨rfl, rfl, rfl⟩ := hrel
    go_wp2_with fail
    go_end0
    exact ⟨rfl, rfl⟩

end Go.Proofs.Ytmobjomebmipdaa
