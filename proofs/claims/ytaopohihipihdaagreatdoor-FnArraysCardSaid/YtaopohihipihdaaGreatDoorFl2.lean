import Derived.Test.YtaopohihipihdaaGreatDoorS2
import Derived.Test.YtaopohihipihdaaGreatDoorMon5
import Derived.Test.YtaopohihipihdaaGreatDoorS1
import Derived.Deep.CutRange
namespace Go.Proofs.YtaopohihipihdaaGreatDoor
set_option linter.unusedVariables false

namespace Pl
/-- the places of cell i along the axes of a shape, the first axis turning first -/
def plR : List Nat → Nat → List Nat
  | [], _ => []
  | d :: ds, i => i % d :: plR ds (i / d)
theorem plR_len (ds : List Nat) : ∀ i, (plR ds i).length = ds.length := by
  induction ds with
  | nil => intro i; rfl
  | cons d ds ih => intro i; rw [plR, List.length_cons, ih]; rfl
/-- one on -/
def incR : List Nat → List Nat → List Nat
  | d :: ds, p :: ps => if p + 1 < d then (p + 1) :: ps else 0 :: incR ds ps
  | _, _ => []
theorem inc_plR (ds : List Nat) (h : ∀ d ∈ ds, 0 < d) : ∀ i, incR ds (plR ds i) = plR ds (i + 1) := by
  induction ds with
  | nil => intro i; rfl
  | cons d ds ih =>
    intro i
    have hd := h d (by simp)
    rw [plR, incR, plR]
    have e := Nat.div_add_mod i d
    by_cases hc : i % d + 1 < d
    · rw [if_pos hc]
      have e1 : (i + 1) % d = i % d + 1 := by
        rw [Nat.add_mod, Nat.mod_eq_of_lt (show 1 < d by omega), Nat.mod_eq_of_lt hc]
      have e2 : (i + 1) / d = i / d := by
        have h1 := Nat.div_add_mod (i + 1) d
        rw [e1] at h1
        have h2 : d * ((i + 1) / d) = d * (i / d) := by omega
        exact Nat.eq_of_mul_eq_mul_left hd h2
      rw [e1, e2]
    · rw [if_neg hc]
      have hm := Nat.mod_lt i hd
      have e0 : i + 1 = d * (i / d + 1) := by rw [Nat.mul_add]; omega
      have e1 : (i + 1) % d = 0 := by rw [e0, Nat.mul_mod_right]
      have e2 : (i + 1) / d = i / d + 1 := by rw [e0, Nat.mul_div_cancel_left _ hd]
      rw [e1, e2, ih (fun x hx => h x (List.mem_cons_of_mem _ hx))]
theorem plR_zero (ds : List Nat) : plR ds 0 = List.replicate ds.length 0 := by
  induction ds with
  | nil => rfl
  | cons d ds ih => rw [plR, Nat.zero_mod, Nat.zero_div, ih]; rfl
theorem plR_lt (ds : List Nat) (h : ∀ d ∈ ds, 0 < d) : ∀ i t, t < ds.length → (plR ds i).getD t 0 < ds.getD t 0 := by
  induction ds with
  | nil => intro i t ht; simp at ht
  | cons d ds ih =>
    intro i t ht
    cases t with
    | zero => exact Nat.mod_lt _ (h d (by simp))
    | succ t => exact ih (fun x hx => h x (List.mem_cons_of_mem _ hx)) (i / d) t (by simpa using ht)
def prdN (ds : List Nat) : Nat := ds.foldr (· * ·) 1
/-- the cell at places -/
def ev : List Nat → List Nat → Nat
  | s :: ss, q :: qs => q * prdN ss + ev ss qs
  | _, _ => 0
theorem ev_lt (ds : List Nat) (h : ∀ d ∈ ds, 0 < d) : ∀ qs : List Nat, qs.length = ds.length → (∀ t, t < ds.length → qs.getD t 0 < ds.getD t 0) → ev ds qs < prdN ds := by
  induction ds with
  | nil => intro qs _ _; cases qs <;> exact Nat.one_pos
  | cons d ds ih =>
    intro qs hl hq
    cases qs with
    | nil => simp at hl
    | cons q qs =>
      have h1 := ih (fun x hx => h x (List.mem_cons_of_mem _ hx)) qs (by simpa using hl) (fun t ht => hq (t + 1) (by simpa using ht))
      have h2 : q < d := hq 0 (by simp)
      show q * prdN ds + ev ds qs < d * prdN ds
      have h3 := Nat.mul_le_mul_right (prdN ds) (show q + 1 ≤ d by omega)
      rw [Nat.succ_mul] at h3
      omega
/-- carries: the places ahead of j stand at their ends, that at j does not -/
theorem incR_at (ds : List Nat) : ∀ (j : Nat) (qs : List Nat), qs.length = ds.length → j < ds.length → (∀ t, t < j → ¬ qs.getD t 0 + 1 < ds.getD t 0) → qs.getD j 0 + 1 < ds.getD j 0 → ∀ t, (incR ds qs).getD t 0 = if t < j then 0 else if t = j then qs.getD j 0 + 1 else qs.getD t 0 := by
  induction ds with
  | nil => intro j qs _ hj; simp at hj
  | cons d ds ih =>
    intro j qs hl hj hw hn t
    cases qs with
    | nil => simp at hl
    | cons q qs =>
      cases j with
      | zero =>
        have hn' : q + 1 < d := hn
        rw [incR, if_pos hn', if_neg (by omega)]
        cases t with
        | zero => rfl
        | succ t => rw [if_neg (by omega)]; rfl
      | succ j =>
        have h0 : ¬ q + 1 < d := hw 0 (by omega)
        rw [incR, if_neg h0]
        cases t with
        | zero => rw [if_pos (by omega)]; rfl
        | succ t =>
          have := ih j qs (by simpa using hl) (by simpa using hj) (fun t ht => hw (t + 1) (by omega)) hn t
          show (incR ds qs).getD t 0 = _
          rw [this]
          simp only [Nat.add_lt_add_iff_right, Nat.add_right_cancel_iff]
          rfl
theorem incR_all (ds : List Nat) : ∀ (qs : List Nat), qs.length = ds.length → (∀ t, t < ds.length → ¬ qs.getD t 0 + 1 < ds.getD t 0) → ∀ t, (incR ds qs).getD t 0 = 0 := by
  induction ds with
  | nil => intro qs hl _ t; cases qs <;> rfl
  | cons d ds ih =>
    intro qs hl hw t
    cases qs with
    | nil => simp at hl
    | cons q qs =>
      have h0 : ¬ q + 1 < d := hw 0 (by simp)
      rw [incR, if_neg h0]
      cases t with
      | zero => rfl
      | succ t => exact ih qs (by simpa using hl) (fun t ht => hw (t + 1) (by simpa using ht)) t
end Pl

end Go.Proofs.YtaopohihipihdaaGreatDoor

namespace Go.Proofs.YtaopohihipihdaaGreatDoor
open Go.RowKit
set_option linter.unusedVariables false

/-- a row in another block -/
theorem Rw.other {g g' off n : Nat} {f : Nat → Int} {w w' : World} (h : Rw g' off n f w) (hg : Gr g w w') (hne : ¬ g' = g) : Rw g' off n f w' := by
  have hb := hg.block g' h.1 (by intro e; injection e with e; exact hne e)
  have hc : ∀ o, w'.cell? ⟨g', o, none⟩ = w.cell? ⟨g', o, none⟩ := fun o => by simp only [World.cell?, hb]
  have hf : ∀ o, w'.frozen? ⟨g', o, none⟩ = w.frozen? ⟨g', o, none⟩ := fun o => by simp only [World.frozen?, hb]
  exact ⟨Nat.lt_of_lt_of_le h.1 hg.size, fun t ht => ⟨(hc _).trans (h.2 t ht).1, (hf _).trans (h.2 t ht).2⟩⟩

/-- the first i and the last i turned -/
def revI (f : Nat → Int) (n i : Nat) : Nat → Int := fun t => if t < i ∨ n - i ≤ t then f (n - 1 - t) else f t
theorem revI_step {f : Nat → Int} {n i : Nat} (h : i < n - 1 - i) : upd (upd (revI f n i) i (revI f n i (n - 1 - i))) (n - 1 - i) (revI f n i i) = revI f n (i + 1) := by
  have e1 : revI f n i (n - 1 - i) = f (n - 1 - i) := by unfold revI; rw [if_neg (by omega)]
  have e2 : revI f n i i = f i := by unfold revI; rw [if_neg (by omega)]
  rw [e1, e2]
  funext t
  unfold upd revI
  by_cases h1 : t = n - 1 - i
  · subst h1
    rw [if_pos rfl, if_pos (by omega)]
    congr 1; omega
  · rw [if_neg h1]
    by_cases h2 : t = i
    · subst h2
      rw [if_pos rfl, if_pos (by omega)]
    · rw [if_neg h2]
      by_cases h3 : t < i ∨ n - i ≤ t
      · rw [if_pos h3, if_pos (by omega)]
      · by_cases h4 : t < i + 1 ∨ n - (i + 1) ≤ t
        · exfalso; omega
        · rw [if_neg h3, if_neg h4]

set_option maxRecDepth 100000 in
set_option maxHeartbeats 4000000 in
/-- slices.Reverse -/
theorem reverse_any (g off cap n : Nat) (f : Nat → Int) (w : World) (hR : Rw g off n f w) (hn : n ≤ 1000000) (h0 : 0 < n) :
    Calls Tryz.prog 69 #[.slice (some ⟨g, off, none⟩) n cap] w fun e w' => e = .returned (.tuple #[]) ∧ Rw g off n (fun t => f (n - 1 - t)) w' ∧ Gr g w w' := by
  have HR : Hid (Rw g off n (revI f n 0) w) := hR.congr fun t ht => by unfold revI; rw [if_neg (by omega)]
  clear hR
  go_enter Tryz.func69, Tryz.ntmps69
  go_wp2_with fail
  go_loopw [2, 3] (fun vi vj wr => ∃ i : Nat, 2 * i ≤ n ∧ vi = .int .i64 (i : Int) ∧ vj = .int .i64 ((n : Int) - 1 - (i : Int)) ∧ Hid (Rw g off n (revI f n i) wr) ∧ Hid (Gr g w wr)) (fun vi _ _ => n - (intOf vi).toNat)
  case atStart => exact ⟨0, by omega, rfl, by go_num, HR, Gr.refl _ _⟩
  case round =>
    obtain ⟨i, hi, rfl, rfl, RR, GG⟩ := hrel
    by_cases hlt : i < n - 1 - i
    · have hlt' : (i : Int) < (n : Int) - 1 - (i : Int) := by omega
      have SX := hideP (revI_step (f := f) hlt)
      obtain ⟨G, hG⟩ : ∃ G, revI f n i = G := ⟨_, rfl⟩
      rw [hG] at RR SX
      clear hG
      obtain ⟨j, hj⟩ : ∃ j, n - 1 - i = j := ⟨_, rfl⟩
      have hj' : (n : Int) - 1 - (i : Int) = (j : Int) := by omega
      rw [hj] at SX
      rw [hj'] at hlt' ⊢
      have hjn : j < n := by omega
      have hin : i < n := by omega
      have hcw : ∀ t, t < n → wr.cell? ⟨g, off + t, none⟩ = some (.int .i64 (G t)) := fun t ht => (RR.out.2 t ht).1
      have hfw : ∀ t, t < n → wr.frozen? ⟨g, off + t, none⟩ = false := fun t ht => (RR.out.2 t ht).2
      have NW : Hid (Rw g off n (revI f n (i + 1)) (((wr.setCell ⟨g, off + i, none⟩ (.int .i64 (G j))).setCell ⟨g, off + j, none⟩ (.int .i64 (G i))).drew) ∧ Gr g w (((wr.setCell ⟨g, off + i, none⟩ (.int .i64 (G j))).setCell ⟨g, off + j, none⟩ (.int .i64 (G i))).drew)) := by
        refine ⟨?_, (GG.out.trans ((Gr.set _ _ _ _).trans (Gr.set _ _ _ _))).drew⟩
        rw [← SX.out]
        exact ((RR.out.set _ hin).set _ hjn).drew
      have HJ := hideP hj
      clear hj hj'
      go_wp2_with fail
      go_region
      all_goals go_wp2_with fail
      go_roundw
      case rel => exact ⟨i + 1, by have := HJ.out; omega, by go_num, by have := HJ.out; congr 1; omega, NW.out.1, NW.out.2⟩
      case measure => simp [intOf]; omega
    · have hlt' : ¬ (i : Int) < (n : Int) - 1 - (i : Int) := by omega
      have RE : Hid (Rw g off n (fun t => f (n - 1 - t)) wr) := RR.out.congr fun t ht => by
        unfold revI
        by_cases h3 : t < i ∨ n - i ≤ t
        · rw [if_pos h3]
        · rw [if_neg h3]
          congr 1; omega
      go_wp2_with fail
      go_end0
      exact ⟨rfl, RE.out, GG.out⟩

theorem reverse_nil (ao : Option Addr) (cap : Nat) (w : World) : Calls Tryz.prog 69 #[.slice ao 0 cap] w fun e w' => e = .returned (.tuple #[]) ∧ w' = w := by
  go_enter Tryz.func69, Tryz.ntmps69
  go_wp2_with fail
  go_loopw [2, 3] (fun vi vj wr => vi = .int .i64 0 ∧ vj = .int .i64 (-1) ∧ wr = w) (fun _ _ _ => 0)
  case atStart => exact ⟨rfl, by go_num, rfl⟩
  case round =>
    obtain ⟨rfl, rfl, rfl⟩ := hrel
    go_wp2_with fail
    go_end0
    exact ⟨rfl, rfl⟩

end Go.Proofs.YtaopohihipihdaaGreatDoor
