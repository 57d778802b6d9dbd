import Derived.Test.YtmobjomebmipdaaDyB
import Derived.Test.YtmobjomebmipdaaStack
namespace Go.Proofs.Ytmobjomebmipdaa
open Go.RowKit
set_option linter.unusedVariables false

namespace Pl
/-- row k, or zeros where there is none -/
def rowZ (db : List Int) (TP n : Nat) (k : Int) : List Int := if 0 ≤ k ∧ k < n then (db.drop (k.toNat * TP)).take TP else List.replicate TP 0
theorem catZ_add (zz : Nat → List Int) (p q : Nat) : catZ zz (p + q) = catZ zz p ++ catZ (fun t => zz (p + t)) q := by
  induction q with
  | zero => simp [catZ]
  | succ q ih => rw [← Nat.add_assoc, catZ_succ, ih, catZ_succ, List.append_assoc]
theorem catZ_congr {zz yy : Nat → List Int} (m : Nat) (h : ∀ t, t < m → zz t = yy t) : catZ zz m = catZ yy m := by
  induction m with
  | zero => rfl
  | succ m ih => rw [catZ_succ, catZ_succ, ih (fun t ht => h t (by omega)), h m (by omega)]
theorem span_in (db : List Int) (TP n : Nat) (i : Int) (a m : Nat) (hi : i = a) (hm : a + m ≤ n) : catZ (fun t => rowZ db TP n (i + t)) m = (db.drop (a * TP)).take (m * TP) := by
  subst hi
  induction m with
  | zero => simp [catZ]
  | succ m ih =>
    rw [catZ_succ, ih (by omega), Nat.succ_mul, List.take_add]
    congr 1
    unfold rowZ
    rw [if_pos (by omega), List.drop_drop]
    congr 2
    rw [← Nat.add_mul]
    congr 1
theorem span_out (db : List Int) (TP n : Nat) (i : Int) (m : Nat) (h : ∀ t : Nat, t < m → ¬ (0 ≤ i + t ∧ i + t < n)) : catZ (fun t => rowZ db TP n (i + t)) m = List.replicate (m * TP) 0 := by
  induction m with
  | zero => simp [catZ]
  | succ m ih =>
    rw [catZ_succ, ih (fun t ht => h t (by omega)), Nat.succ_mul, ← List.replicate_append_replicate]
    congr 1
    unfold rowZ
    rw [if_neg (h m (by omega))]
theorem rowZ_len (db : List Int) (TP n : Nat) (k : Int) (h : n * TP ≤ db.length) : (rowZ db TP n k).length = TP := by
  unfold rowZ
  split
  · rename_i hk
    have h1 : (k.toNat + 1) * TP ≤ n * TP := Nat.mul_le_mul_right TP (by omega)
    rw [Nat.succ_mul] at h1
    rw [List.length_take, List.length_drop]
    omega
  · simp
theorem catZ_len {zz : Nat → List Int} {TP : Nat} (h : ∀ t, (zz t).length = TP) (m : Nat) : (catZ zz m).length = m * TP := by
  induction m with
  | zero => simp [catZ]
  | succ m ih => rw [catZ_succ, List.length_append, ih, h, Nat.succ_mul]
/-- the cells that take takes -/
def takeD (x : Int) (n TP W t : Nat) (db : List Int) : List Int :=
  if x < 0 then List.replicate ((W - t) * TP) 0 ++ (db.drop ((n - t) * TP)).take (n * TP - (n - t) * TP) else db.take (t * TP) ++ List.replicate ((W - t) * TP) 0
theorem span_take_neg (db : List Int) (TP n W t : Nat) (x i : Int) (hx : x < 0) (hW : max x (-x) = W) (ht : gone x n = t) (hi : i = n + x) : catZ (fun t => rowZ db TP n (i + t)) W = takeD x n TP W t db := by
  have e1 : (W : Int) = -x := by omega
  have e2 : t = min W n := by unfold gone at ht; rw [hW] at ht; omega
  unfold takeD
  rw [if_pos hx]
  obtain ⟨d, hd⟩ : ∃ d, W = d + t := ⟨W - t, by omega⟩
  have hd' : W - t = d := by omega
  rw [hd', hd, catZ_add, span_out _ _ _ _ _ (fun s hs => by omega)]
  congr 1
  have e3 : n * TP - (n - t) * TP = t * TP := by rw [← Nat.sub_mul]; congr 1; omega
  rw [e3, ← span_in db TP n ((n - t : Nat) : Int) (n - t) t rfl (by omega)]
  refine catZ_congr t (fun s hs => ?_)
  show rowZ _ _ _ _ = rowZ _ _ _ _
  congr 1
  omega
theorem span_take_pos (db : List Int) (TP n W t : Nat) (x : Int) (hx : ¬ x < 0) (hW : max x (-x) = W) (ht : gone x n = t) : catZ (fun t => rowZ db TP n (0 + t)) W = takeD x n TP W t db := by
  have e2 : t = min W n := by unfold gone at ht; rw [hW] at ht; omega
  unfold takeD
  rw [if_neg hx]
  obtain ⟨d, hd⟩ : ∃ d, W = t + d := ⟨W - t, by omega⟩
  have hd' : W - t = d := by omega
  rw [hd', hd, catZ_add, span_in db TP n 0 0 t rfl (by omega), Nat.zero_mul, List.drop_zero]
  congr 1
  rw [← span_out db TP n (t : Int) d (fun s hs => by omega)]
  refine catZ_congr d (fun s hs => ?_)
  show rowZ _ _ _ _ = rowZ _ _ _ _
  congr 1
  omega
def takeM (sa da sb db : List Int) : Int × List Int × List Int :=
  if sa.length = 0 then
    (if fitsB (max (da.getD 0 0) (-da.getD 0 0) :: (axesS sb db).tail) = true then
      (0, max (da.getD 0 0) (-da.getD 0 0) :: (axesS sb db).tail, takeD (da.getD 0 0) ((axesS sb db).getD 0 0).toNat (prodP (axesS sb db).tail).toNat (max (da.getD 0 0) (-da.getD 0 0)).toNat (gone (da.getD 0 0) ((axesS sb db).getD 0 0)).toNat db)
    else (6, [], []))
  else (2, [], [])
theorem fits_less {n : Int} {d : Int} {tb : List Int} (h : fitsB (n :: tb) = true) (h0 : 0 ≤ d) (h1 : d ≤ n) : fitsB (d :: tb) = true := by
  rw [fits_eq] at h ⊢
  simp only [Bool.and_eq_true, decide_eq_true_eq] at h ⊢
  obtain ⟨hb, hp⟩ := h
  have hbt := (prod_two tb (base_tail hb)).1.1
  rw [prodP_cons] at hp ⊢
  refine ⟨?_, Int.le_trans (Int.mul_le_mul_of_nonneg_right h1 hbt) hp⟩
  simp only [baseB, Bool.and_eq_true, decide_eq_true_eq, List.all_cons, List.length_cons, inR] at hb ⊢
  refine ⟨hb.1, by omega, hb.2.2⟩
theorem fits_tail {d : Int} {tb : List Int} (h : fitsB (d :: tb) = true) (h0 : 1 ≤ d) : fitsB tb = true := by
  rw [fits_eq] at h ⊢
  simp only [Bool.and_eq_true, decide_eq_true_eq] at h ⊢
  obtain ⟨hb, hp⟩ := h
  have hbt := (prod_two tb (base_tail hb)).1.1
  rw [prodP_cons] at hp
  refine ⟨base_tail hb, Int.le_trans ?_ hp⟩
  have := Int.mul_le_mul_of_nonneg_right h0 hbt
  omega
/-- the shape of a beside one of length m: a row where it has an axis less -/
def asR (s : List Int) (m : Nat) : List Int := if s.length + 1 = m then 1 :: s else s
def catM (sa da sb db : List Int) : Int × List Int × List Int :=
  if (asR (axesS sa da) (axesS sb db).length).length = (asR (axesS sb db) (axesS sa da).length).length then
    (if (asR (axesS sa da) (axesS sb db).length).tail = (asR (axesS sb db) (axesS sa da).length).tail then
      (if fitsB (((asR (axesS sa da) (axesS sb db).length).getD 0 0 + (asR (axesS sb db) (axesS sa da).length).getD 0 0) :: (asR (axesS sa da) (axesS sb db).length).tail) = true then
        (0, ((asR (axesS sa da) (axesS sb db).length).getD 0 0 + (asR (axesS sb db) (axesS sa da).length).getD 0 0) :: (asR (axesS sa da) (axesS sb db).length).tail, da ++ db)
      else (6, [], []))
    else (3, [], []))
  else (2, [], [])
end Pl

end Go.Proofs.Ytmobjomebmipdaa
