import Derived.Test.YtaikmbfdhecjoaaGreatImpR
import Derived.Test.YtaikmbfdhecjoaaGreatDw1
import Derived.BigQuiet
namespace Go.Proofs.YtaikmbfdhecjoaaGreat
open Go.RowKit
set_option linter.unusedVariables false

namespace Pl
theorem foldL_empty (F : Int → Int → Int × Int) (l : List (List Int)) : foldL F l [] = (0, []) := by
  induction l with
  | nil => rfl
  | cons xs rest ih =>
    unfold foldL
    simp [firstG, ih]
theorem beg_empty (F : Int → Int → Int × Int) (da : List Int) (s i : Nat) (h : da.length = 0) : beg F da s i = (0, []) := by
  obtain rfl := List.length_eq_zero_iff.1 h
  unfold beg foldM
  have e : rowAt [] s (i + 1 - 1) = [] := by simp [rowAt]
  rw [e]
  exact foldL_empty F _
theorem scan_empty (F : Int → Int → Int × Int) (sh da : List Int) (h : da.length = 0) (hs : ¬ sh.length = 0) : scanM F sh da = (0, sh, da) := by
  unfold scanM
  rw [if_neg hs, beg_zero F da _ _ (fun i _ => by rw [beg_empty F da _ i h]), if_pos rfl]
  obtain rfl := List.length_eq_zero_iff.1 h
  congr 2
  unfold begD
  rw [List.flatMap_eq_nil_iff]
  intro i _
  rw [beg_empty F [] _ i rfl]
theorem beg_len (F : Int → Int → Int × Int) (da : List Int) (s i : Nat) : (beg F da s i).2.length ≤ s := by
  unfold beg foldM
  have : ∀ (l : List (List Int)) (acc : List Int), (foldL F l acc).2.length ≤ acc.length := by
    intro l
    induction l with
    | nil => exact fun acc => Nat.le_refl _
    | cons xs rest ih =>
      intro acc
      unfold foldL
      split
      · refine Nat.le_trans (ih _) ?_
        simp
        omega
      · simp
  refine Nat.le_trans (this _ _) ?_
  unfold rowAt
  rw [List.length_take]
  omega
theorem begD_len (F : Int → Int → Int × Int) (da : List Int) (s k : Nat) : (begD F da s k).length ≤ k * s := by
  induction k with
  | zero => simp [begD]
  | succ k ih =>
    rw [begD_succ, List.length_append, Nat.succ_mul]
    have := beg_len F da s k
    omega
end Pl

set_option maxRecDepth 100000 in
/-- impl.rows, from the first on -/
theorem rows_zero (b off cap s j m : Nat) (w : World) (hn : j * s ≤ m) (hm : m ≤ cap) (hm' : m ≤ 1000) (hc2 : cap ≤ 9223372036854775807) :
    Calls Tryz.prog 69 #[.slice (some ⟨b, off, none⟩) m cap, .int .i64 (s : Int), .int .i64 0, .int .i64 (j : Int)] w fun e w' => e = .returned (.slice (some ⟨b, off, none⟩) (j * s) cap) ∧ w' = w := by
  have e2 : ((j : Int) * (s : Int)) = ((j * s : Nat) : Int) := by simp
  generalize j * s = q at *
  by_cases hp : cap = 0
  · subst hp
    go_enter Tryz.func69, Tryz.ntmps69
    go_wp2_with fail
    go_ret
    exact ⟨rfl, rfl⟩
  · go_enter Tryz.func69, Tryz.ntmps69
    go_wp2_with fail
    go_ret
    exact ⟨rfl, rfl⟩

end Go.Proofs.YtaikmbfdhecjoaaGreat
