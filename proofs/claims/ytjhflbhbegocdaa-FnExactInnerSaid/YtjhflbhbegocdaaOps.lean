import Derived.Test.YtjhflbhbegocdaaFace1b
import Derived.Test.YtjhflbhbegocdaaPlain2
import Derived.Laws.EntriesVeiled
namespace Go.Proofs.Ytjhflbhbegocdaa
open Go.RowKit
set_option linter.unusedVariables false

/-- impl.inRange -/
theorem inRange_any (v : Int) (w : World) : Calls Try.prog 70 #[.int .i64 v] w (CPost w (Pl.inM v)) := by
  by_cases h : -3000000000 ≤ v ∧ v ≤ 3000000000
  · have e : Pl.inM v = (v, 0) := by unfold Pl.inM; rw [if_pos h]
    rw [e]
    have K : Hid (∀ w, Calls Try.prog 65 #[.int .i64 v] w fun e w' => e = .returned (.bool true) ∧ w' = w) := fun w => by
      have := valueFits_any v w
      rw [show Pl.valB v = true by simp [Pl.valB]; exact h] at this
      exact this
    clear h e
    go_enter Try.func70, Try.ntmps70
    go_wp2_with (first | (go_at_call 65; refine (K.out _).mono ?_; rintro e w' ⟨rfl, rfl⟩) | (go_at_call 41; refine (refuse_no _ _).mono ?_; rintro e w' ⟨rfl, rfl⟩))
    go_ret
    exact ⟨Below.refl _ _, .inl ⟨rfl, rfl⟩⟩
  · have e : Pl.inM v = (0, 5) := by unfold Pl.inM; rw [if_neg h]
    rw [e]
    have K : Hid (∀ w, Calls Try.prog 65 #[.int .i64 v] w fun e w' => e = .returned (.bool false) ∧ w' = w) := fun w => by
      have := valueFits_any v w
      rw [show Pl.valB v = false by simp only [Pl.valB, decide_eq_false_iff_not]; exact h] at this
      exact this
    clear h e
    go_enter Try.func70, Try.ntmps70
    go_wp2_with (first | (go_at_call 65; refine (K.out _).mono ?_; rintro e w' ⟨rfl, rfl⟩) | (go_at_call 41; refine (refuse_yes _ _).mono ?_; rintro e w' ⟨rfl, rfl⟩))
    exact ⟨rfl, Below.refl _ _, .inr ⟨by decide, rfl⟩⟩

/-- a function that ends in inRange -/
theorem cpost_ret {w w' : World} {r : Int × Int} {e : Ending} (h : CPost w r e w') : CPost w r e w' := h

theorem truth_any (q : Bool) (w : World) : Calls Try.prog 71 #[.bool q] w fun e w' => e = .returned (.int .i64 (Pl.boolM q)) ∧ w' = w := by
  cases q
  · go_enter Try.func71, Try.ntmps71
    go_wp2
    go_ret
    exact ⟨rfl, rfl⟩
  · go_enter Try.func71, Try.ntmps71
    go_wp2
    go_ret
    exact ⟨rfl, rfl⟩

theorem cellAdd_any (x y : Int) (w : World) (h0 : -3000000000 ≤ x) (h1 : x ≤ 3000000000) (h2 : -3000000000 ≤ y) (h3 : y ≤ 3000000000) : Calls Try.prog 51 #[.int .i64 x, .int .i64 y] w (CPost w (Pl.inM (x + y))) := by
  have K := hideP (inRange_any (x + y))
  generalize Pl.inM (x + y) = r at *
  go_enter Try.func51, Try.ntmps51
  go_wp2_with fail
  refine (K.out _).mono ?_
  rintro e w' ⟨hb, ⟨hr, rfl⟩ | ⟨hr, rfl⟩⟩
  · have HB := hideP hb
    have HR := hideP hr
    clear hb hr K
    go_wp2_with fail
    go_ret
    exact ⟨HB.out, .inl ⟨HR.out, rfl⟩⟩
  · exact ⟨rfl, hb, .inr ⟨hr, rfl⟩⟩
theorem cellSub_any (x y : Int) (w : World) (h0 : -3000000000 ≤ x) (h1 : x ≤ 3000000000) (h2 : -3000000000 ≤ y) (h3 : y ≤ 3000000000) : Calls Try.prog 52 #[.int .i64 x, .int .i64 y] w (CPost w (Pl.inM (x - y))) := by
  have K := hideP (inRange_any (x - y))
  generalize Pl.inM (x - y) = r at *
  go_enter Try.func52, Try.ntmps52
  go_wp2_with fail
  refine (K.out _).mono ?_
  rintro e w' ⟨hb, ⟨hr, rfl⟩ | ⟨hr, rfl⟩⟩
  · have HB := hideP hb
    have HR := hideP hr
    clear hb hr K
    go_wp2_with fail
    go_ret
    exact ⟨HB.out, .inl ⟨HR.out, rfl⟩⟩
  · exact ⟨rfl, hb, .inr ⟨hr, rfl⟩⟩
theorem cellMul_any (x y : Int) (w : World) (h0 : -3000000000 ≤ x) (h1 : x ≤ 3000000000) (h2 : -3000000000 ≤ y) (h3 : y ≤ 3000000000) : Calls Try.prog 53 #[.int .i64 x, .int .i64 y] w (CPost w (Pl.inM (x * y))) := by
  have K := hideP (inRange_any (x * y))
  obtain ⟨b0, b1⟩ := Pl.mul_bd2 h0 h1 h2 h3
  generalize Pl.inM (x * y) = r at *
  go_enter Try.func53, Try.ntmps53
  go_wp2_with fail
  refine (K.out _).mono ?_
  rintro e w' ⟨hb, ⟨hr, rfl⟩ | ⟨hr, rfl⟩⟩
  · have HB := hideP hb
    have HR := hideP hr
    clear hb hr K
    go_wp2_with fail
    go_ret
    exact ⟨HB.out, .inl ⟨HR.out, rfl⟩⟩
  · exact ⟨rfl, hb, .inr ⟨hr, rfl⟩⟩

/-- impl.cellDiv, y not 0 -/
theorem cellDiv_some (x y : Int) (w : World) (h0 : -3000000000 ≤ x) (h1 : x ≤ 3000000000) (hy : ¬ y = 0) : Calls Try.prog 54 #[.int .i64 x, .int .i64 y] w fun e w' => e = .returned (.int .i64 (Pl.divM x y)) ∧ w' = w := by
  obtain ⟨b0, b1⟩ := Pl.tdiv_bd (y := y) h0 h1
  obtain ⟨c0, c1⟩ := Pl.tmod_bd (y := y) h0 h1
  have E := hideP (show Pl.divM x y = if ((x.tmod y != 0) && (decide (x < 0) != decide (y < 0))) = true then x.tdiv y - 1 else x.tdiv y from rfl)
  have hy' : (y == 0) = false := by simp [hy]
  clear h0 h1
  by_cases hm : (x.tmod y != 0) = true
  · by_cases hs : (decide (x < 0) != decide (y < 0)) = true
    · have Q := hideP (show (if ((x.tmod y != 0) && (decide (x < 0) != decide (y < 0))) = true then x.tdiv y - 1 else x.tdiv y) = x.tdiv y - 1 by rw [if_pos (by rw [hm, hs]; rfl)])
      have hs2 : (!(decide (x < 0) == decide (y < 0))) = true := hs
      clear hs
      go_enter Try.func54, Try.ntmps54
      go_wp2_with (go_at_call 41; refine (refuse_no _ _).mono ?_; rintro e w' ⟨rfl, rfl⟩)
      go_ret
      exact ⟨ret_int (by rw [E.out, Q.out]), rfl⟩
    · have hs' : (decide (x < 0) != decide (y < 0)) = false := by simpa using hs
      have Q := hideP (show (if ((x.tmod y != 0) && (decide (x < 0) != decide (y < 0))) = true then x.tdiv y - 1 else x.tdiv y) = x.tdiv y by rw [if_neg (by rw [hm, hs']; decide)])
      have hs2 : (!(decide (x < 0) == decide (y < 0))) = false := hs'
      clear hs hs'
      go_enter Try.func54, Try.ntmps54
      go_wp2_with (go_at_call 41; refine (refuse_no _ _).mono ?_; rintro e w' ⟨rfl, rfl⟩)
      go_ret
      exact ⟨ret_int (by rw [E.out, Q.out]), rfl⟩
  · have hm' : (x.tmod y != 0) = false := by simpa using hm
    have Q := hideP (show (if ((x.tmod y != 0) && (decide (x < 0) != decide (y < 0))) = true then x.tdiv y - 1 else x.tdiv y) = x.tdiv y by rw [if_neg (by rw [hm']; simp)])
    clear hm
    go_enter Try.func54, Try.ntmps54
    go_wp2_with (go_at_call 41; refine (refuse_no _ _).mono ?_; rintro e w' ⟨rfl, rfl⟩)
    go_ret
    exact ⟨ret_int (by rw [E.out, Q.out]), rfl⟩

theorem cellDiv_any (x y : Int) (w : World) (h0 : -3000000000 ≤ x) (h1 : x ≤ 3000000000) : Calls Try.prog 54 #[.int .i64 x, .int .i64 y] w (CPost w (if y = 0 then (0, 1) else (Pl.divM x y, 0))) := by
  by_cases hy : y = 0
  · rw [if_pos hy]
    subst hy
    go_enter Try.func54, Try.ntmps54
    go_wp2_with (go_at_call 41; refine (refuse_yes _ _).mono ?_; rintro e w' ⟨rfl, rfl⟩)
    exact ⟨rfl, Below.refl _ _, .inr ⟨by decide, rfl⟩⟩
  · rw [if_neg hy]
    refine (cellDiv_some x y w h0 h1 hy).mono ?_
    rintro e w' ⟨rfl, rfl⟩
    exact ⟨Below.refl _ _, .inl ⟨rfl, rfl⟩⟩

theorem cellMod_any (x y : Int) (w : World) (h0 : -3000000000 ≤ x) (h1 : x ≤ 3000000000) (h2 : -3000000000 ≤ y) (h3 : y ≤ 3000000000) : Calls Try.prog 55 #[.int .i64 x, .int .i64 y] w (CPost w (if y = 0 then (x, 0) else (Pl.modM x y, 0))) := by
  by_cases hy : y = 0
  · rw [if_pos hy]
    subst hy
    go_enter Try.func55, Try.ntmps55
    go_wp2_with fail
    go_ret
    exact ⟨Below.refl _ _, .inl ⟨rfl, rfl⟩⟩
  · rw [if_neg hy]
    have K := hideP (fun w => cellDiv_some x y w h0 h1 hy)
    obtain ⟨b0, b1⟩ := Pl.mod_bd hy h0 h1 h2 h3
    obtain ⟨c0, c1⟩ := Pl.ymul_bd hy h0 h1 h2 h3
    have E := hideP (show Pl.modM x y = x - y * Pl.divM x y from rfl)
    have hy' : (y == 0) = false := by simp [hy]
    rw [E.out] at b0 b1
    generalize Pl.divM x y = q at *
    go_enter Try.func55, Try.ntmps55
    go_wp2_with (go_at_call 54; refine (K.out _).mono ?_; rintro e w' ⟨rfl, rfl⟩)
    go_ret
    exact ⟨Below.refl _ _, .inl ⟨rfl, ret_int E.out.symm⟩⟩

theorem cellMin_any (x y : Int) (w : World) : Calls Try.prog 56 #[.int .i64 x, .int .i64 y] w (CPost w (min x y, 0)) := by
  by_cases h : x ≤ y
  · have e : min x y = x := by omega
    rw [e]
    clear e
    go_enter Try.func56, Try.ntmps56
    go_wp2
    all_goals (first | omega | (go_ret; exact ⟨Below.refl _ _, .inl ⟨rfl, ret_int (by simp; omega)⟩⟩) | (go_ret; exact ⟨Below.refl _ _, .inl ⟨rfl, rfl⟩⟩))
  · have e : min x y = y := by omega
    rw [e]
    clear e
    go_enter Try.func56, Try.ntmps56
    go_wp2
    all_goals (first | omega | (go_ret; exact ⟨Below.refl _ _, .inl ⟨rfl, ret_int (by simp; omega)⟩⟩) | (go_ret; exact ⟨Below.refl _ _, .inl ⟨rfl, rfl⟩⟩))
theorem cellMax_any (x y : Int) (w : World) : Calls Try.prog 57 #[.int .i64 x, .int .i64 y] w (CPost w (max x y, 0)) := by
  by_cases h : x ≤ y
  · have e : max x y = y := by omega
    rw [e]
    clear e
    go_enter Try.func57, Try.ntmps57
    go_wp2
    all_goals (first | omega | (go_ret; exact ⟨Below.refl _ _, .inl ⟨rfl, ret_int (by simp; omega)⟩⟩) | (go_ret; exact ⟨Below.refl _ _, .inl ⟨rfl, rfl⟩⟩))
  · have e : max x y = x := by omega
    rw [e]
    clear e
    go_enter Try.func57, Try.ntmps57
    go_wp2
    all_goals (first | omega | (go_ret; exact ⟨Below.refl _ _, .inl ⟨rfl, ret_int (by simp; omega)⟩⟩) | (go_ret; exact ⟨Below.refl _ _, .inl ⟨rfl, rfl⟩⟩))
theorem cellLess_any (x y : Int) (w : World) : Calls Try.prog 58 #[.int .i64 x, .int .i64 y] w (CPost w (Pl.boolM (decide (x < y)), 0)) := by
  have K := hideP truth_any
  go_enter Try.func58, Try.ntmps58
  go_wp2_with (go_at_call 71; refine (K.out _ _).mono ?_; rintro e w' ⟨rfl, rfl⟩)
  go_ret
  exact ⟨Below.refl _ _, .inl ⟨rfl, rfl⟩⟩
theorem cellEqual_any (x y : Int) (w : World) : Calls Try.prog 59 #[.int .i64 x, .int .i64 y] w (CPost w (Pl.boolM (x == y), 0)) := by
  have K := hideP truth_any
  go_enter Try.func59, Try.ntmps59
  go_wp2_with (go_at_call 71; refine (K.out _ _).mono ?_; rintro e w' ⟨rfl, rfl⟩)
  go_ret
  exact ⟨Below.refl _ _, .inl ⟨rfl, rfl⟩⟩
theorem cellMore_any (x y : Int) (w : World) : Calls Try.prog 60 #[.int .i64 x, .int .i64 y] w (CPost w (Pl.boolM (decide (y < x)), 0)) := by
  have K := hideP truth_any
  go_enter Try.func60, Try.ntmps60
  go_wp2_with (go_at_call 71; refine (K.out _ _).mono ?_; rintro e w' ⟨rfl, rfl⟩)
  go_ret
  exact ⟨Below.refl _ _, .inl ⟨rfl, rfl⟩⟩

/-- the operation number k, of two cells -/
theorem cell2_any (k : Nat) (x y : Int) (w : World) (hk0 : 1 ≤ k) (hk1 : k < 11) (h0 : -3000000000 ≤ x) (h1 : x ≤ 3000000000) (h2 : -3000000000 ≤ y) (h3 : y ≤ 3000000000) :
    Calls Try.prog (50 + k) #[.int .i64 x, .int .i64 y] w (CPost w (Pl.twoM k x y)) := by
  have hk : k = 1 ∨ k = 2 ∨ k = 3 ∨ k = 4 ∨ k = 5 ∨ k = 6 ∨ k = 7 ∨ k = 8 ∨ k = 9 ∨ k = 10 := by omega
  rcases hk with rfl | rfl | rfl | rfl | rfl | rfl | rfl | rfl | rfl | rfl
  · exact cellAdd_any x y w h0 h1 h2 h3
  · exact cellSub_any x y w h0 h1 h2 h3
  · exact cellMul_any x y w h0 h1 h2 h3
  · exact cellDiv_any x y w h0 h1
  · exact cellMod_any x y w h0 h1 h2 h3
  · exact cellMin_any x y w
  · exact cellMax_any x y w
  · exact cellLess_any x y w
  · exact cellEqual_any x y w
  · exact cellMore_any x y w

theorem callF96 (args : Array Value) (w : World) : (callFunc 51 args).run Try.prog w = .ok (.enter 51 args) w := by kernel_rfl
theorem callF97 (args : Array Value) (w : World) : (callFunc 52 args).run Try.prog w = .ok (.enter 52 args) w := by kernel_rfl
theorem callF98 (args : Array Value) (w : World) : (callFunc 53 args).run Try.prog w = .ok (.enter 53 args) w := by kernel_rfl
theorem callF99 (args : Array Value) (w : World) : (callFunc 54 args).run Try.prog w = .ok (.enter 54 args) w := by kernel_rfl
theorem callF100 (args : Array Value) (w : World) : (callFunc 55 args).run Try.prog w = .ok (.enter 55 args) w := by kernel_rfl
theorem callF101 (args : Array Value) (w : World) : (callFunc 56 args).run Try.prog w = .ok (.enter 56 args) w := by kernel_rfl
theorem callF102 (args : Array Value) (w : World) : (callFunc 57 args).run Try.prog w = .ok (.enter 57 args) w := by kernel_rfl
theorem callF103 (args : Array Value) (w : World) : (callFunc 58 args).run Try.prog w = .ok (.enter 58 args) w := by kernel_rfl
theorem callF104 (args : Array Value) (w : World) : (callFunc 59 args).run Try.prog w = .ok (.enter 59 args) w := by kernel_rfl
theorem callF105 (args : Array Value) (w : World) : (callFunc 60 args).run Try.prog w = .ok (.enter 60 args) w := by kernel_rfl
theorem callF2 (k : Nat) (hk0 : 1 ≤ k) (hk1 : k < 11) (args : Array Value) (w : World) : (callFunc (50 + k) args).run Try.prog w = .ok (.enter (50 + k) args) w := by
  have hk : k = 1 ∨ k = 2 ∨ k = 3 ∨ k = 4 ∨ k = 5 ∨ k = 6 ∨ k = 7 ∨ k = 8 ∨ k = 9 ∨ k = 10 := by omega
  rcases hk with rfl | rfl | rfl | rfl | rfl | rfl | rfl | rfl | rfl | rfl
  · exact callF96 args w
  · exact callF97 args w
  · exact callF98 args w
  · exact callF99 args w
  · exact callF100 args w
  · exact callF101 args w
  · exact callF102 args w
  · exact callF103 args w
  · exact callF104 args w
  · exact callF105 args w

namespace Pl
/-- what an operation has for nothing -/
def noneV (k : Nat) : Int := if k = 3 ∨ k = 4 then 1 else if k = 6 then 3000000000 else if k = 7 then -3000000000 else 0
def noneB (k : Nat) : Bool := decide (8 ≤ k)
end Pl
/-- an operation, as a value -/
abbrev opV (k : Nat) : Value := .agg #[.func (.func (50 + k)) #[] #[], .int .i64 (Pl.noneV k), .bool (Pl.noneB k)]

set_option maxRecDepth 100000 in
theorem chosen2_no (n : Int) (b : Nat) (w : World) (h : n < 1 ∨ 11 ≤ n) : Calls Try.prog 50 #[.int .i64 n, .slice (some ⟨b, 0, none⟩) 11 11] w fun e w' => e = .panicked [thrown 9] ∧ Below w.heap.size w w' := by
  rcases h with h | h
  · go_enter Try.func50, Try.ntmps50
    go_wp2_with (go_at_call 41; refine (refuse_yes _ _).mono ?_; rintro e w' ⟨rfl, rfl⟩)
    exact ⟨rfl, rfl, (Below.refl _ _).alloc (Nat.le_refl _) _⟩
  · have h' : ¬ n < 1 := by omega
    go_enter Try.func50, Try.ntmps50
    go_wp2_with (go_at_call 41; refine (refuse_yes _ _).mono ?_; rintro e w' ⟨rfl, rfl⟩)
    exact ⟨rfl, rfl, (Below.refl _ _).alloc (Nat.le_refl _) _⟩


set_option maxRecDepth 100000 in
theorem chosen2_yes (k b f : Nat) (n : Int) (q : Bool) (w : World) (h0 : 1 ≤ k) (h1 : k < 11) (hb : b < w.heap.size) (c0 : w.cell? ⟨b, k * 3, none⟩ = some (.func (.func f) #[] #[])) (c1 : w.cell? ⟨b, k * 3 + 1, none⟩ = some (.int .i64 n)) (c2 : w.cell? ⟨b, k * 3 + 2, none⟩ = some (.bool q)) :
    Calls Try.prog 50 #[.int .i64 (k : Int), .slice (some ⟨b, 0, none⟩) 11 11] w fun e w' => e = .returned (.agg #[.func (.func f) #[] #[], .int .i64 n, .bool q]) ∧ Below w.heap.size w w' := by
  have e0 : ¬ ((k : Int) < 1) := by omega
  have e1 : ¬ (11 ≤ (k : Int)) := by omega
  have ne : ¬ b = w.heap.size := by omega
  go_enter Try.func50, Try.ntmps50
  go_wp2_with (go_at_call 41; refine (refuse_no _ _).mono ?_; rintro e w' ⟨rfl, rfl⟩)
  refine bodyPost_ret (v := .agg #[.func (.func f) #[] #[], .int .i64 n, .bool q]) (by simp [results, Try.results50, go_sem]) rfl ⟨rfl, ?_⟩
  exact (Below.refl _ _).alloc (Nat.le_refl _) _

set_option maxRecDepth 100000 in
/-- impl.operationOf -/
theorem opOf_no (n : Int) (w : World) (h : n < 1 ∨ 11 ≤ n) : Calls Try.prog 29 #[.int .i64 n] w fun e w' => e = .panicked [thrown 9] ∧ Below w.heap.size w w' := by
  have K := hideP (fun b w => chosen2_no n b w h)
  clear h
  go_enter Try.func29, Try.ntmps29
  go_wp2_with fail
  refine (K.out _ _).mono ?_
  rintro e w' ⟨rfl, hb⟩
  exact ⟨rfl, rfl, (((Below.refl _ _).alloc (Nat.le_refl _) _).alloc (by simp) _).trans (hb.mono (by simp; omega))⟩

/-- the table of operations -/
abbrev opTable : Array Value := #[.nilFunc, .int .i64 0, .bool false, .func (.func 51) #[] #[], .int .i64 0, .bool false, .func (.func 52) #[] #[], .int .i64 0, .bool false, .func (.func 53) #[] #[], .int .i64 1, .bool false,
  .func (.func 54) #[] #[], .int .i64 1, .bool false, .func (.func 55) #[] #[], .int .i64 0, .bool false, .func (.func 56) #[] #[], .int .i64 3000000000, .bool false, .func (.func 57) #[] #[], .int .i64 (-3000000000), .bool false,
  .func (.func 58) #[] #[], .int .i64 0, .bool true, .func (.func 59) #[] #[], .int .i64 0, .bool true, .func (.func 60) #[] #[], .int .i64 0, .bool true]

theorem opTable_at (k : Nat) (h0 : 1 ≤ k) (h1 : k < 11) : opTable[k * 3]? = some (.func (.func (50 + k)) #[] #[]) ∧ opTable[k * 3 + 1]? = some (.int .i64 (Pl.noneV k)) ∧ opTable[k * 3 + 2]? = some (.bool (Pl.noneB k)) := by
  have hk : k = 1 ∨ k = 2 ∨ k = 3 ∨ k = 4 ∨ k = 5 ∨ k = 6 ∨ k = 7 ∨ k = 8 ∨ k = 9 ∨ k = 10 := by omega
  rcases hk with rfl | rfl | rfl | rfl | rfl | rfl | rfl | rfl | rfl | rfl
  all_goals exact ⟨rfl, rfl, rfl⟩

theorem new_cell (w : World) (c : Array Value) (t : TypeId) (j : Nat) : (w.alloc (.cells c t)).cell? ⟨w.heap.size, j, none⟩ = c[j]? :=
  cell_of_row (w.alloc (.cells c t)) w.heap.size j c t (0, 0) (heap_alloc_new w _)

set_option maxRecDepth 100000 in
set_option maxHeartbeats 2000000 in
theorem opOf_yes (k : Nat) (w : World) (h0 : 1 ≤ k) (h1 : k < 11) : Calls Try.prog 29 #[.int .i64 (k : Int)] w fun e w' => e = .returned (opV k) ∧ Below w.heap.size w w' := by
  have T := hideP (opTable_at k h0 h1)
  have K : Hid (∀ o, Calls Try.prog 50 #[.int .i64 (k : Int), .slice (some ⟨w.heap.size + 1, 0, none⟩) 11 11] ((w.alloc o).alloc (.cells opTable 53)) fun e w' => e = .returned (opV k) ∧ Below (w.heap.size + 1) (w.alloc o) w') := by
    intro o
    have C := fun j => new_cell (w.alloc o) opTable 53 j
    have ez : (w.alloc o).heap.size = w.heap.size + 1 := by simp
    rw [ez] at C
    refine (chosen2_yes k (w.heap.size + 1) (50 + k) (Pl.noneV k) (Pl.noneB k) ((w.alloc o).alloc (.cells opTable 53)) h0 h1 (by simp) ((C _).trans T.out.1) ((C _).trans T.out.2.1) ((C _).trans T.out.2.2)).mono ?_
    rintro e w' ⟨rfl, hb⟩
    exact ⟨rfl, ((Below.refl _ _).alloc (by simp) _).trans (hb.mono (by simp))⟩
  clear T
  go_enter Try.func29, Try.ntmps29
  go_wp2_with fail
  refine (K.out _).mono ?_
  rintro e w' ⟨rfl, hb⟩
  have hs := hb.size
  simp at hs
  have r0 : w'.cell? ⟨w.heap.size, 0, none⟩ = some .nilFunc := (hb.cell (p := ⟨w.heap.size, 0, none⟩) (by show w.heap.size < _; omega)).trans (by simp [go_sem])
  have r1 : w'.cell? ⟨w.heap.size, 1, none⟩ = some (.int .i64 0) := (hb.cell (p := ⟨w.heap.size, 1, none⟩) (by show w.heap.size < _; omega)).trans (by simp [go_sem])
  have r2 : w'.cell? ⟨w.heap.size, 2, none⟩ = some (.bool false) := (hb.cell (p := ⟨w.heap.size, 2, none⟩) (by show w.heap.size < _; omega)).trans (by simp [go_sem])
  have f3 : ∀ o, w'.frozen? ⟨w.heap.size, o, none⟩ = false := fun o => (hb.frozen (p := ⟨w.heap.size, o, none⟩) (by show w.heap.size < _; omega)).trans (by simp [go_sem])
  have B : Hid (Below w.heap.size w w') := ((Below.refl _ _).alloc (Nat.le_refl _) _).trans (hb.mono (by omega))
  clear hb K
  go_wp2_with fail
  refine bodyPost_ret (v := opV k) (by simp [results, Try.results29, go_sem, r0, r1, r2]) rfl ⟨rfl, ?_⟩
  exact ((B.out.setCell (by simp) _).setCell (by simp) _).setCell (by simp) _

end Go.Proofs.Ytjhflbhbegocdaa
