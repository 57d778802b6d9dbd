import Derived.Test.YtmobjomebmipdaaEach
namespace Go.Proofs.Ytmobjomebmipdaa
open Go.RowKit
set_option linter.unusedVariables false

theorem Rd.parts {B : Nat} {w : World} {v : Value} {zs : List Int} (h : Rd B w v zs) : ∃ (ao : Option Addr) (cap b off : Nat), v = .slice ao zs.length cap ∧ (0 < zs.length → ao = some ⟨b, off, none⟩) ∧ (0 < zs.length → b < B) ∧
    ∀ i, i < zs.length → w.cell? ⟨b, off + i, none⟩ = some (.int .i64 (zs.getD i 0)) := by
  obtain ⟨ao, cap, rfl, h⟩ := h
  rcases h with h | ⟨b, off, hB, rfl, hc⟩
  · exact ⟨ao, cap, 0, 0, rfl, fun h' => absurd h' (by omega), fun h' => absurd h' (by omega), fun i hi => absurd hi (by omega)⟩
  · exact ⟨_, cap, b, off, rfl, fun _ => rfl, fun _ => hB, hc⟩

theorem each1_any (f : Nat) (cap : Array Value) (F : Int → Int × Int) (v0 v1 : Value) (sh da : List Int) (w : World) (hl0 : sh.length ≤ 1048576) (hl1 : da.length ≤ 1048576) (h0 : Rd w.heap.size w v0 sh) (h1 : Rd w.heap.size w v1 da)
    (hcf : ∀ args w, (callFunc f args).run Try.prog w = .ok (.enter f args) w)
    (hone : ∀ x ∈ da, ∀ w', Below w.heap.size w w' → Calls Try.prog f (#[.int .i64 x] ++ cap) w' (CPost w' (F x))) :
    Calls Try.prog 45 #[.func (.func f) #[] cap, .agg #[v0, v1]] w
      (KPost w (Pl.firstC F da) (if Pl.firstC F da = 0 then sh else []) (if Pl.firstC F da = 0 then da.map (fun x => (F x).1) else [])) := by
  obtain ⟨ao, c1, b, off, rfl, hao, hb, hc⟩ := h1.parts
  exact each1_core f cap F v0 ao b off c1 sh da w hao hl0 hl1 h0 hb hc hcf hone

namespace Pl
def notM (x : Int) : Int × Int := if x = 0 ∨ x = 1 then (1 - x, 0) else (0, 1)
def signM (x : Int) : Int × Int := (if x < 0 then -1 else if 0 < x then 1 else 0, 0)
def oneM (op : Int) (x : Int) : Int × Int := if op = 1 then (-x, 0) else if op = 2 then (max x (-x), 0) else if op = 3 then signM x else notM x
end Pl

theorem callF86 (args : Array Value) (w : World) : (callFunc 86 args).run Try.prog w = .ok (.enter 86 args) w := by kernel_rfl
theorem callF87 (args : Array Value) (w : World) : (callFunc 87 args).run Try.prog w = .ok (.enter 87 args) w := by kernel_rfl
theorem callF88 (args : Array Value) (w : World) : (callFunc 88 args).run Try.prog w = .ok (.enter 88 args) w := by kernel_rfl
theorem callF89 (args : Array Value) (w : World) : (callFunc 89 args).run Try.prog w = .ok (.enter 89 args) w := by kernel_rfl
theorem callF43 (args : Array Value) (w : World) : (callFunc 43 args).run Try.prog w = .ok (.enter 43 args) w := by kernel_rfl

/-- impl.cellNeg -/
theorem cellNeg_any (x : Int) (w : World) (h0 : -3000000000 ≤ x) (h1 : x ≤ 3000000000) : Calls Try.prog 86 #[.int .i64 x] w (CPost w (-x, 0)) := by
  go_enter Try.func86, Try.ntmps86
  go_wp2
  go_ret
  exact ⟨Below.refl _ _, .inl ⟨rfl, rfl⟩⟩
theorem cellAbs_any (x : Int) (w : World) (h0 : -3000000000 ≤ x) (h1 : x ≤ 3000000000) : Calls Try.prog 87 #[.int .i64 x] w (CPost w (max x (-x), 0)) := by
  by_cases h : x ≤ -x
  · have e : max x (-x) = -x := by omega
    rw [e]
    clear e
    go_enter Try.func87, Try.ntmps87
    go_wp2
    all_goals (first | omega | (go_ret; exact ⟨Below.refl _ _, .inl ⟨rfl, ret_int (by simp; omega)⟩⟩) | (go_ret; exact ⟨Below.refl _ _, .inl ⟨rfl, rfl⟩⟩))
  · have e : max x (-x) = x := by omega
    rw [e]
    clear e
    go_enter Try.func87, Try.ntmps87
    go_wp2
    all_goals (first | omega | (go_ret; exact ⟨Below.refl _ _, .inl ⟨rfl, ret_int (by simp; omega)⟩⟩) | (go_ret; exact ⟨Below.refl _ _, .inl ⟨rfl, rfl⟩⟩))
/-- cmp.Compare -/
theorem compare_any (x y : Int) (w : World) : Calls Try.prog 137 #[.int .i64 x, .int .i64 y] w fun e w' => e = .returned (.int .i64 (if x < y then -1 else if y < x then 1 else 0)) ∧ w' = w := by
  by_cases h : x < y
  · go_enter Try.func137, Try.ntmps137
    go_wp2
    go_ret
    exact ⟨rfl, rfl⟩
  · by_cases h' : y < x
    · go_enter Try.func137, Try.ntmps137
      go_wp2
      go_ret
      exact ⟨rfl, rfl⟩
    · go_enter Try.func137, Try.ntmps137
      go_wp2
      go_ret
      exact ⟨rfl, rfl⟩
theorem cellSign_any (x : Int) (w : World) : Calls Try.prog 88 #[.int .i64 x] w (CPost w (Pl.signM x)) := by
  have K := hideP (fun w => compare_any x 0 w)
  have e : (Pl.signM x).1 = if x < 0 then -1 else if 0 < x then 1 else 0 := rfl
  have e' : (Pl.signM x).2 = 0 := rfl
  have E := hideP e
  have E' := hideP e'
  clear e e'
  generalize (if x < 0 then (-1 : Int) else if 0 < x then 1 else 0) = r at *
  go_enter Try.func88, Try.ntmps88
  go_wp2_with (go_at_call 137; refine (K.out _).mono ?_; rintro e w' ⟨rfl, rfl⟩)
  go_ret
  exact ⟨Below.refl _ _, .inl ⟨E'.out, ret_int E.out.symm⟩⟩
theorem cellNot_any (x : Int) (w : World) (h0 : -3000000000 ≤ x) (h1 : x ≤ 3000000000) : Calls Try.prog 89 #[.int .i64 x] w (CPost w (Pl.notM x)) := by
  unfold Pl.notM
  by_cases h : x = 0
  · subst h
    go_enter Try.func89, Try.ntmps89
    go_wp2_with (go_at_call 83; refine (refuse_no _ _).mono ?_; rintro e w' ⟨rfl, rfl⟩)
    go_ret
    exact ⟨Below.refl _ _, .inl ⟨rfl, rfl⟩⟩
  · by_cases h' : x = 1
    · subst h'
      go_enter Try.func89, Try.ntmps89
      go_wp2_with (go_at_call 83; refine (refuse_no _ _).mono ?_; rintro e w' ⟨rfl, rfl⟩)
      go_ret
      exact ⟨Below.refl _ _, .inl ⟨rfl, rfl⟩⟩
    · have e : ¬ (x = 0 ∨ x = 1) := by omega
      rw [if_neg e]
      have e0 : (x != 0) = true := by rw [bne_iff_ne]; exact h
      have e1 : (x != 1) = true := by rw [bne_iff_ne]; exact h'
      clear h h' e
      go_enter Try.func89, Try.ntmps89
      go_wp2_with (go_at_call 83; refine (refuse_yes _ _).mono ?_; rintro e w' ⟨rfl, rfl⟩)
      exact ⟨rfl, Below.refl _ _, .inr ⟨by decide, rfl⟩⟩


set_option maxRecDepth 100000 in
/-- impl.chosen, over the table of oneOf -/
theorem chosen1_no (n : Int) (b : Nat) (w : World) (h : n < 1 ∨ 5 ≤ n) : Calls Try.prog 85 #[.int .i64 n, .slice (some ⟨b, 0, none⟩) 5 5] w fun e w' => e = .panicked [thrown 9] ∧ w' = w := by
  rcases h with h | h
  · go_enter Try.func85, Try.ntmps85
    go_wp2_with (go_at_call 83; refine (refuse_yes _ _).mono ?_; rintro e w' ⟨rfl, rfl⟩)
    exact ⟨rfl, rfl, rfl⟩
  · have h' : ¬ n < 1 := by omega
    go_enter Try.func85, Try.ntmps85
    go_wp2_with (go_at_call 83; refine (refuse_yes _ _).mono ?_; rintro e w' ⟨rfl, rfl⟩)
    exact ⟨rfl, rfl, rfl⟩

theorem chosen1_yes (k b : Nat) (v : Value) (w : World) (h0 : 1 ≤ k) (h1 : k < 5) (hc : w.cell? ⟨b, k, none⟩ = some v) : Calls Try.prog 85 #[.int .i64 (k : Int), .slice (some ⟨b, 0, none⟩) 5 5] w fun e w' => e = .returned v ∧ w' = w := by
  have e0 : ¬ ((k : Int) < 1) := by omega
  have e1 : ¬ (5 ≤ (k : Int)) := by omega
  go_enter Try.func85, Try.ntmps85
  go_wp2_with (go_at_call 83; refine (refuse_no _ _).mono ?_; rintro e w' ⟨rfl, rfl⟩)
  go_ret
  exact ⟨rfl, rfl⟩

/-- impl.oneOf -/
theorem oneOf_no (n : Int) (w : World) (h : n < 1 ∨ 5 ≤ n) : Calls Try.prog 46 #[.int .i64 n] w fun e w' => e = .panicked [thrown 9] ∧ Below w.heap.size w w' := by
  have K := hideP (fun b w => chosen1_no n b w h)
  clear h
  go_enter Try.func46, Try.ntmps46
  go_wp2_with (go_at_call 85; refine (K.out _ _).mono ?_; rintro e w' ⟨rfl, rfl⟩)
  exact ⟨rfl, rfl, (Below.refl _ _).alloc (Nat.le_refl _) _⟩

theorem oneOf_yes (k : Nat) (w : World) (h0 : 1 ≤ k) (h1 : k < 5) : Calls Try.prog 46 #[.int .i64 (k : Int)] w fun e w' => e = .returned (.func (.func (85 + k)) #[] #[]) ∧ Below w.heap.size w w' := by
  have K := hideP (fun b v w => chosen1_yes k b v w h0 h1)
  have hk : k = 1 ∨ k = 2 ∨ k = 3 ∨ k = 4 := by omega
  clear h0 h1
  rcases hk with rfl | rfl | rfl | rfl
  all_goals
    go_enter Try.func46, Try.ntmps46
    go_wp2_with fail
    refine (K.out _ _ _ (by simp [go_sem]; rfl)).mono ?_
    rintro e w' ⟨rfl, rfl⟩
    go_wp2_with fail
    go_ret
    exact ⟨rfl, (Below.refl _ _).alloc (Nat.le_refl _) _⟩

end Go.Proofs.Ytmobjomebmipdaa
