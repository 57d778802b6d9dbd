import Derived.Test.YtaikmbfdhecjoaaGreatEach
import Derived.Deep.RegionHeld3
import Derived.Deep.RegionHeld2
namespace Go.Proofs.YtaikmbfdhecjoaaGreat
open Go.RowKit
set_option linter.unusedVariables false

theorem Rd.parts {B : Nat} {w : World} {v : Value} {zs : List Int} (h : Rd B w v zs) : ∃ (ao : Option Addr) (cap b off : Nat), v = .slice ao zs.length cap ∧ (0 < zs.length → ao = some ⟨b, off, none⟩) ∧ (0 < zs.length → b < B) ∧
    ∀ i, i < zs.length → w.cell? ⟨b, off + i, none⟩ = some (.int .i64 (zs.getD i 0)) := by
  obtain ⟨ao, cap, rfl, h⟩ := h
  rcases h with h | ⟨b, off, hB, rfl, hc⟩
  · exact ⟨ao, cap, 0, 0, rfl, fun h' => absurd h' (by omega), fun h' => absurd h' (by omega), fun i hi => absurd hi (by omega)⟩
  · exact ⟨_, cap, b, off, rfl, fun _ => rfl, fun _ => hB, hc⟩

theorem each1_any (f : Nat) (cap : Array Value) (F : Int → Int × Int) (v0 v1 : Value) (sh da : List Int) (w : World) (hl0 : sh.length ≤ 1048576) (hl1 : da.length ≤ 1048576) (h0 : Rd w.heap.size w v0 sh) (h1 : Rd w.heap.size w v1 da)
    (hcf : ∀ args w, (callFunc f args).run Tryz.prog w = .ok (.enter f args) w)
    (hone : ∀ x ∈ da, ∀ w', Below w.heap.size w w' → Calls Tryz.prog f (#[.int .i64 x] ++ cap) w' (CPost w' (F x))) :
    Calls Tryz.prog 87 #[.func (.func f) #[] cap, .agg #[v0, v1]] w
      (KPost w (Pl.firstC F da) (if Pl.firstC F da = 0 then sh else []) (if Pl.firstC F da = 0 then da.map (fun x => (F x).1) else [])) := by
  obtain ⟨ao, c1, b, off, rfl, hao, hb, hc⟩ := h1.parts
  exact each1_core f cap F v0 ao b off c1 sh da w hao hl0 hl1 h0 hb hc hcf hone


theorem cellAbs_any (x : Int) (w : World) (h0 : -3000000000 ≤ x) (h1 : x ≤ 3000000000) : Calls Tryz.prog 99 #[.int .i64 x] w (CPost w (max x (-x), 0)) := by
  by_cases h : x ≤ -x
  · have e : max x (-x) = -x := by omega
    rw [e]
    clear e
    go_enter Tryz.func99, Tryz.ntmps99
    go_wp2
    all_goals (first | omega | (go_ret; exact ⟨Below.refl _ _, .inl ⟨rfl, ret_int (by simp; omega)⟩⟩) | (go_ret; exact ⟨Below.refl _ _, .inl ⟨rfl, rfl⟩⟩))
  · have e : max x (-x) = x := by omega
    rw [e]
    clear e
    go_enter Tryz.func99, Tryz.ntmps99
    go_wp2
    all_goals (first | omega | (go_ret; exact ⟨Below.refl _ _, .inl ⟨rfl, ret_int (by simp; omega)⟩⟩) | (go_ret; exact ⟨Below.refl _ _, .inl ⟨rfl, rfl⟩⟩))
end Go.Proofs.YtaikmbfdhecjoaaGreat

namespace Go.Proofs.YtaikmbfdhecjoaaGreat
open Go.RowKit
set_option linter.unusedVariables false

namespace Pl
theorem ok_cell {sh da : List Int} (h : okB sh da = true) {x : Int} (hx : x ∈ da) : -3000000000 ≤ x ∧ x ≤ 3000000000 := by
  simp only [okB, Bool.and_eq_true, List.all_eq_true] at h
  have := h.2 x hx
  simpa [valB] using this
end Pl

end Go.Proofs.YtaikmbfdhecjoaaGreat

namespace Go.Proofs.YtaikmbfdhecjoaaGreat
open Go.RowKit
set_option linter.unusedVariables false

/-- spec.l2Bool -/
theorem l2Bool_any (q : Bool) (w : World) : Calls Tryz.prog 111 #[.bool q] w fun e w' => e = .returned (.int .i64 (if q = true then 1 else 0)) ∧ w' = w := by
  cases q
  · go_enter Tryz.func111, Tryz.ntmps111
    go_wp2
    go_ret
    exact ⟨rfl, rfl⟩
  · go_enter Tryz.func111, Tryz.ntmps111
    go_wp2
    go_ret
    exact ⟨rfl, rfl⟩

/-- '[]int{}' -/
theorem owns_empty (w : World) (base : Nat) (hb : base ≤ w.heap.size) : (w.alloc (.cells #[] 3)).ownsRow base 3 1 (.slice (some ⟨w.heap.size, 0, none⟩) 0 0) 0 (([] : List Int).map (Value.int .i64)) :=
  World.ownsRow_lit w #[] 0 hb (by unfold maxLen; omega) rfl

/-- spec.l2Copy -/
theorem l2Copy_any (u : Value) (xs : List Int) (w : World) (hl : xs.length ≤ 1048576) (h0 : Rd w.heap.size w u xs) :
    Calls Tryz.prog 17 #[u] w fun e w' => ∃ v, e = .returned v ∧ w'.ownsRow w.heap.size 3 1 v xs.length (xs.map (Value.int .i64)) ∧ Below w.heap.size w w' := by
  have H := hideP h0
  obtain ⟨a0, d0, e0⟩ := h0.form
  subst e0
  clear h0
  go_enter Tryz.func17, Tryz.ntmps17
  have A : Hid (Below w.heap.size w (w.alloc (.cells #[] 3))) := (Below.refl _ _).alloc (Nat.le_refl _) _
  have RD := hideP (H.out.keep A.out)
  have OE := hideP (owns_empty w w.heap.size (Nat.le_refl _))
  go_wp2_with (at_builtin; refine wpList_append_rd _ rfl _ _ rfl _ _ rfl rfl 0 [] xs OE.out RD.out (by omega) (by simp) ?_)
  intro v' w' ho hb
  have HO : Hid (w'.ownsRow w.heap.size 3 1 v' xs.length (xs.map (Value.int .i64))) := by
    first | exact ho | (have := ho; rw [Nat.zero_add, List.nil_append] at this; exact this)
  have HB := hideP (A.out.trans hb)
  clear ho hb
  go_wp2_with fail
  go_ret
  exact ⟨_, rfl, HO.out, HB.out⟩

end Go.Proofs.YtaikmbfdhecjoaaGreat

namespace Go.Proofs.YtaikmbfdhecjoaaGreat
open Go.RowKit
set_option linter.unusedVariables false

theorem own_ne {base n P : Nat} {w : World} {v : Value} {xs : List Value} {c : Array Value} {fr : Nat × Nat} {t : TypeId} (h : w.ownsRow base 3 1 v n xs) (hP : w.heap[P]? = some (.cells c t fr)) (ht : ¬ t = 3) : v.ownBlock ≠ some P := by
  intro e
  rcases h.2 with ⟨rfl, _⟩ | ⟨g, cap, cur, rfl, _, hg, _⟩
  · simp [Value.ownBlock] at e
  · simp [Value.ownBlock] at e
    subst e
    rw [hg] at hP
    simp at hP
    exact ht hP.2.1.symm

theorem owns_form {base n : Nat} {w : World} {v : Value} {xs : List Value} (h : w.ownsRow base 3 1 v n xs) : ∃ ao cap, v = .slice ao n cap := by
  rcases h.2 with ⟨rfl, rfl⟩ | ⟨g, cap, cur, rfl, _⟩
  · exact ⟨none, 0, rfl⟩
  · exact ⟨_, cap, rfl⟩

/-- append_rd, and what is not written -/
theorem append_rd' {base B : Nat} (w : World) (v : Value) (n : Nat) (ys : List Int) (hown : w.ownsRow base 3 1 v n (ys.map (Value.int .i64))) (u : Value) (xs : List Int) (hrd : Rd B w u xs) (hbd : n + xs.length ≤ 16777216) (hbase : base ≤ w.heap.size) (ty : TypeId) :
    ∃ v' w', (Builtin.append_ #[23, 23] ty #[v, u]).run Tryz.prog w = .ok v' w' ∧ w'.ownsRow base 3 1 v' (n + xs.length) ((ys ++ xs).map (Value.int .i64)) ∧ w.grownBy w' v.ownBlock := by
  obtain ⟨i0, hi, hz0, hz1, hz2⟩ := info_parts Tryz.info3
  obtain ⟨ao, cap, rfl, h⟩ := hrd
  rcases h with h | ⟨b, off, hB, rfl, hc⟩
  · obtain rfl := List.length_eq_zero_iff.1 h
    refine ⟨v, w, ?_, by simpa using hown, World.grownBy.refl _ _⟩
    rcases hown.2 with ⟨rfl, rfl⟩ | ⟨g, cp, cur, rfl, _, _, hnc, _⟩
    · cases ao <;> simp [Builtin.append_, run_underlying Tryz.underlying23, sizeOf, typeInfo, hi, Builtin.lenOf, Builtin.firstCells, loadCells, loadCellsFrom]
    · cases ao <;> simp [Builtin.append_, run_underlying Tryz.underlying23, sizeOf, typeInfo, hi, Builtin.lenOf, Builtin.firstCells, loadCells, loadCellsFrom, hnc, storeCells]
  · obtain ⟨v', w', hr, ho, hg, _⟩ := run_append_own (P := Tryz.prog) w base 23 ty 3 i0 (.int .i64 0) 1 8 Tryz.underlying23 hi hz0 hz1 hz2 rfl (by decide) v n _ hown ⟨b, off, none⟩ xs.length cap (xs.map (Value.int .i64)) (by simp)
      (by
        intro j x hj
        rw [List.getElem?_map] at hj
        obtain ⟨y, hy, rfl⟩ := Option.map_eq_some_iff.1 hj
        have hlt : j < xs.length := (List.getElem?_eq_some_iff.1 hy).1
        rw [Addr.add_lit, hc j hlt]
        simp [List.getD, hy])
      (ints_oneCell _ _) (by unfold maxLen; omega) (by omega) hbase
    exact ⟨v', w', hr, by simpa using ho, hg⟩

/-- append(v, x): one number, laid in a block of its own first -/
theorem wpList_append_one {base : Nat} (w : World) (x : Int) (t : TypeId) {ops : Array Oper} {rest : List Oper} {o : Oper} {a : Act} {Q : Exit → Act → World → Prop} (hg : o.guard = none) (s y : Operand)
    (hop : o.op = Op.call { callee := Callee.builtin Builtin.append, args := #[s, y], argTypes := #[23, 23] }) (v : Value) (hs : a.eval s = v) (hx : a.eval y = .slice (some ⟨w.heap.size, 0, none⟩) 1 1) (n : Nat) (ys : List Int)
    (hown : w.ownsRow base 3 1 v n (ys.map (Value.int .i64))) (hbd : n + 1 ≤ 16777216) (hbase : base ≤ w.heap.size)
    (hK : ∀ v' w', w'.ownsRow base 3 1 v' (n + 1) ((ys ++ [x]).map (Value.int .i64)) → (w.alloc (.cells #[.int .i64 x] t)).grownBy w' v.ownBlock → wpList Tryz.prog ops Q rest (a.put o.dst v') w') : wpList Tryz.prog ops Q (o :: rest) a (w.alloc (.cells #[.int .i64 x] t)) := by
  have hrd : Rd (w.heap.size + 1) (w.alloc (.cells #[.int .i64 x] t)) (.slice (some ⟨w.heap.size, 0, none⟩) 1 1) [x] := by
    refine ⟨_, _, rfl, .inr ⟨w.heap.size, 0, by omega, rfl, fun i hi => ?_⟩⟩
    have : i = 0 := by simp at hi; omega
    subst this
    simp [go_sem]
  obtain ⟨v', w', hr, ho, hb⟩ := append_rd' _ v n ys (hown.alloc _) _ [x] hrd hbd (by simp; omega) o.type
  exact wpList_append_eq _ w' hg s y _ hop v _ v' hs hx hr (hK v' w' ho hb)

theorem cell_blk {w : World} {P j : Nat} {c : Array Value} {t : TypeId} (h : w.heap[P]? = some (.cells c t (0, 0))) : w.cell? ⟨P, j, none⟩ = c[j]? := cell_of_row w P j c t (0, 0) h
theorem frozen_blk {w : World} {P j : Nat} {c : Array Value} {t : TypeId} (h : w.heap[P]? = some (.cells c t (0, 0))) : w.frozen? ⟨P, j, none⟩ = false := frozen_of_row w P j c t h
theorem grown_setCell (w : World) (P j : Nat) (v : Value) : w.grownBy (w.setCell ⟨P, j, none⟩ v) (some P) :=
  ⟨rfl, rfl, rfl, by simp, fun k _ hk => heap_setCell_other w ⟨P, j, none⟩ k v (fun e => hk (by simp [e]))⟩

theorem apart_right {B : Nat} {w : World} {u0 u1 : Value} {sh da : List Int} (h : Own B w u1 da) (h1 : sh.length = 0 ∨ ∀ b, u0.ownBlock = some b → b < B) : Apart u0 u1 sh da := by
  rcases h1 with h1 | h1
  · exact .inl h1
  obtain ⟨ao, cap, rfl, h⟩ := h
  rcases h with h | ⟨g, off, hB, _, rfl, _⟩
  · exact .inr (.inl h)
  · refine .inr (.inr fun b e0 e1 => ?_)
    have := h1 b e0
    simp [Value.ownBlock] at e1
    omega

theorem Own.lt {B : Nat} {w : World} {u : Value} {zs : List Int} (h : Own B w u zs) : zs.length = 0 ∨ ∀ b, u.ownBlock = some b → b < w.heap.size := by
  obtain ⟨ao, cap, rfl, h⟩ := h
  rcases h with h | ⟨g, off, _, hB, rfl, _⟩
  · exact .inl h
  · refine .inr fun b e0 => ?_
    simp [Value.ownBlock] at e0
    omega

/-- the array that is built, out.Data grown by one -/
theorem out_step {E P : Nat} {W wr w' : World} {x : Int} {t : TypeId} {sv nv v' : Value} {n m : Nat} {ys zs : List Value} (hP : wr.heap[P]? = some (.cells #[sv, nv] 25 (0, 0))) (ho : wr.ownsRow E 3 1 nv n ys) (hE : E ≤ P) (hb : Below E W wr)
    (hg : (wr.alloc (.cells #[.int .i64 x] t)).grownBy w' nv.ownBlock) (ho' : w'.ownsRow E 3 1 v' m zs) :
    w'.heap[P]? = some (.cells #[sv, nv] 25 (0, 0)) ∧ (w'.setCell ⟨P, 1, none⟩ v').heap[P]? = some (.cells #[sv, v'] 25 (0, 0)) ∧ (w'.setCell ⟨P, 1, none⟩ v').ownsRow E 3 1 v' m zs ∧ Below E W (w'.setCell ⟨P, 1, none⟩ v') := by
  have hlt : P < wr.heap.size := (Array.getElem?_eq_some_iff.1 hP).1
  have hE' : E ≤ wr.heap.size := by omega
  have h1 : w'.heap[P]? = some (.cells #[sv, nv] 25 (0, 0)) := by
    rw [hg.block P (by simp; omega) (fun e => own_ne ho hP (by decide) e.symm)]
    rw [Below.heap_alloc wr _ P hlt]
    exact hP
  have h2 := heap_setCell_same w' P 1 #[sv, nv] 25 v' h1
  refine ⟨h1, h2, ?_, ?_⟩
  · exact ho'.kept (grown_setCell w' P 1 v') (.inr (own_ne ho' h1 (by decide)))
  · refine Below.setCell ?_ hE _
    refine (hb.alloc hE' _).grown hg (by simp; omega) (fun k hk => (ho.lt k hk).1)

end Go.Proofs.YtaikmbfdhecjoaaGreat

namespace Go.Proofs.YtaikmbfdhecjoaaGreat.Pl
def divM (x y : Int) : Int := if ((x.tmod y != 0) && (decide (x < 0) != decide (y < 0))) = true then x.tdiv y - 1 else x.tdiv y
def modM (x y : Int) : Int := x - y * divM x y
def inM (v : Int) : Int × Int := if -3000000000 ≤ v ∧ v ≤ 3000000000 then (v, 0) else (0, 5)
def boolM (b : Bool) : Int := if b = true then 1 else 0
def twoM (op x y : Int) : Int × Int :=
  if op = 1 then inM (x + y) else if op = 2 then inM (x - y) else if op = 3 then inM (x * y)
  else if op = 4 then (if y = 0 then (0, 1) else (divM x y, 0)) else if op = 5 then (if y = 0 then (x, 0) else (modM x y, 0))
  else if op = 6 then (min x y, 0) else if op = 7 then (max x y, 0) else if op = 8 then (boolM (decide (x < y)), 0) else if op = 9 then (boolM (x == y), 0) else (boolM (decide (y < x)), 0)

theorem tdiv_bd {x y M : Int} (h0 : -M ≤ x) (h1 : x ≤ M) : -M ≤ x.tdiv y ∧ x.tdiv y ≤ M := by
  have h : (x.tdiv y).natAbs ≤ x.natAbs := by rw [Int.natAbs_tdiv]; exact Nat.div_le_self _ _
  omega
theorem tmod_bd {x y M : Int} (h0 : -M ≤ x) (h1 : x ≤ M) : -M ≤ x.tmod y ∧ x.tmod y ≤ M := by
  have h : (x.tmod y).natAbs ≤ x.natAbs := by rw [Int.natAbs_tmod]; exact Nat.mod_le _ _
  omega
theorem mul_tdiv (x y : Int) : y * x.tdiv y = x - x.tmod y := by
  have := Int.mul_tdiv_add_tmod x y
  omega
theorem tdiv_mul (x y : Int) : x.tdiv y * y = x - x.tmod y := by rw [Int.mul_comm]; exact mul_tdiv x y
theorem tmod_lt (x y : Int) (h : y ≠ 0) : (x.tmod y).natAbs < y.natAbs := by rw [Int.natAbs_tmod]; exact Nat.mod_lt _ (by omega)
theorem tmod_sign (x y : Int) : (0 ≤ x → 0 ≤ x.tmod y) ∧ (x ≤ 0 → x.tmod y ≤ 0) := by
  refine ⟨fun h => Int.tmod_nonneg y h, fun h => ?_⟩
  have := Int.tmod_nonneg y (show 0 ≤ -x by omega)
  rw [Int.neg_tmod] at this
  omega
theorem q_eq (x y : Int) : (x.tdiv y * y != x) = (x.tmod y != 0) := by
  rw [tdiv_mul]
  rw [Bool.eq_iff_iff]
  simp only [bne_iff_ne]
  omega
theorem mod_eq (x y : Int) : modM x y = if ((x.tmod y != 0) && (decide (x < 0) != decide (y < 0))) = true then x.tmod y + y else x.tmod y := by
  unfold modM divM
  split
  · rw [Int.mul_sub, mul_tdiv]; omega
  · rw [mul_tdiv]; omega
theorem mod_bd {x y M : Int} (hy : y ≠ 0) (h0 : -M ≤ x) (h1 : x ≤ M) (h2 : -M ≤ y) (h3 : y ≤ M) : -M ≤ modM x y ∧ modM x y ≤ M := by
  rw [mod_eq]
  have a := tmod_lt x y hy
  have b := tmod_sign x y
  split
  · rename_i h
    simp only [Bool.and_eq_true, bne_iff_ne] at h
    by_cases hx : x < 0
    · have : ¬ y < 0 := by intro hy'; exact h.2 (by simp [hx, hy'])
      have := b.2 (by omega)
      omega
    · have : y < 0 := by
        apply Classical.byContradiction
        intro hy'
        exact h.2 (by simp [hx, hy'])
      have := b.1 (by omega)
      omega
  · omega
theorem ymul_bd {x y M : Int} (hy : y ≠ 0) (h0 : -M ≤ x) (h1 : x ≤ M) (h2 : -M ≤ y) (h3 : y ≤ M) : -(2 * M) ≤ y * divM x y ∧ y * divM x y ≤ 2 * M := by
  have := mod_bd hy h0 h1 h2 h3
  unfold modM at this
  omega
theorem div_bd {x y M : Int} (hy : y ≠ 0) (h0 : -M ≤ x) (h1 : x ≤ M) : -M ≤ divM x y ∧ divM x y ≤ M := by
  have a := tdiv_bd (y := y) h0 h1
  have hm := mul_tdiv x y
  have l := tmod_lt x y hy
  unfold divM
  split
  · rename_i h
    simp only [Bool.and_eq_true, bne_iff_ne] at h
    refine ⟨?_, by omega⟩
    -- the remainder is not 0, so the quotient is not the least
    have hq : (x.tdiv y).natAbs = x.natAbs / y.natAbs := Int.natAbs_tdiv x y
    have hr : (x.tmod y).natAbs = x.natAbs % y.natAbs := Int.natAbs_tmod x y
    have hne : x.natAbs % y.natAbs ≠ 0 := by omega
    have hy1 : y.natAbs ≠ 1 := by
      intro e
      rw [e] at hne
      omega
    have : x.natAbs / y.natAbs ≤ x.natAbs / 2 := Nat.div_le_div_left (by omega) (by omega)
    have : 1 ≤ x.natAbs := by
      apply Classical.byContradiction
      intro h
      have : x.natAbs = 0 := by omega
      rw [this] at hne
      simp at hne
    omega
  · exact a
theorem mul_bd2 {x y : Int} (h0 : -3000000000 ≤ x) (h1 : x ≤ 3000000000) (h2 : -3000000000 ≤ y) (h3 : y ≤ 3000000000) : -9000000000000000000 ≤ x * y ∧ x * y ≤ 9000000000000000000 := by
  have h : (x * y).natAbs ≤ 3000000000 * 3000000000 := by rw [Int.natAbs_mul]; exact Nat.mul_le_mul (by omega) (by omega)
  omega
end Go.Proofs.YtaikmbfdhecjoaaGreat.Pl
