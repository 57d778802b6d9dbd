import Derived.Test.YtaopohihipihdaaGreatDoorCat
import Derived.Deep.RegionHeld3
import Derived.Deep.RegionHeld2
import Derived.Laws.EntriesVeiled
namespace Go.Proofs.YtaopohihipihdaaGreatDoor
open Go.RowKit
set_option linter.unusedVariables false


/-- what a function of cells does: a number, or a code -/
def CPost (W : World) (r : Int × Int) (e : Ending) (w' : World) : Prop :=
  Below W.heap.size W w' ∧ ((r.2 = 0 ∧ e = .returned (.int .i64 r.1)) ∨ (¬ r.2 = 0 ∧ e = .panicked [thrown r.2]))

theorem apart_left {B : Nat} {w : World} {u0 u1 : Value} {sh da : List Int} (h : Own B w u0 sh) (h1 : ∀ b, u1.ownBlock = some b → b < B) : Apart u0 u1 sh da := by
  obtain ⟨ao, cap, rfl, h⟩ := h
  rcases h with h | ⟨g, off, hB, _, rfl, _⟩
  · exact .inl h
  · refine .inr (.inr fun b e0 e1 => ?_)
    have := h1 b e1
    simp [Value.ownBlock] at e0
    omega

end Go.Proofs.YtaopohihipihdaaGreatDoor

namespace Go.Proofs.YtaopohihipihdaaGreatDoor
open Go.RowKit
set_option linter.unusedVariables false

theorem Rd.parts {B : Nat} {w : World} {v : Value} {zs : List Int} (h : Rd B w v zs) : ∃ (ao : Option Addr) (cap b off : Nat), v = .slice ao zs.length cap ∧ (0 < zs.length → ao = some ⟨b, off, none⟩) ∧ (0 < zs.length → b < B) ∧
    ∀ i, i < zs.length → w.cell? ⟨b, off + i, none⟩ = some (.int .i64 (zs.getD i 0)) := by
  obtain ⟨ao, cap, rfl, h⟩ := h
  rcases h with h | ⟨b, off, hB, rfl, hc⟩
  · exact ⟨ao, cap, 0, 0, rfl, fun h' => absurd h' (by omega), fun h' => absurd h' (by omega), fun i hi => absurd hi (by omega)⟩
  · exact ⟨_, cap, b, off, rfl, fun _ => rfl, fun _ => hB, hc⟩


theorem cellAbs_any (x : Int) (w : World) (h0 : -3000000000 ≤ x) (h1 : x ≤ 3000000000) : Calls Tryz.prog 81 #[.int .i64 x] w (CPost w (max x (-x), 0)) := by
  by_cases h : x ≤ -x
  · have e : max x (-x) = -x := by omega
    rw [e]
    clear e
    go_enter Tryz.func81, Tryz.ntmps81
    go_wp2
    all_goals (first | omega | (go_ret; exact ⟨Below.refl _ _, .inl ⟨rfl, ret_int (by simp; omega)⟩⟩) | (go_ret; exact ⟨Below.refl _ _, .inl ⟨rfl, rfl⟩⟩))
  · have e : max x (-x) = x := by omega
    rw [e]
    clear e
    go_enter Tryz.func81, Tryz.ntmps81
    go_wp2
    all_goals (first | omega | (go_ret; exact ⟨Below.refl _ _, .inl ⟨rfl, ret_int (by simp; omega)⟩⟩) | (go_ret; exact ⟨Below.refl _ _, .inl ⟨rfl, rfl⟩⟩))
end Go.Proofs.YtaopohihipihdaaGreatDoor

namespace Go.Proofs.YtaopohihipihdaaGreatDoor
open Go.RowKit
set_option linter.unusedVariables false

namespace Pl
theorem ok_cell {sh da : List Int} (h : okB sh da = true) {x : Int} (hx : x ∈ da) : -3000000000 ≤ x ∧ x ≤ 3000000000 := by
  simp only [okB, Bool.and_eq_true, List.all_eq_true] at h
  have := h.2 x hx
  simpa [valB] using this
end Pl

end Go.Proofs.YtaopohihipihdaaGreatDoor

namespace Go.Proofs.YtaopohihipihdaaGreatDoor
open Go.RowKit
set_option linter.unusedVariables false

theorem own_ne {base n P : Nat} {w : World} {v : Value} {xs : List Value} {c : Array Value} {fr : Nat × Nat} {t : TypeId} (h : w.ownsRow base 3 1 v n xs) (hP : w.heap[P]? = some (.cells c t fr)) (ht : ¬ t = 3) : v.ownBlock ≠ some P := by
  intro e
  rcases h.2 with ⟨rfl, _⟩ | ⟨g, cap, cur, rfl, _, hg, _⟩
  · simp [Value.ownBlock] at e
  · simp [Value.ownBlock] at e
    subst e
    rw [hg] at hP
    simp at hP
    exact ht hP.2.1.symm

theorem owns_form {base n : Nat} {w : World} {v : Value} {xs : List Value} (h : w.ownsRow base 3 1 v n xs) : ∃ ao cap, v = .slice ao n cap := by
  rcases h.2 with ⟨rfl, rfl⟩ | ⟨g, cap, cur, rfl, _⟩
  · exact ⟨none, 0, rfl⟩
  · exact ⟨_, cap, rfl⟩

/-- append_rd, and what is not written -/
theorem append_rd' {base B : Nat} (w : World) (v : Value) (n : Nat) (ys : List Int) (hown : w.ownsRow base 3 1 v n (ys.map (Value.int .i64))) (u : Value) (xs : List Int) (hrd : Rd B w u xs) (hbd : n + xs.length ≤ 16777216) (hbase : base ≤ w.heap.size) (ty : TypeId) :
    ∃ v' w', (Builtin.append_ #[23, 23] ty #[v, u]).run Tryz.prog w = .ok v' w' ∧ w'.ownsRow base 3 1 v' (n + xs.length) ((ys ++ xs).map (Value.int .i64)) ∧ w.grownBy w' v.ownBlock := by
  obtain ⟨i0, hi, hz0, hz1, hz2⟩ := info_parts Tryz.info3
  obtain ⟨ao, cap, rfl, h⟩ := hrd
  rcases h with h | ⟨b, off, hB, rfl, hc⟩
  · obtain rfl := List.length_eq_zero_iff.1 h
    refine ⟨v, w, ?_, by simpa using hown, World.grownBy.refl _ _⟩
    rcases hown.2 with ⟨rfl, rfl⟩ | ⟨g, cp, cur, rfl, _, _, hnc, _⟩
    · cases ao <;> simp [Builtin.append_, run_underlying Tryz.underlying23, sizeOf, typeInfo, hi, Builtin.lenOf, Builtin.firstCells, loadCells, loadCellsFrom]
    · cases ao <;> simp [Builtin.append_, run_underlying Tryz.underlying23, sizeOf, typeInfo, hi, Builtin.lenOf, Builtin.firstCells, loadCells, loadCellsFrom, hnc, storeCells]
  · obtain ⟨v', w', hr, ho, hg, _⟩ := run_append_own (P := Tryz.prog) w base 23 ty 3 i0 (.int .i64 0) 1 8 Tryz.underlying23 hi hz0 hz1 hz2 rfl (by decide) v n _ hown ⟨b, off, none⟩ xs.length cap (xs.map (Value.int .i64)) (by simp)
      (by
        intro j x hj
        rw [List.getElem?_map] at hj
        obtain ⟨y, hy, rfl⟩ := Option.map_eq_some_iff.1 hj
        have hlt : j < xs.length := (List.getElem?_eq_some_iff.1 hy).1
        rw [Addr.add_lit, hc j hlt]
        simp [List.getD, hy])
      (ints_oneCell _ _) (by unfold maxLen; omega) (by omega) hbase
    exact ⟨v', w', hr, by simpa using ho, hg⟩

theorem cell_blk {w : World} {P j : Nat} {c : Array Value} {t : TypeId} (h : w.heap[P]? = some (.cells c t (0, 0))) : w.cell? ⟨P, j, none⟩ = c[j]? := cell_of_row w P j c t (0, 0) h
theorem frozen_blk {w : World} {P j : Nat} {c : Array Value} {t : TypeId} (h : w.heap[P]? = some (.cells c t (0, 0))) : w.frozen? ⟨P, j, none⟩ = false := frozen_of_row w P j c t h
theorem grown_setCell (w : World) (P j : Nat) (v : Value) : w.grownBy (w.setCell ⟨P, j, none⟩ v) (some P) :=
  ⟨rfl, rfl, rfl, by simp, fun k _ hk => heap_setCell_other w ⟨P, j, none⟩ k v (fun e => hk (by simp [e]))⟩

theorem apart_right {B : Nat} {w : World} {u0 u1 : Value} {sh da : List Int} (h : Own B w u1 da) (h1 : sh.length = 0 ∨ ∀ b, u0.ownBlock = some b → b < B) : Apart u0 u1 sh da := by
  rcases h1 with h1 | h1
  · exact .inl h1
  obtain ⟨ao, cap, rfl, h⟩ := h
  rcases h with h | ⟨g, off, hB, _, rfl, _⟩
  · exact .inr (.inl h)
  · refine .inr (.inr fun b e0 e1 => ?_)
    have := h1 b e0
    simp [Value.ownBlock] at e1
    omega

theorem Own.lt {B : Nat} {w : World} {u : Value} {zs : List Int} (h : Own B w u zs) : zs.length = 0 ∨ ∀ b, u.ownBlock = some b → b < w.heap.size := by
  obtain ⟨ao, cap, rfl, h⟩ := h
  rcases h with h | ⟨g, off, _, hB, rfl, _⟩
  · exact .inl h
  · refine .inr fun b e0 => ?_
    simp [Value.ownBlock] at e0
    omega

/-- the array that is built, out.Data grown by one -/
theorem out_step {E P : Nat} {W wr w' : World} {x : Int} {t : TypeId} {sv nv v' : Value} {n m : Nat} {ys zs : List Value} (hP : wr.heap[P]? = some (.cells #[sv, nv] 25 (0, 0))) (ho : wr.ownsRow E 3 1 nv n ys) (hE : E ≤ P) (hb : Below E W wr)
    (hg : (wr.alloc (.cells #[.int .i64 x] t)).grownBy w' nv.ownBlock) (ho' : w'.ownsRow E 3 1 v' m zs) :
    w'.heap[P]? = some (.cells #[sv, nv] 25 (0, 0)) ∧ (w'.setCell ⟨P, 1, none⟩ v').heap[P]? = some (.cells #[sv, v'] 25 (0, 0)) ∧ (w'.setCell ⟨P, 1, none⟩ v').ownsRow E 3 1 v' m zs ∧ Below E W (w'.setCell ⟨P, 1, none⟩ v') := by
  have hlt : P < wr.heap.size := (Array.getElem?_eq_some_iff.1 hP).1
  have hE' : E ≤ wr.heap.size := by omega
  have h1 : w'.heap[P]? = some (.cells #[sv, nv] 25 (0, 0)) := by
    rw [hg.block P (by simp; omega) (fun e => own_ne ho hP (by decide) e.symm)]
    rw [Below.heap_alloc wr _ P hlt]
    exact hP
  have h2 := heap_setCell_same w' P 1 #[sv, nv] 25 v' h1
  refine ⟨h1, h2, ?_, ?_⟩
  · exact ho'.kept (grown_setCell w' P 1 v') (.inr (own_ne ho' h1 (by decide)))
  · refine Below.setCell ?_ hE _
    refine (hb.alloc hE' _).grown hg (by simp; omega) (fun k hk => (ho.lt k hk).1)

end Go.Proofs.YtaopohihipihdaaGreatDoor

namespace Go.Proofs.YtaopohihipihdaaGreatDoor
open Go.RowKit
set_option linter.unusedVariables false

/-- impl.isScalar -/
theorem isScalar_any (v0 v1 : Value) (sh : List Int) (B : Nat) (w w0 : World) (h0 : Rd B w0 v0 sh) : Calls Tryz.prog 63 #[.agg #[v0, v1]] w fun e w' => e = .returned (.bool (decide (sh.length = 0))) ∧ Below w.heap.size w w' := by
  obtain ⟨a0, d0, rfl⟩ := h0.form
  clear h0
  generalize sh.length = n at *
  by_cases h : n = 0
  · subst h
    go_enter Tryz.func63, Tryz.ntmps63
    go_wp2_with fail
    go_ret
    exact ⟨rfl, (Below.refl _ _).alloc (Nat.le_refl _) _⟩
  · have e : ((n : Int) == 0) = false := by simp; omega
    have d : decide (n = 0) = false := by simp [h]
    rw [d]
    clear d h
    go_enter Tryz.func63, Tryz.ntmps63
    go_wp2_with fail
    go_ret
    exact ⟨rfl, (Below.refl _ _).alloc (Nat.le_refl _) _⟩

/-- spec.l2Same -/
theorem l2Same_core (b1 o1 c1 b2 o2 c2 : Nat) (xs ys : List Int) (w : World) (hl : xs.length ≤ 1048576) (hxy : xs.length = ys.length) (hb1 : b1 < w.heap.size) (hb2 : b2 < w.heap.size)
    (hc1 : ∀ i, i < xs.length → w.cell? ⟨b1, o1 + i, none⟩ = some (.int .i64 (xs.getD i 0))) (hc2 : ∀ i, i < xs.length → w.cell? ⟨b2, o2 + i, none⟩ = some (.int .i64 (ys.getD i 0))) :
    Calls Tryz.prog 48 #[.slice (some ⟨b1, o1, none⟩) xs.length c1, .slice (some ⟨b2, o2, none⟩) xs.length c2] w fun e w' => e = .returned (.bool (decide (xs = ys))) ∧ Below w.heap.size w w' := by
  generalize hn : xs.length = n at *
  have Hn : Hid (xs.length = n) := hn
  have Hm : Hid (ys.length = n) := hxy.symm
  clear hn hxy
  go_enter Tryz.func48, Tryz.ntmps48
  go_wp2
  go_loopw [5] (fun i wr => ∃ k : Nat, k ≤ n ∧ i = .int .i64 k ∧ Hid (xs.take k = ys.take k) ∧ Below w.heap.size w wr) (fun i _ => n - (intOf i).toNat)
  case atStart => exact ⟨0, Nat.zero_le _, rfl, rfl, Below.refl _ _⟩
  case round =>
    obtain ⟨k, hk, rfl, hall, hbel⟩ := hrel
    by_cases hlt : k < n
    · have hck1 : wr.cell? ⟨b1, o1 + k, none⟩ = some (.int .i64 (xs.getD k 0)) := (hbel.cell (p := ⟨b1, o1 + k, none⟩) hb1).trans (hc1 k hlt)
      have hck2 : wr.cell? ⟨b2, o2 + k, none⟩ = some (.int .i64 (ys.getD k 0)) := (hbel.cell (p := ⟨b2, o2 + k, none⟩) hb2).trans (hc2 k hlt)
      have HX : Hid (xs.take (k + 1) = xs.take k ++ [xs.getD k 0]) := Pl.take_snoc xs k (by rw [Hn.out]; exact hlt)
      have HY : Hid (ys.take (k + 1) = ys.take k ++ [ys.getD k 0]) := Pl.take_snoc ys k (by rw [Hm.out]; exact hlt)
      have HE : Hid (xs = ys → xs.getD k 0 = ys.getD k 0) := fun h => by rw [h]
      have HB : Hid (Below w.heap.size w wr) := hbel
      generalize xs.getD k 0 = x at *
      generalize ys.getD k 0 = y at *
      clear hc1 hc2 hbel
      have hlt' : (k : Int) < (n : Int) := by omega
      by_cases hxy : x = y
      · have hne : (x != y) = false := by simp [hxy]
        have HXY : Hid (x = y) := hxy
        clear hxy
        go_wp2
        go_quiet (fail)
        go_wp2
        go_roundw
        case rel => exact ⟨k + 1, by omega, by go_num, by show _ = _; rw [HX.out, HY.out, hall.out, HXY.out], below_drewN HB.out _⟩
        case measure => simp [intOf]; omega
      · have hne : (x != y) = true := by simp [hxy]
        have HN : Hid (¬ x = y) := hxy
        clear hxy
        go_wp2
        go_quiet (fail)
        go_wp2
        go_ret
        exact ⟨ret_bool (by symm; rw [decide_eq_false_iff_not]; exact fun h => HN.out (HE.out h)), below_drewN HB.out _⟩
    · have R : Hid (xs = ys ∧ Below w.heap.size w wr) := by
        have := hall.out
        rw [List.take_of_length_le (by rw [Hn.out]; omega), List.take_of_length_le (by rw [Hm.out]; omega)] at this
        exact ⟨this, hbel⟩
      clear hbel hc1 hc2
      go_wp2
      go_ret
      exact ⟨ret_bool (by symm; rw [decide_eq_true_iff]; exact R.out.1), R.out.2⟩


theorem l2Same_lens (a1 a2 : Option Addr) (n1 c1 n2 c2 : Nat) (w : World) (h1 : n1 ≤ 1048576) (h2 : n2 ≤ 1048576) (h : ¬ n1 = n2) :
    Calls Tryz.prog 48 #[.slice a1 n1 c1, .slice a2 n2 c2] w fun e w' => e = .returned (.bool false) ∧ w' = w := by
  have hne : ((n1 : Int) != (n2 : Int)) = true := by rw [bne_iff_ne]; omega
  go_enter Tryz.func48, Tryz.ntmps48
  go_wp2
  go_ret
  exact ⟨rfl, rfl⟩

theorem l2Same_nil (a1 a2 : Option Addr) (c1 c2 : Nat) (w : World) :
    Calls Tryz.prog 48 #[.slice a1 0 c1, .slice a2 0 c2] w fun e w' => e = .returned (.bool true) ∧ w' = w := by
  go_enter Tryz.func48, Tryz.ntmps48
  go_wp2
  go_loopw [5] (fun i wr => i = .int .i64 0 ∧ wr = w) (fun _ _ => 0)
  case atStart => exact ⟨rfl, rfl⟩
  case round =>
    obtain ⟨rfl, rfl⟩ := hrel
    go_wp2
    go_ret
    exact ⟨rfl, rfl⟩

theorem l2Same_any (v1 v2 : Value) (xs ys : List Int) (w : World) (hl1 : xs.length ≤ 1048576) (hl2 : ys.length ≤ 1048576) (h1 : Rd w.heap.size w v1 xs) (h2 : Rd w.heap.size w v2 ys) :
    Calls Tryz.prog 48 #[v1, v2] w fun e w' => e = .returned (.bool (decide (xs = ys))) ∧ Below w.heap.size w w' := by
  obtain ⟨a1, c1, rfl, h1⟩ := h1
  obtain ⟨a2, c2, rfl, h2⟩ := h2
  by_cases hxy : xs.length = ys.length
  · rcases h1 with h1 | ⟨b1, o1, hb1, rfl, hc1⟩
    · obtain rfl := List.length_eq_zero_iff.1 h1
      obtain rfl := List.length_eq_zero_iff.1 hxy.symm
      refine (l2Same_nil a1 a2 c1 c2 w).mono ?_
      rintro e w' ⟨rfl, rfl⟩
      exact ⟨rfl, Below.refl _ _⟩
    · rcases h2 with h2 | ⟨b2, o2, hb2, rfl, hc2⟩
      · obtain rfl := List.length_eq_zero_iff.1 h2
        obtain rfl := List.length_eq_zero_iff.1 hxy
        refine (l2Same_nil _ a2 c1 c2 w).mono ?_
        rintro e w' ⟨rfl, rfl⟩
        exact ⟨rfl, Below.refl _ _⟩
      · rw [← hxy] at hc2 ⊢
        exact l2Same_core b1 o1 c1 b2 o2 c2 xs ys w hl1 hxy hb1 hb2 hc1 hc2
  · refine (l2Same_lens a1 a2 _ c1 _ c2 w hl1 hl2 hxy).mono ?_
    rintro e w' ⟨rfl, rfl⟩
    exact ⟨ret_bool (by symm; rw [decide_eq_false_iff_not]; intro h; exact hxy (by rw [h])), Below.refl _ _⟩


/-- slices.Equal -/
theorem slEq_core (b1 o1 c1 b2 o2 c2 : Nat) (xs ys : List Int) (w : World) (hl : xs.length ≤ 1048576) (hxy : xs.length = ys.length) (hb1 : b1 < w.heap.size) (hb2 : b2 < w.heap.size)
    (hc1 : ∀ i, i < xs.length → w.cell? ⟨b1, o1 + i, none⟩ = some (.int .i64 (xs.getD i 0))) (hc2 : ∀ i, i < xs.length → w.cell? ⟨b2, o2 + i, none⟩ = some (.int .i64 (ys.getD i 0))) :
    Calls Tryz.prog 83 #[.slice (some ⟨b1, o1, none⟩) xs.length c1, .slice (some ⟨b2, o2, none⟩) xs.length c2] w fun e w' => e = .returned (.bool (decide (xs = ys))) ∧ Below w.heap.size w w' := by
  generalize hn : xs.length = n at *
  have Hn : Hid (xs.length = n) := hn
  have Hm : Hid (ys.length = n) := hxy.symm
  clear hn hxy
  go_enter Tryz.func83, Tryz.ntmps83
  go_wp2
  go_loopw [5, 13] (fun _ i wr => ∃ k : Nat, k ≤ n ∧ i = .int .i64 k ∧ Hid (xs.take k = ys.take k) ∧ Below w.heap.size w wr) (fun _ i _ => n - (intOf i).toNat)
  case atStart => exact ⟨0, Nat.zero_le _, rfl, rfl, Below.refl _ _⟩
  case round =>
    obtain ⟨k, hk, rfl, hall, hbel⟩ := hrel
    by_cases hlt : k < n
    · have hck1 : wr.cell? ⟨b1, o1 + k, none⟩ = some (.int .i64 (xs.getD k 0)) := (hbel.cell (p := ⟨b1, o1 + k, none⟩) hb1).trans (hc1 k hlt)
      have hck2 : wr.cell? ⟨b2, o2 + k, none⟩ = some (.int .i64 (ys.getD k 0)) := (hbel.cell (p := ⟨b2, o2 + k, none⟩) hb2).trans (hc2 k hlt)
      have HX : Hid (xs.take (k + 1) = xs.take k ++ [xs.getD k 0]) := Pl.take_snoc xs k (by rw [Hn.out]; exact hlt)
      have HY : Hid (ys.take (k + 1) = ys.take k ++ [ys.getD k 0]) := Pl.take_snoc ys k (by rw [Hm.out]; exact hlt)
      have HE : Hid (xs = ys → xs.getD k 0 = ys.getD k 0) := fun h => by rw [h]
      have HB : Hid (Below w.heap.size w wr) := hbel
      generalize xs.getD k 0 = x at *
      generalize ys.getD k 0 = y at *
      clear hc1 hc2 hbel
      have hlt' : (k : Int) < (n : Int) := by omega
      by_cases hxy : x = y
      · have hne : (x != y) = false := by simp [hxy]
        have HXY : Hid (x = y) := hxy
        clear hxy
        go_wp2
        go_quiet (fail)
        go_wp2
        go_roundw
        case rel => exact ⟨k + 1, by omega, by go_num, by show _ = _; rw [HX.out, HY.out, hall.out, HXY.out], below_drewN HB.out _⟩
        case measure => simp [intOf]; omega
      · have hne : (x != y) = true := by simp [hxy]
        have HN : Hid (¬ x = y) := hxy
        clear hxy
        go_wp2
        go_quiet (fail)
        go_wp2
        go_ret
        exact ⟨ret_bool (by symm; rw [decide_eq_false_iff_not]; exact fun h => HN.out (HE.out h)), below_drewN HB.out _⟩
    · have R : Hid (xs = ys ∧ Below w.heap.size w wr) := by
        have := hall.out
        rw [List.take_of_length_le (by rw [Hn.out]; omega), List.take_of_length_le (by rw [Hm.out]; omega)] at this
        exact ⟨this, hbel⟩
      clear hbel hc1 hc2
      go_wp2
      go_ret
      exact ⟨ret_bool (by symm; rw [decide_eq_true_iff]; exact R.out.1), R.out.2⟩


theorem slEq_lens (a1 a2 : Option Addr) (n1 c1 n2 c2 : Nat) (w : World) (h1 : n1 ≤ 1048576) (h2 : n2 ≤ 1048576) (h : ¬ n1 = n2) :
    Calls Tryz.prog 83 #[.slice a1 n1 c1, .slice a2 n2 c2] w fun e w' => e = .returned (.bool false) ∧ w' = w := by
  have hne : ((n1 : Int) != (n2 : Int)) = true := by rw [bne_iff_ne]; omega
  go_enter Tryz.func83, Tryz.ntmps83
  go_wp2
  go_ret
  exact ⟨rfl, rfl⟩

theorem slEq_nil (a1 a2 : Option Addr) (c1 c2 : Nat) (w : World) :
    Calls Tryz.prog 83 #[.slice a1 0 c1, .slice a2 0 c2] w fun e w' => e = .returned (.bool true) ∧ w' = w := by
  go_enter Tryz.func83, Tryz.ntmps83
  go_wp2
  go_loopw [5, 13] (fun _ i wr => i = .int .i64 0 ∧ wr = w) (fun _ _ _ => 0)
  case atStart => exact ⟨rfl, rfl⟩
  case round =>
    obtain ⟨rfl, rfl⟩ := hrel
    go_wp2
    go_ret
    exact ⟨rfl, rfl⟩

theorem slEq_any (v1 v2 : Value) (xs ys : List Int) (w : World) (hl1 : xs.length ≤ 1048576) (hl2 : ys.length ≤ 1048576) (h1 : Rd w.heap.size w v1 xs) (h2 : Rd w.heap.size w v2 ys) :
    Calls Tryz.prog 83 #[v1, v2] w fun e w' => e = .returned (.bool (decide (xs = ys))) ∧ Below w.heap.size w w' := by
  obtain ⟨a1, c1, rfl, h1⟩ := h1
  obtain ⟨a2, c2, rfl, h2⟩ := h2
  by_cases hxy : xs.length = ys.length
  · rcases h1 with h1 | ⟨b1, o1, hb1, rfl, hc1⟩
    · obtain rfl := List.length_eq_zero_iff.1 h1
      obtain rfl := List.length_eq_zero_iff.1 hxy.symm
      refine (slEq_nil a1 a2 c1 c2 w).mono ?_
      rintro e w' ⟨rfl, rfl⟩
      exact ⟨rfl, Below.refl _ _⟩
    · rcases h2 with h2 | ⟨b2, o2, hb2, rfl, hc2⟩
      · obtain rfl := List.length_eq_zero_iff.1 h2
        obtain rfl := List.length_eq_zero_iff.1 hxy
        refine (slEq_nil _ a2 c1 c2 w).mono ?_
        rintro e w' ⟨rfl, rfl⟩
        exact ⟨rfl, Below.refl _ _⟩
      · rw [← hxy] at hc2 ⊢
        exact slEq_core b1 o1 c1 b2 o2 c2 xs ys w hl1 hxy hb1 hb2 hc1 hc2
  · refine (slEq_lens a1 a2 _ c1 _ c2 w hl1 hl2 hxy).mono ?_
    rintro e w' ⟨rfl, rfl⟩
    exact ⟨ret_bool (by symm; rw [decide_eq_false_iff_not]; intro h; exact hxy (by rw [h])), Below.refl _ _⟩

end Go.Proofs.YtaopohihipihdaaGreatDoor
