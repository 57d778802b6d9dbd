import Derived.Test.YtmobjomebmipdaaEach2
import Derived.Test.YtmobjomebmipdaaRow
import Derived.Deep.RegionHeld3
import Derived.Deep.RegionHeld2
import Derived.Maps.AppendAt
namespace Go.Proofs.Ytmobjomebmipdaa.Pl
theorem ok_max {sh da : List Int} (h : okB sh da = true) : sh.length ≤ 3 ∧ da.length ≤ 1000 := by
  have h1 := (ok_len h).1
  have h2 := (ok_len h).2
  simp only [fitsB, baseB, Bool.and_eq_true, decide_eq_true_eq] at h2
  omega
end Go.Proofs.Ytmobjomebmipdaa.Pl

namespace Go.Proofs.Ytmobjomebmipdaa.Pl
def rowAt (da : List Int) (s r : Nat) : List Int := (da.drop (r * s)).take s
/-- rows r-1, r-2, .. 0 -/
def rowsDown (da : List Int) (s : Nat) : Nat → List (List Int)
  | 0 => []
  | r + 1 => rowAt da s r :: rowsDown da s r
theorem rowAt_len {da : List Int} {s r : Nat} (h : (r + 1) * s ≤ da.length) : (rowAt da s r).length = s := by
  unfold rowAt
  rw [List.length_take, List.length_drop]
  rw [Nat.succ_mul] at h
  omega
end Go.Proofs.Ytmobjomebmipdaa.Pl

namespace Go.Proofs.Ytmobjomebmipdaa
open Go.RowKit
set_option linter.unusedVariables false

/-- impl.joined of one list, as a row of the call's own -/
theorem joined1_row (b : Nat) (u : Value) (xs : List Int) (w : World) (hl : xs.length ≤ 1048576) (hb : b < w.heap.size) (c0 : w.cell? ⟨b, 0, none⟩ = some u) (h0 : Rd w.heap.size w u xs) :
    Calls Try.prog 84 #[.slice (some ⟨b, 0, none⟩) 1 1] w fun e w' => ∃ v, e = .returned v ∧ w'.ownsRow w.heap.size 3 1 v xs.length (xs.map (Value.int .i64)) ∧ Below w.heap.size w w' := by
  have K := hideP (concat1 b u xs w hl hb c0 h0)
  clear c0 h0
  go_enter Try.func84, Try.ntmps84
  go_wp2_with (go_at_call 136; refine K.out.mono ?_; rintro e w' ⟨v, rfl, ho, hb'⟩)
  go_ret
  exact ⟨_, rfl, ho, hb'⟩

end Go.Proofs.Ytmobjomebmipdaa

namespace Go.Proofs.Ytmobjomebmipdaa
open Go.RowKit
set_option linter.unusedVariables false

/-- append_rd', and where the row lies -/
theorem append_rd_at {base B : Nat} (w : World) (v : Value) (n : Nat) (ys : List Int) (hown : w.ownsRow base 3 1 v n (ys.map (Value.int .i64))) (u : Value) (xs : List Int) (hrd : Rd B w u xs) (hbd : n + xs.length ≤ 16777216) (hbase : base ≤ w.heap.size) (ty : TypeId) :
    ∃ v' w', (Builtin.append_ #[22, 22] ty #[v, u]).run Try.prog w = .ok v' w' ∧ w'.ownsRow base 3 1 v' (n + xs.length) ((ys ++ xs).map (Value.int .i64)) ∧ w.grownBy w' v.ownBlock ∧ (v'.ownBlock = v.ownBlock ∨ v'.ownBlock = some w.heap.size) := by
  obtain ⟨i0, hi, hz0, hz1, hz2⟩ := info_parts Try.info3
  obtain ⟨ao, cap, rfl, h⟩ := hrd
  rcases h with h | ⟨b, off, hB, rfl, hc⟩
  · obtain rfl := List.length_eq_zero_iff.1 h
    refine ⟨v, w, ?_, by simpa using hown, World.grownBy.refl _ _, .inl rfl⟩
    rcases hown.2 with ⟨rfl, rfl⟩ | ⟨g, cp, cur, rfl, _, _, hnc, _⟩
    · cases ao <;> simp [Builtin.append_, run_underlying Try.underlying22, sizeOf, typeInfo, hi, Builtin.lenOf, Builtin.firstCells, loadCells, loadCellsFrom]
    · cases ao <;> simp [Builtin.append_, run_underlying Try.underlying22, sizeOf, typeInfo, hi, Builtin.lenOf, Builtin.firstCells, loadCells, loadCellsFrom, hnc, storeCells]
  · obtain ⟨v', w', hr, ho, hg, _, hat⟩ := run_append_own_at (P := Try.prog) w base 22 ty 3 i0 (.int .i64 0) 1 8 Try.underlying22 hi hz0 hz1 hz2 rfl (by decide) v n _ hown ⟨b, off, none⟩ xs.length cap (xs.map (Value.int .i64)) (by simp)
      (by
        intro j x hj
        rw [List.getElem?_map] at hj
        obtain ⟨y, hy, rfl⟩ := Option.map_eq_some_iff.1 hj
        have hlt : j < xs.length := (List.getElem?_eq_some_iff.1 hy).1
        rw [Addr.add_lit, hc j hlt]
        simp [List.getD, hy])
      (ints_oneCell _ _) (by unfold maxLen; omega) (by omega) hbase
    exact ⟨v', w', hr, by simpa using ho, hg, hat⟩

/-- out, code := l2Made(append(l2Copy(..), ..), []int{}) under way: the copy and what was appended, the empty list, the variable -/
structure Rg (wv : World) (oc : Option (Value × List Int)) (og op : Option Nat) (w : World) : Prop where
  bel : Below wv.heap.size wv w
  c : ∀ v zs, oc = some (v, zs) → w.ownsRow wv.heap.size 3 1 v zs.length (zs.map (Value.int .i64))
  g : ∀ k, og = some k → w.ownsRow wv.heap.size 3 1 (.slice (some ⟨k, 0, none⟩) 0 0) 0 (([] : List Int).map (Value.int .i64))
  p : ∀ k, op = some k → wv.heap.size ≤ k ∧ w.heap[k]? = some (.cells #[.slice none 0 0, .slice none 0 0] 27 (0, 0))
  cg : ∀ v zs k, oc = some (v, zs) → og = some k → ¬ v.ownBlock = some k

theorem Rg.start (wv : World) : Rg wv none none none wv.drew := ⟨(Below.refl _ _).drew, (by intro _ _ h; cases h), (by intro _ h; cases h), (by intro _ h; cases h), (by intro _ _ _ h; cases h)⟩

theorem Rg.keep {wv w w' : World} {oc : Option (Value × List Int)} {og op : Option Nat} (h : Rg wv oc og op w) (hb : Below w.heap.size w w') : Rg wv oc og op w' :=
  ⟨h.bel.trans (hb.mono h.bel.size), fun v zs e => owns_keep (h.c v zs e) hb, fun k e => owns_keep (h.g k e) hb, fun k e => ⟨(h.p k e).1, by
    have := (h.p k e).2
    rw [hb.block k (Array.getElem?_eq_some_iff.1 this).1]
    exact this⟩, h.cg⟩

theorem Rg.copy {wv w w' : World} {og op : Option Nat} (h : Rg wv none og op w) {v : Value} {zs : List Int} (ho : w'.ownsRow w.heap.size 3 1 v zs.length (zs.map (Value.int .i64))) (hb : Below w.heap.size w w') : Rg wv (some (v, zs)) og op w' := by
  have k := h.keep hb
  refine ⟨k.bel, ?_, k.g, k.p, ?_⟩
  · intro v' zs' e
    simp only [Option.some.injEq, Prod.mk.injEq] at e
    obtain ⟨rfl, rfl⟩ := e
    exact owns_base ho h.bel.size
  · intro v' zs' k' e e' e2
    simp only [Option.some.injEq, Prod.mk.injEq] at e
    obtain ⟨rfl, rfl⟩ := e
    have h1 := (ho.lt k' e2).1
    have h2 := ((h.g k' e').lt k' rfl).2
    omega

/-- the answer of spec.Outer under way: its variable, the shape, the cells so far -/
structure Lp (wv : World) (sh : List Int) (P : Nat) (u0 nv : Value) (zs : List Int) (w : World) : Prop where
  bel : Below wv.heap.size wv w
  le : wv.heap.size ≤ P
  blk : w.heap[P]? = some (.cells #[u0, nv] 27 (0, 0))
  c : w.ownsRow wv.heap.size 3 1 u0 sh.length (sh.map (Value.int .i64))
  d : w.ownsRow wv.heap.size 3 1 nv zs.length (zs.map (Value.int .i64))
  ap : ∀ k, u0.ownBlock = some k → ¬ nv.ownBlock = some k

/-- one cell more -/
theorem Lp.step {wv wr w9 : World} {sh zs : List Int} {P : Nat} {u0 nv v' : Value} {r : Int} {t : TypeId} (h : Lp wv sh P u0 nv zs wr) (hg : (wr.alloc (.cells #[.int .i64 r] t)).grownBy w9 nv.ownBlock)
    (ho : w9.ownsRow wv.heap.size 3 1 v' (zs.length + 1) ((zs ++ [r]).map (Value.int .i64))) (hat : v'.ownBlock = nv.ownBlock ∨ v'.ownBlock = some (wr.heap.size + 1)) :
    w9.heap[P]? = some (.cells #[u0, nv] 27 (0, 0)) ∧ Lp wv sh P u0 v' (zs ++ [r]) (w9.setCell ⟨P, 1, none⟩ v') := by
  have hs := h.bel.size
  have k : Below wr.heap.size wr (wr.alloc (.cells #[.int .i64 r] t)) := (Below.refl _ _).alloc (Nat.le_refl _) _
  have hc : w9.ownsRow wv.heap.size 3 1 u0 sh.length (sh.map (Value.int .i64)) := by
    refine (owns_keep h.c k).kept hg ?_
    rcases hb : u0.ownBlock with _ | b
    · exact .inl rfl
    · right
      intro e
      exact h.ap b hb e.symm
  obtain ⟨h1, h2, h3, h4⟩ := out_step h.blk h.d h.le h.bel hg ho
  refine ⟨h1, h4, h.le, h2, ?_, ?_, ?_⟩
  · exact hc.kept (grown_setCell w9 P 1 v') (.inr (own_ne hc h1 (by decide)))
  · rw [List.length_append]
    exact h3
  · intro b e e2
    rcases hat with hat | hat
    · rw [hat] at e2
      exact h.ap b e e2
    · rw [hat] at e2
      have := (h.c.lt b e).2
      simp only [Option.some.injEq] at e2
      omega

end Go.Proofs.Ytmobjomebmipdaa
