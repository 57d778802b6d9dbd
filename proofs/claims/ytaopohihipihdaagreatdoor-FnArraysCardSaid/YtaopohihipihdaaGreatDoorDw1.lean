import Derived.Test.YtaopohihipihdaaGreatDoorLies
import Derived.Test.YtaopohihipihdaaGreatDoorEnv2
import Derived.Deep.DeepCutAuto
import Derived.BigQuiet
import Derived.Lib.BufferMore
namespace Go.Proofs.YtaopohihipihdaaGreatDoor
open Go.RowKit
set_option linter.unusedVariables false

/-- a slice that does not lie in block A -/
def Off (A : Nat) (u : Value) (zs : List Int) : Prop := zs.length = 0 ∨ ∀ b, u.ownBlock = some b → ¬ b = A

/-- a store into another block -/
theorem Own.aside {B A o : Nat} {w : World} {u : Value} {zs : List Int} (h : Own B w u zs) (hn : Off A u zs) (v : Value) : Own B (w.setCell ⟨A, o, none⟩ v) u zs := by
  obtain ⟨ao, cap, rfl, h⟩ := h
  refine ⟨ao, cap, rfl, ?_⟩
  rcases h with h | ⟨g, off, h1, h2, rfl, h4⟩
  · exact .inl h
  · rcases hn with hn | hn
    · exact .inl hn
    · refine .inr ⟨g, off, h1, by simpa using h2, rfl, fun i hi => ?_⟩
      have hg : ¬ g = A := hn g rfl
      have e := Below.heap_setCell w ⟨A, o, none⟩ v g (by simpa using hg)
      exact ⟨(World.cell?_of_block (w := w) (a := ⟨g, off + i, none⟩) e).trans (h4 i hi).1, (World.frozen?_of_block (w := w) (a := ⟨g, off + i, none⟩) e).trans (h4 i hi).2⟩

/-- an array in a variable, its slices in blocks of their own; all of it the call's -/
structure Ac (w1 : World) (E A : Nat) (u0 u1 : Value) (tl acc : List Int) (w : World) : Prop where
  bel : Below w1.heap.size w1 w
  blk : w.heap[A]? = some (.cells #[u0, u1] 25 (0, 0))
  res : Res E w u0 u1 tl acc
  n0 : Off A u0 tl
  n1 : Off A u1 acc

theorem Ac.keep {w1 w w' : World} {E A : Nat} {u0 u1 : Value} {tl acc : List Int} (h : Ac w1 E A u0 u1 tl acc w) (hb : Below w.heap.size w w') : Ac w1 E A u0 u1 tl acc w' :=
  ⟨h.bel.trans (hb.mono h.bel.size), by
    rw [hb.block A (Array.getElem?_eq_some_iff.1 h.blk).1]
    exact h.blk, ⟨h.res.1.keep hb, h.res.2.1.keep hb, h.res.2.2⟩, h.n0, h.n1⟩

/-- the first array is laid into its variable -/
theorem Ac.new {w w1 : World} {u0 u1 : Value} {tl acc : List Int} {E : Nat} (h : Res E w1 u0 u1 tl acc) : Ac w1 E w1.heap.size u0 u1 tl acc (w1.alloc (.cells #[u0, u1] 25)) := by
  have k : Below w1.heap.size w1 (w1.alloc (.cells #[u0, u1] 25)) := (Below.refl _ _).alloc (Nat.le_refl _) _
  refine ⟨k, heap_alloc_new w1 _, ⟨h.1.keep k, h.2.1.keep k, h.2.2⟩, own_ne_hi h.1 (Nat.le_refl _), own_ne_hi h.2.1 (Nat.le_refl _)⟩

/-- next, code := l2Each(op, l2Row(a, i), acc) under way -/
structure Rn (wr : World) (rx rp : Option (Value × Value × List Int × List Int)) (ov : Option Nat) (w : World) : Prop where
  bel : Below wr.heap.size wr w
  x : ∀ x0 x1 a b, rx = some (x0, x1, a, b) → Rd w.heap.size w x0 a ∧ Rd w.heap.size w x1 b
  p : ∀ x0 x1 a b, rp = some (x0, x1, a, b) → Res wr.heap.size w x0 x1 a b
  v : ∀ k, ov = some k → wr.heap.size ≤ k ∧ w.heap[k]? = some (.cells #[.slice none 0 0, .slice none 0 0] 25 (0, 0))
  pv : ∀ x0 x1 a b k, rp = some (x0, x1, a, b) → ov = some k → Off k x0 a ∧ Off k x1 b

theorem Rn.start (wr : World) : Rn wr none none none wr.drew := ⟨(Below.refl _ _).drew, (by intro _ _ _ _ h; cases h), (by intro _ _ _ _ h; cases h), (by intro _ h; cases h), (by intro _ _ _ _ _ h; cases h)⟩

theorem Rn.keep {wr w w' : World} {rx rp : Option (Value × Value × List Int × List Int)} {ov : Option Nat} (h : Rn wr rx rp ov w) (hb : Below w.heap.size w w') : Rn wr rx rp ov w' :=
  ⟨h.bel.trans (hb.mono h.bel.size), fun x0 x1 a b e => ⟨((h.x x0 x1 a b e).1.keep hb).up hb.size, ((h.x x0 x1 a b e).2.keep hb).up hb.size⟩, fun x0 x1 a b e => ⟨(h.p x0 x1 a b e).1.keep hb, (h.p x0 x1 a b e).2.1.keep hb, (h.p x0 x1 a b e).2.2⟩, fun k e => ⟨(h.v k e).1, by
    have := (h.v k e).2
    rw [hb.block k (Array.getElem?_eq_some_iff.1 this).1]
    exact this⟩, h.pv⟩

theorem Rn.row {wr w w' : World} {ov : Option Nat} (h : Rn wr none none ov w) {x0 x1 : Value} {a b : List Int} (hr : Res w.heap.size w' x0 x1 a b) (hb : Below w.heap.size w w') : Rn wr (some (x0, x1, a, b)) none ov w' := by
  have k := h.keep hb
  refine ⟨k.bel, ?_, k.p, k.v, k.pv⟩
  intro y0 y1 c d e
  simp only [Option.some.injEq, Prod.mk.injEq] at e
  obtain ⟨rfl, rfl, rfl, rfl⟩ := e
  exact ⟨hr.1.rd, hr.2.1.rd⟩

theorem Rn.each {wr w w' : World} {rx : Option (Value × Value × List Int × List Int)} {ov : Option Nat} (h : Rn wr rx none ov w) {x0 x1 : Value} {a b : List Int} (hr : Res w.heap.size w' x0 x1 a b) (hb : Below w.heap.size w w') : Rn wr rx (some (x0, x1, a, b)) ov w' := by
  have k := h.keep hb
  refine ⟨k.bel, k.x, ?_, k.v, ?_⟩
  · intro y0 y1 c d e
    simp only [Option.some.injEq, Prod.mk.injEq] at e
    obtain ⟨rfl, rfl, rfl, rfl⟩ := e
    exact ⟨hr.1.base h.bel.size, hr.2.1.base h.bel.size, hr.2.2⟩
  · intro y0 y1 c d k' e e'
    simp only [Option.some.injEq, Prod.mk.injEq] at e
    obtain ⟨rfl, rfl, rfl, rfl⟩ := e
    have hl := (Array.getElem?_eq_some_iff.1 (h.v k' e').2).1
    exact ⟨own_ne_lo hr.1 hl, own_ne_lo hr.2.1 hl⟩

/-- next is laid into its variable -/
theorem Rn.done {wr w : World} {rx : Option (Value × Value × List Int × List Int)} {p0 p1 : Value} {S D : List Int} {P : Nat} (h : Rn wr rx (some (p0, p1, S, D)) (some P) w) :
    Ac wr wr.heap.size P p0 p1 S D ((w.setCell ⟨P, 0, none⟩ p0).setCell ⟨P, 1, none⟩ p1) := by
  have hP := (h.v P rfl).2
  have hle := (h.v P rfl).1
  have hr := h.p p0 p1 S D rfl
  obtain ⟨g0, g1⟩ := h.pv p0 p1 S D P rfl rfl
  exact ⟨(h.bel.setCell hle _).setCell hle _, blk_two hP, ⟨(hr.1.aside g0 _).aside g0 _, (hr.2.1.aside g1 _).aside g1 _, hr.2.2⟩, g0, g1⟩

end Go.Proofs.YtaopohihipihdaaGreatDoor

namespace Go.Proofs.YtaopohihipihdaaGreatDoor
open Go.RowKit
set_option linter.unusedVariables false

theorem rd_cell {B b off cap : Nat} {w : World} {zs : List Int} (h : Rd B w (.slice (some ⟨b, off, none⟩) zs.length cap) zs) {i : Nat} (hi : i < zs.length) : b < B ∧ w.cell? ⟨b, off + i, none⟩ = some (.int .i64 (zs.getD i 0)) := by
  obtain ⟨ao, cp, e, g⟩ := h
  rcases g with g | ⟨b', off', hB, e2, hc⟩
  · omega
  · simp only [Value.slice.injEq] at e
    have e3 := e.1.trans e2
    simp only [Option.some.injEq, Addr.mk.injEq, and_true] at e3
    obtain ⟨rfl, rfl⟩ := e3
    exact ⟨hB, hc i hi⟩

/-- the argument's variable and the answer's -/
theorem boxes2 {w w1 : World} {x0 x1 : Value} (hb : Below (w.heap.size + 1 + 1) ((w.alloc (.cells #[x0, x1] 25)).alloc (.cells #[.slice none 0 0, .slice none 0 0] 25)) w1) :
    (w1.cell? ⟨w.heap.size, 0, none⟩ = some x0 ∧ w1.cell? ⟨w.heap.size, 1, none⟩ = some x1) ∧ (w1.cell? ⟨w.heap.size + 1, 0, none⟩ = some (.slice none 0 0) ∧ w1.cell? ⟨w.heap.size + 1, 1, none⟩ = some (.slice none 0 0) ∧ ∀ o, w1.frozen? ⟨w.heap.size + 1, o, none⟩ = false) ∧ Below w.heap.size w w1 := by
  have c : ∀ b o, b < w.heap.size + 1 + 1 → w1.cell? ⟨b, o, none⟩ = ((w.alloc (.cells #[x0, x1] 25)).alloc (.cells #[.slice none 0 0, .slice none 0 0] 25)).cell? ⟨b, o, none⟩ := fun b o h => hb.cell (p := ⟨b, o, none⟩) h
  have f : ∀ b o, b < w.heap.size + 1 + 1 → w1.frozen? ⟨b, o, none⟩ = ((w.alloc (.cells #[x0, x1] 25)).alloc (.cells #[.slice none 0 0, .slice none 0 0] 25)).frozen? ⟨b, o, none⟩ := fun b o h => hb.frozen (p := ⟨b, o, none⟩) h
  refine ⟨⟨?_, ?_⟩, ⟨?_, ?_, ?_⟩, ?_⟩
  · rw [c _ _ (by omega)]; simp [go_sem]
  · rw [c _ _ (by omega)]; simp [go_sem]
  · rw [c _ _ (by omega)]; simp [go_sem]
  · rw [c _ _ (by omega)]; simp [go_sem]
  · intro o; rw [f _ _ (by omega)]; simp [go_sem]
  · exact (((Below.refl _ _).alloc (Nat.le_refl _) _).alloc (by simp) _).trans (hb.mono (by omega))

end Go.Proofs.YtaopohihipihdaaGreatDoor

namespace Go.Proofs.YtaopohihipihdaaGreatDoor
open Go.RowKit
set_option linter.unusedVariables false

/-- a row that is not nil -/
theorem owns_some {base n : Nat} {w : World} {v : Value} {xs : List Value} (h : w.ownsRow base 3 1 v n xs) (hb : ∃ k, v.ownBlock = some k) : ∃ g cap, v = .slice (some ⟨g, 0, none⟩) n cap ∧ n ≤ cap ∧ cap ≤ 9223372036854775807 := by
  rcases h.2 with ⟨rfl, _⟩ | ⟨g, cap, cur, rfl, _, _, h1, h2, _⟩
  · obtain ⟨k, hk⟩ := hb
    simp [Value.ownBlock] at hk
  · refine ⟨g, cap, rfl, h1, ?_⟩
    unfold maxLen at h2
    omega

/-- append(v, u...), and where the row lies -/
theorem wpList_append_rd_at {base B : Nat} (w : World) {ops : Array Oper} {rest : List Oper} {o : Oper} {a : Act} {Q : Exit → Act → World → Prop} (hg : o.guard = none) (s x : Operand)
    (hop : o.op = Op.call { callee := Callee.builtin Builtin.append, args := #[s, x], argTypes := #[23, 23] }) (v u : Value) (hs : a.eval s = v) (hx : a.eval x = u) (n : Nat) (ys xs : List Int)
    (hown : w.ownsRow base 3 1 v n (ys.map (Value.int .i64))) (hrd : Rd B w u xs) (hbd : n + xs.length ≤ 16777216) (hbase : base ≤ w.heap.size)
    (hK : ∀ v' w', w'.ownsRow base 3 1 v' (n + xs.length) ((ys ++ xs).map (Value.int .i64)) → w.grownBy w' v.ownBlock → (v'.ownBlock = v.ownBlock ∨ v'.ownBlock = some w.heap.size) → wpList Tryz.prog ops Q rest (a.put o.dst v') w') : wpList Tryz.prog ops Q (o :: rest) a w := by
  obtain ⟨v', w', hr, ho, hb, hat⟩ := append_rd_at w v n ys hown u xs hrd hbd hbase o.type
  exact wpList_append_eq w w' hg s x _ hop v u v' hs hx hr (hK v' w' ho hb hat)

end Go.Proofs.YtaopohihipihdaaGreatDoor

namespace Go.Proofs.YtaopohihipihdaaGreatDoor
open Go.RowKit
set_option linter.unusedVariables false

/-- n bytes that are read from ao on, below B -/
def RdB (B : Nat) (w : World) (ao : Option Addr) (n : Nat) : Prop :=
  n = 0 ∨ ∃ b off, b < B ∧ ao = some ⟨b, off, none⟩ ∧ ∀ i, i < n → ∃ x : Nat, x ≤ 255 ∧ w.cell? ⟨b, off + i, none⟩ = some (.int .u8 (x : Int))
theorem RdB.keep {B n : Nat} {w w' : World} {ao : Option Addr} (h : RdB B w ao n) (hb : Below B w w') : RdB B w' ao n := by
  rcases h with h | ⟨b, off, hB, rfl, hc⟩
  · exact .inl h
  · refine .inr ⟨b, off, hB, rfl, fun i hi => ?_⟩
    obtain ⟨x, h1, h2⟩ := hc i hi
    exact ⟨x, h1, (hb.cell (p := ⟨b, off + i, none⟩) hB).trans h2⟩
theorem RdB.less {B n m : Nat} {w : World} {ao : Option Addr} (h : RdB B w ao n) (hm : m ≤ n) : RdB B w ao m := by
  rcases h with h | ⟨b, off, hB, rfl, hc⟩
  · exact .inl (by omega)
  · exact .inr ⟨b, off, hB, rfl, fun i hi => hc i (by omega)⟩

/-- a reader of bytes, in the block P -/
def Rdr (B P : Nat) (w : World) : Prop :=
  B ≤ P ∧ ∃ (ao : Option Addr) (n cap pos : Nat), n ≤ 1000 ∧ pos ≤ n ∧ w.heap[P]? = some (.cells #[.slice ao n cap, .int .i64 (pos : Int)] 58 (0, 0)) ∧ RdB B w ao n
theorem Rdr.lt {B P : Nat} {w : World} (h : Rdr B P w) : P < w.heap.size := by
  obtain ⟨_, ao, n, cap, pos, _, _, hk, _⟩ := h
  exact (Array.getElem?_eq_some_iff.1 hk).1
theorem Rdr.keep {B P : Nat} {w w' : World} (h : Rdr B P w) (hb : Below w.heap.size w w') : Rdr B P w' := by
  have hlt := h.lt
  obtain ⟨hB, ao, n, cap, pos, h1, h2, hk, hr⟩ := h
  exact ⟨hB, ao, n, cap, pos, h1, h2, (hb.block P hlt).trans hk, hr.keep (hb.mono (by omega))⟩
/-- .. behind a write into a row of another kind -/
theorem Rdr.kept {B P : Nat} {w w' : World} {r : Option Nat} (h : Rdr B P w) (hg : w.grownBy w' r) (hr : ∀ k, r = some k → B ≤ k ∧ ¬ k = P) : Rdr B P w' := by
  have hlt := h.lt
  obtain ⟨hB, ao, n, cap, pos, h1, h2, hk, hrd⟩ := h
  have hne : r ≠ some P := fun e => (hr P e).2 rfl
  refine ⟨hB, ao, n, cap, pos, h1, h2, (hg.block P hlt (by intro e; exact hne e.symm)).trans hk, ?_⟩
  refine hrd.keep ⟨hg.os, hg.tape, hg.output, hg.size, fun k hk' => hg.block k (by omega) (fun e => by have := (hr k e.symm).1; omega)⟩
theorem grown_drewN {w w' : World} {r : Option Nat} (n : Nat) (h : (w.drewN n).grownBy w' r) : w.grownBy w' r := ⟨h.os, h.tape, h.output, h.size, h.block⟩
theorem grown_set (w : World) (P j : Nat) (v : Value) : w.grownBy (w.setCell ⟨P, j, none⟩ v) (some P) :=
  ⟨rfl, rfl, rfl, by simp, fun k _ hk => heap_setCell_other w ⟨P, j, none⟩ k v (fun e => hk (by simp [e]))⟩
theorem grown_same (w : World) (n : Nat) (r : Option Nat) : w.grownBy (w.drewN n) r := ⟨rfl, rfl, rfl, Nat.le_refl _, fun _ _ _ => rfl⟩
theorem grown_below {B P : Nat} {w w' : World} (h : w.grownBy w' (some P)) (hB : B ≤ P) (hw : B ≤ w.heap.size) : Below B w w' :=
  ⟨h.os, h.tape, h.output, h.size, fun k hk => h.block k (by omega) (fun e => by injection e with e; omega)⟩

/-- what next leaves -/
def NxPost (B P : Nat) (w : World) (e : Ending) (w' : World) : Prop := ∃ x : Nat, e = .returned (.int .i64 (x : Int)) ∧ x ≤ 255 ∧ Rdr B P w' ∧ w.grownBy w' (some P)
theorem NxPost.mk {B P : Nat} {w w' : World} {x : Nat} {y : Int} (h0 : y = (x : Int)) (h1 : x ≤ 255) (hr : Rdr B P w') (hg : w.grownBy w' (some P)) : NxPost B P w (.returned (.int .i64 y)) w' := ⟨x, by rw [h0], h1, hr, hg⟩

/-- the reader, one byte on -/
theorem Rdr.step {B P n cap pos : Nat} {w : World} {ao : Option Addr} (hB : B ≤ P) (h1 : n ≤ 1000) (hp : pos < n) (hk : w.heap[P]? = some (.cells #[.slice ao n cap, .int .i64 (pos : Int)] 58 (0, 0))) (hr : RdB B w ao n) : Rdr B P (w.setCell ⟨P, 1, none⟩ (.int .i64 ((pos : Int) + 1))) := by
  refine ⟨hB, ao, n, cap, pos + 1, h1, by omega, ?_, hr.keep ((Below.refl B w).setCell hB _)⟩
  have := Lib.heap_setCell_same (i := 1) hk (.int .i64 ((pos : Int) + 1))
  simpa using this

set_option maxRecDepth 100000 in
set_option maxHeartbeats 2000000 in
/-- (*l1Rd).next -/
theorem next_any (B P : Nat) (w : World) (h : Rdr B P w) : Calls Tryz.prog 30 #[.pointer (some ⟨P, 0, none⟩)] w (NxPost B P w) := by
  have H := hideP h
  have hlt := h.lt
  obtain ⟨hB, ao, n, cap, pos, hn, hp, hk, hr⟩ := h
  have c0 : w.cell? ⟨P, 0, none⟩ = some (.slice ao n cap) := by rw [Lib.cell_of_heap hk]; rfl
  have c1 : w.cell? ⟨P, 1, none⟩ = some (.int .i64 (pos : Int)) := by rw [Lib.cell_of_heap hk]; rfl
  have f1 : w.frozen? ⟨P, 1, none⟩ = false := frozen_of_row w P 1 _ 58 hk
  by_cases hlp : pos < n
  · have hlp' : (pos : Int) < (n : Int) := by omega
    have ST : Hid (∀ m, Rdr B P ((w.drewN m).setCell ⟨P, 1, none⟩ (.int .i64 ((pos : Int) + 1)))) := fun m => Rdr.step (w := w.drewN m) hB hn hlp hk hr
    have GR : Hid (∀ m, w.grownBy ((w.drewN m).setCell ⟨P, 1, none⟩ (.int .i64 ((pos : Int) + 1))) (some P)) := fun m => grown_drewN m (grown_set (w.drewN m) P 1 _)
    rcases hr with h0 | ⟨b, off, hb, rfl, hc⟩
    · omega
    obtain ⟨x, x1, cx⟩ := hc pos hlp
    clear hc hk H
    go_enter Tryz.func30, Tryz.ntmps30
    go_wp2_with fail
    go_quiet (fail)
    go_wp2_with fail
    go_quiet (fail)
    go_wp2_with fail
    go_ret
    exact NxPost.mk (x := x) (by first | rfl | (rw [IntKind.wrap_i64]; omega)) x1 (ST.out _) (GR.out _)
  · have hlp' : ¬ (pos : Int) < (n : Int) := by omega
    clear hr hk
    go_enter Tryz.func30, Tryz.ntmps30
    go_wp2_with fail
    go_quiet (fail)
    go_wp2_with fail
    go_ret
    exact NxPost.mk (x := 0) rfl (by omega) (H.out.keep (below_drewN (Below.refl _ _) _)) (grown_same _ _ _)

set_option maxRecDepth 100000 in
set_option maxHeartbeats 1000000 in
/-- spec.l1Open -/
theorem l1Open_any (ao : Option Addr) (n cap : Nat) (w : World) (hn : n ≤ 1048576) (hcap : n ≤ cap) (hm : cap ≤ 9223372036854775807) (h : RdB w.heap.size w ao n) :
    Calls Tryz.prog 14 #[.slice ao n cap] w fun e w' => e = .returned (.pointer (some ⟨w.heap.size, 0, none⟩)) ∧ Rdr w.heap.size w.heap.size w' ∧ Below w.heap.size w w' := by
  have AL : Hid (∀ o, Below w.heap.size w (w.alloc o)) := fun o => (Below.refl _ _).alloc (Nat.le_refl _) _
  have NEW : Hid (∀ (n cap : Nat) (ao : Option Addr), n ≤ 1000 → RdB w.heap.size w ao n → Rdr w.heap.size w.heap.size (w.alloc (.cells #[.slice ao n cap, .int .i64 0] 58))) := fun n cap ao h1 h2 =>
    ⟨Nat.le_refl _, ao, n, cap, 0, h1, Nat.zero_le _, heap_alloc_new w _, h2.keep (AL.out _)⟩
  by_cases hlong : 1000 < n
  · have hlong' : (1000 : Int) < (n : Int) := by omega
    have HR := hideP (NEW.out 1000 cap ao (by omega) (h.less (by omega)))
    obtain ⟨b, off, rfl⟩ : ∃ b off, ao = some ⟨b, off, none⟩ := by
      rcases h with h | ⟨b, off, _, e, _⟩
      · omega
      · exact ⟨b, off, e⟩
    clear h NEW
    go_enter Tryz.func14, Tryz.ntmps14
    go_wp2_with fail
    go_ret
    exact ⟨rfl, HR.out, AL.out _⟩
  · have hlong' : ¬ (1000 : Int) < (n : Int) := by omega
    have HR := hideP (NEW.out n cap ao (by omega) h)
    clear h NEW
    go_enter Tryz.func14, Tryz.ntmps14
    go_wp2_with fail
    go_ret
    exact ⟨rfl, HR.out, AL.out _⟩

/-- what l1Cell leaves -/
def ClPost (B P : Nat) (w : World) (e : Ending) (w' : World) : Prop := ∃ y : Int, e = .returned (.int .i64 y) ∧ (-3000000000 ≤ y ∧ y ≤ 3000000000) ∧ Rdr B P w' ∧ w.grownBy w' (some P)
theorem ClPost.mk {B P : Nat} {w w' : World} {y : Int} (h1 : -3000000000 ≤ y ∧ y ≤ 3000000000) (hr : Rdr B P w') (hg : w.grownBy w' (some P)) : ClPost B P w (.returned (.int .i64 y)) w' := ⟨y, rfl, h1, hr, hg⟩

set_option maxRecDepth 100000 in
set_option maxHeartbeats 4000000 in
/-- spec.l1Cell -/
theorem l1Cell_any (B P : Nat) (w : World) (h : Rdr B P w) : Calls Tryz.prog 86 #[.pointer (some ⟨P, 0, none⟩)] w (ClPost B P w) := by
  have KN := hideP (next_any B P w h)
  clear h
  go_enter Tryz.func86, Tryz.ntmps86
  go_wp2_with fail
  refine KN.out.mono ?_
  rintro e w1 ⟨x, rfl, hx, hr, hg⟩
  have R1 := hideP hr
  have G1 := hideP hg
  clear hr hg KN
  by_cases h1 : x = 255
  · subst h1
    go_wp2_with fail
    go_ret
    exact ClPost.mk (by omega) R1.out G1.out
  by_cases h2 : x = 254
  · subst h2
    go_wp2_with fail
    go_ret
    exact ClPost.mk (by omega) R1.out G1.out
  have e1 : ((x : Int) == 255) = false := by rw [beq_eq_false_iff_ne]; omega
  have e2 : ((x : Int) == 254) = false := by rw [beq_eq_false_iff_ne]; omega
  by_cases h3 : 250 ≤ x
  · have h3' : (250 : Int) ≤ (x : Int) := by omega
    go_wp2_with fail
    go_ret
    exact ClPost.mk (by first | omega | (rw [IntKind.wrap_i64]; omega)) R1.out G1.out
  have h3' : ¬ (250 : Int) ≤ (x : Int) := by omega
  by_cases h4 : 220 ≤ x
  · have h4' : (220 : Int) ≤ (x : Int) := by omega
    go_wp2_with fail
    go_ret
    exact ClPost.mk (by first | omega | (rw [IntKind.wrap_i64]; omega)) R1.out G1.out
  · have h4' : ¬ (220 : Int) ≤ (x : Int) := by omega
    go_wp2_with fail
    go_ret
    exact ClPost.mk (by first | omega | (rw [IntKind.wrap_i64]; omega)) R1.out G1.out

end Go.Proofs.YtaopohihipihdaaGreatDoor
