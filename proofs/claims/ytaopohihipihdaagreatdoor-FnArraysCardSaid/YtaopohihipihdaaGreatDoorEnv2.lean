import Derived.Test.YtaopohihipihdaaGreatDoorLies
import Derived.Test.YtaopohihipihdaaGreatDoorSpec1b
namespace Go.Proofs.YtaopohihipihdaaGreatDoor
open Go.RowKit
set_option linter.unusedVariables false

/-- a part of a slice -/
theorem Rd.sub {B : Nat} {w : World} {b off cap : Nat} {zs : List Int} (h : Rd B w (.slice (some ⟨b, off, none⟩) zs.length cap) zs) (i j : Nat) (hij : i ≤ j) (hj : j ≤ zs.length) (c' : Nat) :
    Rd B w (.slice (some ⟨b, off + i, none⟩) (j - i) c') ((zs.drop i).take (j - i)) := by
  have hl : ((zs.drop i).take (j - i)).length = j - i := by simp; omega
  refine ⟨some ⟨b, off + i, none⟩, c', by rw [hl], ?_⟩
  by_cases hz : j - i = 0
  · exact .inl (by rw [hl, hz])
  · obtain ⟨ao, cp, e, g⟩ := h
    rcases g with g | ⟨b', off', hB, e2, hc⟩
    · omega
    · simp only [Value.slice.injEq] at e
      have e3 := e.1.trans e2
      simp only [Option.some.injEq, Addr.mk.injEq, and_true] at e3
      obtain ⟨rfl, rfl⟩ := e3
      refine .inr ⟨b, off + i, hB, rfl, fun q hq => ?_⟩
      rw [hl] at hq
      rw [Nat.add_assoc, hc (i + q) (by omega)]
      have h1 : i + q < zs.length := by omega
      simp [List.getD, hq]

theorem rd_zero (B : Nat) (w : World) (ao : Option Addr) (c : Nat) (zs : List Int) (h : zs.length = 0) : Rd B w (.slice ao 0 c) zs := ⟨ao, c, by rw [h], .inl h⟩

set_option maxRecDepth 100000 in
/-- impl.rows -/
theorem rows_any (B b off cap s i j : Nat) (zs : List Int) (w : World) (hd : Rd B w (.slice (some ⟨b, off, none⟩) zs.length cap) zs) (hi : i ≤ j) (hn : j * s ≤ zs.length) (hc : zs.length ≤ cap) (hc2 : cap ≤ 9223372036854775807) :
    Calls Tryz.prog 68 #[.slice (some ⟨b, off, none⟩) zs.length cap, .int .i64 (s : Int), .int .i64 (i : Int), .int .i64 (j : Int)] w fun e w' => ∃ v, e = .returned v ∧ Rd B w v ((zs.drop (i * s)).take (j * s - i * s)) ∧ w' = w := by
  have h1 : i * s ≤ j * s := Nat.mul_le_mul_right s hi
  have R := hideP (fun c' => hd.sub (i * s) (j * s) h1 hn c')
  have Z : Hid (j * s - i * s = 0 → ∀ c', Rd B w (.slice (some ⟨b, off, none⟩) (j * s - i * s) c') ((zs.drop (i * s)).take (j * s - i * s))) := fun h c' => by
    rw [h]
    exact rd_zero _ _ _ _ _ (by simp)
  have e1 : ((i : Int) * (s : Int)) = ((i * s : Nat) : Int) := by simp
  have e2 : ((j : Int) * (s : Int)) = ((j * s : Nat) : Int) := by simp
  generalize (zs.drop (i * s)).take (j * s - i * s) = L at *
  generalize i * s = p at *
  generalize j * s = q at *
  generalize zs.length = n at *
  clear hd
  by_cases hp : cap = p
  · subst hp
    go_enter Tryz.func68, Tryz.ntmps68
    go_wp2_with fail
    go_ret
    exact ⟨_, rfl, Z.out (by omega) _, rfl⟩
  · go_enter Tryz.func68, Tryz.ntmps68
    go_wp2_with fail
    go_ret
    exact ⟨_, rfl, R.out _, rfl⟩

/-- a slice behind its first element -/
theorem rd_tail {B : Nat} {w : World} {b off cap : Nat} {zs : List Int} (h : Rd B w (.slice (some ⟨b, off, none⟩) zs.length cap) zs) (h1 : 1 ≤ zs.length) (c' : Nat) : Rd B w (.slice (some ⟨b, off + 1, none⟩) (zs.length - 1) c') zs.tail := by
  have := h.sub 1 zs.length h1 (Nat.le_refl _) c'
  have e : (zs.drop 1).take (zs.length - 1) = zs.tail := by
    rw [List.take_of_length_le (by simp)]
    simp
  rw [e] at this
  exact this

end Go.Proofs.YtaopohihipihdaaGreatDoor

namespace Go.Proofs.YtaopohihipihdaaGreatDoor.Pl
theorem ok_max {sh da : List Int} (h : okB sh da = true) : sh.length ≤ 3 ∧ da.length ≤ 1000 := by
  have h1 := (ok_len h).1
  have h2 := (ok_len h).2
  simp only [fitsB, baseB, Bool.and_eq_true, decide_eq_true_eq] at h2
  omega
end Go.Proofs.YtaopohihipihdaaGreatDoor.Pl

namespace Go.Proofs.YtaopohihipihdaaGreatDoor.Pl
def rowAt (da : List Int) (s r : Nat) : List Int := (da.drop (r * s)).take s
/-- rows r-1, r-2, .. 0 -/
def rowsDown (da : List Int) (s : Nat) : Nat → List (List Int)
  | 0 => []
  | r + 1 => rowAt da s r :: rowsDown da s r
theorem rowAt_len {da : List Int} {s r : Nat} (h : (r + 1) * s ≤ da.length) : (rowAt da s r).length = s := by
  unfold rowAt
  rw [List.length_take, List.length_drop]
  rw [Nat.succ_mul] at h
  omega
end Go.Proofs.YtaopohihipihdaaGreatDoor.Pl

namespace Go.Proofs.YtaopohihipihdaaGreatDoor.Pl
set_option linter.unusedVariables false

theorem foldl_mul (l : List Int) (p : Int) : l.foldl (fun p x => p * x) p = p * l.foldl (fun p x => p * x) 1 := by
  induction l generalizing p with
  | nil => simp
  | cons x xs ih =>
    simp only [List.foldl_cons]
    rw [ih (p * x), ih (1 * x), Int.one_mul, Int.mul_assoc]
theorem prodP_cons (x : Int) (l : List Int) : prodP (x :: l) = x * prodP l := by
  unfold prodP
  rw [List.foldl_cons, Int.one_mul, foldl_mul]
theorem base_tail {sh : List Int} (h : baseB sh = true) : baseB sh.tail = true := by
  simp only [baseB, Bool.and_eq_true, decide_eq_true_eq, List.all_eq_true] at h ⊢
  refine ⟨by simp; omega, fun x hx => h.2 x (List.mem_of_mem_tail hx)⟩
/-- the number and size of the rows of a valid array -/
theorem ok_rows {sh da : List Int} (h : okB sh da = true) (h0 : ¬ sh.length = 0) (hn : ¬ sh.getD 0 0 = 0) :
    fitsB sh.tail = true ∧ ∃ n s : Nat, sh.getD 0 0 = n ∧ prodC sh.tail = s ∧ 1 ≤ n ∧ n ≤ 1000 ∧ da.length = n * s := by
  obtain ⟨hl, hf⟩ := ok_len h
  have hP := prod_eq hf
  cases sh with
  | nil => simp at h0
  | cons x tl =>
    have hx : (x :: tl).getD 0 0 = x := rfl
    rw [hx] at hn ⊢
    simp only [List.tail_cons]
    have hb : baseB (x :: tl) = true := by simp only [fitsB, Bool.and_eq_true] at hf; exact hf.1
    have hbt := base_tail hb
    simp only [List.tail_cons] at hbt
    have hp1000 : prodP (x :: tl) ≤ 1000 := by
      rw [fits_eq, hb] at hf
      simpa using hf
    rw [prodP_cons] at hp1000
    have hxr : 0 ≤ x ∧ x ≤ 1000 := by
      simp only [baseB, Bool.and_eq_true, List.all_cons] at hb
      exact inR_bd hb.2.1
    have ht := (prod_two tl hbt).1
    have h1 : 1 * prodP tl ≤ x * prodP tl := Int.mul_le_mul_of_nonneg_right (by omega) ht.1
    have hft : fitsB tl = true := by
      rw [fits_eq, hbt]
      simp only [Bool.true_and, decide_eq_true_eq]
      omega
    refine ⟨hft, x.toNat, (prodP tl).toNat, by omega, by rw [prod_eq hft]; omega, by omega, by omega, ?_⟩
    have e : (da.length : Int) = (x.toNat : Int) * ((prodP tl).toNat : Int) := by
      rw [hl, hP, prodP_cons]
      congr 1 <;> omega
    exact_mod_cast e
end Go.Proofs.YtaopohihipihdaaGreatDoor.Pl

namespace Go.Proofs.YtaopohihipihdaaGreatDoor
open Go.RowKit
set_option linter.unusedVariables false

namespace Pl
/-- k, k+1, .. -/
def marks (k : Int) : Nat → List Int
  | 0 => []
  | n + 1 => k :: marks (k + 1) n
end Pl

/-- the block that is written where there are elements -/
def rowOf (u : Value) (zs : List Int) : Option Nat := if zs.length = 0 then none else u.ownBlock

theorem rowOf_ge {B : Nat} {w : World} {u : Value} {zs : List Int} (h : Own B w u zs) : ∀ k, rowOf u zs = some k → B ≤ k ∧ k < w.heap.size := by
  intro k hk
  obtain ⟨ao, cap, rfl, h⟩ := h
  unfold rowOf at hk
  rcases h with h | ⟨g, off, h1, h2, rfl, _⟩
  · rw [if_pos h] at hk; cases hk
  · split at hk
    · cases hk
    · simp [Value.ownBlock] at hk
      omega

/-- what two writes leave -/
structure Kept2 (w w' : World) (r0 r1 : Option Nat) : Prop where
  os : w'.os = w.os
  tape : w'.tape = w.tape
  output : w'.output = w.output
  size : w.heap.size ≤ w'.heap.size
  block : ∀ k, k < w.heap.size → some k ≠ r0 → some k ≠ r1 → w'.heap[k]? = w.heap[k]?

theorem Kept2.below {w w' : World} {r0 r1 : Option Nat} {B : Nat} (h : Kept2 w w' r0 r1) (hB : B ≤ w.heap.size) (h0 : ∀ k, r0 = some k → B ≤ k) (h1 : ∀ k, r1 = some k → B ≤ k) : Below B w w' :=
  ⟨h.os, h.tape, h.output, h.size, fun k hk => h.block k (by omega) (fun e => by have := h0 k e.symm; omega) (fun e => by have := h1 k e.symm; omega)⟩

theorem Own.grown {B : Nat} {w w' : World} {u : Value} {zs : List Int} {r : Option Nat} (h : Own B w u zs) (hg : w.grownBy w' r) (hr : ∀ k, r = some k → rowOf u zs ≠ some k) : Own B w' u zs := by
  obtain ⟨ao, cap, rfl, h⟩ := h
  refine ⟨ao, cap, rfl, ?_⟩
  rcases h with h | ⟨g, off, hB, hlt, rfl, hc⟩
  · exact .inl h
  · by_cases hz : zs.length = 0
    · exact .inl hz
    · have hrow : rowOf (.slice (some ⟨g, off, none⟩) zs.length cap) zs = some g := by unfold rowOf; rw [if_neg hz]; rfl
      have e := hg.block g hlt (fun e => hr g e.symm hrow)
      exact .inr ⟨g, off, hB, Nat.lt_of_lt_of_le hlt hg.size, rfl, fun i hi => ⟨(World.cell?_of_block (w := w) (a := ⟨g, off + i, none⟩) e).trans (hc i hi).1, (World.frozen?_of_block (w := w) (a := ⟨g, off + i, none⟩) e).trans (hc i hi).2⟩⟩

end Go.Proofs.YtaopohihipihdaaGreatDoor

namespace Go.Proofs.YtaopohihipihdaaGreatDoor
open Go.RowKit
set_option linter.unusedVariables false

theorem Own.alloc {B : Nat} {w : World} {u : Value} {zs : List Int} (h : Own B w u zs) (o : Obj) : Own B (w.alloc o) u zs := h.keep ((Below.refl _ _).alloc (Nat.le_refl _) _)

end Go.Proofs.YtaopohihipihdaaGreatDoor

namespace Go.Proofs.YtaopohihipihdaaGreatDoor
open Go.RowKit
set_option linter.unusedVariables false

/-- a variable that holds an array -/
def Box (w : World) (A : Nat) (x0 x1 : Value) : Prop := A < w.heap.size ∧ w.cell? ⟨A, 0, none⟩ = some x0 ∧ w.cell? ⟨A, 1, none⟩ = some x1

theorem Box.below {w w' : World} {A B : Nat} {x0 x1 : Value} (h : Box w A x0 x1) (hb : Below B w w') (hA : A < B) : Box w' A x0 x1 :=
  ⟨Nat.lt_of_lt_of_le h.1 hb.size, (hb.cell (p := ⟨A, 0, none⟩) hA).trans h.2.1, (hb.cell (p := ⟨A, 1, none⟩) hA).trans h.2.2⟩
theorem Box.keep {w w' : World} {A : Nat} {x0 x1 : Value} (h : Box w A x0 x1) (hb : Below w.heap.size w w') : Box w' A x0 x1 := h.below hb h.1
theorem Box.new (w : World) (x0 x1 : Value) (t : TypeId) : Box (w.alloc (.cells #[x0, x1] t)) w.heap.size x0 x1 := ⟨by simp, by simp [go_sem], by simp [go_sem]⟩

/-- what lies there behind the specification's answer: the argument (its variable at N), the answer (its variable at A) -/
structure Env (w : World) (A : Nat) (v0 v1 u0 u1 : Value) (S D : List Int) (w' : World) : Prop where
  bel : Below w.heap.size w w'
  lt : w.heap.size < A
  box : Box w' w.heap.size v0 v1
  boxW : Box w' A u0 u1
  rd0 : Rd A w' u0 S
  rd1 : Rd A w' u1 D

theorem Env.below {w w' w'' : World} {A B : Nat} {v0 v1 u0 u1 : Value} {S D : List Int} (h : Env w A v0 v1 u0 u1 S D w') (hb : Below B w' w'') (hA : A < B) : Env w A v0 v1 u0 u1 S D w'' :=
  ⟨h.bel.trans (hb.mono (by have := h.lt; omega)), h.lt, h.box.below hb (by have := h.lt; omega), h.boxW.below hb hA, h.rd0.keep (hb.mono (by omega)), h.rd1.keep (hb.mono (by omega))⟩
theorem Env.keep {w w' w'' : World} {A : Nat} {v0 v1 u0 u1 : Value} {S D : List Int} (h : Env w A v0 v1 u0 u1 S D w') (hb : Below w'.heap.size w' w'') : Env w A v0 v1 u0 u1 S D w'' := h.below hb h.boxW.1

/-- an array of the law's own: its variable at A, its rows from B on, ahead of A -/
structure Arr (B A : Nat) (u0 u1 : Value) (S D : List Int) (w' : World) : Prop where
  box : Box w' A u0 u1
  res : Res B w' u0 u1 S D
  r0 : ∀ k, rowOf u0 S = some k → k < A
  r1 : ∀ k, rowOf u1 D = some k → k < A

theorem Res.keep {B : Nat} {w w' : World} {u0 u1 : Value} {S D : List Int} (h : Res B w u0 u1 S D) (hb : Below w.heap.size w w') : Res B w' u0 u1 S D := ⟨h.1.keep hb, h.2.1.keep hb, h.2.2⟩
theorem Arr.keep {B A : Nat} {u0 u1 : Value} {S D : List Int} {w w' : World} (h : Arr B A u0 u1 S D w) (hb : Below w.heap.size w w') : Arr B A u0 u1 S D w' := ⟨h.box.keep hb, h.res.keep hb, h.r0, h.r1⟩
theorem Arr.new {B : Nat} {u0 u1 : Value} {S D : List Int} {w : World} (h : Res B w u0 u1 S D) (t : TypeId) : Arr B w.heap.size u0 u1 S D (w.alloc (.cells #[u0, u1] t)) :=
  ⟨Box.new w u0 u1 t, h.keep ((Below.refl _ _).alloc (Nat.le_refl _) _), fun k hk => (rowOf_ge h.1 k hk).2, fun k hk => (rowOf_ge h.2.1 k hk).2⟩
theorem Res.forms {B : Nat} {w : World} {u0 u1 : Value} {S D : List Int} (h : Res B w u0 u1 S D) : ∃ a0 d0 a1 d1, u0 = .slice a0 S.length d0 ∧ u1 = .slice a1 D.length d1 := by
  obtain ⟨a0, d0, e0⟩ := h.1.form
  obtain ⟨a1, d1, e1⟩ := h.2.1.form
  exact ⟨a0, d0, a1, d1, e0, e1⟩

end Go.Proofs.YtaopohihipihdaaGreatDoor

namespace Go.Proofs.YtaopohihipihdaaGreatDoor
open Go.RowKit
set_option linter.unusedVariables false

/-- a new variable for an array, still empty -/
def Slot (wv : World) (A : Nat) (W : World) : Prop := wv.heap.size ≤ A ∧ A < W.heap.size ∧ W.cell? ⟨A, 0, none⟩ = some (.slice none 0 0) ∧ W.cell? ⟨A, 1, none⟩ = some (.slice none 0 0) ∧ ∀ o, W.frozen? ⟨A, o, none⟩ = false

theorem Slot.keep {wv W W' : World} {A : Nat} (h : Slot wv A W) (hb : Below W.heap.size W W') : Slot wv A W' :=
  ⟨h.1, Nat.lt_of_lt_of_le h.2.1 hb.size, (hb.cell (p := ⟨A, 0, none⟩) h.2.1).trans h.2.2.1, (hb.cell (p := ⟨A, 1, none⟩) h.2.1).trans h.2.2.2.1, fun o => (hb.frozen (p := ⟨A, o, none⟩) h.2.1).trans (h.2.2.2.2 o)⟩
theorem Slot.new {wv W : World} (h : wv.heap.size ≤ W.heap.size) (t : TypeId) : Slot wv W.heap.size (W.alloc (.cells #[.slice none 0 0, .slice none 0 0] t)) :=
  ⟨h, by simp, by simp [go_sem], by simp [go_sem], fun o => by simp [go_sem]⟩

/-- an answer in its variable -/
structure Got (wv : World) (A : Nat) (u0 u1 : Value) (S D : List Int) (wx : World) : Prop where
  bel : Below wv.heap.size wv wx
  box : Box wx A u0 u1
  lo : wv.heap.size ≤ A
  rd0 : Rd wx.heap.size wx u0 S
  rd1 : Rd wx.heap.size wx u1 D

theorem own_ne_lo {B A : Nat} {w : World} {u : Value} {zs : List Int} (h : Own B w u zs) (hA : A < B) : zs.length = 0 ∨ ∀ b, u.ownBlock = some b → ¬ b = A := by
  obtain ⟨ao, cap, rfl, h⟩ := h
  rcases h with h | ⟨g, off, h1, _, rfl, _⟩
  · exact .inl h
  · refine .inr fun b e0 => ?_
    simp [Value.ownBlock] at e0
    omega
theorem own_ne_hi {B A : Nat} {w : World} {u : Value} {zs : List Int} (h : Own B w u zs) (hA : w.heap.size ≤ A) : zs.length = 0 ∨ ∀ b, u.ownBlock = some b → ¬ b = A := by
  obtain ⟨ao, cap, rfl, h⟩ := h
  rcases h with h | ⟨g, off, _, h1, rfl, _⟩
  · exact .inl h
  · refine .inr fun b e0 => ?_
    simp [Value.ownBlock] at e0
    omega

/-- what lies there behind the specification's answer: two arguments, the answer; all of it below E -/
structure Env2 (w : World) (A E : Nat) (v0 v1 v2 v3 u0 u1 : Value) (S D : List Int) (w' : World) : Prop where
  bel : Below w.heap.size w w'
  lt : w.heap.size + 1 < A
  hi : A < E
  le : E ≤ w'.heap.size
  box0 : Box w' w.heap.size v0 v1
  box1 : Box w' (w.heap.size + 1) v2 v3
  boxW : Box w' A u0 u1
  rd0 : Rd E w' u0 S
  rd1 : Rd E w' u1 D

theorem Env2.below {w w' w'' : World} {A E B : Nat} {v0 v1 v2 v3 u0 u1 : Value} {S D : List Int} (h : Env2 w A E v0 v1 v2 v3 u0 u1 S D w') (hb : Below B w' w'') (hE : E ≤ B) : Env2 w A E v0 v1 v2 v3 u0 u1 S D w'' := by
  have h1 := h.lt
  have h2 := h.hi
  exact ⟨h.bel.trans (hb.mono (by omega)), h.lt, h.hi, Nat.le_trans h.le hb.size, h.box0.below hb (by omega), h.box1.below hb (by omega), h.boxW.below hb (by omega), h.rd0.keep (hb.mono hE), h.rd1.keep (hb.mono hE)⟩
theorem Env2.keep {w w' w'' : World} {A E : Nat} {v0 v1 v2 v3 u0 u1 : Value} {S D : List Int} (h : Env2 w A E v0 v1 v2 v3 u0 u1 S D w') (hb : Below w'.heap.size w' w'') : Env2 w A E v0 v1 v2 v3 u0 u1 S D w'' := h.below hb h.le
theorem Got.keep {wv W W' : World} {A : Nat} {u0 u1 : Value} {S D : List Int} (h : Got wv A u0 u1 S D W) (hb : Below W.heap.size W W') : Got wv A u0 u1 S D W' :=
  ⟨h.bel.trans (hb.mono h.bel.size), h.box.keep hb, h.lo, (h.rd0.keep hb).up hb.size, (h.rd1.keep hb).up hb.size⟩
/-- an array of the law's own, marks of another one laid above -/
theorem Arr.below {B A C : Nat} {u0 u1 : Value} {S D : List Int} {w w' : World} (h : Arr B A u0 u1 S D w) (hb : Below C w w') (hA : A < C) : Arr B A u0 u1 S D w' := by
  refine ⟨h.box.below hb hA, ⟨?_, ?_, h.res.2.2⟩, h.r0, h.r1⟩
  · obtain ⟨ao, cap, rfl, g⟩ := h.res.1
    refine ⟨ao, cap, rfl, ?_⟩
    rcases g with g | ⟨b, off, g1, g2, rfl, g4⟩
    · exact .inl g
    · by_cases hz : S.length = 0
      · exact .inl hz
      · have hr := h.r0 b (by unfold rowOf; rw [if_neg hz]; rfl)
        exact .inr ⟨b, off, g1, Nat.lt_of_lt_of_le g2 hb.size, rfl, fun i hi => ⟨(hb.cell (p := ⟨b, off + i, none⟩) (by show b < _; omega)).trans (g4 i hi).1, (hb.frozen (p := ⟨b, off + i, none⟩) (by show b < _; omega)).trans (g4 i hi).2⟩⟩
  · obtain ⟨ao, cap, rfl, g⟩ := h.res.2.1
    refine ⟨ao, cap, rfl, ?_⟩
    rcases g with g | ⟨b, off, g1, g2, rfl, g4⟩
    · exact .inl g
    · by_cases hz : D.length = 0
      · exact .inl hz
      · have hr := h.r1 b (by unfold rowOf; rw [if_neg hz]; rfl)
        exact .inr ⟨b, off, g1, Nat.lt_of_lt_of_le g2 hb.size, rfl, fun i hi => ⟨(hb.cell (p := ⟨b, off + i, none⟩) (by show b < _; omega)).trans (g4 i hi).1, (hb.frozen (p := ⟨b, off + i, none⟩) (by show b < _; omega)).trans (g4 i hi).2⟩⟩

end Go.Proofs.YtaopohihipihdaaGreatDoor
