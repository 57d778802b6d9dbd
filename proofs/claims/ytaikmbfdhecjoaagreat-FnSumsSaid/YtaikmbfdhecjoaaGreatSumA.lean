import Derived.Test.YtaikmbfdhecjoaaGreatCopied
import Derived.Test.YtaikmbfdhecjoaaGreatFirst2
import Derived.Test.YtaikmbfdhecjoaaGreatDw4
import Derived.Test.YtaikmbfdhecjoaaGreatSame
namespace Go.Proofs.YtaikmbfdhecjoaaGreat
open Go.RowKit
set_option linter.unusedVariables false

theorem own_lit (w w' : World) (x : Int) (hb : Below (w.heap.size + 1) (w.alloc (.cells #[.int .i64 x] 3)) w') : Own w.heap.size w' (.slice (some ⟨w.heap.size, 0, none⟩) 1 1) [x] := by
  have o : Own w.heap.size (w.alloc (.cells #[.int .i64 x] 3)) (.slice (some ⟨w.heap.size, 0, none⟩) 1 1) [x] := own_of_any (owns_one w x w.heap.size (Nat.le_refl _))
  exact o.keep (by have e : (w.alloc (.cells #[.int .i64 x] 3)).heap.size = w.heap.size + 1 := by simp
                   rw [e]; exact hb)

set_option maxRecDepth 100000 in
/-- impl.vector -/
theorem vector_any (ao : Option Addr) (cap n : Nat) (w : World) :
    Calls Tryz.prog 86 #[.slice ao n cap] w fun e w' => ∃ g, e = .returned (.agg #[.slice (some ⟨g, 0, none⟩) 1 1, .slice ao n cap]) ∧ Own w.heap.size w' (.slice (some ⟨g, 0, none⟩) 1 1) [(n : Int)] ∧ Below w.heap.size w w' := by
  have B : Hid (∀ o o', Below w.heap.size w ((w.alloc o).alloc o')) := fun o o' => ((Below.refl _ _).alloc (Nat.le_refl _) _).alloc (by simp) _
  have O : Hid (∀ o, Own (w.heap.size + 1) ((w.alloc o).alloc (.cells #[.int .i64 (n : Int)] 3)) (.slice (some ⟨w.heap.size + 1, 0, none⟩) 1 1) [(n : Int)]) := fun o => by
    have := own_lit (w.alloc o) ((w.alloc o).alloc (.cells #[.int .i64 (n : Int)] 3)) (n : Int) (Below.refl _ _)
    have e : (w.alloc o).heap.size = w.heap.size + 1 := by simp
    rw [e] at this
    exact this
  go_enter Tryz.func86, Tryz.ntmps86
  go_wp2_with fail
  refine bodyPost_ret (v := .agg #[.slice (some ⟨w.heap.size + 1, 0, none⟩) 1 1, .slice ao n cap]) (by simp [results, Tryz.results86, go_sem]) rfl ⟨w.heap.size + 1, rfl, ?_, ?_⟩
  · exact (O.out _).base (by omega)
  · exact B.out _ _

theorem apart_lo2 {B : Nat} {w : World} {u0 u1 : Value} {sh da : List Int} (h : Own B w u0 sh) (h1 : da.length = 0 ∨ ∀ b, u1.ownBlock = some b → b < B) : Apart u0 u1 sh da := by
  rcases h1 with h1 | h1
  · exact .inr (.inl h1)
  · exact apart_left h h1

set_option maxRecDepth 100000 in
set_option maxHeartbeats 2000000 in
/-- impl.ravel -/
theorem ravel_any (v0 v1 : Value) (sh da : List Int) (w : World) (hl0 : sh.length ≤ 1048576) (hl1 : da.length ≤ 1048576) (h0 : Rd w.heap.size w v0 sh) (h1 : Rd w.heap.size w v1 da) :
    Calls Tryz.prog 81 #[.agg #[v0, v1]] w (KPost w 0 [(da.length : Int)] da) := by
  have H0 := hideP h0
  have H1 := hideP h1
  obtain ⟨a0, d0, e0⟩ := h0.form
  obtain ⟨a1, d1, e1⟩ := h1.form
  subst e0
  subst e1
  clear h0 h1
  have PB : Hid (∀ W, Below (w.heap.size + 1 + 1) ((w.alloc (.cells #[.slice a0 sh.length d0, .slice a1 da.length d1] 25)).alloc (.cells #[.slice none 0 0, .slice none 0 0] 25)) W → (W.cell? ⟨w.heap.size, 0, none⟩ = some (.slice a0 sh.length d0) ∧ W.cell? ⟨w.heap.size, 1, none⟩ = some (.slice a1 da.length d1)) ∧ (W.cell? ⟨w.heap.size + 1, 0, none⟩ = some (.slice none 0 0) ∧ W.cell? ⟨w.heap.size + 1, 1, none⟩ = some (.slice none 0 0) ∧ ∀ o, W.frozen? ⟨w.heap.size + 1, o, none⟩ = false) ∧ Below w.heap.size w W) := fun W hb => boxes2 hb
  have KJ : Hid (∀ o o', Calls Tryz.prog 53 #[.slice (some ⟨w.heap.size + 1 + 1, 0, none⟩) 1 1] (((w.alloc o).alloc o').alloc (.cells #[.slice a1 da.length d1] 23)) fun e w' => ∃ ao cap, e = .returned (.slice ao da.length cap) ∧ Own (w.heap.size + 1 + 1 + 1) w' (.slice ao da.length cap) da ∧ Below (w.heap.size + 1 + 1) ((w.alloc o).alloc o') w') := fun o o' => by
    have k : Below w.heap.size w (((w.alloc o).alloc o').alloc (.cells #[.slice a1 da.length d1] 23)) := below3 w _ _ _
    refine (joined1_own (w.heap.size + 1 + 1) _ da _ (by omega) (by simp) (by simp [go_sem]) ((H1.out.keep k).up (by simp; omega))).mono ?_
    rintro e w' ⟨ao, cap, rfl, ho, hb⟩
    refine ⟨ao, cap, rfl, by simpa using ho, ?_⟩
    exact ((Below.refl _ _).alloc (by simp) _).trans (hb.mono (by simp))
  go_enter Tryz.func81, Tryz.ntmps81
  go_wp2_with fail
  refine (KJ.out _ _).mono ?_
  rintro e w1 ⟨ao, cap, rfl, ho1, hb1⟩
  have B1 := hideP hb1
  have O1 := hideP ho1
  have hs1 : w.heap.size + 1 + 1 ≤ w1.heap.size := by have := hb1.size; simpa using this
  clear hb1 ho1
  go_wp2_with fail
  refine (vector_any ao cap da.length w1).mono ?_
  rintro e w2 ⟨g, rfl, ho2, hb2⟩
  have B2 := hideP (B1.out.trans (hb2.mono hs1))
  have X2 := hideP (PB.out _ B2.out)
  have OV := hideP (O1.out.keep hb2)
  have OS := hideP ho2
  have AP := hideP (apart_lo2 (u1 := .slice ao da.length cap) (da := da) ho2 O1.out.lt)
  have hs2 := hb2.size
  clear hb2 ho2
  have r0 := X2.out.2.1.1
  have r1 := X2.out.2.1.2.1
  have f2 := X2.out.2.1.2.2
  go_wp2_with fail
  refine bodyPost_ret (v := .agg #[.slice (some ⟨g, 0, none⟩) 1 1, .slice ao da.length cap]) (by simp [results, Tryz.results81, go_sem, r0, r1]) rfl ⟨(X2.out.2.2.setCell (by simp) _).setCell (by simp) _, .inl ⟨rfl, _, _, rfl, ?_, ?_, AP.out⟩⟩
  · exact Own.base (Own.store (Own.store OS.out (by omega) _) (by omega) _) (by omega)
  · exact Own.base (Own.store (Own.store OV.out (by omega) _) (by omega) _) (by omega)

end Go.Proofs.YtaikmbfdhecjoaaGreat

namespace Go.Proofs.YtaikmbfdhecjoaaGreat
open Go.RowKit
set_option linter.unusedVariables false

/-- an array in its variable -/
structure Va (b : Nat) (v0 v1 : Value) (sh da : List Int) (w : World) : Prop where
  lt : b < w.heap.size
  c0 : w.cell? ⟨b, 0, none⟩ = some v0
  c1 : w.cell? ⟨b, 1, none⟩ = some v1
  r0 : Rd w.heap.size w v0 sh
  r1 : Rd w.heap.size w v1 da
theorem Va.keep {b : Nat} {v0 v1 : Value} {sh da : List Int} {w w' : World} (h : Va b v0 v1 sh da w) (hb : Below w.heap.size w w') : Va b v0 v1 sh da w' :=
  ⟨Nat.lt_of_lt_of_le h.lt hb.size, (hb.cell (p := ⟨b, 0, none⟩) h.lt).trans h.c0, (hb.cell (p := ⟨b, 1, none⟩) h.lt).trans h.c1, (h.r0.keep hb).up hb.size, (h.r1.keep hb).up hb.size⟩

/-- an array put into a new variable -/
theorem va_new (w : World) (v0 v1 : Value) (sh da : List Int) (r0 : Rd w.heap.size w v0 sh) (r1 : Rd w.heap.size w v1 da) (W : World) (hW : W = w.alloc (.cells #[v0, v1] 25)) :
    Va w.heap.size v0 v1 sh da W ∧ Below w.heap.size w W := by
  have B : Below w.heap.size w W := by
    rw [hW]
    exact (Below.refl _ _).alloc (Nat.le_refl _) _
  refine ⟨⟨by rw [hW]; simp, by rw [hW]; simp [go_sem], by rw [hW]; simp [go_sem], (r0.keep B).up B.size, (r1.keep B).up B.size⟩, B⟩

theorem va_two (w : World) (v0 v1 v2 v3 : Value) (sh da sb db : List Int) (r0 : Rd w.heap.size w v0 sh) (r1 : Rd w.heap.size w v1 da) (r2 : Rd w.heap.size w v2 sb) (r3 : Rd w.heap.size w v3 db) (W : World) (hW : W = (w.alloc (.cells #[v0, v1] 25)).alloc (.cells #[v2, v3] 25)) :
    Va w.heap.size v0 v1 sh da W ∧ Va (w.heap.size + 1) v2 v3 sb db W ∧ Below w.heap.size w W := by
  have B : Below w.heap.size w W := by
    rw [hW]
    exact ((Below.refl _ _).alloc (Nat.le_refl _) _).alloc (by simp) _
  have e0 : w.heap.size < W.heap.size := by rw [hW]; simp; omega
  have e1 : w.heap.size + 1 < W.heap.size := by rw [hW]; simp
  refine ⟨⟨e0, by rw [hW]; simp [go_sem], by rw [hW]; simp [go_sem], (r0.keep B).up B.size, (r1.keep B).up B.size⟩, ⟨e1, by rw [hW]; simp [go_sem], by rw [hW]; simp [go_sem], (r2.keep B).up B.size, (r3.keep B).up B.size⟩, B⟩

/-- the capacity of a list of one's own -/
theorem own_cap {B : Nat} {w : World} {ao : Option Addr} {c : Nat} {zs : List Int} (h : Own B w (.slice ao zs.length c) zs) : zs.length ≤ c ∧ (0 < zs.length → c ≤ 9223372036854775807) := by
  obtain ⟨ao', cap', e, g⟩ := h
  simp only [Value.slice.injEq] at e
  obtain ⟨_, _, rfl⟩ := e
  rcases g with g | ⟨g, off, hB, _⟩
  · exact ⟨by omega, fun h => by omega⟩
  · exact ⟨hB.2.1, fun _ => hB.2.2⟩
theorem own_cap1 {B : Nat} {w : World} {ao : Option Addr} {c : Nat} {zs : List Int} (h : Own B w (.slice ao zs.length c) zs) (hp : 0 < zs.length) : zs.length ≤ c ∧ c ≤ 9223372036854775807 := ⟨(own_cap h).1, (own_cap h).2 hp⟩

/-- a list of one number, just built -/
theorem lit_rd (w : World) (x : Int) : Rd (w.alloc (.cells #[.int .i64 x] 3)).heap.size (w.alloc (.cells #[.int .i64 x] 3)) (.slice (some ⟨w.heap.size, 0, none⟩) 1 1) [x] := by
  have h := (own_lit w _ x (Below.refl _ _)).rd
  exact h

/-- spec.SameArray of equal arrays -/
theorem same_yes (v0 v1 v2 v3 : Value) (sh da : List Int) (w : World) (hl0 : sh.length ≤ 1048576) (hl1 : da.length ≤ 1048576) (h0 : Rd w.heap.size w v0 sh) (h1 : Rd w.heap.size w v1 da) (h2 : Rd w.heap.size w v2 sh) (h3 : Rd w.heap.size w v3 da) :
    Calls Tryz.prog 10 #[.agg #[v0, v1], .agg #[v2, v3]] w fun e w' => e = .returned (.bool true) ∧ Below w.heap.size w w' := by
  have B : Hid (∀ o o', Below w.heap.size w ((w.alloc o).alloc o')) := fun o o' => ((Below.refl _ _).alloc (Nat.le_refl _) _).alloc (by simp) _
  have K0 : Hid (∀ w', Below w.heap.size w w' → Calls Tryz.prog 32 #[v0, v2] w' fun e w'' => e = .returned (.bool true) ∧ Below w'.heap.size w' w'') := fun w' hb => by
    have := l2Same_any v0 v2 sh sh w' hl0 hl0 ((h0.keep hb).up hb.size) ((h2.keep hb).up hb.size)
    rw [decide_eq_true rfl] at this
    exact this
  have K1 : Hid (∀ w', Below w.heap.size w w' → Calls Tryz.prog 32 #[v1, v3] w' fun e w'' => e = .returned (.bool true) ∧ Below w'.heap.size w' w'') := fun w' hb => by
    have := l2Same_any v1 v3 da da w' hl1 hl1 ((h1.keep hb).up hb.size) ((h3.keep hb).up hb.size)
    rw [decide_eq_true rfl] at this
    exact this
  obtain ⟨a0, c0, e0⟩ := h0.form
  obtain ⟨a1, c1, e1⟩ := h1.form
  obtain ⟨a2, c2, e2⟩ := h2.form
  obtain ⟨a3, c3, e3⟩ := h3.form
  subst e0 e1 e2 e3
  clear h0 h1 h2 h3
  generalize sh.length = L0 at *
  generalize da.length = L1 at *
  go_enter Tryz.func10, Tryz.ntmps10
  go_wp2_with fail
  refine (K0.out _ (B.out _ _)).mono ?_
  rintro e w1 ⟨rfl, hb1⟩
  have hs1 := hb1.size
  simp at hs1
  obtain ⟨hc, hf⟩ := bcell hb1
  have q1 : w1.cell? ⟨w.heap.size, 1, none⟩ = some (.slice a1 L1 c1) := by rw [hc w.heap.size 1 (by simp; omega)]; simp [go_sem]
  have q3 : w1.cell? ⟨w.heap.size + 1, 1, none⟩ = some (.slice a3 L1 c3) := by rw [hc (w.heap.size + 1) 1 (by simp)]; simp [go_sem]
  have B1 := hideP ((B.out _ _).trans (hb1.mono (by simp; omega)))
  clear hb1 hc hf K0 B
  go_wp2_with fail
  refine (K1.out _ B1.out).mono ?_
  rintro e w2 ⟨rfl, hb2⟩
  have B2 := hideP (B1.out.trans (hb2.mono B1.out.size))
  clear hb2 q1 q3
  go_wp2_with fail
  go_ret
  exact ⟨rfl, B2.out⟩

end Go.Proofs.YtaikmbfdhecjoaaGreat
