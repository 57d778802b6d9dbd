import Derived.Test.YtaopohihipihdaaGreatDoorMonC
import Derived.Test.YtaopohihipihdaaGreatDoorMon2
import Derived.Test.YtaopohihipihdaaGreatDoorFirst2
import Derived.Test.YtaopohihipihdaaGreatDoorCopied
import Derived.Deep.DeepCutAuto
import Derived.Test.YtaopohihipihdaaGreatDoorEnv2
import Derived.BigQuiet
import Derived.Test.YtaopohihipihdaaGreatDoorValid
import Derived.Test.YtaopohihipihdaaGreatDoorDw1
namespace Go.Proofs.YtaopohihipihdaaGreatDoor
open Go.RowKit
set_option linter.unusedVariables false

theorem callF33m (args : Array Value) (w : World) : (callFunc 22 args).run Tryz.prog w = .ok (.enter 22 args) w := by kernel_rfl

set_option maxRecDepth 100000 in
set_option maxHeartbeats 1000000 in
/-- impl.Monad -/
theorem ravel_faceG (a0 : Option Addr) (k0 : Nat) (a1 : Option Addr) (k1 : Nat) (sh da : List Int) (w : World) (hl0 : sh.length ≤ 1048576) (hl1 : da.length ≤ 1048576) (h0 : Rd w.heap.size w (.slice a0 sh.length k0) sh) (h1 : Rd w.heap.size w (.slice a1 da.length k1) da) (c : Int) (S D : List Int) (hres : Pl.mo8 (fun _ da => ((0 : Int), [(da.length : Int)], da)) 3 sh da = (c, S, D)) :
    Calls Tryz.prog 8 #[.int .i64 3, .agg #[.slice a0 sh.length k0, .slice a1 da.length k1]] w (FPost w c S D) := by
  have hmf : ∀ (fn : Fn) (first cap : Array Value) (w : World), (Instr.makeFunc fn first cap).run Tryz.prog w = .ok (.func fn first cap) w := fun _ _ _ _ => rfl
  have K : Hid (∀ pa po w', Below w.heap.size w w' → w'.cell? ⟨pa, 0, none⟩ = some (.slice a0 sh.length k0) → w'.cell? ⟨pa, 1, none⟩ = some (.slice a1 da.length k1) → w'.cell? ⟨po, 0, none⟩ = some (.int .i64 3) → Calls Tryz.prog 22 #[.pointer (some ⟨pa, 0, none⟩), .pointer (some ⟨po, 0, none⟩)] w' (KPost w' c S D)) :=
    fun pa po w' hb g0 g1 g4 => mc_all pa po 3 _ _ sh da w' hl0 hl1 ((h0.keep hb).up hb.size) ((h1.keep hb).up hb.size) g0 g1 g4 _ c S D hres
      (fun k hk kk0 kk1 ok e w'' hb' => by
        have hb2 := hb.trans (hb'.mono hb.size)
        have q0 := (h0.keep hb2).up hb2.size
        have q1 := (h1.keep hb2).up hb2.size
        have hk' : k = 3 := by omega
        subst hk'
        have e' : ((0 : Int), [(da.length : Int)], da) = (c, S, D) := e
        simp only [Prod.mk.injEq] at e'
        obtain ⟨rfl, rfl, rfl⟩ := e'
        exact ravel_any _ _ sh da w'' hl0 hl1 q0 q1)
  clear h0 h1 hres
  generalize sh.length = L0 at *
  generalize da.length = L1 at *
  go_enter Tryz.func8, Tryz.ntmps8
  go_wp2_with fail
  refine (answer_any 22 _ c S D _ (callF33m _) ?_).mono ?_
  · refine K.out (w.heap.size + 1) w.heap.size _ ?_ ?_ ?_ ?_
    · exact (((((Below.refl _ _).alloc (Nat.le_refl _) _).alloc (by simp) _).alloc (by simp; omega) _).alloc (by simp; omega) _).alloc (by simp; omega) _
    · simp [go_sem]
    · simp [go_sem]
    · simp [go_sem]
  rintro e w1 ⟨hb1, u0, u1, rfl, hres⟩
  have B0 : Hid (Below w.heap.size w w1) := ((((Below.refl _ _).alloc (Nat.le_refl _) _).alloc (by simp) _).alloc (by simp; omega) _).trans (hb1.mono (by simp; omega))
  have hs := hb1.size
  simp at hs
  obtain ⟨hc, hf⟩ := bcell hb1
  have r0 : w1.cell? ⟨w.heap.size + 1 + 1, 0, none⟩ = some (.slice none 0 0) := by rw [hc (w.heap.size + 1 + 1) 0 (by simp)]; simp [go_sem]
  have r1 : w1.cell? ⟨w.heap.size + 1 + 1, 1, none⟩ = some (.slice none 0 0) := by rw [hc (w.heap.size + 1 + 1) 1 (by simp)]; simp [go_sem]
  have f3 : ∀ o, w1.frozen? ⟨w.heap.size + 1 + 1, o, none⟩ = false := fun o => by rw [hf (w.heap.size + 1 + 1) o (by simp)]; simp [go_sem]
  have R : Hid (Res (w.heap.size + 1 + 1 + 1) w1 u0 u1 S D) := by
    have := hres
    show Res _ _ _ _ _ _
    simpa using this
  obtain ⟨x0, y0, e0⟩ := hres.1.form
  obtain ⟨x1, y1, e1⟩ := hres.2.1.form
  subst e0
  subst e1
  clear hc hf hb1 hres K
  go_wp2_with fail
  refine bodyPost_ret (v := .tuple #[.agg #[.slice x0 S.length y0, .slice x1 D.length y1], .int .i64 c]) (by simp [results, Tryz.results8, go_sem, r0, r1]) rfl ⟨(B0.out.setCell (by simp; omega) _).setCell (by simp; omega) _, _, _, rfl, ?_, ?_, R.out.2.2⟩
  · exact Own.base (Own.store (Own.store R.out.1 (by omega) _) (by omega) _) (by omega)
  · exact Own.base (Own.store (Own.store R.out.2.1 (by omega) _) (by omega) _) (by omega)

end Go.Proofs.YtaopohihipihdaaGreatDoor

namespace Go.Proofs.YtaopohihipihdaaGreatDoor
open Go.RowKit
set_option linter.unusedVariables false

/-- a slice whose block the growing leaves alone -/
theorem Own.grownOff {B : Nat} {w w' : World} {row : Option Nat} {u : Value} {zs : List Int} (h : Own B w u zs) (hg : w.grownBy w' row) (hn : ∀ g, row = some g → Off g u zs) : Own B w' u zs := by
  obtain ⟨ao, cap, rfl, h⟩ := h
  refine ⟨ao, cap, rfl, ?_⟩
  rcases h with h | ⟨g, off, h1, h2, rfl, h4⟩
  · exact .inl h
  · by_cases hz : zs.length = 0
    · exact .inl hz
    · refine .inr ⟨g, off, h1, Nat.lt_of_lt_of_le h2 hg.size, rfl, fun i hi => ?_⟩
      have hne : some g ≠ row := by
        intro e
        rcases hn g e.symm with h | h
        · exact hz h
        · exact h g rfl rfl
      have e := hg.block g h2 hne
      exact ⟨(World.cell?_of_block (w := w) (a := ⟨g, off + i, none⟩) e).trans (h4 i hi).1, (World.frozen?_of_block (w := w) (a := ⟨g, off + i, none⟩) e).trans (h4 i hi).2⟩

/-- the rows so far -/
structure Rs (wq : World) (rv : Value) (k : Nat) (xs : List Value) (dv : Nat → Value) (zz : Nat → List Int) (w : World) : Prop where
  bel : Below wq.heap.size wq w
  row : w.ownsRow wq.heap.size 25 2 rv k xs
  cell : ∀ i, i < k → xs[i * 2 + 1]? = some (dv i)
  own : ∀ i, i < k → Own wq.heap.size w (dv i) (zz i)
  off : ∀ i, i < k → ∀ g, rv.ownBlock = some g → Off g (dv i) (zz i)

theorem Rs.start (wq : World) (zz : Nat → List Int) : Rs wq (.slice (some ⟨wq.heap.size, 0, none⟩) 0 0) 0 [] (fun _ => .slice none 0 0) zz (wq.alloc (.cells #[] 25)) :=
  ⟨(Below.refl _ _).alloc (Nat.le_refl _) _, World.ownsRow_lit wq #[] 0 (Nat.le_refl _) (by unfold maxLen; omega) rfl, fun i hi => absurd hi (Nat.not_lt_zero i), fun i hi => absurd hi (Nat.not_lt_zero i), fun i hi => absurd hi (Nat.not_lt_zero i)⟩

theorem Rs.keep {wq w w' : World} {rv : Value} {k : Nat} {xs : List Value} {dv : Nat → Value} {zz : Nat → List Int} (h : Rs wq rv k xs dv zz w) (hb : Below w.heap.size w w') : Rs wq rv k xs dv zz w' :=
  ⟨h.bel.trans (hb.mono h.bel.size), owns_keep h.row hb, h.cell, fun i hi => (h.own i hi).keep hb, h.off⟩

theorem Rs.app {wq w w9 : World} {rv v' u0 u1 : Value} {k : Nat} {xs : List Value} {dv : Nat → Value} {zz : Nat → List Int} (h : Rs wq rv k xs dv zz w) (hu : Own wq.heap.size w u1 (zz k)) (ho : ∀ g, rv.ownBlock = some g → Off g u1 (zz k))
    (hrow : w9.ownsRow wq.heap.size 25 2 v' (k + 1) (xs ++ [u0, u1])) (hg : (w.alloc (.cells #[u0, u1] 25)).grownBy w9 rv.ownBlock) (hat : v'.ownBlock = rv.ownBlock ∨ v'.ownBlock = some (w.heap.size + 1)) :
    Rs wq v' (k + 1) (xs ++ [u0, u1]) (fun i => if i = k then u1 else dv i) zz w9 := by
  have kk : Below w.heap.size w (w.alloc (.cells #[u0, u1] 25)) := (Below.refl _ _).alloc (Nat.le_refl _) _
  have hx : xs.length = k * 2 := h.row.1
  have off' : ∀ (u : Value) (zs : List Int), Own wq.heap.size w u zs → (∀ g, rv.ownBlock = some g → Off g u zs) → ∀ g, v'.ownBlock = some g → Off g u zs := by
    intro u zs hou hof g hgv
    rcases hat with hat | hat
    · rw [hat] at hgv
      exact hof g hgv
    · rw [hat] at hgv
      simp only [Option.some.injEq] at hgv
      subst hgv
      exact own_ne_hi hou (Nat.le_succ _)
  refine ⟨(h.bel.trans (kk.mono h.bel.size)).grown hg (by have := h.bel.size; simp; omega) (fun g e => (h.row.lt g e).1), hrow, ?_, ?_, ?_⟩
  · intro i hi
    by_cases hik : i = k
    · subst hik
      rw [if_pos rfl, List.getElem?_append_right (by omega), hx]
      have : i * 2 + 1 - i * 2 = 1 := by omega
      rw [this]
      rfl
    · rw [if_neg hik, List.getElem?_append_left (by omega)]
      exact h.cell i (by omega)
  · intro i hi
    show Own _ _ (if i = k then u1 else dv i) _
    by_cases hik : i = k
    · subst hik
      rw [if_pos rfl]
      exact (hu.keep kk).grownOff hg ho
    · rw [if_neg hik]
      exact ((h.own i (by omega)).keep kk).grownOff hg (h.off i (by omega))
  · intro i hi
    show ∀ g, _ → Off g (if i = k then u1 else dv i) _
    by_cases hik : i = k
    · subst hik
      rw [if_pos rfl]
      exact off' u1 _ hu ho
    · rw [if_neg hik]
      exact off' _ _ (h.own i (by omega)) (h.off i (by omega))

end Go.Proofs.YtaopohihipihdaaGreatDoor
