import Derived.Test.YtaopohihipihdaaGreatDoorLies
import Derived.Deep.RegionHeld3
import Derived.Deep.RegionHeld2
import Derived.Test.YtaopohihipihdaaGreatDoorEnv2
import Derived.Test.YtaopohihipihdaaGreatDoorDw1
import Derived.Laws.Bits64b
import Derived.Laws.CopyOwn
namespace Go.Proofs.YtaopohihipihdaaGreatDoor
open Go.RowKit
set_option linter.unusedVariables false

set_option maxHeartbeats 1000000 in
/-- impl.needValid of two arrays -/
theorem needValid2 (b : Nat) (v0 v1 v2 v3 : Value) (sa da sb db : List Int) (w : World) (hl0 : sa.length ≤ 1048576) (hl1 : da.length ≤ 1048576) (hl2 : sb.length ≤ 1048576) (hl3 : db.length ≤ 1048576) (hb : b < w.heap.size)
    (c0 : w.cell? ⟨b, 0, none⟩ = some v0) (c1 : w.cell? ⟨b, 1, none⟩ = some v1) (c2 : w.cell? ⟨b, 2, none⟩ = some v2) (c3 : w.cell? ⟨b, 3, none⟩ = some v3)
    (h0 : Rd w.heap.size w v0 sa) (h1 : Rd w.heap.size w v1 da) (h2 : Rd w.heap.size w v2 sb) (h3 : Rd w.heap.size w v3 db) :
    Calls Tryz.prog 23 #[.slice (some ⟨b, 0, none⟩) 2 2] w fun e w' => Below w.heap.size w w' ∧ (((Pl.okB sa da = true ∧ Pl.okB sb db = true) ∧ e = .returned (.tuple #[])) ∨ (¬ (Pl.okB sa da = true ∧ Pl.okB sb db = true) ∧ e = .panicked [thrown 9])) := by
  obtain ⟨a0, d0, e0⟩ := h0.form
  obtain ⟨a1, d1, e1⟩ := h1.form
  obtain ⟨a2, d2, e2⟩ := h2.form
  obtain ⟨a3, d3, e3⟩ := h3.form
  have H0 := hideP h0
  have H1 := hideP h1
  have H2 := hideP h2
  have H3 := hideP h3
  have HC0 := hideP c0
  have HC1 := hideP c1
  have HC2 := hideP c2
  have HC3 := hideP c3
  clear h0 h1 h2 h3 c0 c1 c2 c3
  go_enter Tryz.func23, Tryz.ntmps23
  go_wp2_with fail
  go_loopw [3, 6] (fun _ i wr => (i = .int .i64 0 ∨ (i = .int .i64 1 ∧ Hid (Pl.okB sa da = true)) ∨ (i = .int .i64 2 ∧ Hid (Pl.okB sa da = true) ∧ Hid (Pl.okB sb db = true))) ∧ Hid (Below w.heap.size w wr)) (fun _ i _ => 2 - (intOf i).toNat)
  case atStart => exact ⟨.inl rfl, Below.refl _ _⟩
  case round =>
    obtain ⟨rfl | ⟨rfl, oka⟩ | ⟨rfl, oka, okb⟩, hbel⟩ := hrel
    · have c0 : wr.cell? ⟨b, 0, none⟩ = some (.slice a0 sa.length d0) := by rw [← e0]; exact (hbel.out.cell (p := ⟨b, 0, none⟩) hb).trans HC0.out
      have c1 : wr.cell? ⟨b, 1, none⟩ = some (.slice a1 da.length d1) := by rw [← e1]; exact (hbel.out.cell (p := ⟨b, 1, none⟩) hb).trans HC1.out
      have K : Hid (∀ o, Calls Tryz.prog 7 #[.agg #[.slice a0 sa.length d0, .slice a1 da.length d1]] (wr.alloc o) fun e w' => e = .returned (.bool (Pl.okB sa da)) ∧ Below wr.heap.size wr w') := fun o => by
        rw [← e0, ← e1]
        exact ok_new v0 v1 sa da wr hl0 hl1 ((H0.out.keep hbel.out).up hbel.out.size) ((H1.out.keep hbel.out).up hbel.out.size) o
      have S : Hid (w.heap.size ≤ wr.heap.size) := hbel.out.size
      clear H0 H1 H2 H3 HC0 HC1 HC2 HC3 e0 e1 e2 e3
      go_wp2_with fail
      refine (K.out _).mono ?_
      rintro e w1 ⟨rfl, hb1⟩
      have B1 := hideP (hbel.out.trans (hb1.mono S.out))
      clear hb1 c0 c1
      by_cases hq : Pl.okB sa da = true
      · have Hq := hideP hq
        rw [hq]
        clear hq
        go_wp2_with (go_at_call 36; refine (refuse_no _ _).mono ?_; rintro e w' ⟨rfl, rfl⟩)
        go_roundw
        case rel => exact ⟨.inr (.inl ⟨rfl, Hq⟩), B1⟩
        case measure => simp [intOf]
      · have hq' : Pl.okB sa da = false := by simpa using hq
        have Hq := hideP hq'
        rw [hq']
        clear hq hq'
        go_wp2_with (go_at_call 36; refine (refuse_yes _ _).mono ?_; rintro e w' ⟨rfl, rfl⟩)
        exact ⟨rfl, B1.out, .inr ⟨fun h => (by have := Hq.out; rw [h.1] at this; cases this), rfl⟩⟩
    · have c0 : wr.cell? ⟨b, 2, none⟩ = some (.slice a2 sb.length d2) := by rw [← e2]; exact (hbel.out.cell (p := ⟨b, 2, none⟩) hb).trans HC2.out
      have c1 : wr.cell? ⟨b, 3, none⟩ = some (.slice a3 db.length d3) := by rw [← e3]; exact (hbel.out.cell (p := ⟨b, 3, none⟩) hb).trans HC3.out
      have K : Hid (∀ o, Calls Tryz.prog 7 #[.agg #[.slice a2 sb.length d2, .slice a3 db.length d3]] (wr.alloc o) fun e w' => e = .returned (.bool (Pl.okB sb db)) ∧ Below wr.heap.size wr w') := fun o => by
        rw [← e2, ← e3]
        exact ok_new v2 v3 sb db wr hl2 hl3 ((H2.out.keep hbel.out).up hbel.out.size) ((H3.out.keep hbel.out).up hbel.out.size) o
      have S : Hid (w.heap.size ≤ wr.heap.size) := hbel.out.size
      clear H0 H1 H2 H3 HC0 HC1 HC2 HC3 e0 e1 e2 e3
      go_wp2_with fail
      refine (K.out _).mono ?_
      rintro e w1 ⟨rfl, hb1⟩
      have B1 := hideP (hbel.out.trans (hb1.mono S.out))
      clear hb1 c0 c1
      by_cases hq : Pl.okB sb db = true
      · have Hq := hideP hq
        rw [hq]
        clear hq
        go_wp2_with (go_at_call 36; refine (refuse_no _ _).mono ?_; rintro e w' ⟨rfl, rfl⟩)
        go_roundw
        case rel => exact ⟨.inr (.inr ⟨rfl, oka, Hq⟩), B1⟩
        case measure => simp [intOf]
      · have hq' : Pl.okB sb db = false := by simpa using hq
        have Hq := hideP hq'
        rw [hq']
        clear hq hq'
        go_wp2_with (go_at_call 36; refine (refuse_yes _ _).mono ?_; rintro e w' ⟨rfl, rfl⟩)
        exact ⟨rfl, B1.out, .inr ⟨fun h => (by have := Hq.out; rw [h.2] at this; cases this), rfl⟩⟩
    · clear H0 H1 H2 H3 HC0 HC1 HC2 HC3 e0 e1 e2 e3
      go_wp2_with fail
      go_end0
      exact ⟨hbel.out, .inl ⟨⟨oka.out, okb.out⟩, rfl⟩⟩

/-- needValid of two arrays that were just laid, behind the variable of the result -/
theorem valid2_new (v0 v1 v2 v3 : Value) (sa da sb db : List Int) (w : World) (hl0 : sa.length ≤ 1048576) (hl1 : da.length ≤ 1048576) (hl2 : sb.length ≤ 1048576) (hl3 : db.length ≤ 1048576) (h0 : Rd w.heap.size w v0 sa) (h1 : Rd w.heap.size w v1 da) (h2 : Rd w.heap.size w v2 sb) (h3 : Rd w.heap.size w v3 db) (o : Obj) (t : TypeId) :
    Calls Tryz.prog 23 #[.slice (some ⟨w.heap.size + 1, 0, none⟩) 2 2] ((w.alloc o).alloc (.cells #[v0, v1, v2, v3] t)) fun e w' => Below (w.heap.size + 1) (w.alloc o) w' ∧ (((Pl.okB sa da = true ∧ Pl.okB sb db = true) ∧ e = .returned (.tuple #[])) ∨ (¬ (Pl.okB sa da = true ∧ Pl.okB sb db = true) ∧ e = .panicked [thrown 9])) := by
  have A : Below (w.heap.size + 1) (w.alloc o) ((w.alloc o).alloc (.cells #[v0, v1, v2, v3] t)) := (Below.refl _ _).alloc (by simp) _
  have A2 : Below w.heap.size w ((w.alloc o).alloc (.cells #[v0, v1, v2, v3] t)) := ((Below.refl _ _).alloc (Nat.le_refl _) _).alloc (by simp) _
  refine (needValid2 (w.heap.size + 1) v0 v1 v2 v3 sa da sb db ((w.alloc o).alloc (.cells #[v0, v1, v2, v3] t)) hl0 hl1 hl2 hl3 (by simp) (by simp [go_sem]) (by simp [go_sem]) (by simp [go_sem]) (by simp [go_sem]) ((h0.keep A2).up (by simp; omega)) ((h1.keep A2).up (by simp; omega)) ((h2.keep A2).up (by simp; omega)) ((h3.keep A2).up (by simp; omega))).mono ?_
  rintro e w' ⟨hb, hor⟩
  exact ⟨A.trans (hb.mono (by simp)), hor⟩

end Go.Proofs.YtaopohihipihdaaGreatDoor

namespace Go.Proofs.YtaopohihipihdaaGreatDoor
open Go.RowKit
set_option linter.unusedVariables false

/-- impl.needFit -/
theorem needFit_any (B : Nat) (v : Value) (zs : List Int) (w : World) (hl : zs.length ≤ 1048576) (h : Rd B w v zs) :
    Calls Tryz.prog 80 #[v] w fun e w' => w' = w ∧ ((Pl.fitsB zs = true ∧ e = .returned (.tuple #[])) ∨ (Pl.fitsB zs = false ∧ e = .panicked [thrown 6])) := by
  have K := hideP (shapeFits_any B v zs w hl h)
  obtain ⟨a0, d0, e0⟩ := h.form
  subst e0
  clear h
  by_cases hf : Pl.fitsB zs = true
  · rw [hf] at K
    have HF := hideP hf
    clear hf
    go_enter Tryz.func80, Tryz.ntmps80
    go_wp2_with (first | (go_at_call 18; refine K.out.mono ?_; rintro e w' ⟨rfl, rfl⟩) | (go_at_call 36; refine (refuse_no _ _).mono ?_; rintro e w' ⟨rfl, rfl⟩))
    go_end0
    exact ⟨rfl, .inl ⟨HF.out, rfl⟩⟩
  · have hf' : Pl.fitsB zs = false := by simpa using hf
    rw [hf'] at K
    have HF := hideP hf'
    clear hf hf'
    go_enter Tryz.func80, Tryz.ntmps80
    go_wp2_with (first | (go_at_call 18; refine K.out.mono ?_; rintro e w' ⟨rfl, rfl⟩) | (go_at_call 36; refine (refuse_yes _ _).mono ?_; rintro e w' ⟨rfl, rfl⟩))
    exact ⟨rfl, rfl, .inr ⟨HF.out, rfl⟩⟩

end Go.Proofs.YtaopohihipihdaaGreatDoor

namespace Go.Proofs.YtaopohihipihdaaGreatDoor
open Go.RowKit
set_option linter.unusedVariables false

/-- impl.joined of one list, as a row of the call's own -/
theorem joined1_row (b : Nat) (u : Value) (xs : List Int) (w : World) (hl : xs.length ≤ 1048576) (hb : b < w.heap.size) (c0 : w.cell? ⟨b, 0, none⟩ = some u) (h0 : Rd w.heap.size w u xs) :
    Calls Tryz.prog 66 #[.slice (some ⟨b, 0, none⟩) 1 1] w fun e w' => ∃ v, e = .returned v ∧ w'.ownsRow w.heap.size 3 1 v xs.length (xs.map (Value.int .i64)) ∧ Below w.heap.size w w' := by
  have K := hideP (concat1 b u xs w hl hb c0 h0)
  clear c0 h0
  go_enter Tryz.func66, Tryz.ntmps66
  go_wp2_with (go_at_call 90; refine K.out.mono ?_; rintro e w' ⟨v, rfl, ho, hb'⟩)
  go_ret
  exact ⟨_, rfl, ho, hb'⟩

end Go.Proofs.YtaopohihipihdaaGreatDoor

namespace Go.Proofs.YtaopohihipihdaaGreatDoor
open Go.RowKit
set_option linter.unusedVariables false

/-- Array{.., ..} of two rows that are made in the region: the literals so far, the rows so far -/
structure Rc (wb : World) (p0 p1 : Option (Nat × Value)) (r0 r1 : Option (Value × List Int)) (w : World) : Prop where
  bel : Below wb.heap.size wb w
  l0 : ∀ k v, p0 = some (k, v) → k < w.heap.size ∧ w.cell? ⟨k, 0, none⟩ = some v
  l1 : ∀ k v, p1 = some (k, v) → k < w.heap.size ∧ w.cell? ⟨k, 0, none⟩ = some v
  o0 : ∀ v zs, r0 = some (v, zs) → Own wb.heap.size w v zs
  o1 : ∀ v zs, r1 = some (v, zs) → Own wb.heap.size w v zs
  ap : ∀ v zs v' zs', r0 = some (v, zs) → r1 = some (v', zs') → Apart v v' zs zs'

theorem Rc.start (wb : World) : Rc wb none none none none wb.drew := ⟨(Below.refl _ _).drew, (by intro _ _ h; cases h), (by intro _ _ h; cases h), (by intro _ _ h; cases h), (by intro _ _ h; cases h), (by intro _ _ _ _ h; cases h)⟩

theorem Rc.keep {wb w w' : World} {p0 p1 : Option (Nat × Value)} {r0 r1 : Option (Value × List Int)} (h : Rc wb p0 p1 r0 r1 w) (hb : Below w.heap.size w w') : Rc wb p0 p1 r0 r1 w' :=
  ⟨h.bel.trans (hb.mono h.bel.size), fun k v e => ⟨Nat.lt_of_lt_of_le (h.l0 k v e).1 hb.size, (hb.cell (p := ⟨k, 0, none⟩) (h.l0 k v e).1).trans (h.l0 k v e).2⟩, fun k v e => ⟨Nat.lt_of_lt_of_le (h.l1 k v e).1 hb.size, (hb.cell (p := ⟨k, 0, none⟩) (h.l1 k v e).1).trans (h.l1 k v e).2⟩, fun v zs e => (h.o0 v zs e).keep hb, fun v zs e => (h.o1 v zs e).keep hb, h.ap⟩

theorem lit_cell (w : World) (v : Value) (t : TypeId) : w.heap.size < (w.alloc (.cells #[v] t)).heap.size ∧ (w.alloc (.cells #[v] t)).cell? ⟨w.heap.size, 0, none⟩ = some v := ⟨by simp, by simp [go_sem]⟩

theorem Rc.lit0 {wb w : World} {p1 : Option (Nat × Value)} {r0 r1 : Option (Value × List Int)} (h : Rc wb none p1 r0 r1 w) (v : Value) (t : TypeId) : Rc wb (some (w.heap.size, v)) p1 r0 r1 (w.alloc (.cells #[v] t)) := by
  have k := h.keep ((Below.refl w.heap.size w).alloc (Nat.le_refl _) (.cells #[v] t))
  refine ⟨k.bel, ?_, k.l1, k.o0, k.o1, k.ap⟩
  intro k' v' e
  simp only [Option.some.injEq, Prod.mk.injEq] at e
  obtain ⟨rfl, rfl⟩ := e
  exact lit_cell w v t

theorem Rc.lit1 {wb w : World} {p0 : Option (Nat × Value)} {r0 r1 : Option (Value × List Int)} (h : Rc wb p0 none r0 r1 w) (v : Value) (t : TypeId) : Rc wb p0 (some (w.heap.size, v)) r0 r1 (w.alloc (.cells #[v] t)) := by
  have k := h.keep ((Below.refl w.heap.size w).alloc (Nat.le_refl _) (.cells #[v] t))
  refine ⟨k.bel, k.l0, ?_, k.o0, k.o1, k.ap⟩
  intro k' v' e
  simp only [Option.some.injEq, Prod.mk.injEq] at e
  obtain ⟨rfl, rfl⟩ := e
  exact lit_cell w v t

theorem Rc.row0 {wb w w' : World} {p0 p1 : Option (Nat × Value)} (h : Rc wb p0 p1 none none w) {v : Value} {zs : List Int} (ho : Own w.heap.size w' v zs) (hb : Below w.heap.size w w') : Rc wb p0 p1 (some (v, zs)) none w' := by
  have k := h.keep hb
  refine ⟨k.bel, k.l0, k.l1, ?_, k.o1, ?_⟩
  · intro v' zs' e
    simp only [Option.some.injEq, Prod.mk.injEq] at e
    obtain ⟨rfl, rfl⟩ := e
    exact ho.base h.bel.size
  · intro _ _ _ _ _ e
    cases e

theorem Rc.row1 {wb w w' : World} {p0 p1 : Option (Nat × Value)} {u : Value} {ys : List Int} (h : Rc wb p0 p1 (some (u, ys)) none w) {v : Value} {zs : List Int} (ho : Own w.heap.size w' v zs) (hb : Below w.heap.size w w') : Rc wb p0 p1 (some (u, ys)) (some (v, zs)) w' := by
  have k := h.keep hb
  refine ⟨k.bel, k.l0, k.l1, k.o0, ?_, ?_⟩
  · intro v' zs' e
    simp only [Option.some.injEq, Prod.mk.injEq] at e
    obtain ⟨rfl, rfl⟩ := e
    exact ho.base h.bel.size
  · intro v1 zs1 v2 zs2 e e'
    simp only [Option.some.injEq, Prod.mk.injEq] at e e'
    obtain ⟨rfl, rfl⟩ := e
    obtain ⟨rfl, rfl⟩ := e'
    exact apart_right ho (h.o0 _ _ rfl).lt

theorem Rc.res {wb w : World} {p0 p1 : Option (Nat × Value)} {u v : Value} {ys zs : List Int} (h : Rc wb p0 p1 (some (u, ys)) (some (v, zs)) w) : Res wb.heap.size w u v ys zs := ⟨h.o0 _ _ rfl, h.o1 _ _ rfl, h.ap _ _ _ _ rfl rfl⟩

/-- impl.joined of one list -/
theorem joined1_own (b : Nat) (u : Value) (xs : List Int) (w : World) (hl : xs.length ≤ 1048576) (hb : b < w.heap.size) (c0 : w.cell? ⟨b, 0, none⟩ = some u) (h0 : Rd w.heap.size w u xs) :
    Calls Tryz.prog 66 #[.slice (some ⟨b, 0, none⟩) 1 1] w fun e w' => ∃ ao cap, e = .returned (.slice ao xs.length cap) ∧ Own w.heap.size w' (.slice ao xs.length cap) xs ∧ Below w.heap.size w w' := by
  refine (joined1_row b u xs w hl hb c0 h0).mono ?_
  rintro e w' ⟨v, rfl, ho, hb⟩
  obtain ⟨x, y, ev⟩ := owns_form ho
  subst ev
  exact ⟨x, y, rfl, own_of_any ho, hb⟩

end Go.Proofs.YtaopohihipihdaaGreatDoor

namespace Go.Proofs.YtaopohihipihdaaGreatDoor
open Go.RowKit
set_option linter.unusedVariables false

theorem sizeOf3 (w : World) : (sizeOf (Tryz.prog.elem 23)).run Tryz.prog w = .ok 1 w := by
  obtain ⟨i0, hi, hz0, hz1, hz2⟩ := info_parts Tryz.info3
  have e : Tryz.prog.elem 23 = 3 := by kernel_rfl
  rw [e]
  simp [sizeOf, typeInfo, hi, hz1]
theorem und22 : Tryz.prog.underlying 23 = some (.slice (Tryz.prog.elem 23)) := by
  have e : Tryz.prog.elem 23 = 3 := by kernel_rfl
  rw [e]
  exact Tryz.underlying23
end Go.Proofs.YtaopohihipihdaaGreatDoor

namespace Go.Proofs.YtaopohihipihdaaGreatDoor
open Go.RowKit
set_option linter.unusedVariables false

theorem owns_one (w : World) (x : Int) (base : Nat) (hb : base ≤ w.heap.size) : (w.alloc (.cells #[.int .i64 x] 3)).ownsRow base 3 1 (.slice (some ⟨w.heap.size, 0, none⟩) 1 1) 1 (([x] : List Int).map (Value.int .i64)) :=
  World.ownsRow_lit w #[.int .i64 x] 1 hb (by unfold maxLen; omega) rfl

end Go.Proofs.YtaopohihipihdaaGreatDoor
