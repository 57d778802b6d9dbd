import Derived.Test.YtmobjomebmipdaaSpec2
import Derived.Deep.RegionHeld3
import Derived.Deep.RegionHeld2
namespace Go.Proofs.Ytmobjomebmipdaa
open Go.RowKit
set_option linter.unusedVariables false

set_option maxHeartbeats 1000000 in
/-- impl.needValid of two arrays -/
theorem needValid2 (b : Nat) (v0 v1 v2 v3 : Value) (sa da sb db : List Int) (w : World) (hl0 : sa.length ≤ 1048576) (hl1 : da.length ≤ 1048576) (hl2 : sb.length ≤ 1048576) (hl3 : db.length ≤ 1048576) (hb : b < w.heap.size)
    (c0 : w.cell? ⟨b, 0, none⟩ = some v0) (c1 : w.cell? ⟨b, 1, none⟩ = some v1) (c2 : w.cell? ⟨b, 2, none⟩ = some v2) (c3 : w.cell? ⟨b, 3, none⟩ = some v3)
    (h0 : Rd w.heap.size w v0 sa) (h1 : Rd w.heap.size w v1 da) (h2 : Rd w.heap.size w v2 sb) (h3 : Rd w.heap.size w v3 db) :
    Calls Try.prog 44 #[.slice (some ⟨b, 0, none⟩) 2 2] w fun e w' => Below w.heap.size w w' ∧ (((Pl.okB sa da = true ∧ Pl.okB sb db = true) ∧ e = .returned (.tuple #[])) ∨ (¬ (Pl.okB sa da = true ∧ Pl.okB sb db = true) ∧ e = .panicked [thrown 9])) := by
  obtain ⟨a0, d0, e0⟩ := h0.form
  obtain ⟨a1, d1, e1⟩ := h1.form
  obtain ⟨a2, d2, e2⟩ := h2.form
  obtain ⟨a3, d3, e3⟩ := h3.form
  have H0 := hideP h0
  have H1 := hideP h1
  have H2 := hideP h2
  have H3 := hideP h3
  have HC0 := hideP c0
  have HC1 := hideP c1
  have HC2 := hideP c2
  have HC3 := hideP c3
  clear h0 h1 h2 h3 c0 c1 c2 c3
  go_enter Try.func44, Try.ntmps44
  go_wp2_with fail
  go_loopw [3, 6] (fun _ i wr => (i = .int .i64 0 ∨ (i = .int .i64 1 ∧ Hid (Pl.okB sa da = true)) ∨ (i = .int .i64 2 ∧ Hid (Pl.okB sa da = true) ∧ Hid (Pl.okB sb db = true))) ∧ Hid (Below w.heap.size w wr)) (fun _ i _ => 2 - (intOf i).toNat)
  case atStart => exact ⟨.inl rfl, Below.refl _ _⟩
  case round =>
    obtain ⟨rfl | ⟨rfl, oka⟩ | ⟨rfl, oka, okb⟩, hbel⟩ := hrel
    · have c0 : wr.cell? ⟨b, 0, none⟩ = some (.slice a0 sa.length d0) := by rw [← e0]; exact (hbel.out.cell (p := ⟨b, 0, none⟩) hb).trans HC0.out
      have c1 : wr.cell? ⟨b, 1, none⟩ = some (.slice a1 da.length d1) := by rw [← e1]; exact (hbel.out.cell (p := ⟨b, 1, none⟩) hb).trans HC1.out
      have K : Hid (∀ o, Calls Try.prog 14 #[.agg #[.slice a0 sa.length d0, .slice a1 da.length d1]] (wr.alloc o) fun e w' => e = .returned (.bool (Pl.okB sa da)) ∧ Below wr.heap.size wr w') := fun o => by
        rw [← e0, ← e1]
        exact ok_new v0 v1 sa da wr hl0 hl1 ((H0.out.keep hbel.out).up hbel.out.size) ((H1.out.keep hbel.out).up hbel.out.size) o
      have S : Hid (w.heap.size ≤ wr.heap.size) := hbel.out.size
      clear H0 H1 H2 H3 HC0 HC1 HC2 HC3 e0 e1 e2 e3
      go_wp2_with fail
      refine (K.out _).mono ?_
      rintro e w1 ⟨rfl, hb1⟩
      have B1 := hideP (hbel.out.trans (hb1.mono S.out))
      clear hb1 c0 c1
      by_cases hq : Pl.okB sa da = true
      · have Hq := hideP hq
        rw [hq]
        clear hq
        go_wp2_with (go_at_call 83; refine (refuse_no _ _).mono ?_; rintro e w' ⟨rfl, rfl⟩)
        go_roundw
        case rel => exact ⟨.inr (.inl ⟨rfl, Hq⟩), B1⟩
        case measure => simp [intOf]
      · have hq' : Pl.okB sa da = false := by simpa using hq
        have Hq := hideP hq'
        rw [hq']
        clear hq hq'
        go_wp2_with (go_at_call 83; refine (refuse_yes _ _).mono ?_; rintro e w' ⟨rfl, rfl⟩)
        exact ⟨rfl, B1.out, .inr ⟨fun h => (by have := Hq.out; rw [h.1] at this; cases this), rfl⟩⟩
    · have c0 : wr.cell? ⟨b, 2, none⟩ = some (.slice a2 sb.length d2) := by rw [← e2]; exact (hbel.out.cell (p := ⟨b, 2, none⟩) hb).trans HC2.out
      have c1 : wr.cell? ⟨b, 3, none⟩ = some (.slice a3 db.length d3) := by rw [← e3]; exact (hbel.out.cell (p := ⟨b, 3, none⟩) hb).trans HC3.out
      have K : Hid (∀ o, Calls Try.prog 14 #[.agg #[.slice a2 sb.length d2, .slice a3 db.length d3]] (wr.alloc o) fun e w' => e = .returned (.bool (Pl.okB sb db)) ∧ Below wr.heap.size wr w') := fun o => by
        rw [← e2, ← e3]
        exact ok_new v2 v3 sb db wr hl2 hl3 ((H2.out.keep hbel.out).up hbel.out.size) ((H3.out.keep hbel.out).up hbel.out.size) o
      have S : Hid (w.heap.size ≤ wr.heap.size) := hbel.out.size
      clear H0 H1 H2 H3 HC0 HC1 HC2 HC3 e0 e1 e2 e3
      go_wp2_with fail
      refine (K.out _).mono ?_
      rintro e w1 ⟨rfl, hb1⟩
      have B1 := hideP (hbel.out.trans (hb1.mono S.out))
      clear hb1 c0 c1
      by_cases hq : Pl.okB sb db = true
      · have Hq := hideP hq
        rw [hq]
        clear hq
        go_wp2_with (go_at_call 83; refine (refuse_no _ _).mono ?_; rintro e w' ⟨rfl, rfl⟩)
        go_roundw
        case rel => exact ⟨.inr (.inr ⟨rfl, oka, Hq⟩), B1⟩
        case measure => simp [intOf]
      · have hq' : Pl.okB sb db = false := by simpa using hq
        have Hq := hideP hq'
        rw [hq']
        clear hq hq'
        go_wp2_with (go_at_call 83; refine (refuse_yes _ _).mono ?_; rintro e w' ⟨rfl, rfl⟩)
        exact ⟨rfl, B1.out, .inr ⟨fun h => (by have := Hq.out; rw [h.2] at this; cases this), rfl⟩⟩
    · clear H0 H1 H2 H3 HC0 HC1 HC2 HC3 e0 e1 e2 e3
      go_wp2_with fail
      go_end0
      exact ⟨hbel.out, .inl ⟨⟨oka.out, okb.out⟩, rfl⟩⟩

/-- needValid of two arrays that were just laid, behind the variable of the result -/
theorem valid2_new (v0 v1 v2 v3 : Value) (sa da sb db : List Int) (w : World) (hl0 : sa.length ≤ 1048576) (hl1 : da.length ≤ 1048576) (hl2 : sb.length ≤ 1048576) (hl3 : db.length ≤ 1048576) (h0 : Rd w.heap.size w v0 sa) (h1 : Rd w.heap.size w v1 da) (h2 : Rd w.heap.size w v2 sb) (h3 : Rd w.heap.size w v3 db) (o : Obj) (t : TypeId) :
    Calls Try.prog 44 #[.slice (some ⟨w.heap.size + 1, 0, none⟩) 2 2] ((w.alloc o).alloc (.cells #[v0, v1, v2, v3] t)) fun e w' => Below (w.heap.size + 1) (w.alloc o) w' ∧ (((Pl.okB sa da = true ∧ Pl.okB sb db = true) ∧ e = .returned (.tuple #[])) ∨ (¬ (Pl.okB sa da = true ∧ Pl.okB sb db = true) ∧ e = .panicked [thrown 9])) := by
  have A : Below (w.heap.size + 1) (w.alloc o) ((w.alloc o).alloc (.cells #[v0, v1, v2, v3] t)) := (Below.refl _ _).alloc (by simp) _
  have A2 : Below w.heap.size w ((w.alloc o).alloc (.cells #[v0, v1, v2, v3] t)) := ((Below.refl _ _).alloc (Nat.le_refl _) _).alloc (by simp) _
  refine (needValid2 (w.heap.size + 1) v0 v1 v2 v3 sa da sb db ((w.alloc o).alloc (.cells #[v0, v1, v2, v3] t)) hl0 hl1 hl2 hl3 (by simp) (by simp [go_sem]) (by simp [go_sem]) (by simp [go_sem]) (by simp [go_sem]) ((h0.keep A2).up (by simp; omega)) ((h1.keep A2).up (by simp; omega)) ((h2.keep A2).up (by simp; omega)) ((h3.keep A2).up (by simp; omega))).mono ?_
  rintro e w' ⟨hb, hor⟩
  exact ⟨A.trans (hb.mono (by simp)), hor⟩

end Go.Proofs.Ytmobjomebmipdaa
