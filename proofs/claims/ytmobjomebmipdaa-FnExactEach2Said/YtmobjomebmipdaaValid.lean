import Derived.Test.YtmobjomebmipdaaAns
namespace Go.Proofs.Ytmobjomebmipdaa
open Go.RowKit
set_option linter.unusedVariables false

theorem Rd.form {B : Nat} {w : World} {u : Value} {zs : List Int} (h : Rd B w u zs) : ∃ ao cap, u = .slice ao zs.length cap := by
  obtain ⟨ao, cap, e, _⟩ := h
  exact ⟨ao, cap, e⟩

/-- one round of needValid: the array at place o of the row b -/
theorem ok_new (v0 v1 : Value) (sh da : List Int) (wr : World) (hl0 : sh.length ≤ 1048576) (hl1 : da.length ≤ 1048576) (h0 : Rd wr.heap.size wr v0 sh) (h1 : Rd wr.heap.size wr v1 da) (o : Obj) :
    Calls Try.prog 14 #[.agg #[v0, v1]] (wr.alloc o) fun e w' => e = .returned (.bool (Pl.okB sh da)) ∧ Below wr.heap.size wr w' := by
  have A : Below wr.heap.size wr (wr.alloc o) := (Below.refl _ _).alloc (Nat.le_refl _) _
  refine (implOk_any v0 v1 sh da (wr.alloc o) hl0 hl1 ((h0.keep A).up (by simp)) ((h1.keep A).up (by simp))).mono ?_
  rintro e w' ⟨rfl, hb⟩
  exact ⟨rfl, A.trans (hb.mono (by simp))⟩

set_option maxHeartbeats 1000000 in
/-- impl.needValid of one array -/
theorem needValid1 (b : Nat) (v0 v1 : Value) (sh da : List Int) (w : World) (hl0 : sh.length ≤ 1048576) (hl1 : da.length ≤ 1048576) (hb : b < w.heap.size) (c0 : w.cell? ⟨b, 0, none⟩ = some v0) (c1 : w.cell? ⟨b, 1, none⟩ = some v1)
    (h0 : Rd w.heap.size w v0 sh) (h1 : Rd w.heap.size w v1 da) :
    Calls Try.prog 44 #[.slice (some ⟨b, 0, none⟩) 1 1] w fun e w' => Below w.heap.size w w' ∧ ((Pl.okB sh da = true ∧ e = .returned (.tuple #[])) ∨ (Pl.okB sh da = false ∧ e = .panicked [thrown 9])) := by
  obtain ⟨a0, d0, e0⟩ := h0.form
  obtain ⟨a1, d1, e1⟩ := h1.form
  have H0 := hideP h0
  have H1 := hideP h1
  have HC0 := hideP c0
  have HC1 := hideP c1
  clear h0 h1 c0 c1
  go_enter Try.func44, Try.ntmps44
  go_wp2_with fail
  go_loopw [3, 6] (fun _ i wr => (i = .int .i64 0 ∨ (i = .int .i64 1 ∧ Hid (Pl.okB sh da = true))) ∧ Hid (Below w.heap.size w wr)) (fun _ i _ => 1 - (intOf i).toNat)
  case atStart => exact ⟨.inl rfl, Below.refl _ _⟩
  case round =>
    obtain ⟨rfl | ⟨rfl, hok⟩, hbel⟩ := hrel
    · have c0 : wr.cell? ⟨b, 0, none⟩ = some (.slice a0 sh.length d0) := by rw [← e0]; exact (hbel.out.cell (p := ⟨b, 0, none⟩) hb).trans HC0.out
      have c1 : wr.cell? ⟨b, 1, none⟩ = some (.slice a1 da.length d1) := by rw [← e1]; exact (hbel.out.cell (p := ⟨b, 1, none⟩) hb).trans HC1.out
      have K : Hid (∀ o, Calls Try.prog 14 #[.agg #[.slice a0 sh.length d0, .slice a1 da.length d1]] (wr.alloc o) fun e w' => e = .returned (.bool (Pl.okB sh da)) ∧ Below wr.heap.size wr w') := fun o => by
        rw [← e0, ← e1]
        exact ok_new v0 v1 sh da wr hl0 hl1 ((H0.out.keep hbel.out).up hbel.out.size) ((H1.out.keep hbel.out).up hbel.out.size) o
      have S : Hid (w.heap.size ≤ wr.heap.size) := hbel.out.size
      clear H0 H1 HC0 HC1 e0 e1
      go_wp2_with fail
      refine (K.out _).mono ?_
      rintro e w1 ⟨rfl, hb1⟩
      have B1 := hideP (hbel.out.trans (hb1.mono S.out))
      clear hb1 c0 c1
      by_cases hq : Pl.okB sh da = true
      · have Hq := hideP hq
        rw [hq]
        clear hq
        go_wp2_with (go_at_call 83; refine (refuse_no _ _).mono ?_; rintro e w' ⟨rfl, rfl⟩)
        go_roundw
        case rel => exact ⟨.inr ⟨rfl, Hq⟩, B1⟩
        case measure => simp [intOf]
      · have hq' : Pl.okB sh da = false := by simpa using hq
        have Hq := hideP hq'
        rw [hq']
        clear hq hq'
        go_wp2_with (go_at_call 83; refine (refuse_yes _ _).mono ?_; rintro e w' ⟨rfl, rfl⟩)
        exact ⟨rfl, B1.out, .inr ⟨Hq.out, rfl⟩⟩
    · clear H0 H1 HC0 HC1 e0 e1
      go_wp2_with fail
      go_end0
      exact ⟨hbel.out, .inl ⟨hok.out, rfl⟩⟩

end Go.Proofs.Ytmobjomebmipdaa
