import Derived.Test.YtaopohihipihdaaGreatDoorDy3
import Derived.Test.YtaopohihipihdaaGreatDoorLies
import Derived.Test.YtaopohihipihdaaGreatDoorEnv2
import Derived.Deep.RegionWith
import Derived.Test.YtaopohihipihdaaGreatDoorRowG
import Derived.Test.YtaopohihipihdaaGreatDoorFirst2
namespace Go.Proofs.YtaopohihipihdaaGreatDoor
open Go.RowKit
set_option linter.unusedVariables false

/-- all blocks but two are as they were -/
def Keep (w0 : World) (P : Nat) (row : Option Nat) (w : World) : Prop := w0.heap.size ≤ w.heap.size ∧ ∀ b, b < w0.heap.size → ¬ b = P → ¬ row = some b → w.heap[b]? = w0.heap[b]?
theorem Keep.refl (w0 : World) (P : Nat) (row : Option Nat) : Keep w0 P row w0 := ⟨Nat.le_refl _, fun _ _ _ _ => rfl⟩
theorem Keep.grown {w0 w w' : World} {P : Nat} {row : Option Nat} (h : Keep w0 P row w) (hg : w.grownBy w' row) : Keep w0 P row w' := by
  refine ⟨Nat.le_trans h.1 hg.size, fun b hb h1 h2 => ?_⟩
  rw [← h.2 b hb h1 h2]
  exact hg.block b (by have := h.1; omega) (fun e => h2 e.symm)
theorem Keep.below {w0 w w' : World} {P : Nat} {row : Option Nat} (h : Keep w0 P row w) (hb : Below w.heap.size w w') : Keep w0 P row w' := by
  refine ⟨Nat.le_trans h.1 hb.size, fun b hlt h1 h2 => ?_⟩
  rw [← h.2 b hlt h1 h2]
  exact (grown_of_below hb).block b (by have := h.1; omega) (by simp)
theorem Keep.set {w0 w : World} {P o : Nat} {row : Option Nat} (h : Keep w0 P row w) (v : Value) : Keep w0 P row (w.setCell ⟨P, o, none⟩ v) := by
  refine ⟨by simpa using h.1, fun b hb h1 h2 => ?_⟩
  rw [← h.2 b hb h1 h2]
  exact heap_setCell_other _ _ _ _ h1
theorem Keep.cell {w0 w : World} {P b o : Nat} {row : Option Nat} {v : Value} (h : Keep w0 P row w) (h1 : ¬ b = P) (h2 : ¬ row = some b) (hc : w0.cell? ⟨b, o, none⟩ = some v) : w.cell? ⟨b, o, none⟩ = some v := by
  have hb := World.block_lt_of_cell? w0 _ hc
  rw [← hc]
  exact World.cell?_of_block (h.2 b hb h1 h2)

end Go.Proofs.YtaopohihipihdaaGreatDoor

namespace Go.Proofs.YtaopohihipihdaaGreatDoor
open Go.RowKit
set_option linter.unusedVariables false

theorem Pl.cons_tail (sb : List Int) (h : ¬ sb.length = 0) : sb.getD 0 0 :: sb.tail = sb := by
  cases sb with
  | nil => simp at h
  | cons x l => rfl

set_option maxRecDepth 100000 in
set_option maxHeartbeats 4000000 in
/-- impl.from of valid arrays -/
theorem from_any (a0 : Option Addr) (k0 : Nat) (a1 : Option Addr) (k1 : Nat) (a2 : Option Addr) (k2 : Nat) (a3 : Option Addr) (k3 : Nat) (sa da sb db : List Int) (w : World) (h0 : Rd w.heap.size w (.slice a0 sa.length k0) sa) (h1 : Rd w.heap.size w (.slice a1 da.length k1) da) (h2 : Rd w.heap.size w (.slice a2 sb.length k2) sb) (h3 : Rd w.heap.size w (.slice a3 db.length k3) db)
    (hk2 : sb.length ≤ k2) (hk2' : k2 ≤ 9223372036854775807) (hk3 : db.length ≤ k3) (hk3' : 0 < db.length → k3 ≤ 9223372036854775807) (oka : Pl.okB sa da = true) (okb : Pl.okB sb db = true) (c : Int) (S D : List Int) (hres : Pl.fromM sa da sb db = (c, S, D)) :
    Calls Tryz.prog 54 #[.agg #[.slice a0 sa.length k0, .slice a1 da.length k1], .agg #[.slice a2 sb.length k2, .slice a3 db.length k3]] w (KPost w c S D) := by
  have e := hres
  unfold Pl.fromM at e
  by_cases hsb : sb.length = 0
  · rw [if_pos hsb] at e
    simp only [Prod.mk.injEq] at e
    obtain ⟨rfl, rfl, rfl⟩ := e
    have KB : Hid (∀ w', Calls Tryz.prog 63 #[.agg #[.slice a2 sb.length k2, .slice a3 db.length k3]] w' fun e w'' => e = .returned (.bool true) ∧ Below w'.heap.size w' w'') := fun w' => by
      have := isScalar_any _ (.slice a3 db.length k3) sb _ w' w h2
      rw [decide_eq_true hsb] at this
      exact this
    have W0 := hideP (wid_new w h0 h1 h2 h3 25 25 25)
    clear h0 h1 h2 h3 oka okb hres hsb
    generalize sb.length = lb at *
    go_enter Tryz.func54, Tryz.ntmps54
    go_wp2_with fail
    refine (KB.out _).mono ?_
    rintro e w1 ⟨rfl, hb1⟩
    have BW := hideP (W0.out.keep hb1).1
    clear hb1
    go_wp2_with (go_at_call 36; refine (refuse_yes _ _).mono ?_; rintro e w1 ⟨rfl, rfl⟩)
    exact ⟨rfl, BW.out, .inr ⟨by decide, rfl, rfl, rfl⟩⟩
  · rw [if_neg hsb] at e
    obtain ⟨n, hn⟩ : ∃ n : Nat, sb.getD 0 0 = n := by
      have := (Pl.ok_len okb).2
      simp only [Pl.fitsB, Pl.baseB, Bool.and_eq_true] at this
      have := Pl.inR_bd (Pl.all_getD this.1.2 (k := 0) (by omega))
      exact ⟨(sb.getD 0 0).toNat, by omega⟩
    have sb' : (n : Int) :: sb.tail = sb := by
      rw [← hn]
      exact Pl.cons_tail sb hsb
    have lb' : sb.length = sb.tail.length + 1 := by rw [List.length_tail]; omega
    rw [hn] at e
    obtain ⟨b2, p2, rfl⟩ := rd_some h2 (by omega)
    rw [lb']
    refine from_core a0 k0 a1 k1 b2 p2 k2 a3 k3 sa da sb.tail db n w h0 h1 ?_ h3 (by omega) hk2' hk3 hk3' oka (by rw [sb']; exact okb) c S D e
    rw [← lb', sb']
    exact h2

end Go.Proofs.YtaopohihipihdaaGreatDoor

namespace Go.Proofs.YtaopohihipihdaaGreatDoor
open Go.RowKit
set_option linter.unusedVariables false

set_option maxRecDepth 100000 in
set_option maxHeartbeats 2000000 in
/-- impl.withAxes, and where the lists lie -/
theorem withAxes_gen (a2 : Option Addr) (k2 : Nat) (a3 : Option Addr) (k3 : Nat) (sh da : List Int) (w : World) (h0 : Rd w.heap.size w (.slice a2 sh.length k2) sh) (h1 : Rd w.heap.size w (.slice a3 da.length k3) da) (hk2 : sh.length ≤ k2) (hk2' : k2 ≤ 9223372036854775807) :
    Calls Tryz.prog 75 #[.agg #[.slice a2 sh.length k2, .slice a3 da.length k3]] w fun e w' => ∃ g og cg, e = .returned (.agg #[.slice (some ⟨g, og, none⟩) (Pl.axesS sh da).length cg, .slice a3 da.length k3]) ∧ Rd w'.heap.size w' (.slice (some ⟨g, og, none⟩) (Pl.axesS sh da).length cg) (Pl.axesS sh da) ∧ Below w.heap.size w w' ∧ ((Pl.axesS sh da).length ≤ cg ∧ cg ≤ 9223372036854775807) ∧ ((a2 = some ⟨g, og, none⟩ ∧ ¬ sh.length = 0) ∨ w.heap.size ≤ g) := by
  have H0 := hideP h0
  have H1 := hideP h1
  have KS : Hid (∀ w', Calls Tryz.prog 63 #[.agg #[.slice a2 sh.length k2, .slice a3 da.length k3]] w' fun e w'' => e = .returned (.bool (decide (sh.length = 0))) ∧ Below w'.heap.size w' w'') := fun w' => isScalar_any _ _ sh w.heap.size w' w h0
  have PB : Hid (∀ W, Below (w.heap.size + 1 + 1) ((w.alloc (.cells #[.slice a2 sh.length k2, .slice a3 da.length k3] 25)).alloc (.cells #[.slice none 0 0, .slice none 0 0] 25)) W → (W.cell? ⟨w.heap.size, 0, none⟩ = some (.slice a2 sh.length k2) ∧ W.cell? ⟨w.heap.size, 1, none⟩ = some (.slice a3 da.length k3)) ∧ (W.cell? ⟨w.heap.size + 1, 0, none⟩ = some (.slice none 0 0) ∧ W.cell? ⟨w.heap.size + 1, 1, none⟩ = some (.slice none 0 0) ∧ ∀ o, W.frozen? ⟨w.heap.size + 1, o, none⟩ = false) ∧ Below w.heap.size w W) := fun W hb => boxes2 hb
  unfold Pl.axesS
  by_cases hsl : sh.length = 0
  · have KS' : Hid (∀ w', Calls Tryz.prog 63 #[.agg #[.slice a2 sh.length k2, .slice a3 da.length k3]] w' fun e w'' => e = .returned (.bool true) ∧ Below w'.heap.size w' w'') := fun w' => by have := KS.out w'; rw [decide_eq_true hsl] at this; exact this
    rw [if_pos hsl]
    clear h0 h1 KS hsl
    go_enter Tryz.func75, Tryz.ntmps75
    go_wp2_with fail
    refine (KS'.out _).mono ?_
    rintro e w1 ⟨rfl, hb1⟩
    have B1 := hideP (show Below (w.heap.size + 1 + 1) _ w1 from hb1.mono (by simp))
    have hs1 : w.heap.size + 1 + 1 ≤ w1.heap.size := by have := hb1.size; simpa using this
    have c11 := (PB.out _ B1.out).1.2
    clear hb1
    go_wp2_with fail
    refine (vector_any a3 k3 da.length w1).mono ?_
    rintro e w2 ⟨g, rfl, ho2, hb2⟩
    have B2 := hideP (B1.out.trans (hb2.mono hs1))
    have X2 := hideP (PB.out _ B2.out)
    have OS := hideP ho2
    have hs2 := hb2.size
    clear ho2 hb2 c11
    have r0 := X2.out.2.1.1
    have r1 := X2.out.2.1.2.1
    have f2 := X2.out.2.1.2.2
    have BW : Hid (∀ x y, Below w.heap.size w ((w2.setCell ⟨w.heap.size + 1, 0, none⟩ x).setCell ⟨w.heap.size + 1, 1, none⟩ y)) := fun x y => (X2.out.2.2.setCell (by simp) _).setCell (by simp) _
    go_wp2_with fail
    refine bodyPost_ret (v := .agg #[.slice (some ⟨g, 0, none⟩) 1 1, .slice a3 da.length k3]) (by simp [results, Tryz.results75, go_sem, r0, r1]) rfl ⟨_, _, _, rfl, ?_, BW.out _ _, ⟨Nat.le_refl _, by simp⟩, .inr ?_⟩
    · exact (Own.store (Own.store OS.out (by omega) _) (by omega) _).rd
    · obtain ⟨ao, cap, e, h⟩ := OS.out
      rcases h with h | ⟨g', off, hB, _, e', _⟩
      · simp at h
      · simp only [Value.slice.injEq] at e
        have e2 := e.1.trans e'
        simp only [Option.some.injEq, Addr.mk.injEq] at e2
        omega
  · have KS' : Hid (∀ w', Calls Tryz.prog 63 #[.agg #[.slice a2 sh.length k2, .slice a3 da.length k3]] w' fun e w'' => e = .returned (.bool false) ∧ Below w'.heap.size w' w'') := fun w' => by have := KS.out w'; rw [decide_eq_false hsl] at this; exact this
    rw [if_neg hsl]
    have HSL := hideP hsl
    obtain ⟨b2, o2, rfl⟩ := rd_some h0 (by omega)
    clear h0 h1 KS hsl
    go_enter Tryz.func75, Tryz.ntmps75
    go_wp2_with fail
    refine (KS'.out _).mono ?_
    rintro e w1 ⟨rfl, hb1⟩
    have X1 := hideP (PB.out _ (show Below (w.heap.size + 1 + 1) _ w1 from hb1.mono (by simp)))
    have hs1 : w.heap.size + 1 + 1 ≤ w1.heap.size := by have := hb1.size; simpa using this
    clear hb1
    have c10 := X1.out.1.1
    have c11 := X1.out.1.2
    have r0 := X1.out.2.1.1
    have r1 := X1.out.2.1.2.1
    have f2 := X1.out.2.1.2.2
    have BW : Hid (∀ x y, Below w.heap.size w ((w1.setCell ⟨w.heap.size + 1, 0, none⟩ x).setCell ⟨w.heap.size + 1, 1, none⟩ y)) := fun x y => (X1.out.2.2.setCell (by simp) _).setCell (by simp) _
    go_wp2_with fail
    refine bodyPost_ret (v := .agg #[.slice (some ⟨b2, o2, none⟩) sh.length k2, .slice a3 da.length k3]) (by simp [results, Tryz.results75, go_sem, r0, r1]) rfl ⟨_, _, _, rfl, ?_, BW.out _ _, ⟨hk2, hk2'⟩, .inl ⟨rfl, HSL.out⟩⟩
    · exact (H0.out.keep (BW.out _ _)).up (BW.out _ _).size

set_option maxRecDepth 100000 in
set_option maxHeartbeats 2000000 in
/-- impl.withAxes of an array that has axes -/
theorem withAxes_id (a2 : Option Addr) (k2 : Nat) (a3 : Option Addr) (k3 : Nat) (sh da : List Int) (w : World) (h0 : Rd w.heap.size w (.slice a2 sh.length k2) sh) (hsl : ¬ sh.length = 0) :
    Calls Tryz.prog 75 #[.agg #[.slice a2 sh.length k2, .slice a3 da.length k3]] w fun e w' => e = .returned (.agg #[.slice a2 sh.length k2, .slice a3 da.length k3]) ∧ Below w.heap.size w w' := by
  have KS : Hid (∀ w', Calls Tryz.prog 63 #[.agg #[.slice a2 sh.length k2, .slice a3 da.length k3]] w' fun e w'' => e = .returned (.bool false) ∧ Below w'.heap.size w' w'') := fun w' => by
    have := isScalar_any _ (.slice a3 da.length k3) sh w.heap.size w' w h0
    rw [decide_eq_false hsl] at this
    exact this
  have PB : Hid (∀ W, Below (w.heap.size + 1 + 1) ((w.alloc (.cells #[.slice a2 sh.length k2, .slice a3 da.length k3] 25)).alloc (.cells #[.slice none 0 0, .slice none 0 0] 25)) W → (W.cell? ⟨w.heap.size, 0, none⟩ = some (.slice a2 sh.length k2) ∧ W.cell? ⟨w.heap.size, 1, none⟩ = some (.slice a3 da.length k3)) ∧ (W.cell? ⟨w.heap.size + 1, 0, none⟩ = some (.slice none 0 0) ∧ W.cell? ⟨w.heap.size + 1, 1, none⟩ = some (.slice none 0 0) ∧ ∀ o, W.frozen? ⟨w.heap.size + 1, o, none⟩ = false) ∧ Below w.heap.size w W) := fun W hb => boxes2 hb
  clear h0 hsl
  go_enter Tryz.func75, Tryz.ntmps75
  go_wp2_with fail
  refine (KS.out _).mono ?_
  rintro e w1 ⟨rfl, hb1⟩
  have X1 := hideP (PB.out _ (show Below (w.heap.size + 1 + 1) _ w1 from hb1.mono (by simp)))
  have hs1 : w.heap.size + 1 + 1 ≤ w1.heap.size := by have := hb1.size; simpa using this
  clear hb1
  have c10 := X1.out.1.1
  have c11 := X1.out.1.2
  have r0 := X1.out.2.1.1
  have r1 := X1.out.2.1.2.1
  have f2 := X1.out.2.1.2.2
  have BW : Hid (∀ x y, Below w.heap.size w ((w1.setCell ⟨w.heap.size + 1, 0, none⟩ x).setCell ⟨w.heap.size + 1, 1, none⟩ y)) := fun x y => (X1.out.2.2.setCell (by simp) _).setCell (by simp) _
  go_wp2_with fail
  exact bodyPost_ret (v := .agg #[.slice a2 sh.length k2, .slice a3 da.length k3]) (by simp [results, Tryz.results75, go_sem, r0, r1]) rfl ⟨rfl, BW.out _ _⟩

end Go.Proofs.YtaopohihipihdaaGreatDoor
