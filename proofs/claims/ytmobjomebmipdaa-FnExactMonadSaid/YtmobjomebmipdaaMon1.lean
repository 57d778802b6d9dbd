import Derived.Test.YtmobjomebmipdaaCopied
import Derived.Test.YtmobjomebmipdaaFirst2
namespace Go.Proofs.Ytmobjomebmipdaa
open Go.RowKit
set_option linter.unusedVariables false

theorem own_lit (w w' : World) (x : Int) (hb : Below (w.heap.size + 1) (w.alloc (.cells #[.int .i64 x] 3)) w') : Own w.heap.size w' (.slice (some ⟨w.heap.size, 0, none⟩) 1 1) [x] := by
  have o : Own w.heap.size (w.alloc (.cells #[.int .i64 x] 3)) (.slice (some ⟨w.heap.size, 0, none⟩) 1 1) [x] := own_of_any (owns_one w x w.heap.size (Nat.le_refl _))
  exact o.keep (by have e : (w.alloc (.cells #[.int .i64 x] 3)).heap.size = w.heap.size + 1 := by simp
                   rw [e]; exact hb)

set_option maxRecDepth 100000 in
/-- impl.vector -/
theorem vector_any (ao : Option Addr) (cap n : Nat) (w : World) :
    Calls Try.prog 140 #[.slice ao n cap] w fun e w' => ∃ g, e = .returned (.agg #[.slice (some ⟨g, 0, none⟩) 1 1, .slice ao n cap]) ∧ Own w.heap.size w' (.slice (some ⟨g, 0, none⟩) 1 1) [(n : Int)] ∧ Below w.heap.size w w' := by
  have B : Hid (∀ o o', Below w.heap.size w ((w.alloc o).alloc o')) := fun o o' => ((Below.refl _ _).alloc (Nat.le_refl _) _).alloc (by simp) _
  have O : Hid (∀ o, Own (w.heap.size + 1) ((w.alloc o).alloc (.cells #[.int .i64 (n : Int)] 3)) (.slice (some ⟨w.heap.size + 1, 0, none⟩) 1 1) [(n : Int)]) := fun o => by
    have := own_lit (w.alloc o) ((w.alloc o).alloc (.cells #[.int .i64 (n : Int)] 3)) (n : Int) (Below.refl _ _)
    have e : (w.alloc o).heap.size = w.heap.size + 1 := by simp
    rw [e] at this
    exact this
  go_enter Try.func140, Try.ntmps140
  go_wp2_with fail
  refine bodyPost_ret (v := .agg #[.slice (some ⟨w.heap.size + 1, 0, none⟩) 1 1, .slice ao n cap]) (by simp [results, Try.results140, go_sem]) rfl ⟨w.heap.size + 1, rfl, ?_, ?_⟩
  · exact (O.out _).base (by omega)
  · exact B.out _ _

theorem apart_lo2 {B : Nat} {w : World} {u0 u1 : Value} {sh da : List Int} (h : Own B w u0 sh) (h1 : da.length = 0 ∨ ∀ b, u1.ownBlock = some b → b < B) : Apart u0 u1 sh da := by
  rcases h1 with h1 | h1
  · exact .inr (.inl h1)
  · exact apart_left h h1

set_option maxRecDepth 100000 in
set_option maxHeartbeats 2000000 in
/-- impl.shapeOf -/
theorem shapeOf_any (v0 v1 : Value) (sh da : List Int) (w : World) (hl0 : sh.length ≤ 1048576) (hl1 : da.length ≤ 1048576) (h0 : Rd w.heap.size w v0 sh) (h1 : Rd w.heap.size w v1 da) :
    Calls Try.prog 112 #[.agg #[v0, v1]] w (KPost w 0 [(sh.length : Int)] sh) := by
  have H0 := hideP h0
  have H1 := hideP h1
  obtain ⟨a0, d0, e0⟩ := h0.form
  obtain ⟨a1, d1, e1⟩ := h1.form
  subst e0
  subst e1
  clear h0 h1
  have PB : Hid (∀ W, Below (w.heap.size + 1 + 1) ((w.alloc (.cells #[.slice a0 sh.length d0, .slice a1 da.length d1] 27)).alloc (.cells #[.slice none 0 0, .slice none 0 0] 27)) W → (W.cell? ⟨w.heap.size, 0, none⟩ = some (.slice a0 sh.length d0) ∧ W.cell? ⟨w.heap.size, 1, none⟩ = some (.slice a1 da.length d1)) ∧ (W.cell? ⟨w.heap.size + 1, 0, none⟩ = some (.slice none 0 0) ∧ W.cell? ⟨w.heap.size + 1, 1, none⟩ = some (.slice none 0 0) ∧ ∀ o, W.frozen? ⟨w.heap.size + 1, o, none⟩ = false) ∧ Below w.heap.size w W) := fun W hb => boxes2 hb
  have KJ : Hid (∀ o o', Calls Try.prog 84 #[.slice (some ⟨w.heap.size + 1 + 1, 0, none⟩) 1 1] (((w.alloc o).alloc o').alloc (.cells #[.slice a0 sh.length d0] 22)) fun e w' => ∃ ao cap, e = .returned (.slice ao sh.length cap) ∧ Own (w.heap.size + 1 + 1 + 1) w' (.slice ao sh.length cap) sh ∧ Below (w.heap.size + 1 + 1) ((w.alloc o).alloc o') w') := fun o o' => by
    have k : Below w.heap.size w (((w.alloc o).alloc o').alloc (.cells #[.slice a0 sh.length d0] 22)) := below3 w _ _ _
    refine (joined1_own (w.heap.size + 1 + 1) _ sh _ (by omega) (by simp) (by simp [go_sem]) ((H0.out.keep k).up (by simp; omega))).mono ?_
    rintro e w' ⟨ao, cap, rfl, ho, hb⟩
    refine ⟨ao, cap, rfl, by simpa using ho, ?_⟩
    exact ((Below.refl _ _).alloc (by simp) _).trans (hb.mono (by simp))
  go_enter Try.func112, Try.ntmps112
  go_wp2_with fail
  refine (KJ.out _ _).mono ?_
  rintro e w1 ⟨ao, cap, rfl, ho1, hb1⟩
  have B1 := hideP hb1
  have O1 := hideP ho1
  have hs1 : w.heap.size + 1 + 1 ≤ w1.heap.size := by have := hb1.size; simpa using this
  clear hb1 ho1
  go_wp2_with fail
  refine (vector_any ao cap sh.length w1).mono ?_
  rintro e w2 ⟨g, rfl, ho2, hb2⟩
  have B2 := hideP (B1.out.trans (hb2.mono hs1))
  have X2 := hideP (PB.out _ B2.out)
  have OV := hideP (O1.out.keep hb2)
  have OS := hideP ho2
  have AP := hideP (apart_lo2 (u1 := .slice ao sh.length cap) (da := sh) ho2 O1.out.lt)
  have hs2 := hb2.size
  clear hb2 ho2
  have r0 := X2.out.2.1.1
  have r1 := X2.out.2.1.2.1
  have f2 := X2.out.2.1.2.2
  go_wp2_with fail
  refine bodyPost_ret (v := .agg #[.slice (some ⟨g, 0, none⟩) 1 1, .slice ao sh.length cap]) (by simp [results, Try.results112, go_sem, r0, r1]) rfl ⟨(X2.out.2.2.setCell (by simp) _).setCell (by simp) _, .inl ⟨rfl, _, _, rfl, ?_, ?_, AP.out⟩⟩
  · exact Own.base (Own.store (Own.store OS.out (by omega) _) (by omega) _) (by omega)
  · exact Own.base (Own.store (Own.store OV.out (by omega) _) (by omega) _) (by omega)

set_option maxRecDepth 100000 in
set_option maxHeartbeats 2000000 in
/-- impl.ravel -/
theorem ravel_any (v0 v1 : Value) (sh da : List Int) (w : World) (hl0 : sh.length ≤ 1048576) (hl1 : da.length ≤ 1048576) (h0 : Rd w.heap.size w v0 sh) (h1 : Rd w.heap.size w v1 da) :
    Calls Try.prog 113 #[.agg #[v0, v1]] w (KPost w 0 [(da.length : Int)] da) := by
  have H0 := hideP h0
  have H1 := hideP h1
  obtain ⟨a0, d0, e0⟩ := h0.form
  obtain ⟨a1, d1, e1⟩ := h1.form
  subst e0
  subst e1
  clear h0 h1
  have PB : Hid (∀ W, Below (w.heap.size + 1 + 1) ((w.alloc (.cells #[.slice a0 sh.length d0, .slice a1 da.length d1] 27)).alloc (.cells #[.slice none 0 0, .slice none 0 0] 27)) W → (W.cell? ⟨w.heap.size, 0, none⟩ = some (.slice a0 sh.length d0) ∧ W.cell? ⟨w.heap.size, 1, none⟩ = some (.slice a1 da.length d1)) ∧ (W.cell? ⟨w.heap.size + 1, 0, none⟩ = some (.slice none 0 0) ∧ W.cell? ⟨w.heap.size + 1, 1, none⟩ = some (.slice none 0 0) ∧ ∀ o, W.frozen? ⟨w.heap.size + 1, o, none⟩ = false) ∧ Below w.heap.size w W) := fun W hb => boxes2 hb
  have KJ : Hid (∀ o o', Calls Try.prog 84 #[.slice (some ⟨w.heap.size + 1 + 1, 0, none⟩) 1 1] (((w.alloc o).alloc o').alloc (.cells #[.slice a1 da.length d1] 22)) fun e w' => ∃ ao cap, e = .returned (.slice ao da.length cap) ∧ Own (w.heap.size + 1 + 1 + 1) w' (.slice ao da.length cap) da ∧ Below (w.heap.size + 1 + 1) ((w.alloc o).alloc o') w') := fun o o' => by
    have k : Below w.heap.size w (((w.alloc o).alloc o').alloc (.cells #[.slice a1 da.length d1] 22)) := below3 w _ _ _
    refine (joined1_own (w.heap.size + 1 + 1) _ da _ (by omega) (by simp) (by simp [go_sem]) ((H1.out.keep k).up (by simp; omega))).mono ?_
    rintro e w' ⟨ao, cap, rfl, ho, hb⟩
    refine ⟨ao, cap, rfl, by simpa using ho, ?_⟩
    exact ((Below.refl _ _).alloc (by simp) _).trans (hb.mono (by simp))
  go_enter Try.func113, Try.ntmps113
  go_wp2_with fail
  refine (KJ.out _ _).mono ?_
  rintro e w1 ⟨ao, cap, rfl, ho1, hb1⟩
  have B1 := hideP hb1
  have O1 := hideP ho1
  have hs1 : w.heap.size + 1 + 1 ≤ w1.heap.size := by have := hb1.size; simpa using this
  clear hb1 ho1
  go_wp2_with fail
  refine (vector_any ao cap da.length w1).mono ?_
  rintro e w2 ⟨g, rfl, ho2, hb2⟩
  have B2 := hideP (B1.out.trans (hb2.mono hs1))
  have X2 := hideP (PB.out _ B2.out)
  have OV := hideP (O1.out.keep hb2)
  have OS := hideP ho2
  have AP := hideP (apart_lo2 (u1 := .slice ao da.length cap) (da := da) ho2 O1.out.lt)
  have hs2 := hb2.size
  clear hb2 ho2
  have r0 := X2.out.2.1.1
  have r1 := X2.out.2.1.2.1
  have f2 := X2.out.2.1.2.2
  go_wp2_with fail
  refine bodyPost_ret (v := .agg #[.slice (some ⟨g, 0, none⟩) 1 1, .slice ao da.length cap]) (by simp [results, Try.results113, go_sem, r0, r1]) rfl ⟨(X2.out.2.2.setCell (by simp) _).setCell (by simp) _, .inl ⟨rfl, _, _, rfl, ?_, ?_, AP.out⟩⟩
  · exact Own.base (Own.store (Own.store OS.out (by omega) _) (by omega) _) (by omega)
  · exact Own.base (Own.store (Own.store OV.out (by omega) _) (by omega) _) (by omega)

end Go.Proofs.Ytmobjomebmipdaa
