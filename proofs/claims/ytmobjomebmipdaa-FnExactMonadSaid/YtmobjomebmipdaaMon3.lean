import Derived.Test.YtmobjomebmipdaaMon2
namespace Go.Proofs.Ytmobjomebmipdaa
open Go.RowKit
set_option linter.unusedVariables false

namespace Pl
def iotaM (sh da : List Int) : Int × List Int × List Int :=
  if ¬ sh.length = 0 then (2, [], []) else if da.getD 0 0 < 0 then (1, [], []) else if 1000 < da.getD 0 0 then (6, [], []) else (0, [da.getD 0 0], iotaL (da.getD 0 0).toNat)
end Pl

theorem refuse_f (b : Bool) (hb : b = false) (c : Int) (w : World) : Calls Try.prog 83 #[.bool b, .int .i64 c] w fun e w' => e = .returned (.tuple #[]) ∧ w' = w := by subst hb; exact refuse_no c w
theorem refuse_t (b : Bool) (hb : b = true) (c : Int) (w : World) : Calls Try.prog 83 #[.bool b, .int .i64 c] w fun e w' => e = .panicked [thrown c] ∧ w' = w := by subst hb; exact refuse_yes c w

set_option maxRecDepth 100000 in
set_option maxHeartbeats 2000000 in
/-- impl.countUp -/
theorem countUp_any (v0 v1 : Value) (sh da : List Int) (w : World) (hok : Pl.okB sh da = true) (h0 : Rd w.heap.size w v0 sh) (h1 : Rd w.heap.size w v1 da) (c : Int) (S D : List Int) (hres : Pl.iotaM sh da = (c, S, D)) :
    Calls Try.prog 111 #[.agg #[v0, v1]] w (KPost w c S D) := by
  have KS : Hid (∀ w', Calls Try.prog 91 #[.agg #[v0, v1]] w' fun e w'' => e = .returned (.bool (decide (sh.length = 0))) ∧ Below w'.heap.size w' w'') := fun w' => isScalar_any _ _ sh w.heap.size w' w h0
  obtain ⟨a0, d0, e0⟩ := h0.form
  obtain ⟨a1, d1, b1, o1, e1, hao1, hb1, hc1⟩ := h1.parts
  subst e0
  subst e1
  have PB : Hid (∀ W, Below (w.heap.size + 1 + 1) ((w.alloc (.cells #[.slice a0 sh.length d0, .slice a1 da.length d1] 27)).alloc (.cells #[.slice none 0 0, .slice none 0 0] 27)) W → (W.cell? ⟨w.heap.size, 0, none⟩ = some (.slice a0 sh.length d0) ∧ W.cell? ⟨w.heap.size, 1, none⟩ = some (.slice a1 da.length d1)) ∧ (W.cell? ⟨w.heap.size + 1, 0, none⟩ = some (.slice none 0 0) ∧ W.cell? ⟨w.heap.size + 1, 1, none⟩ = some (.slice none 0 0) ∧ ∀ o, W.frozen? ⟨w.heap.size + 1, o, none⟩ = false) ∧ Below w.heap.size w W) := fun W hb => boxes2 hb
  unfold Pl.iotaM at hres
  by_cases hsl : sh.length = 0
  · have KS' : Hid (∀ w', Calls Try.prog 91 #[.agg #[.slice a0 sh.length d0, .slice a1 da.length d1]] w' fun e w'' => e = .returned (.bool true) ∧ Below w'.heap.size w' w'') := fun w' => by have := KS.out w'; rw [decide_eq_true hsl] at this; exact this
    rw [if_neg (fun h => h hsl)] at hres
    have hd1 := Pl.ok_one hok hsl
    have hao := hao1 (by omega)
    have hbl := hb1 (by omega)
    have hce := hc1 0 (by omega)
    rw [Nat.add_zero] at hce
    have hdl : 1 ≤ da.length := by omega
    subst hao
    generalize da.getD 0 0 = x at *
    have HCE := hideP hce
    clear h0 h1 hok KS hsl hao1 hb1 hc1 hce hd1
    generalize sh.length = L at *
    generalize da.length = M at *
    go_enter Try.func111, Try.ntmps111
    go_wp2_with fail
    refine (KS'.out _).mono ?_
    rintro e w1 ⟨rfl, hb1⟩
    have B1 := hideP (show Below (w.heap.size + 1 + 1) _ w1 from hb1.mono (by simp))
    have X1 := hideP (PB.out _ B1.out)
    have hs1 : w.heap.size + 1 + 1 ≤ w1.heap.size := by have := hb1.size; simpa using this
    clear hb1
    have c11 := X1.out.1.2
    have cx : w1.cell? ⟨b1, o1, none⟩ = some (.int .i64 x) := (X1.out.2.2.cell (p := ⟨b1, o1, none⟩) hbl).trans HCE.out
    by_cases hx0 : x < 0
    · rw [if_pos hx0] at hres
      simp only [Prod.mk.injEq] at hres
      obtain ⟨rfl, rfl, rfl⟩ := hres
      go_wp2_with (first | (go_at_call 83; refine (refuse_no 2 _).mono ?_; rintro e w1 ⟨rfl, rfl⟩) | (go_at_call 83; refine (refuse_t (decide (x < 0)) (decide_eq_true hx0) 1 _).mono ?_; rintro e w1 ⟨rfl, rfl⟩) | (go_at_call 83; refine (refuse_yes 1 _).mono ?_; rintro e w1 ⟨rfl, rfl⟩))
      exact ⟨rfl, X1.out.2.2, .inr ⟨by decide, rfl, rfl, rfl⟩⟩
    · rw [if_neg hx0] at hres
      by_cases hx1 : 1000 < x
      · rw [if_pos hx1] at hres
        simp only [Prod.mk.injEq] at hres
        obtain ⟨rfl, rfl, rfl⟩ := hres
        have HX0 := hideP (decide_eq_false hx0)
        have HX1 := hideP (decide_eq_true hx1)
        go_wp2_with (first | (go_at_call 83; refine (refuse_no 2 _).mono ?_; rintro e w1 ⟨rfl, rfl⟩) | (go_at_call 83; refine (refuse_f (decide (x < 0)) HX0.out 1 _).mono ?_; rintro e w1 ⟨rfl, rfl⟩) | (go_at_call 83; refine (refuse_t (decide (1000 < x)) HX1.out 6 _).mono ?_; rintro e w1 ⟨rfl, rfl⟩) | (go_at_call 83; refine (refuse_yes 6 _).mono ?_; rintro e w1 ⟨rfl, rfl⟩))
        exact ⟨rfl, X1.out.2.2, .inr ⟨by decide, rfl, rfl, rfl⟩⟩
      · rw [if_neg hx1] at hres
        obtain ⟨n, rfl⟩ := Int.eq_ofNat_of_zero_le (show 0 ≤ x by omega)
        rw [Int.toNat_natCast] at hres
        simp only [Prod.mk.injEq] at hres
        obtain ⟨rfl, rfl, rfl⟩ := hres
        have hn : n ≤ 1000 := by omega
        have HX0 := hideP (decide_eq_false hx0)
        have HX1 := hideP (decide_eq_false hx1)
        go_wp2_with (first | (go_at_call 83; refine (refuse_no 2 _).mono ?_; rintro e w1 ⟨rfl, rfl⟩) | (go_at_call 83; refine (refuse_f (decide ((n : Int) < 0)) HX0.out 1 _).mono ?_; rintro e w1 ⟨rfl, rfl⟩) | (go_at_call 83; refine (refuse_f (decide (1000 < (n : Int))) HX1.out 6 _).mono ?_; rintro e w1 ⟨rfl, rfl⟩))
        refine (positions_any n w1 hn).mono ?_
        rintro e w2 ⟨rfl, ho2, hb2⟩
        have B2 := hideP (B1.out.trans (hb2.mono hs1))
        have O2 := hideP (own_of_any ho2)
        have hs2 := hb2.size
        clear ho2 hb2 c11 cx
        go_wp2_with fail
        refine (vector_any _ n n w2).mono ?_
        rintro e w3 ⟨g, rfl, ho3, hb3⟩
        have B3 := hideP (B2.out.trans (hb3.mono (by omega)))
        have X3 := hideP (PB.out _ B3.out)
        have OV := hideP (O2.out.keep hb3)
        have OS := hideP ho3
        have AP := hideP (apart_lo2 (da := Pl.iotaL n) ho3 O2.out.lt)
        have hs3 := hb3.size
        clear ho3 hb3
        have r0 := X3.out.2.1.1
        have r1 := X3.out.2.1.2.1
        have f2 := X3.out.2.1.2.2
        go_wp2_with fail
        refine bodyPost_ret (v := .agg #[.slice (some ⟨g, 0, none⟩) 1 1, .slice (some ⟨w1.heap.size, 0, none⟩) n n]) (by simp [results, Try.results111, go_sem, r0, r1]) rfl ⟨(X3.out.2.2.setCell (by simp) _).setCell (by simp) _, .inl ⟨rfl, _, _, rfl, ?_, ?_, AP.out⟩⟩
        · exact Own.base (Own.store (Own.store OS.out (by omega) _) (by omega) _) (by omega)
        · exact Own.base (Own.store (Own.store OV.out (by omega) _) (by omega) _) (by omega)
  · have KS' : Hid (∀ w', Calls Try.prog 91 #[.agg #[.slice a0 sh.length d0, .slice a1 da.length d1]] w' fun e w'' => e = .returned (.bool false) ∧ Below w'.heap.size w' w'') := fun w' => by have := KS.out w'; rw [decide_eq_false hsl] at this; exact this
    rw [if_pos hsl] at hres
    simp only [Prod.mk.injEq] at hres
    obtain ⟨rfl, rfl, rfl⟩ := hres
    clear h0 h1 hok KS hsl hao1 hb1 hc1
    generalize sh.length = L at *
    generalize da.length = M at *
    go_enter Try.func111, Try.ntmps111
    go_wp2_with fail
    refine (KS'.out _).mono ?_
    rintro e w1 ⟨rfl, hb1⟩
    have X1 := hideP (PB.out _ (show Below (w.heap.size + 1 + 1) _ w1 from hb1.mono (by simp)))
    clear hb1
    go_wp2_with (go_at_call 83; refine (refuse_yes _ _).mono ?_; rintro e w1 ⟨rfl, rfl⟩)
    exact ⟨rfl, X1.out.2.2, .inr ⟨by decide, rfl, rfl, rfl⟩⟩

end Go.Proofs.Ytmobjomebmipdaa
