import Derived.Test.YtmobjomebmipdaaMonT
namespace Go.Proofs.Ytmobjomebmipdaa
open Go.RowKit
set_option linter.unusedVariables false

namespace Pl
/-- one of seven numbers, a valid array; else BadArray -/
def mo8 (M : List Int → List Int → Int × List Int × List Int) (op : Int) (sh da : List Int) : Int × List Int × List Int := if 1 ≤ op ∧ op < 8 ∧ okB sh da = true then M sh da else (9, [], [])
theorem mo8_no {M : List Int → List Int → Int × List Int × List Int} {op : Int} {sh da : List Int} (h : ¬ (1 ≤ op ∧ op < 8 ∧ okB sh da = true)) : mo8 M op sh da = (9, [], []) := by unfold mo8; rw [if_neg h]
theorem mo8_yes {M : List Int → List Int → Int × List Int × List Int} {op : Int} {sh da : List Int} (h : 1 ≤ op ∧ op < 8 ∧ okB sh da = true) : mo8 M op sh da = M sh da := by unfold mo8; rw [if_pos h]
end Pl

theorem callF60 (args : Array Value) (w : World) : (callFunc 60 args).run Try.prog w = .ok (.enter 60 args) w := by kernel_rfl
theorem callF111 (args : Array Value) (w : World) : (callFunc 111 args).run Try.prog w = .ok (.enter 111 args) w := by kernel_rfl
theorem callF112 (args : Array Value) (w : World) : (callFunc 112 args).run Try.prog w = .ok (.enter 112 args) w := by kernel_rfl
theorem callF113 (args : Array Value) (w : World) : (callFunc 113 args).run Try.prog w = .ok (.enter 113 args) w := by kernel_rfl
theorem callF114 (args : Array Value) (w : World) : (callFunc 114 args).run Try.prog w = .ok (.enter 114 args) w := by kernel_rfl
theorem callF115 (args : Array Value) (w : World) : (callFunc 115 args).run Try.prog w = .ok (.enter 115 args) w := by kernel_rfl
theorem callF116 (args : Array Value) (w : World) : (callFunc 116 args).run Try.prog w = .ok (.enter 116 args) w := by kernel_rfl
theorem callF117 (args : Array Value) (w : World) : (callFunc 117 args).run Try.prog w = .ok (.enter 117 args) w := by kernel_rfl
theorem callM (k : Nat) (h0 : 1 ≤ k) (h1 : k < 8) (args : Array Value) (w : World) : (callFunc (110 + k) args).run Try.prog w = .ok (.enter (110 + k) args) w := by
  have hk : k = 1 ∨ k = 2 ∨ k = 3 ∨ k = 4 ∨ k = 5 ∨ k = 6 ∨ k = 7 := by omega
  rcases hk with rfl | rfl | rfl | rfl | rfl | rfl | rfl
  · exact callF111 args w
  · exact callF112 args w
  · exact callF113 args w
  · exact callF114 args w
  · exact callF115 args w
  · exact callF116 args w
  · exact callF117 args w

set_option maxRecDepth 100000 in
set_option maxHeartbeats 4000000 in
theorem mc_all (pa po : Nat) (op : Int) (v0 v1 : Value) (sa da : List Int) (w : World) (hl0 : sa.length ≤ 1048576) (hl1 : da.length ≤ 1048576) (h0 : Rd w.heap.size w v0 sa) (h1 : Rd w.heap.size w v1 da)
    (ca0 : w.cell? ⟨pa, 0, none⟩ = some v0) (ca1 : w.cell? ⟨pa, 1, none⟩ = some v1) (co : w.cell? ⟨po, 0, none⟩ = some (.int .i64 op)) (M : List Int → List Int → Int × List Int × List Int) (c : Int) (S D : List Int) (hres : Pl.mo8 M op sa da = (c, S, D))
    (hk : ∀ k : Nat, op = k → 1 ≤ k → k < 8 → Pl.okB sa da = true → M sa da = (c, S, D) → ∀ w', Below w.heap.size w w' → Calls Try.prog (110 + k) #[.agg #[v0, v1]] w' (KPost w' c S D)) :
    Calls Try.prog 60 #[.pointer (some ⟨pa, 0, none⟩), .pointer (some ⟨po, 0, none⟩)] w (KPost w c S D) := by
  have hpa := World.block_lt_of_cell? w ⟨pa, 0, none⟩ ca0
  have hpo := World.block_lt_of_cell? w ⟨po, 0, none⟩ co
  simp only at hpa hpo
  have A : Hid (∀ o, Below w.heap.size w (w.alloc o)) := fun o => (Below.refl _ _).alloc (Nat.le_refl _) _
  have K := hideP (valid1_new v0 v1 sa da w hl0 hl1 h0 h1)
  have HKK := hideP hk
  have HR := hideP hres
  obtain ⟨a0, d0, e0⟩ := h0.form
  obtain ⟨a1, d1, e1⟩ := h1.form
  subst e0
  subst e1
  clear h0 h1 hk hres
  have ne : ¬ pa = w.heap.size := by omega
  go_enter Try.func60, Try.ntmps60
  go_wp2_with fail
  refine (K.out _ _).mono ?_
  rintro e w1 ⟨hb, ⟨hq, rfl⟩ | ⟨hq, rfl⟩⟩
  · have hb' := (A.out (.cells #[.slice none 0 0, .slice none 0 0] 27)).trans (hb.mono (by omega))
    have hs := hb.size
    simp at hs
    have B1 := hideP hb'.drew
    have HQ := hideP hq
    have CR : Hid (w1.drew.cell? ⟨w.heap.size, 0, none⟩ = some (.slice none 0 0) ∧ w1.drew.cell? ⟨w.heap.size, 1, none⟩ = some (.slice none 0 0) ∧ ∀ o, w1.drew.frozen? ⟨w.heap.size, o, none⟩ = false) :=
      ⟨(hb.cell (p := ⟨w.heap.size, 0, none⟩) (by show w.heap.size < _; omega)).trans (by simp [go_sem]), (hb.cell (p := ⟨w.heap.size, 1, none⟩) (by show w.heap.size < _; omega)).trans (by simp [go_sem]), fun o => (hb.frozen (p := ⟨w.heap.size, o, none⟩) (by show w.heap.size < _; omega)).trans (by simp [go_sem])⟩
    have L0 : ∀ w', Below w.heap.size w w' → w'.cell? ⟨po, 0, none⟩ = some (.int .i64 op) := fun w' h => (h.cell (p := ⟨po, 0, none⟩) hpo).trans co
    have L1 : ∀ w', Below w.heap.size w w' → w'.cell? ⟨pa, 0, none⟩ = some (.slice a0 sa.length d0) := fun w' h => (h.cell (p := ⟨pa, 0, none⟩) hpa).trans ca0
    have L2 : ∀ w', Below w.heap.size w w' → w'.cell? ⟨pa, 1, none⟩ = some (.slice a1 da.length d1) := fun w' h => (h.cell (p := ⟨pa, 1, none⟩) hpa).trans ca1
    clear hb hb' ca0 ca1 co hq K
    go_wp2_with fail
    refine wp_region_held (S := fun w' => Below w.heap.size w w') (by kernel_rfl) ?_
    change wpAnyH _ _ _ _ _ _ _ _ (World.drew _)
    refine wpAnyH_take (i := 0) (v := .int .i64 op) rfl (by kernel_rfl) (by kernel_rfl) (by kernel_rfl) (fun _ _ _ h => h) (Or.inl ⟨by rfl, ?_⟩) B1.out ?_
    · intro w' hS
      have := L0 w' hS
      clear L0 L1 L2 hS
      go_simp
    refine wpAnyH_take (i := 2) (v := .agg #[.slice a0 sa.length d0, .slice a1 da.length d1]) rfl (by kernel_rfl) (by kernel_rfl) (by kernel_rfl) (fun _ _ _ h => h) (Or.inl ⟨by rfl, ?_⟩) B1.out ?_
    · intro w' hS
      have := L1 w' hS
      have := L2 w' hS
      clear L0 L1 L2 hS
      go_simp
    clear L0 L1 L2
    refine wpAnyH_ready (rs := [1]) (by kernel_rfl) (by simp) ?_
    refine AllReadyH.cons rfl (fun K hK => ?_) AllReadyH.nil
    go_simp
    by_cases hop : 1 ≤ op ∧ op < 8
    · obtain ⟨k, rfl⟩ := Int.eq_ofNat_of_zero_le (show 0 ≤ op by omega)
      have e := HR.out
      rw [Pl.mo8_yes ⟨hop.1, hop.2, HQ.out⟩] at e
      have HK2 := hideP (HKK.out k rfl (by omega) (by omega) HQ.out e)
      have hk0 : 1 ≤ k := by omega
      have hk1 : k < 8 := by omega
      have hcf := callM k hk0 hk1
      clear HKK HR e hop
      refine (monadOf_yes k _ hk0 hk1).mono ?_
      rintro e w2 ⟨rfl, hb2⟩
      have B2 := hideP (B1.out.trans (hb2.mono (by show _ ≤ w1.heap.size; omega)))
      have hs2 : w.heap.size + 1 ≤ w2.heap.size := by
        have := hb2.size
        have e : w1.drew.heap.size = w1.heap.size := rfl
        omega
      have C2 := hideP (And.intro ((hb2.cell (p := ⟨w.heap.size, 0, none⟩) hs).trans CR.out.1) (And.intro ((hb2.cell (p := ⟨w.heap.size, 1, none⟩) hs).trans CR.out.2.1) (fun o => (hb2.frozen (p := ⟨w.heap.size, o, none⟩) hs).trans (CR.out.2.2 o))))
      clear hb2
      refine hK.out _ _ B2.out (fun _ => ?_)
      clear hK
      refine wpAnyH_ready (rs := [3]) (by kernel_rfl) (by simp) ?_
      refine AllReadyH.cons rfl (fun K hK => ?_) AllReadyH.nil
      go_simp
      refine (HK2.out w2 B2.out).mono ?_
      rintro e w3 ⟨hb3, ⟨rfl, u0, u1, rfl, hres⟩ | ⟨hc, rfl, rfl, rfl⟩⟩
      · have B3 := hideP (B2.out.trans (hb3.mono (by omega)))
        have R3 := hideP hres
        obtain ⟨q0, q1, f2⟩ := C2.out
        have r0 : w3.cell? ⟨w.heap.size, 0, none⟩ = some (.slice none 0 0) := (hb3.cell (p := ⟨w.heap.size, 0, none⟩) (by show w.heap.size < _; omega)).trans q0
        have r1 : w3.cell? ⟨w.heap.size, 1, none⟩ = some (.slice none 0 0) := (hb3.cell (p := ⟨w.heap.size, 1, none⟩) (by show w.heap.size < _; omega)).trans q1
        have f3 : ∀ o, w3.frozen? ⟨w.heap.size, o, none⟩ = false := fun o => (hb3.frozen (p := ⟨w.heap.size, o, none⟩) (by show w.heap.size < _; omega)).trans (f2 o)
        obtain ⟨x0, y0, e0⟩ := hres.1.form
        obtain ⟨x1, y1, e1⟩ := hres.2.1.form
        subst e0
        subst e1
        clear hres hb3 q0 q1 f2
        refine hK.out _ _ B3.out (fun _ => ?_)
        clear hK
        refine wpAnyH_ready (rs := [4]) (by kernel_rfl) (by simp) ?_
        refine AllReadyH.cons rfl (fun K hK => ?_) AllReadyH.nil
        go_simp
        refine hK.out _ _ ((B3.out.setCell (by simp) _).setCell (by simp) _) (fun _ => ?_)
        clear hK
        refine wpAnyH_done (by kernel_rfl) ?_ _
        go_wp2_with fail
        refine bodyPost_ret (v := .agg #[.slice x0 S.length y0, .slice x1 D.length y1]) (by simp [results, Try.results60, go_sem, r0, r1]) rfl ⟨(B3.out.setCell (by simp) _).setCell (by simp) _, .inl ⟨rfl, _, _, rfl, ?_, ?_, R3.out.2.2⟩⟩
        · exact Own.base (Own.store (Own.store R3.out.1 (by omega) _) (by omega) _) (by omega)
        · exact Own.base (Own.store (Own.store R3.out.2.1 (by omega) _) (by omega) _) (by omega)
      · exact ⟨rfl, B2.out.trans (hb3.mono (by omega)), .inr ⟨hc, rfl, rfl, rfl⟩⟩
    · have e := HR.out
      rw [Pl.mo8_no (by intro h; exact hop ⟨h.1, h.2.1⟩)] at e
      simp only [Prod.mk.injEq] at e
      obtain ⟨rfl, rfl, rfl⟩ := e
      refine (monadOf_no op _ (by omega)).mono ?_
      rintro e w2 ⟨rfl, hb2⟩
      exact ⟨rfl, B1.out.trans (hb2.mono (by show _ ≤ w1.heap.size; omega)), .inr ⟨by decide, rfl, rfl, rfl⟩⟩
  · have e := HR.out
    rw [Pl.mo8_no (by intro h; exact hq h.2.2)] at e
    simp only [Prod.mk.injEq] at e
    obtain ⟨rfl, rfl, rfl⟩ := e
    exact ⟨rfl, (A.out _).trans (hb.mono (by omega)), .inr ⟨by decide, rfl, rfl, rfl⟩⟩

end Go.Proofs.Ytmobjomebmipdaa
