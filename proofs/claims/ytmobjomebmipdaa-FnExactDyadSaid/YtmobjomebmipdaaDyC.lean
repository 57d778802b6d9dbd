import Derived.Test.YtmobjomebmipdaaFold
namespace Go.Proofs.Ytmobjomebmipdaa
open Go.RowKit
set_option linter.unusedVariables false

namespace Pl
/-- one of seven numbers, two valid arrays; else BadArray -/
def dy8 (M : List Int → List Int → List Int → List Int → Int × List Int × List Int) (op : Int) (sa da sb db : List Int) : Int × List Int × List Int :=
  if 1 ≤ op ∧ op < 8 ∧ okB sa da = true ∧ okB sb db = true then M sa da sb db else (9, [], [])
theorem dy8_no {M : List Int → List Int → List Int → List Int → Int × List Int × List Int} {op : Int} {sa da sb db : List Int} (h : ¬ (1 ≤ op ∧ op < 8 ∧ okB sa da = true ∧ okB sb db = true)) : dy8 M op sa da sb db = (9, [], []) := by unfold dy8; rw [if_neg h]
theorem dy8_yes {M : List Int → List Int → List Int → List Int → Int × List Int × List Int} {op : Int} {sa da sb db : List Int} (h : 1 ≤ op ∧ op < 8 ∧ okB sa da = true ∧ okB sb db = true) : dy8 M op sa da sb db = M sa da sb db := by unfold dy8; rw [if_pos h]
end Pl

set_option maxRecDepth 100000 in
/-- impl.chosen, over the table of dyadOf -/
theorem chosenD_no (n : Int) (b : Nat) (w : World) (h : n < 1 ∨ 8 ≤ n) : Calls Try.prog 120 #[.int .i64 n, .slice (some ⟨b, 0, none⟩) 8 8] w fun e w' => e = .panicked [thrown 9] ∧ w' = w := by
  rcases h with h | h
  · go_enter Try.func120, Try.ntmps120
    go_wp2_with (go_at_call 83; refine (refuse_yes _ _).mono ?_; rintro e w' ⟨rfl, rfl⟩)
    exact ⟨rfl, rfl, rfl⟩
  · have h' : ¬ n < 1 := by omega
    go_enter Try.func120, Try.ntmps120
    go_wp2_with (go_at_call 83; refine (refuse_yes _ _).mono ?_; rintro e w' ⟨rfl, rfl⟩)
    exact ⟨rfl, rfl, rfl⟩

theorem chosenD_yes (k b : Nat) (v : Value) (w : World) (h0 : 1 ≤ k) (h1 : k < 8) (hc : w.cell? ⟨b, k, none⟩ = some v) : Calls Try.prog 120 #[.int .i64 (k : Int), .slice (some ⟨b, 0, none⟩) 8 8] w fun e w' => e = .returned v ∧ w' = w := by
  have e0 : ¬ ((k : Int) < 1) := by omega
  have e1 : ¬ (8 ≤ (k : Int)) := by omega
  go_enter Try.func120, Try.ntmps120
  go_wp2_with (go_at_call 83; refine (refuse_no _ _).mono ?_; rintro e w' ⟨rfl, rfl⟩)
  go_ret
  exact ⟨rfl, rfl⟩

/-- impl.dyadOf -/
theorem dyadOf_no (n : Int) (w : World) (h : n < 1 ∨ 8 ≤ n) : Calls Try.prog 70 #[.int .i64 n] w fun e w' => e = .panicked [thrown 9] ∧ Below w.heap.size w w' := by
  have K := hideP (fun b w => chosenD_no n b w h)
  clear h
  go_enter Try.func70, Try.ntmps70
  go_wp2_with (go_at_call 120; refine (K.out _ _).mono ?_; rintro e w' ⟨rfl, rfl⟩)
  exact ⟨rfl, rfl, (Below.refl _ _).alloc (Nat.le_refl _) _⟩

theorem dyadOf_yes (k : Nat) (w : World) (h0 : 1 ≤ k) (h1 : k < 8) : Calls Try.prog 70 #[.int .i64 (k : Int)] w fun e w' => e = .returned (.func (.func (120 + k)) #[] #[]) ∧ Below w.heap.size w w' := by
  have K := hideP (fun b v w => chosenD_yes k b v w h0 h1)
  have hk : k = 1 ∨ k = 2 ∨ k = 3 ∨ k = 4 ∨ k = 5 ∨ k = 6 ∨ k = 7 := by omega
  clear h0 h1
  rcases hk with rfl | rfl | rfl | rfl | rfl | rfl | rfl
  all_goals
    go_enter Try.func70, Try.ntmps70
    go_wp2_with fail
    refine (K.out _ _ _ (by simp [go_sem]; rfl)).mono ?_
    rintro e w' ⟨rfl, rfl⟩
    go_wp2_with fail
    go_ret
    exact ⟨rfl, (Below.refl _ _).alloc (Nat.le_refl _) _⟩

theorem callF69 (args : Array Value) (w : World) : (callFunc 69 args).run Try.prog w = .ok (.enter 69 args) w := by kernel_rfl
theorem callF121 (args : Array Value) (w : World) : (callFunc 121 args).run Try.prog w = .ok (.enter 121 args) w := by kernel_rfl
theorem callF122 (args : Array Value) (w : World) : (callFunc 122 args).run Try.prog w = .ok (.enter 122 args) w := by kernel_rfl
theorem callF123 (args : Array Value) (w : World) : (callFunc 123 args).run Try.prog w = .ok (.enter 123 args) w := by kernel_rfl
theorem callF124 (args : Array Value) (w : World) : (callFunc 124 args).run Try.prog w = .ok (.enter 124 args) w := by kernel_rfl
theorem callF125 (args : Array Value) (w : World) : (callFunc 125 args).run Try.prog w = .ok (.enter 125 args) w := by kernel_rfl
theorem callF126 (args : Array Value) (w : World) : (callFunc 126 args).run Try.prog w = .ok (.enter 126 args) w := by kernel_rfl
theorem callF127 (args : Array Value) (w : World) : (callFunc 127 args).run Try.prog w = .ok (.enter 127 args) w := by kernel_rfl
theorem callD (k : Nat) (h0 : 1 ≤ k) (h1 : k < 8) (args : Array Value) (w : World) : (callFunc (120 + k) args).run Try.prog w = .ok (.enter (120 + k) args) w := by
  have hk : k = 1 ∨ k = 2 ∨ k = 3 ∨ k = 4 ∨ k = 5 ∨ k = 6 ∨ k = 7 := by omega
  rcases hk with rfl | rfl | rfl | rfl | rfl | rfl | rfl
  · exact callF121 args w
  · exact callF122 args w
  · exact callF123 args w
  · exact callF124 args w
  · exact callF125 args w
  · exact callF126 args w
  · exact callF127 args w

set_option maxRecDepth 100000 in
set_option maxHeartbeats 4000000 in
/-- impl.Dyad's closure -/
theorem dc_all (pa pb po : Nat) (op : Int) (v0 v1 v2 v3 : Value) (sa da sb db : List Int) (w : World) (hl0 : sa.length ≤ 1048576) (hl1 : da.length ≤ 1048576) (hl2 : sb.length ≤ 1048576) (hl3 : db.length ≤ 1048576) (h0 : Rd w.heap.size w v0 sa) (h1 : Rd w.heap.size w v1 da) (h2 : Rd w.heap.size w v2 sb) (h3 : Rd w.heap.size w v3 db)
    (ca0 : w.cell? ⟨pa, 0, none⟩ = some v0) (ca1 : w.cell? ⟨pa, 1, none⟩ = some v1) (cb0 : w.cell? ⟨pb, 0, none⟩ = some v2) (cb1 : w.cell? ⟨pb, 1, none⟩ = some v3) (co : w.cell? ⟨po, 0, none⟩ = some (.int .i64 op)) (M : List Int → List Int → List Int → List Int → Int × List Int × List Int) (c : Int) (S D : List Int) (hres : Pl.dy8 M op sa da sb db = (c, S, D))
    (hk : ∀ k : Nat, op = k → 1 ≤ k → k < 8 → Pl.okB sa da = true → Pl.okB sb db = true → M sa da sb db = (c, S, D) → ∀ w', Below w.heap.size w w' → Calls Try.prog (120 + k) #[.agg #[v0, v1], .agg #[v2, v3]] w' (KPost w' c S D)) :
    Calls Try.prog 69 #[.pointer (some ⟨pa, 0, none⟩), .pointer (some ⟨pb, 0, none⟩), .pointer (some ⟨po, 0, none⟩)] w (KPost w c S D) := by
  have hpa := World.block_lt_of_cell? w ⟨pa, 0, none⟩ ca0
  have hpb := World.block_lt_of_cell? w ⟨pb, 0, none⟩ cb0
  have hpo := World.block_lt_of_cell? w ⟨po, 0, none⟩ co
  simp only at hpa hpb hpo
  have A : Hid (∀ o, Below w.heap.size w (w.alloc o)) := fun o => (Below.refl _ _).alloc (Nat.le_refl _) _
  have K := hideP (valid2_new v0 v1 v2 v3 sa da sb db w hl0 hl1 hl2 hl3 h0 h1 h2 h3)
  have HKK := hideP hk
  have HR := hideP hres
  obtain ⟨a0, d0, e0⟩ := h0.form
  obtain ⟨a1, d1, e1⟩ := h1.form
  obtain ⟨a2, d2, e2⟩ := h2.form
  obtain ⟨a3, d3, e3⟩ := h3.form
  subst e0
  subst e1
  subst e2
  subst e3
  clear h0 h1 h2 h3 hk hres
  have ne : ¬ pa = w.heap.size := by omega
  have ne2 : ¬ pb = w.heap.size := by omega
  go_enter Try.func69, Try.ntmps69
  go_wp2_with fail
  refine (K.out _ _).mono ?_
  rintro e w1 ⟨hb, ⟨hq, rfl⟩ | ⟨hq, rfl⟩⟩
  · have hb' := (A.out (.cells #[.slice none 0 0, .slice none 0 0] 27)).trans (hb.mono (by omega))
    have hs := hb.size
    simp at hs
    have B1 := hideP hb'.drew
    have HQ := hideP hq
    have CR : Hid (w1.drew.cell? ⟨w.heap.size, 0, none⟩ = some (.slice none 0 0) ∧ w1.drew.cell? ⟨w.heap.size, 1, none⟩ = some (.slice none 0 0) ∧ ∀ o, w1.drew.frozen? ⟨w.heap.size, o, none⟩ = false) :=
      ⟨(hb.cell (p := ⟨w.heap.size, 0, none⟩) (by show w.heap.size < _; omega)).trans (by simp [go_sem]), (hb.cell (p := ⟨w.heap.size, 1, none⟩) (by show w.heap.size < _; omega)).trans (by simp [go_sem]), fun o => (hb.frozen (p := ⟨w.heap.size, o, none⟩) (by show w.heap.size < _; omega)).trans (by simp [go_sem])⟩
    have L0 : ∀ w', Below w.heap.size w w' → w'.cell? ⟨po, 0, none⟩ = some (.int .i64 op) := fun w' h => (h.cell (p := ⟨po, 0, none⟩) hpo).trans co
    have L1 : ∀ w', Below w.heap.size w w' → w'.cell? ⟨pa, 0, none⟩ = some (.slice a0 sa.length d0) := fun w' h => (h.cell (p := ⟨pa, 0, none⟩) hpa).trans ca0
    have L2 : ∀ w', Below w.heap.size w w' → w'.cell? ⟨pa, 1, none⟩ = some (.slice a1 da.length d1) := fun w' h => (h.cell (p := ⟨pa, 1, none⟩) hpa).trans ca1
    have L3 : ∀ w', Below w.heap.size w w' → w'.cell? ⟨pb, 0, none⟩ = some (.slice a2 sb.length d2) := fun w' h => (h.cell (p := ⟨pb, 0, none⟩) hpb).trans cb0
    have L4 : ∀ w', Below w.heap.size w w' → w'.cell? ⟨pb, 1, none⟩ = some (.slice a3 db.length d3) := fun w' h => (h.cell (p := ⟨pb, 1, none⟩) hpb).trans cb1
    clear hb hb' ca0 ca1 cb0 cb1 co hq K
    go_wp2_with fail
    refine wp_region_held (S := fun w' => Below w.heap.size w w') (by kernel_rfl) ?_
    change wpAnyH _ _ _ _ _ _ _ _ (World.drew _)
    refine wpAnyH_take (i := 0) (v := .int .i64 op) rfl (by kernel_rfl) (by kernel_rfl) (by kernel_rfl) (fun _ _ _ h => h) (Or.inl ⟨by rfl, ?_⟩) B1.out ?_
    · intro w' hS
      have := L0 w' hS
      clear L0 L1 L2 L3 L4 hS
      go_simp
    refine wpAnyH_take (i := 2) (v := .agg #[.slice a0 sa.length d0, .slice a1 da.length d1]) rfl (by kernel_rfl) (by kernel_rfl) (by kernel_rfl) (fun _ _ _ h => h) (Or.inl ⟨by rfl, ?_⟩) B1.out ?_
    · intro w' hS
      have := L1 w' hS
      have := L2 w' hS
      clear L0 L1 L2 L3 L4 hS
      go_simp
    refine wpAnyH_take (i := 3) (v := .agg #[.slice a2 sb.length d2, .slice a3 db.length d3]) rfl (by kernel_rfl) (by kernel_rfl) (by kernel_rfl) (fun _ _ _ h => h) (Or.inl ⟨by rfl, ?_⟩) B1.out ?_
    · intro w' hS
      have := L3 w' hS
      have := L4 w' hS
      clear L0 L1 L2 L3 L4 hS
      go_simp
    clear L0 L1 L2 L3 L4
    refine wpAnyH_ready (rs := [1]) (by kernel_rfl) (by simp) ?_
    refine AllReadyH.cons rfl (fun K hK => ?_) AllReadyH.nil
    go_simp
    by_cases hop : 1 ≤ op ∧ op < 8
    · obtain ⟨k, rfl⟩ := Int.eq_ofNat_of_zero_le (show 0 ≤ op by omega)
      have e := HR.out
      rw [Pl.dy8_yes ⟨hop.1, hop.2, HQ.out.1, HQ.out.2⟩] at e
      have HK2 := hideP (HKK.out k rfl (by omega) (by omega) HQ.out.1 HQ.out.2 e)
      have hk0 : 1 ≤ k := by omega
      have hk1 : k < 8 := by omega
      have hcf := callD k hk0 hk1
      clear HKK HR e hop
      refine (dyadOf_yes k _ hk0 hk1).mono ?_
      rintro e w2 ⟨rfl, hb2⟩
      have B2 := hideP (B1.out.trans (hb2.mono (by show _ ≤ w1.heap.size; omega)))
      have hs2 : w.heap.size + 1 ≤ w2.heap.size := by
        have := hb2.size
        have e : w1.drew.heap.size = w1.heap.size := rfl
        omega
      have C2 := hideP (And.intro ((hb2.cell (p := ⟨w.heap.size, 0, none⟩) hs).trans CR.out.1) (And.intro ((hb2.cell (p := ⟨w.heap.size, 1, none⟩) hs).trans CR.out.2.1) (fun o => (hb2.frozen (p := ⟨w.heap.size, o, none⟩) hs).trans (CR.out.2.2 o))))
      clear hb2
      refine hK.out _ _ B2.out (fun _ => ?_)
      clear hK
      refine wpAnyH_ready (rs := [4]) (by kernel_rfl) (by simp) ?_
      refine AllReadyH.cons rfl (fun K hK => ?_) AllReadyH.nil
      go_simp
      refine (HK2.out w2 B2.out).mono ?_
      rintro e w3 ⟨hb3, ⟨rfl, u0, u1, rfl, hres⟩ | ⟨hc, rfl, rfl, rfl⟩⟩
      · have B3 := hideP (B2.out.trans (hb3.mono (by omega)))
        have R3 := hideP hres
        obtain ⟨q0, q1, f2⟩ := C2.out
        have r0 : w3.cell? ⟨w.heap.size, 0, none⟩ = some (.slice none 0 0) := (hb3.cell (p := ⟨w.heap.size, 0, none⟩) (by show w.heap.size < _; omega)).trans q0
        have r1 : w3.cell? ⟨w.heap.size, 1, none⟩ = some (.slice none 0 0) := (hb3.cell (p := ⟨w.heap.size, 1, none⟩) (by show w.heap.size < _; omega)).trans q1
        have f3 : ∀ o, w3.frozen? ⟨w.heap.size, o, none⟩ = false := fun o => (hb3.frozen (p := ⟨w.heap.size, o, none⟩) (by show w.heap.size < _; omega)).trans (f2 o)
        obtain ⟨x0, y0, e0⟩ := hres.1.form
        obtain ⟨x1, y1, e1⟩ := hres.2.1.form
        subst e0
        subst e1
        clear hres hb3 q0 q1 f2
        refine hK.out _ _ B3.out (fun _ => ?_)
        clear hK
        refine wpAnyH_ready (rs := [5]) (by kernel_rfl) (by simp) ?_
        refine AllReadyH.cons rfl (fun K hK => ?_) AllReadyH.nil
        go_simp
        refine hK.out _ _ ((B3.out.setCell (by simp) _).setCell (by simp) _) (fun _ => ?_)
        clear hK
        refine wpAnyH_done (by kernel_rfl) ?_ _
        go_wp2_with fail
        refine bodyPost_ret (v := .agg #[.slice x0 S.length y0, .slice x1 D.length y1]) (by simp [results, Try.results69, go_sem, r0, r1]) rfl ⟨(B3.out.setCell (by simp) _).setCell (by simp) _, .inl ⟨rfl, _, _, rfl, ?_, ?_, R3.out.2.2⟩⟩
        · exact Own.base (Own.store (Own.store R3.out.1 (by omega) _) (by omega) _) (by omega)
        · exact Own.base (Own.store (Own.store R3.out.2.1 (by omega) _) (by omega) _) (by omega)
      · exact ⟨rfl, B2.out.trans (hb3.mono (by omega)), .inr ⟨hc, rfl, rfl, rfl⟩⟩
    · have e := HR.out
      rw [Pl.dy8_no (by intro h; exact hop ⟨h.1, h.2.1⟩)] at e
      simp only [Prod.mk.injEq] at e
      obtain ⟨rfl, rfl, rfl⟩ := e
      refine (dyadOf_no op _ (by omega)).mono ?_
      rintro e w2 ⟨rfl, hb2⟩
      exact ⟨rfl, B1.out.trans (hb2.mono (by show _ ≤ w1.heap.size; omega)), .inr ⟨by decide, rfl, rfl, rfl⟩⟩
  · have e := HR.out
    rw [Pl.dy8_no (by intro h; exact hq ⟨h.2.2.1, h.2.2.2⟩)] at e
    simp only [Prod.mk.injEq] at e
    obtain ⟨rfl, rfl, rfl⟩ := e
    exact ⟨rfl, (A.out _).trans (hb.mono (by omega)), .inr ⟨by decide, rfl, rfl, rfl⟩⟩

end Go.Proofs.Ytmobjomebmipdaa
