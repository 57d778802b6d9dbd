import Derived.Test.YtaikmbfdhecjoaaGreatMonT
import Derived.Test.YtaikmbfdhecjoaaGreatSumA
import Derived.Test.YtaikmbfdhecjoaaGreatDyP
import Derived.Test.YtaikmbfdhecjoaaGreatFirst2
import Derived.Test.YtaikmbfdhecjoaaGreatRowG
namespace Go.Proofs.YtaikmbfdhecjoaaGreat
open Go.RowKit
set_option linter.unusedVariables false

namespace Pl
/-- one of seven numbers, a valid array; else BadArray -/
def mo8 (M : List Int → List Int → Int × List Int × List Int) (op : Int) (sh da : List Int) : Int × List Int × List Int := if 1 ≤ op ∧ op < 8 ∧ okB sh da = true then M sh da else (9, [], [])
theorem mo8_no {M : List Int → List Int → Int × List Int × List Int} {op : Int} {sh da : List Int} (h : ¬ (1 ≤ op ∧ op < 8 ∧ okB sh da = true)) : mo8 M op sh da = (9, [], []) := by unfold mo8; rw [if_neg h]
theorem mo8_yes {M : List Int → List Int → Int × List Int × List Int} {op : Int} {sh da : List Int} (h : 1 ≤ op ∧ op < 8 ∧ okB sh da = true) : mo8 M op sh da = M sh da := by unfold mo8; rw [if_pos h]
end Pl

theorem callF111 (args : Array Value) (w : World) : (callFunc 79 args).run Tryz.prog w = .ok (.enter 79 args) w := by kernel_rfl
theorem callF112 (args : Array Value) (w : World) : (callFunc 80 args).run Tryz.prog w = .ok (.enter 80 args) w := by kernel_rfl
theorem callF113 (args : Array Value) (w : World) : (callFunc 81 args).run Tryz.prog w = .ok (.enter 81 args) w := by kernel_rfl
theorem callF114 (args : Array Value) (w : World) : (callFunc 82 args).run Tryz.prog w = .ok (.enter 82 args) w := by kernel_rfl
theorem callF115 (args : Array Value) (w : World) : (callFunc 83 args).run Tryz.prog w = .ok (.enter 83 args) w := by kernel_rfl
theorem callF116 (args : Array Value) (w : World) : (callFunc 84 args).run Tryz.prog w = .ok (.enter 84 args) w := by kernel_rfl
theorem callF117 (args : Array Value) (w : World) : (callFunc 85 args).run Tryz.prog w = .ok (.enter 85 args) w := by kernel_rfl
theorem callM (k : Nat) (h0 : 1 ≤ k) (h1 : k < 8) (args : Array Value) (w : World) : (callFunc (78 + k) args).run Tryz.prog w = .ok (.enter (78 + k) args) w := by
  have hk : k = 1 ∨ k = 2 ∨ k = 3 ∨ k = 4 ∨ k = 5 ∨ k = 6 ∨ k = 7 := by omega
  rcases hk with rfl | rfl | rfl | rfl | rfl | rfl | rfl
  · exact callF111 args w
  · exact callF112 args w
  · exact callF113 args w
  · exact callF114 args w
  · exact callF115 args w
  · exact callF116 args w
  · exact callF117 args w

set_option maxRecDepth 100000 in
set_option maxHeartbeats 4000000 in
theorem mc_all (pa po : Nat) (op : Int) (v0 v1 : Value) (sa da : List Int) (w : World) (hl0 : sa.length ≤ 1048576) (hl1 : da.length ≤ 1048576) (h0 : Rd w.heap.size w v0 sa) (h1 : Rd w.heap.size w v1 da)
    (ca0 : w.cell? ⟨pa, 0, none⟩ = some v0) (ca1 : w.cell? ⟨pa, 1, none⟩ = some v1) (co : w.cell? ⟨po, 0, none⟩ = some (.int .i64 op)) (M : List Int → List Int → Int × List Int × List Int) (c : Int) (S D : List Int) (hres : Pl.mo8 M op sa da = (c, S, D))
    (hk : ∀ k : Nat, op = k → 1 ≤ k → k < 8 → Pl.okB sa da = true → M sa da = (c, S, D) → ∀ w', Below w.heap.size w w' → Calls Tryz.prog (78 + k) #[.agg #[v0, v1]] w' (KPost w' c S D)) :
    Calls Tryz.prog 33 #[.pointer (some ⟨pa, 0, none⟩), .pointer (some ⟨po, 0, none⟩)] w (KPost w c S D) := by
  have hpa := World.block_lt_of_cell? w ⟨pa, 0, none⟩ ca0
  have hpo := World.block_lt_of_cell? w ⟨po, 0, none⟩ co
  simp only at hpa hpo
  have A : Hid (∀ o, Below w.heap.size w (w.alloc o)) := fun o => (Below.refl _ _).alloc (Nat.le_refl _) _
  have K := hideP (valid1_new v0 v1 sa da w hl0 hl1 h0 h1)
  have HKK := hideP hk
  have HR := hideP hres
  obtain ⟨a0, d0, e0⟩ := h0.form
  obtain ⟨a1, d1, e1⟩ := h1.form
  subst e0
  subst e1
  clear h0 h1 hk hres
  have ne : ¬ pa = w.heap.size := by omega
  go_enter Tryz.func33, Tryz.ntmps33
  go_wp2_with fail
  refine (K.out _ _).mono ?_
  rintro e w1 ⟨hb, ⟨hq, rfl⟩ | ⟨hq, rfl⟩⟩
  · have hb' := (A.out (.cells #[.slice none 0 0, .slice none 0 0] 25)).trans (hb.mono (by omega))
    have hs := hb.size
    simp at hs
    have B1 := hideP hb'.drew
    have HQ := hideP hq
    have CR : Hid (w1.drew.cell? ⟨w.heap.size, 0, none⟩ = some (.slice none 0 0) ∧ w1.drew.cell? ⟨w.heap.size, 1, none⟩ = some (.slice none 0 0) ∧ ∀ o, w1.drew.frozen? ⟨w.heap.size, o, none⟩ = false) :=
      ⟨(hb.cell (p := ⟨w.heap.size, 0, none⟩) (by show w.heap.size < _; omega)).trans (by simp [go_sem]), (hb.cell (p := ⟨w.heap.size, 1, none⟩) (by show w.heap.size < _; omega)).trans (by simp [go_sem]), fun o => (hb.frozen (p := ⟨w.heap.size, o, none⟩) (by show w.heap.size < _; omega)).trans (by simp [go_sem])⟩
    have L0 : ∀ w', Below w.heap.size w w' → w'.cell? ⟨po, 0, none⟩ = some (.int .i64 op) := fun w' h => (h.cell (p := ⟨po, 0, none⟩) hpo).trans co
    have L1 : ∀ w', Below w.heap.size w w' → w'.cell? ⟨pa, 0, none⟩ = some (.slice a0 sa.length d0) := fun w' h => (h.cell (p := ⟨pa, 0, none⟩) hpa).trans ca0
    have L2 : ∀ w', Below w.heap.size w w' → w'.cell? ⟨pa, 1, none⟩ = some (.slice a1 da.length d1) := fun w' h => (h.cell (p := ⟨pa, 1, none⟩) hpa).trans ca1
    clear hb hb' ca0 ca1 co hq K
    go_wp2_with fail
    refine wp_region_held (S := fun w' => Below w.heap.size w w') (by kernel_rfl) ?_
    change wpAnyH _ _ _ _ _ _ _ _ (World.drew _)
    refine wpAnyH_take (i := 0) (v := .int .i64 op) rfl (by kernel_rfl) (by kernel_rfl) (by kernel_rfl) (fun _ _ _ h => h) (Or.inl ⟨by rfl, ?_⟩) B1.out ?_
    · intro w' hS
      have := L0 w' hS
      clear L0 L1 L2 hS
      go_simp
    refine wpAnyH_take (i := 2) (v := .agg #[.slice a0 sa.length d0, .slice a1 da.length d1]) rfl (by kernel_rfl) (by kernel_rfl) (by kernel_rfl) (fun _ _ _ h => h) (Or.inl ⟨by rfl, ?_⟩) B1.out ?_
    · intro w' hS
      have := L1 w' hS
      have := L2 w' hS
      clear L0 L1 L2 hS
      go_simp
    clear L0 L1 L2
    refine wpAnyH_ready (rs := [1]) (by kernel_rfl) (by simp) ?_
    refine AllReadyH.cons rfl (fun K hK => ?_) AllReadyH.nil
    go_simp
    by_cases hop : 1 ≤ op ∧ op < 8
    · obtain ⟨k, rfl⟩ := Int.eq_ofNat_of_zero_le (show 0 ≤ op by omega)
      have e := HR.out
      rw [Pl.mo8_yes ⟨hop.1, hop.2, HQ.out⟩] at e
      have HK2 := hideP (HKK.out k rfl (by omega) (by omega) HQ.out e)
      have hk0 : 1 ≤ k := by omega
      have hk1 : k < 8 := by omega
      have hcf := callM k hk0 hk1
      clear HKK HR e hop
      refine (monadOf_yes k _ hk0 hk1).mono ?_
      rintro e w2 ⟨rfl, hb2⟩
      have B2 := hideP (B1.out.trans (hb2.mono (by show _ ≤ w1.heap.size; omega)))
      have hs2 : w.heap.size + 1 ≤ w2.heap.size := by
        have := hb2.size
        have e : w1.drew.heap.size = w1.heap.size := rfl
        omega
      have C2 := hideP (And.intro ((hb2.cell (p := ⟨w.heap.size, 0, none⟩) hs).trans CR.out.1) (And.intro ((hb2.cell (p := ⟨w.heap.size, 1, none⟩) hs).trans CR.out.2.1) (fun o => (hb2.frozen (p := ⟨w.heap.size, o, none⟩) hs).trans (CR.out.2.2 o))))
      clear hb2
      refine hK.out _ _ B2.out (fun _ => ?_)
      clear hK
      refine wpAnyH_ready (rs := [3]) (by kernel_rfl) (by simp) ?_
      refine AllReadyH.cons rfl (fun K hK => ?_) AllReadyH.nil
      go_simp
      refine (HK2.out w2 B2.out).mono ?_
      rintro e w3 ⟨hb3, ⟨rfl, u0, u1, rfl, hres⟩ | ⟨hc, rfl, rfl, rfl⟩⟩
      · have B3 := hideP (B2.out.trans (hb3.mono (by omega)))
        have R3 := hideP hres
        obtain ⟨q0, q1, f2⟩ := C2.out
        have r0 : w3.cell? ⟨w.heap.size, 0, none⟩ = some (.slice none 0 0) := (hb3.cell (p := ⟨w.heap.size, 0, none⟩) (by show w.heap.size < _; omega)).trans q0
        have r1 : w3.cell? ⟨w.heap.size, 1, none⟩ = some (.slice none 0 0) := (hb3.cell (p := ⟨w.heap.size, 1, none⟩) (by show w.heap.size < _; omega)).trans q1
        have f3 : ∀ o, w3.frozen? ⟨w.heap.size, o, none⟩ = false := fun o => (hb3.frozen (p := ⟨w.heap.size, o, none⟩) (by show w.heap.size < _; omega)).trans (f2 o)
        obtain ⟨x0, y0, e0⟩ := hres.1.form
        obtain ⟨x1, y1, e1⟩ := hres.2.1.form
        subst e0
        subst e1
        clear hres hb3 q0 q1 f2
        refine hK.out _ _ B3.out (fun _ => ?_)
        clear hK
        refine wpAnyH_ready (rs := [4]) (by kernel_rfl) (by simp) ?_
        refine AllReadyH.cons rfl (fun K hK => ?_) AllReadyH.nil
        go_simp
        refine hK.out _ _ ((B3.out.setCell (by simp) _).setCell (by simp) _) (fun _ => ?_)
        clear hK
        refine wpAnyH_done (by kernel_rfl) ?_ _
        go_wp2_with fail
        refine bodyPost_ret (v := .agg #[.slice x0 S.length y0, .slice x1 D.length y1]) (by simp [results, Tryz.results33, go_sem, r0, r1]) rfl ⟨(B3.out.setCell (by simp) _).setCell (by simp) _, .inl ⟨rfl, _, _, rfl, ?_, ?_, R3.out.2.2⟩⟩
        · exact Own.base (Own.store (Own.store R3.out.1 (by omega) _) (by omega) _) (by omega)
        · exact Own.base (Own.store (Own.store R3.out.2.1 (by omega) _) (by omega) _) (by omega)
      · exact ⟨rfl, B2.out.trans (hb3.mono (by omega)), .inr ⟨hc, rfl, rfl, rfl⟩⟩
    · have e := HR.out
      rw [Pl.mo8_no (by intro h; exact hop ⟨h.1, h.2.1⟩)] at e
      simp only [Prod.mk.injEq] at e
      obtain ⟨rfl, rfl, rfl⟩ := e
      refine (monadOf_no op _ (by omega)).mono ?_
      rintro e w2 ⟨rfl, hb2⟩
      exact ⟨rfl, B1.out.trans (hb2.mono (by show _ ≤ w1.heap.size; omega)), .inr ⟨by decide, rfl, rfl, rfl⟩⟩
  · have e := HR.out
    rw [Pl.mo8_no (by intro h; exact hq h.2.2)] at e
    simp only [Prod.mk.injEq] at e
    obtain ⟨rfl, rfl, rfl⟩ := e
    exact ⟨rfl, (A.out _).trans (hb.mono (by omega)), .inr ⟨by decide, rfl, rfl, rfl⟩⟩

end Go.Proofs.YtaikmbfdhecjoaaGreat

namespace Go.Proofs.YtaikmbfdhecjoaaGreat
open Go.RowKit
set_option linter.unusedVariables false

theorem callF33m (args : Array Value) (w : World) : (callFunc 33 args).run Tryz.prog w = .ok (.enter 33 args) w := by kernel_rfl

set_option maxRecDepth 100000 in
set_option maxHeartbeats 1000000 in
/-- impl.Monad -/
theorem ravel_faceG (a0 : Option Addr) (k0 : Nat) (a1 : Option Addr) (k1 : Nat) (sh da : List Int) (w : World) (hl0 : sh.length ≤ 1048576) (hl1 : da.length ≤ 1048576) (h0 : Rd w.heap.size w (.slice a0 sh.length k0) sh) (h1 : Rd w.heap.size w (.slice a1 da.length k1) da) (c : Int) (S D : List Int) (hres : Pl.mo8 (fun _ da => ((0 : Int), [(da.length : Int)], da)) 3 sh da = (c, S, D)) :
    Calls Tryz.prog 11 #[.int .i64 3, .agg #[.slice a0 sh.length k0, .slice a1 da.length k1]] w (FPost w c S D) := by
  have hmf : ∀ (fn : Fn) (first cap : Array Value) (w : World), (Instr.makeFunc fn first cap).run Tryz.prog w = .ok (.func fn first cap) w := fun _ _ _ _ => rfl
  have K : Hid (∀ pa po w', Below w.heap.size w w' → w'.cell? ⟨pa, 0, none⟩ = some (.slice a0 sh.length k0) → w'.cell? ⟨pa, 1, none⟩ = some (.slice a1 da.length k1) → w'.cell? ⟨po, 0, none⟩ = some (.int .i64 3) → Calls Tryz.prog 33 #[.pointer (some ⟨pa, 0, none⟩), .pointer (some ⟨po, 0, none⟩)] w' (KPost w' c S D)) :=
    fun pa po w' hb g0 g1 g4 => mc_all pa po 3 _ _ sh da w' hl0 hl1 ((h0.keep hb).up hb.size) ((h1.keep hb).up hb.size) g0 g1 g4 _ c S D hres
      (fun k hk kk0 kk1 ok e w'' hb' => by
        have hb2 := hb.trans (hb'.mono hb.size)
        have q0 := (h0.keep hb2).up hb2.size
        have q1 := (h1.keep hb2).up hb2.size
        have hk' : k = 3 := by omega
        subst hk'
        have e' : ((0 : Int), [(da.length : Int)], da) = (c, S, D) := e
        simp only [Prod.mk.injEq] at e'
        obtain ⟨rfl, rfl, rfl⟩ := e'
        exact ravel_any _ _ sh da w'' hl0 hl1 q0 q1)
  clear h0 h1 hres
  generalize sh.length = L0 at *
  generalize da.length = L1 at *
  go_enter Tryz.func11, Tryz.ntmps11
  go_wp2_with fail
  refine (answer_any 33 _ c S D _ (callF33m _) ?_).mono ?_
  · refine K.out (w.heap.size + 1) w.heap.size _ ?_ ?_ ?_ ?_
    · exact (((((Below.refl _ _).alloc (Nat.le_refl _) _).alloc (by simp) _).alloc (by simp; omega) _).alloc (by simp; omega) _).alloc (by simp; omega) _
    · simp [go_sem]
    · simp [go_sem]
    · simp [go_sem]
  rintro e w1 ⟨hb1, u0, u1, rfl, hres⟩
  have B0 : Hid (Below w.heap.size w w1) := ((((Below.refl _ _).alloc (Nat.le_refl _) _).alloc (by simp) _).alloc (by simp; omega) _).trans (hb1.mono (by simp; omega))
  have hs := hb1.size
  simp at hs
  obtain ⟨hc, hf⟩ := bcell hb1
  have r0 : w1.cell? ⟨w.heap.size + 1 + 1, 0, none⟩ = some (.slice none 0 0) := by rw [hc (w.heap.size + 1 + 1) 0 (by simp)]; simp [go_sem]
  have r1 : w1.cell? ⟨w.heap.size + 1 + 1, 1, none⟩ = some (.slice none 0 0) := by rw [hc (w.heap.size + 1 + 1) 1 (by simp)]; simp [go_sem]
  have f3 : ∀ o, w1.frozen? ⟨w.heap.size + 1 + 1, o, none⟩ = false := fun o => by rw [hf (w.heap.size + 1 + 1) o (by simp)]; simp [go_sem]
  have R : Hid (Res (w.heap.size + 1 + 1 + 1) w1 u0 u1 S D) := by
    have := hres
    show Res _ _ _ _ _ _
    simpa using this
  obtain ⟨x0, y0, e0⟩ := hres.1.form
  obtain ⟨x1, y1, e1⟩ := hres.2.1.form
  subst e0
  subst e1
  clear hc hf hb1 hres K
  go_wp2_with fail
  refine bodyPost_ret (v := .tuple #[.agg #[.slice x0 S.length y0, .slice x1 D.length y1], .int .i64 c]) (by simp [results, Tryz.results11, go_sem, r0, r1]) rfl ⟨(B0.out.setCell (by simp; omega) _).setCell (by simp; omega) _, _, _, rfl, ?_, ?_, R.out.2.2⟩
  · exact Own.base (Own.store (Own.store R.out.1 (by omega) _) (by omega) _) (by omega)
  · exact Own.base (Own.store (Own.store R.out.2.1 (by omega) _) (by omega) _) (by omega)

end Go.Proofs.YtaikmbfdhecjoaaGreat

namespace Go.Proofs.YtaikmbfdhecjoaaGreat
open Go.RowKit
set_option linter.unusedVariables false

set_option maxRecDepth 100000 in
set_option maxHeartbeats 2000000 in
/-- impl.withAxes, and where the lists lie -/
theorem withAxes_gen (a2 : Option Addr) (k2 : Nat) (a3 : Option Addr) (k3 : Nat) (sh da : List Int) (w : World) (h0 : Rd w.heap.size w (.slice a2 sh.length k2) sh) (h1 : Rd w.heap.size w (.slice a3 da.length k3) da) (hk2 : sh.length ≤ k2) (hk2' : k2 ≤ 9223372036854775807) :
    Calls Tryz.prog 98 #[.agg #[.slice a2 sh.length k2, .slice a3 da.length k3]] w fun e w' => ∃ g og cg, e = .returned (.agg #[.slice (some ⟨g, og, none⟩) (Pl.axesS sh da).length cg, .slice a3 da.length k3]) ∧ Rd w'.heap.size w' (.slice (some ⟨g, og, none⟩) (Pl.axesS sh da).length cg) (Pl.axesS sh da) ∧ Below w.heap.size w w' ∧ ((Pl.axesS sh da).length ≤ cg ∧ cg ≤ 9223372036854775807) ∧ ((a2 = some ⟨g, og, none⟩ ∧ ¬ sh.length = 0) ∨ w.heap.size ≤ g) := by
  have H0 := hideP h0
  have H1 := hideP h1
  have KS : Hid (∀ w', Calls Tryz.prog 51 #[.agg #[.slice a2 sh.length k2, .slice a3 da.length k3]] w' fun e w'' => e = .returned (.bool (decide (sh.length = 0))) ∧ Below w'.heap.size w' w'') := fun w' => isScalar_any _ _ sh w.heap.size w' w h0
  have PB : Hid (∀ W, Below (w.heap.size + 1 + 1) ((w.alloc (.cells #[.slice a2 sh.length k2, .slice a3 da.length k3] 25)).alloc (.cells #[.slice none 0 0, .slice none 0 0] 25)) W → (W.cell? ⟨w.heap.size, 0, none⟩ = some (.slice a2 sh.length k2) ∧ W.cell? ⟨w.heap.size, 1, none⟩ = some (.slice a3 da.length k3)) ∧ (W.cell? ⟨w.heap.size + 1, 0, none⟩ = some (.slice none 0 0) ∧ W.cell? ⟨w.heap.size + 1, 1, none⟩ = some (.slice none 0 0) ∧ ∀ o, W.frozen? ⟨w.heap.size + 1, o, none⟩ = false) ∧ Below w.heap.size w W) := fun W hb => boxes2 hb
  unfold Pl.axesS
  by_cases hsl : sh.length = 0
  · have KS' : Hid (∀ w', Calls Tryz.prog 51 #[.agg #[.slice a2 sh.length k2, .slice a3 da.length k3]] w' fun e w'' => e = .returned (.bool true) ∧ Below w'.heap.size w' w'') := fun w' => by have := KS.out w'; rw [decide_eq_true hsl] at this; exact this
    rw [if_pos hsl]
    clear h0 h1 KS hsl
    go_enter Tryz.func98, Tryz.ntmps98
    go_wp2_with fail
    refine (KS'.out _).mono ?_
    rintro e w1 ⟨rfl, hb1⟩
    have B1 := hideP (show Below (w.heap.size + 1 + 1) _ w1 from hb1.mono (by simp))
    have hs1 : w.heap.size + 1 + 1 ≤ w1.heap.size := by have := hb1.size; simpa using this
    have c11 := (PB.out _ B1.out).1.2
    clear hb1
    go_wp2_with fail
    refine (vector_any a3 k3 da.length w1).mono ?_
    rintro e w2 ⟨g, rfl, ho2, hb2⟩
    have B2 := hideP (B1.out.trans (hb2.mono hs1))
    have X2 := hideP (PB.out _ B2.out)
    have OS := hideP ho2
    have hs2 := hb2.size
    clear ho2 hb2 c11
    have r0 := X2.out.2.1.1
    have r1 := X2.out.2.1.2.1
    have f2 := X2.out.2.1.2.2
    have BW : Hid (∀ x y, Below w.heap.size w ((w2.setCell ⟨w.heap.size + 1, 0, none⟩ x).setCell ⟨w.heap.size + 1, 1, none⟩ y)) := fun x y => (X2.out.2.2.setCell (by simp) _).setCell (by simp) _
    go_wp2_with fail
    refine bodyPost_ret (v := .agg #[.slice (some ⟨g, 0, none⟩) 1 1, .slice a3 da.length k3]) (by simp [results, Tryz.results98, go_sem, r0, r1]) rfl ⟨_, _, _, rfl, ?_, BW.out _ _, ⟨Nat.le_refl _, by simp⟩, .inr ?_⟩
    · exact (Own.store (Own.store OS.out (by omega) _) (by omega) _).rd
    · obtain ⟨ao, cap, e, h⟩ := OS.out
      rcases h with h | ⟨g', off, hB, _, e', _⟩
      · simp at h
      · simp only [Value.slice.injEq] at e
        have e2 := e.1.trans e'
        simp only [Option.some.injEq, Addr.mk.injEq] at e2
        omega
  · have KS' : Hid (∀ w', Calls Tryz.prog 51 #[.agg #[.slice a2 sh.length k2, .slice a3 da.length k3]] w' fun e w'' => e = .returned (.bool false) ∧ Below w'.heap.size w' w'') := fun w' => by have := KS.out w'; rw [decide_eq_false hsl] at this; exact this
    rw [if_neg hsl]
    have HSL := hideP hsl
    obtain ⟨b2, o2, rfl⟩ := rd_some h0 (by omega)
    clear h0 h1 KS hsl
    go_enter Tryz.func98, Tryz.ntmps98
    go_wp2_with fail
    refine (KS'.out _).mono ?_
    rintro e w1 ⟨rfl, hb1⟩
    have X1 := hideP (PB.out _ (show Below (w.heap.size + 1 + 1) _ w1 from hb1.mono (by simp)))
    have hs1 : w.heap.size + 1 + 1 ≤ w1.heap.size := by have := hb1.size; simpa using this
    clear hb1
    have c10 := X1.out.1.1
    have c11 := X1.out.1.2
    have r0 := X1.out.2.1.1
    have r1 := X1.out.2.1.2.1
    have f2 := X1.out.2.1.2.2
    have BW : Hid (∀ x y, Below w.heap.size w ((w1.setCell ⟨w.heap.size + 1, 0, none⟩ x).setCell ⟨w.heap.size + 1, 1, none⟩ y)) := fun x y => (X1.out.2.2.setCell (by simp) _).setCell (by simp) _
    go_wp2_with fail
    refine bodyPost_ret (v := .agg #[.slice (some ⟨b2, o2, none⟩) sh.length k2, .slice a3 da.length k3]) (by simp [results, Tryz.results98, go_sem, r0, r1]) rfl ⟨_, _, _, rfl, ?_, BW.out _ _, ⟨hk2, hk2'⟩, .inl ⟨rfl, HSL.out⟩⟩
    · exact (H0.out.keep (BW.out _ _)).up (BW.out _ _).size

end Go.Proofs.YtaikmbfdhecjoaaGreat
