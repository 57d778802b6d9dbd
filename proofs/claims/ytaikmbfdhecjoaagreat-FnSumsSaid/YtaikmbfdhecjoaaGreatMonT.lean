import Derived.Test.YtaikmbfdhecjoaaGreatImpRG
import Derived.Test.YtaikmbfdhecjoaaGreatFaceS
import Derived.Test.YtaikmbfdhecjoaaGreatFirst2
import Derived.Test.YtaikmbfdhecjoaaGreatDyP
import Derived.Test.YtaikmbfdhecjoaaGreatPlain6
import Derived.Deep.DeepCutAuto
namespace Go.Proofs.YtaikmbfdhecjoaaGreat
open Go.RowKit
set_option linter.unusedVariables false

set_option maxRecDepth 100000 in
set_option maxHeartbeats 1000000 in
theorem reduce_faceG (op : Int) (a0 : Option Addr) (q0 : Nat) (a1 : Option Addr) (q1 : Nat) (sh da : List Int) (w : World) (hl0 : sh.length ≤ 1048576) (hl1 : da.length ≤ 1048576) (hq0 : sh.length ≤ q0) (hq0' : q0 ≤ 9223372036854775807) (hq1 : da.length ≤ q1) (hq1' : 0 < da.length → q1 ≤ 9223372036854775807)
    (h0 : Rd w.heap.size w (.slice a0 sh.length q0) sh) (h1 : Rd w.heap.size w (.slice a1 da.length q1) da) (c : Int) (S D : List Int) (hres : Pl.redM op sh da = (c, S, D)) :
    Calls Tryz.prog 7 #[.int .i64 op, .agg #[.slice a0 sh.length q0, .slice a1 da.length q1]] w (FPost w c S D) := by
  have hmf : ∀ (fn : Fn) (first cap : Array Value) (w : World), (Instr.makeFunc fn first cap).run Tryz.prog w = .ok (.func fn first cap) w := fun _ _ _ _ => rfl
  have K : Hid (∀ pa po w', Below w.heap.size w w' → w'.cell? ⟨pa, 0, none⟩ = some (.slice a0 sh.length q0) → w'.cell? ⟨pa, 1, none⟩ = some (.slice a1 da.length q1) → w'.cell? ⟨po, 0, none⟩ = some (.int .i64 op) → Calls Tryz.prog 24 #[.pointer (some ⟨pa, 0, none⟩), .pointer (some ⟨po, 0, none⟩)] w' (KPost w' c S D)) :=
    fun pa po w' hb g0 g1 g4 => rc_all pa po op _ _ sh da w' hl0 hl1 ((h0.keep hb).up hb.size) ((h1.keep hb).up hb.size) g0 g1 g4 _ c S D hres
      (fun k hk k0 k1 ok e w'' hb' => by
        subst hk
        have hb2 := hb.trans (hb'.mono hb.size)
        exact reduce_gen (58 + k) (Pl.noneV k) (Pl.noneB k) (Pl.twoM k) a0 q0 a1 q1 sh da w'' (callF2 k k0 k1) (fun x y w3 g0 g1 g2 g3 => cell2_any k x y w3 k0 k1 g0 g1 g2 g3) (fun x y g0 g1 g2 g3 => Pl.two_bd k k0 k1 x y g0 g1 g2 g3) ((h0.keep hb2).up hb2.size) ((h1.keep hb2).up hb2.size) hq0 hq0' hq1 hq1' ok c S D e)
  clear h0 h1 hres
  generalize sh.length = L0 at *
  generalize da.length = L1 at *
  go_enter Tryz.func7, Tryz.ntmps7
  go_wp2_with fail
  refine (answer_any 24 _ c S D _ (callF72 _) ?_).mono ?_
  · refine K.out (w.heap.size + 1) w.heap.size _ ?_ ?_ ?_ ?_
    · exact (((((Below.refl _ _).alloc (Nat.le_refl _) _).alloc (by simp) _).alloc (by simp; omega) _).alloc (by simp; omega) _).alloc (by simp; omega) _
    · simp [go_sem]
    · simp [go_sem]
    · simp [go_sem]
  rintro e w1 ⟨hb1, u0, u1, rfl, hres⟩
  have B0 : Hid (Below w.heap.size w w1) := ((((Below.refl _ _).alloc (Nat.le_refl _) _).alloc (by simp) _).alloc (by simp; omega) _).trans (hb1.mono (by simp; omega))
  have hs := hb1.size
  simp at hs
  obtain ⟨hc, hf⟩ := bcell hb1
  have r0 : w1.cell? ⟨w.heap.size + 1 + 1, 0, none⟩ = some (.slice none 0 0) := by rw [hc (w.heap.size + 1 + 1) 0 (by simp)]; simp [go_sem]
  have r1 : w1.cell? ⟨w.heap.size + 1 + 1, 1, none⟩ = some (.slice none 0 0) := by rw [hc (w.heap.size + 1 + 1) 1 (by simp)]; simp [go_sem]
  have f3 : ∀ o, w1.frozen? ⟨w.heap.size + 1 + 1, o, none⟩ = false := fun o => by rw [hf (w.heap.size + 1 + 1) o (by simp)]; simp [go_sem]
  have R : Hid (Res (w.heap.size + 1 + 1 + 1) w1 u0 u1 S D) := by
    have := hres
    show Res _ _ _ _ _ _
    simpa using this
  obtain ⟨x0, y0, e0⟩ := hres.1.form
  obtain ⟨x1, y1, e1⟩ := hres.2.1.form
  subst e0
  subst e1
  clear hc hf hb1 hres K
  go_wp2_with fail
  refine bodyPost_ret (v := .tuple #[.agg #[.slice x0 S.length y0, .slice x1 D.length y1], .int .i64 c]) (by simp [results, Tryz.results7, go_sem, r0, r1]) rfl ⟨(B0.out.setCell (by simp; omega) _).setCell (by simp; omega) _, _, _, rfl, ?_, ?_, R.out.2.2⟩
  · exact Own.base (Own.store (Own.store R.out.1 (by omega) _) (by omega) _) (by omega)
  · exact Own.base (Own.store (Own.store R.out.2.1 (by omega) _) (by omega) _) (by omega)

end Go.Proofs.YtaikmbfdhecjoaaGreat

namespace Go.Proofs.YtaikmbfdhecjoaaGreat
open Go.RowKit
set_option linter.unusedVariables false

set_option maxRecDepth 100000 in
set_option maxHeartbeats 1000000 in
theorem scan_faceG (op : Int) (b0 q0 b1 q1 : Nat) (sh da : List Int) (w : World) (hl0 : sh.length ≤ 1048576) (hl1 : da.length ≤ 1048576) (hq0 : sh.length ≤ q0) (hq0' : q0 ≤ 9223372036854775807) (hq1 : da.length ≤ q1) (hq1' : q1 ≤ 9223372036854775807)
    (h0 : Rd w.heap.size w (.slice (some ⟨b0, 0, none⟩) sh.length q0) sh) (h1 : Rd w.heap.size w (.slice (some ⟨b1, 0, none⟩) da.length q1) da) (c : Int) (S D : List Int) (hres : Pl.scaM op sh da = (c, S, D)) :
    Calls Tryz.prog 8 #[.int .i64 op, .agg #[.slice (some ⟨b0, 0, none⟩) sh.length q0, .slice (some ⟨b1, 0, none⟩) da.length q1]] w (FPost w c S D) := by
  have hmf : ∀ (fn : Fn) (first cap : Array Value) (w : World), (Instr.makeFunc fn first cap).run Tryz.prog w = .ok (.func fn first cap) w := fun _ _ _ _ => rfl
  have K : Hid (∀ pa po w', Below w.heap.size w w' → w'.cell? ⟨pa, 0, none⟩ = some (.slice (some ⟨b0, 0, none⟩) sh.length q0) → w'.cell? ⟨pa, 1, none⟩ = some (.slice (some ⟨b1, 0, none⟩) da.length q1) → w'.cell? ⟨po, 0, none⟩ = some (.int .i64 op) → Calls Tryz.prog 28 #[.pointer (some ⟨pa, 0, none⟩), .pointer (some ⟨po, 0, none⟩)] w' (KPost w' c S D)) :=
    fun pa po w' hb g0 g1 g4 => sc_all pa po op _ _ sh da w' hl0 hl1 ((h0.keep hb).up hb.size) ((h1.keep hb).up hb.size) g0 g1 g4 _ c S D hres
      (fun k hk k0 k1 ok e w'' hb' => by
        subst hk
        have hb2 := hb.trans (hb'.mono hb.size)
        exact scan_impl (58 + k) (Pl.noneV k) (Pl.noneB k) (Pl.twoM k) b0 0 q0 b1 0 q1 sh da w'' (callF2 k k0 k1) (fun x y w3 g0 g1 g2 g3 => cell2_any k x y w3 k0 k1 g0 g1 g2 g3) (fun x y g0 g1 g2 g3 => Pl.two_bd k k0 k1 x y g0 g1 g2 g3) ((h0.keep hb2).up hb2.size) ((h1.keep hb2).up hb2.size) hq0 hq0' hq1 hq1' ok c S D e)
  clear h0 h1 hres
  generalize sh.length = L0 at *
  generalize da.length = L1 at *
  go_enter Tryz.func8, Tryz.ntmps8
  go_wp2_with fail
  refine (answer_any 28 _ c S D _ (callF76 _) ?_).mono ?_
  · refine K.out (w.heap.size + 1) w.heap.size _ ?_ ?_ ?_ ?_
    · exact (((((Below.refl _ _).alloc (Nat.le_refl _) _).alloc (by simp) _).alloc (by simp; omega) _).alloc (by simp; omega) _).alloc (by simp; omega) _
    · simp [go_sem]
    · simp [go_sem]
    · simp [go_sem]
  rintro e w1 ⟨hb1, u0, u1, rfl, hres⟩
  have B0 : Hid (Below w.heap.size w w1) := ((((Below.refl _ _).alloc (Nat.le_refl _) _).alloc (by simp) _).alloc (by simp; omega) _).trans (hb1.mono (by simp; omega))
  have hs := hb1.size
  simp at hs
  obtain ⟨hc, hf⟩ := bcell hb1
  have r0 : w1.cell? ⟨w.heap.size + 1 + 1, 0, none⟩ = some (.slice none 0 0) := by rw [hc (w.heap.size + 1 + 1) 0 (by simp)]; simp [go_sem]
  have r1 : w1.cell? ⟨w.heap.size + 1 + 1, 1, none⟩ = some (.slice none 0 0) := by rw [hc (w.heap.size + 1 + 1) 1 (by simp)]; simp [go_sem]
  have f3 : ∀ o, w1.frozen? ⟨w.heap.size + 1 + 1, o, none⟩ = false := fun o => by rw [hf (w.heap.size + 1 + 1) o (by simp)]; simp [go_sem]
  have R : Hid (Res (w.heap.size + 1 + 1 + 1) w1 u0 u1 S D) := by
    have := hres
    show Res _ _ _ _ _ _
    simpa using this
  obtain ⟨x0, y0, e0⟩ := hres.1.form
  obtain ⟨x1, y1, e1⟩ := hres.2.1.form
  subst e0
  subst e1
  clear hc hf hb1 hres K
  go_wp2_with fail
  refine bodyPost_ret (v := .tuple #[.agg #[.slice x0 S.length y0, .slice x1 D.length y1], .int .i64 c]) (by simp [results, Tryz.results8, go_sem, r0, r1]) rfl ⟨(B0.out.setCell (by simp; omega) _).setCell (by simp; omega) _, _, _, rfl, ?_, ?_, R.out.2.2⟩
  · exact Own.base (Own.store (Own.store R.out.1 (by omega) _) (by omega) _) (by omega)
  · exact Own.base (Own.store (Own.store R.out.2.1 (by omega) _) (by omega) _) (by omega)

end Go.Proofs.YtaikmbfdhecjoaaGreat

namespace Go.Proofs.YtaikmbfdhecjoaaGreat
open Go.RowKit
set_option linter.unusedVariables false

set_option maxRecDepth 100000 in
/-- impl.chosen, over the table of monadOf -/
theorem chosenM_no (n : Int) (b : Nat) (w : World) (h : n < 1 ∨ 8 ≤ n) : Calls Tryz.prog 78 #[.int .i64 n, .slice (some ⟨b, 0, none⟩) 8 8] w fun e w' => e = .panicked [thrown 9] ∧ w' = w := by
  rcases h with h | h
  · go_enter Tryz.func78, Tryz.ntmps78
    go_wp2_with (go_at_call 49; refine (refuse_yes _ _).mono ?_; rintro e w' ⟨rfl, rfl⟩)
    exact ⟨rfl, rfl, rfl⟩
  · have h' : ¬ n < 1 := by omega
    go_enter Tryz.func78, Tryz.ntmps78
    go_wp2_with (go_at_call 49; refine (refuse_yes _ _).mono ?_; rintro e w' ⟨rfl, rfl⟩)
    exact ⟨rfl, rfl, rfl⟩

theorem chosenM_yes (k b : Nat) (v : Value) (w : World) (h0 : 1 ≤ k) (h1 : k < 8) (hc : w.cell? ⟨b, k, none⟩ = some v) : Calls Tryz.prog 78 #[.int .i64 (k : Int), .slice (some ⟨b, 0, none⟩) 8 8] w fun e w' => e = .returned v ∧ w' = w := by
  have e0 : ¬ ((k : Int) < 1) := by omega
  have e1 : ¬ (8 ≤ (k : Int)) := by omega
  go_enter Tryz.func78, Tryz.ntmps78
  go_wp2_with (go_at_call 49; refine (refuse_no _ _).mono ?_; rintro e w' ⟨rfl, rfl⟩)
  go_ret
  exact ⟨rfl, rfl⟩

/-- impl.monadOf -/
theorem monadOf_no (n : Int) (w : World) (h : n < 1 ∨ 8 ≤ n) : Calls Tryz.prog 34 #[.int .i64 n] w fun e w' => e = .panicked [thrown 9] ∧ Below w.heap.size w w' := by
  have K := hideP (fun b w => chosenM_no n b w h)
  clear h
  go_enter Tryz.func34, Tryz.ntmps34
  go_wp2_with (go_at_call 78; refine (K.out _ _).mono ?_; rintro e w' ⟨rfl, rfl⟩)
  exact ⟨rfl, rfl, (Below.refl _ _).alloc (Nat.le_refl _) _⟩

theorem monadOf_yes (k : Nat) (w : World) (h0 : 1 ≤ k) (h1 : k < 8) : Calls Tryz.prog 34 #[.int .i64 (k : Int)] w fun e w' => e = .returned (.func (.func (78 + k)) #[] #[]) ∧ Below w.heap.size w w' := by
  have K := hideP (fun b v w => chosenM_yes k b v w h0 h1)
  have hk : k = 1 ∨ k = 2 ∨ k = 3 ∨ k = 4 ∨ k = 5 ∨ k = 6 ∨ k = 7 := by omega
  clear h0 h1
  rcases hk with rfl | rfl | rfl | rfl | rfl | rfl | rfl
  all_goals
    go_enter Tryz.func34, Tryz.ntmps34
    go_wp2_with fail
    refine (K.out _ _ _ (by simp [go_sem]; rfl)).mono ?_
    rintro e w' ⟨rfl, rfl⟩
    go_wp2_with fail
    go_ret
    exact ⟨rfl, (Below.refl _ _).alloc (Nat.le_refl _) _⟩

end Go.Proofs.YtaikmbfdhecjoaaGreat
