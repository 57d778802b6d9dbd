import Derived.Test.YtmobjomebmipdaaMon5
import Derived.Test.YtmobjomebmipdaaS6
namespace Go.Proofs.Ytmobjomebmipdaa
open Go.RowKit
set_option linter.unusedVariables false

namespace Pl
/-- the key of a place -/
def key (da : List Int) (x : Int) : Int := da.getD x.toNat 0
/-- grade -/
def gradeM (sh da : List Int) : Int × List Int × List Int := if sh.length = 1 then (0, [(da.length : Int)], grd (key da) 0 da.length) else (2, [], [])
end Pl

/-- a row that was sorted is the list -/
theorem own_of_rw {B g n : Nat} {f : Nat → Int} {w : World} {zs : List Int} (h : Rw g 0 n f w) (hB : B ≤ g) (e : Pl.seg f 0 n = zs) : Own B w (.slice (some ⟨g, 0, none⟩) n n) zs := by
  subst e
  have hl : (Pl.seg f 0 n).length = n := by rw [Pl.seg_len]; rfl
  refine ⟨some ⟨g, 0, none⟩, n, by rw [hl], .inr ⟨g, 0, hB, h.1, rfl, fun i hi => ?_⟩⟩
  rw [hl] at hi
  have := h.2 i hi
  have e1 : (Pl.seg f 0 n).getD i 0 = f i := by
    rw [List.getD, Pl.seg_get (by omega), Nat.zero_add]
    rfl
  rw [e1]
  exact this

/-- .. and a list of one's own is such a row -/
theorem rw_of_own {base g n cap : Nat} {w : World} {zs : List Int} (h : w.ownsRow base 3 1 (.slice (some ⟨g, 0, none⟩) n cap) n (zs.map (Value.int .i64))) (hl : zs.length = n) : Rw g 0 n (fun t => zs.getD t 0) w := by
  rcases h.2 with ⟨e, _⟩ | ⟨g', cap', cur, e, _, hg, _⟩
  · injection e with e1 _ _; cases e1
  · injection e with e1 _ _
    injection e1 with e1
    injection e1 with e1 _ _
    subst e1
    refine ⟨(Array.getElem?_eq_some_iff.1 hg).1, fun t ht => ⟨?_, frozen_of_row w g (0 + t) cur 3 hg⟩⟩
    show _ = some (Value.int .i64 (zs.getD t 0))
    rw [Nat.zero_add, h.cellAt t (by omega), List.getElem?_map, List.getD, List.getElem?_eq_getElem (by omega)]
    rfl

set_option maxRecDepth 100000 in
set_option maxHeartbeats 4000000 in
/-- impl.grade -/
theorem grade_any (v0 v1 : Value) (sh da : List Int) (w : World) (hok : Pl.okB sh da = true) (h0 : Rd w.heap.size w v0 sh) (h1 : Rd w.heap.size w v1 da) (c : Int) (S D : List Int) (hres : Pl.gradeM sh da = (c, S, D)) :
    Calls Try.prog 116 #[.agg #[v0, v1]] w (KPost w c S D) := by
  have hmf : ∀ (fn : Fn) (first cap : Array Value) (w : World), (Instr.makeFunc fn first cap).run Try.prog w = .ok (.func fn first cap) w := fun _ _ _ _ => rfl
  obtain ⟨hm0, hm1⟩ := Pl.ok_max hok
  obtain ⟨a0, d0, e0⟩ := h0.form
  obtain ⟨a1, d1, b1, o1, e1, hao1, hb1, hc1⟩ := h1.parts
  subst e0
  subst e1
  have PB : Hid (∀ W, Below (w.heap.size + 1 + 1) ((w.alloc (.cells #[.slice a0 sh.length d0, .slice a1 da.length d1] 27)).alloc (.cells #[.slice none 0 0, .slice none 0 0] 27)) W → (W.cell? ⟨w.heap.size, 0, none⟩ = some (.slice a0 sh.length d0) ∧ W.cell? ⟨w.heap.size, 1, none⟩ = some (.slice a1 da.length d1)) ∧ (W.cell? ⟨w.heap.size + 1, 0, none⟩ = some (.slice none 0 0) ∧ W.cell? ⟨w.heap.size + 1, 1, none⟩ = some (.slice none 0 0) ∧ ∀ o, W.frozen? ⟨w.heap.size + 1, o, none⟩ = false) ∧ Below w.heap.size w W) := fun W hb => boxes2 hb
  unfold Pl.gradeM at hres
  by_cases hsl : sh.length = 1
  · rw [if_pos hsl] at hres
    simp only [Prod.mk.injEq] at hres
    obtain ⟨rfl, rfl, rfl⟩ := hres
    have hne : ((sh.length : Int) != 1) = false := by rw [bne_eq_false_iff_eq]; omega
    obtain ⟨wb, hwb⟩ : ∃ wb, wb = (w.alloc (.cells #[.slice a0 sh.length d0, .slice a1 da.length d1] 27)).alloc (.cells #[.slice none 0 0, .slice none 0 0] 27) := ⟨_, rfl⟩
    have WS : wb.heap.size = w.heap.size + 1 + 1 := by rw [hwb]; simp
    rw [← hwb] at PB
    have HC : Hid (Cmp (w.heap.size + 1 + 1) wb w.heap.size (Pl.key da) (fun x => 0 ≤ x ∧ x < da.length)) := by
      obtain ⟨⟨_, q1⟩, _, q3⟩ := PB.out wb (Below.refl _ _)
      by_cases hz : da.length = 0
      · intro x y W hx
        omega
      · have hao := hao1 (by omega)
        have hbl := hb1 (by omega)
        rw [hao] at q1
        exact grade1_any w.heap.size b1 o1 d1 (.slice a0 sh.length d0) da wb (w.heap.size + 1 + 1) (by omega) (by omega) q1 (fun i hi => (q3.cell (p := ⟨b1, o1 + i, none⟩) hbl).trans (hc1 i hi))
    have hn : da.length ≤ 1000 := hm1
    generalize Pl.key da = kk at *
    clear h0 h1 hok hsl hao1 hb1 hc1 hm0 hm1
    generalize sh.length = L at *
    generalize da.length = n at *
    have c00 := (PB.out wb (Below.refl _ _)).1.1
    have c01 := (PB.out wb (Below.refl _ _)).1.2
    go_enter Try.func116, Try.ntmps116
    go_wp2_with (go_at_call 83; refine (refuse_no 2 _).mono ?_; rintro e w1 ⟨rfl, rfl⟩)
    rw [← hwb]
    refine (positions_any n _ hn).mono ?_
    rintro e w2 ⟨rfl, ho2, hb2⟩
    have hs2 := hb2.size
    rw [WS] at ho2 hb2
    have B2 := hideP (show Below (w.heap.size + 1 + 1) wb w2 from hb2)
    have R2 : Hid (Rw (w.heap.size + 1 + 1) 0 n (fun t => (Pl.iotaL n).getD t 0) w2) := rw_of_own ho2 (Pl.iotaL_len n)
    have KS := hideP (sortStable_any (w.heap.size + 1 + 1) wb w.heap.size (w.heap.size + 1 + 1) 0 n n kk (fun x => 0 ≤ x ∧ x < n) _ w2 ⟨HC.out, Nat.le_refl _, fun t ht => ⟨by omega, by omega⟩⟩ R2.out (by omega) (fun t ht => by
      show (Pl.iotaL n).getD t 0 = _
      unfold Pl.iotaL
      rw [List.getD, List.getElem?_map, List.getElem?_range ht]
      rfl) B2.out)
    clear ho2 hb2 R2 HC
    go_wp2_with fail
    refine KS.out.mono ?_
    rintro e w3 ⟨rfl, ⟨f3, hr3, hs3⟩, hg3⟩
    have B3 := hideP (hg3.keep B2.out (Nat.le_refl _) (by omega))
    have O3 := hideP (own_of_rw (B := w.heap.size + 1 + 1) hr3 (Nat.le_refl _) hs3)
    have hs4 := hg3.size
    clear hr3 hs3 hg3 KS
    go_wp2_with fail
    refine (vector_any _ n n w3).mono ?_
    rintro e w4 ⟨g, rfl, ho4, hb4⟩
    have B4 := hideP (B3.out.trans (hb4.mono (by omega)))
    have X4 := hideP (PB.out _ B4.out)
    have OV := hideP (O3.out.keep hb4)
    have OS := hideP ho4
    have AP := hideP (apart_lo2 (da := Pl.grd kk 0 n) ho4 O3.out.lt)
    have hs5 := hb4.size
    clear ho4 hb4 c00 c01
    have r0 := X4.out.2.1.1
    have r1 := X4.out.2.1.2.1
    have f2 := X4.out.2.1.2.2
    go_wp2_with fail
    refine bodyPost_ret (v := .agg #[.slice (some ⟨g, 0, none⟩) 1 1, .slice (some ⟨w.heap.size + 1 + 1, 0, none⟩) n n]) (by simp [results, Try.results116, go_sem, r0, r1]) rfl ⟨(X4.out.2.2.setCell (by simp) _).setCell (by simp) _, .inl ⟨rfl, _, _, rfl, ?_, ?_, AP.out⟩⟩
    · exact Own.base (Own.store (Own.store OS.out (by omega) _) (by omega) _) (by omega)
    · exact Own.base (Own.store (Own.store OV.out (by omega) _) (by omega) _) (by omega)
  · rw [if_neg hsl] at hres
    simp only [Prod.mk.injEq] at hres
    obtain ⟨rfl, rfl, rfl⟩ := hres
    have hne : ((sh.length : Int) != 1) = true := by rw [bne_iff_ne]; omega
    have X1 := hideP (PB.out _ (Below.refl _ _))
    clear h0 h1 hok hsl hao1 hb1 hc1 hm0 hm1
    generalize sh.length = L at *
    generalize da.length = M at *
    go_enter Try.func116, Try.ntmps116
    go_wp2_with (go_at_call 83; refine (refuse_yes _ _).mono ?_; rintro e w1 ⟨rfl, rfl⟩)
    exact ⟨rfl, X1.out.2.2, .inr ⟨by decide, rfl, rfl, rfl⟩⟩

end Go.Proofs.Ytmobjomebmipdaa
