import Derived.Test.YtmobjomebmipdaaFirst2
import Derived.Test.YtmobjomebmipdaaScan
namespace Go.Proofs.Ytmobjomebmipdaa
open Go.RowKit
set_option linter.unusedVariables false

namespace Pl
def catZ (zz : Nat → List Int) (j : Nat) : List Int := (List.range j).flatMap zz
theorem catZ_succ (zz : Nat → List Int) (j : Nat) : catZ zz (j + 1) = catZ zz j ++ zz j := by
  unfold catZ
  rw [List.range_succ, List.flatMap_append]
  simp
end Pl

set_option maxRecDepth 100000 in
set_option maxHeartbeats 4000000 in
/-- spec.l2Stack -/
theorem l2Stack_any (rp : Option Addr) (rb k rcap : Nat) (dv : Nat → Value) (zz : Nat → List Int) (sv : Value) (st : List Int) (w : World) (hrp : 0 < k → rp = some ⟨rb, 0, none⟩) (hk : k ≤ 1000) (hrb : 0 < k → rb < w.heap.size)
    (hc : ∀ i, i < k → w.cell? ⟨rb, i * 2 + 1, none⟩ = some (dv i)) (hd : ∀ i, i < k → Rd w.heap.size w (dv i) (zz i)) (hs : Rd w.heap.size w sv st) (hl : ∀ j, j ≤ k → (Pl.catZ zz j).length ≤ 1000) (hst : st.length ≤ 2) (hf : Pl.fitsB ((k : Int) :: st) = true) :
    Calls Try.prog 75 #[sv, .slice rp k rcap] w (FPost w 0 ((k : Int) :: st) (Pl.catZ zz k)) := by
  have HC := hideP hc
  have HD := hideP hd
  have HL := hideP hl
  have HP := hideP hrp
  have HB := hideP hrb
  have HS := hideP hs
  have HFI := hideP hf
  obtain ⟨a0, d0, e0⟩ := hs.form
  subst e0
  clear hc hd hl hrp hrb hs hf
  have A : Hid (∀ o o', Below w.heap.size w ((w.alloc o).alloc o')) := fun o o' => ((Below.refl _ _).alloc (Nat.le_refl _) _).alloc (by simp) _
  have PB : Hid (∀ W, Below (w.heap.size + 1) (w.alloc (.cells #[.slice none 0 0, .slice none 0 0] 27)) W → (W.cell? ⟨w.heap.size, 0, none⟩ = some (.slice none 0 0) ∧ W.cell? ⟨w.heap.size, 1, none⟩ = some (.slice none 0 0) ∧ ∀ o, W.frozen? ⟨w.heap.size, o, none⟩ = false) ∧ Below w.heap.size w W) := fun W hb => by
    have c := fun o => hb.cell (p := ⟨w.heap.size, o, none⟩) (by show w.heap.size < _; omega)
    have f := fun o => hb.frozen (p := ⟨w.heap.size, o, none⟩) (by show w.heap.size < _; omega)
    refine ⟨⟨by rw [c]; simp [go_sem], by rw [c]; simp [go_sem], fun o => by rw [f]; simp [go_sem]⟩, ?_⟩
    exact ((Below.refl _ _).alloc (Nat.le_refl _) _).trans (hb.mono (by omega))
  have OE : Hid (((w.alloc (.cells #[.slice none 0 0, .slice none 0 0] 27)).alloc (.cells #[] 3)).ownsRow (w.heap.size + 1) 3 1 (.slice (some ⟨w.heap.size + 1, 0, none⟩) 0 0) 0 (([] : List Int).map (Value.int .i64))) := by
    have := owns_empty (w.alloc (.cells #[.slice none 0 0, .slice none 0 0] 27)) (w.heap.size + 1) (by simp)
    have e : (w.alloc (.cells #[.slice none 0 0, .slice none 0 0] 27)).heap.size = w.heap.size + 1 := by simp
    rw [e] at this
    exact this
  go_enter Try.func75, Try.ntmps75
  go_wp2_with fail
  go_loopw [6, 7] (fun dvv i wr => ∃ j : Nat, j ≤ k ∧ i = .int .i64 j ∧ Hid (wr.ownsRow (w.heap.size + 1) 3 1 dvv (Pl.catZ zz j).length ((Pl.catZ zz j).map (Value.int .i64))) ∧ Hid (Below (w.heap.size + 1) (w.alloc (.cells #[.slice none 0 0, .slice none 0 0] 27)) wr)) (fun _ i _ => k - (intOf i).toNat)
  case atStart => exact ⟨0, Nat.zero_le _, rfl, OE, (Below.refl _ _).alloc (by simp) _⟩
  case round =>
    obtain ⟨j, hj, rfl, ho, hbel⟩ := hrel
    have X := hideP (PB.out _ hbel.out)
    have hsw : w.heap.size + 1 ≤ wr.heap.size := by have := hbel.out.size; simpa using this
    obtain ⟨xo, yo, eo⟩ := owns_form ho.out
    subst eo
    by_cases hlt : j < k
    · have hlt' : (j : Int) < (k : Int) := by omega
      have hrp := HP.out (by omega)
      have hrb := HB.out (by omega)
      obtain ⟨xa, xc, ed⟩ := (HD.out j hlt).form
      have RD := hideP (((HD.out j hlt).keep X.out.2).up X.out.2.size)
      have hck : wr.cell? ⟨rb, j * 2 + 1, none⟩ = some (.slice xa (zz j).length xc) := by
        rw [← ed]
        exact (X.out.2.cell (p := ⟨rb, j * 2 + 1, none⟩) hrb).trans (HC.out j hlt)
      rw [ed] at RD
      have SU := hideP (Pl.catZ_succ zz j)
      have UB : Hid ((Pl.catZ zz j).length + (zz j).length ≤ 16777216) := by
        have := HL.out (j + 1) (by omega)
        rw [SU.out, List.length_append] at this
        show _ ≤ _
        omega
      subst hrp
      clear ed
      generalize zz j = zj at *
      go_wp2_with (at_builtin; refine wpList_append_rd_at (base := w.heap.size + 1) _ rfl _ _ rfl _ _ rfl rfl _ _ _ ho.out RD.out UB.out hsw ?_)
      intro v' w5 ho5 hg5 _
      have D5 : Hid (Below (w.heap.size + 1) (w.alloc (.cells #[.slice none 0 0, .slice none 0 0] 27)) w5) := hbel.out.grown hg5 hsw (fun k hk => (ho.out.lt k hk).1)
      have O5 : Hid (w5.ownsRow (w.heap.size + 1) 3 1 v' (Pl.catZ zz (j + 1)).length ((Pl.catZ zz (j + 1)).map (Value.int .i64))) := by
        show World.ownsRow _ _ _ _ _ _ _
        rw [SU.out, List.length_append, List.map_append]
        exact ho5
      clear ho5 hg5 hck
      go_wp2_with fail
      go_roundw
      case rel => exact ⟨j + 1, by omega, by go_num, O5, D5⟩
      case measure => simp [intOf]; omega
    · have jn : j = k := by omega
      subst jn
      have A1 : Hid (Below wr.heap.size wr (wr.alloc (.cells #[.int .i64 (j : Int)] 3))) := (Below.refl _ _).alloc (Nat.le_refl _) _
      have RS := hideP (((HS.out.keep X.out.2).up X.out.2.size).keep A1.out)
      have OL := hideP (owns_one wr (j : Int) wr.heap.size (Nat.le_refl _))
      have OD := hideP (own_of_any ho.out)
      go_wp2_with (at_builtin; refine wpList_append_rd_at (base := wr.heap.size) _ rfl _ _ rfl _ _ rfl rfl 1 [(j : Int)] st OL.out RS.out (by omega) (by simp) ?_)
      intro v' w5 ho5 hg5 _
      have B5 : Hid (Below wr.heap.size wr w5) := A1.out.grown hg5 (by simp) (fun k hk => (OL.out.lt k hk).1)
      have O5 : Hid (w5.ownsRow wr.heap.size 3 1 v' ((j : Int) :: st).length (((j : Int) :: st).map (Value.int .i64))) := by
        have := ho5
        rw [Nat.add_comm] at this
        exact this
      obtain ⟨xs, ys, es⟩ := owns_form O5.out
      subst es
      clear ho5 hg5
      have KM : Hid (Calls Try.prog 78 #[.slice xs ((j : Int) :: st).length ys, .slice xo (Pl.catZ zz j).length yo] w5 fun e w' => e = .returned (.tuple #[.agg #[.slice xs ((j : Int) :: st).length ys, .slice xo (Pl.catZ zz j).length yo], .int .i64 0]) ∧ Below w5.heap.size w5 w') := (l2Made_any _ xs xo _ ys yo ((j : Int) :: st) w5 (by simp; omega) (own_of_any O5.out).rd (Nat.le_refl _)).mono (by
        rintro e w' ⟨hb, ⟨_, rfl⟩ | ⟨hf, _⟩⟩
        · exact ⟨rfl, hb⟩
        · rw [HFI.out] at hf; cases hf)
      have eL : ((j : Int) :: st).length = st.length + 1 := rfl
      go_wp2_with fail
      refine KM.out.mono ?_
      rintro e w6 ⟨rfl, hb6⟩
      have B6 := hideP (B5.out.trans (hb6.mono B5.out.size))
      have X6 := hideP (PB.out _ (hbel.out.trans (B6.out.mono hsw)))
      have O6 := hideP ((own_of_any O5.out).keep hb6)
      have D6 := hideP (OD.out.keep B6.out)
      have AP := hideP (apart_lo (u0 := .slice xs ((j : Int) :: st).length ys) (own_of_any O5.out) OD.out.lt (Nat.le_refl _))
      have hs6 := B6.out.size
      clear hb6
      have r0 := X6.out.1.1
      have r1 := X6.out.1.2.1
      have f2 := X6.out.1.2.2
      go_wp2_with fail
      refine bodyPost_ret (v := .tuple #[.agg #[.slice xs ((j : Int) :: st).length ys, .slice xo (Pl.catZ zz j).length yo], .int .i64 0]) (by simp [results, Try.results75, go_sem, r0, r1]) rfl ⟨(X6.out.2.setCell (by simp) _).setCell (by simp) _, _, _, rfl, ?_, ?_, AP.out⟩
      · exact Own.base (Own.store (Own.store O6.out (by omega) _) (by omega) _) (by omega)
      · exact Own.base (Own.store (Own.store D6.out (by omega) _) (by omega) _) (by omega)

end Go.Proofs.Ytmobjomebmipdaa
