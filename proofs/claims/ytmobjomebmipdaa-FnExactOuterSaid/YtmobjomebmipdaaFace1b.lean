import Derived.Test.YtmobjomebmipdaaFace1
namespace Go.Proofs.Ytmobjomebmipdaa
open Go.RowKit
set_option linter.unusedVariables false

namespace Pl
def each1C (op : Int) (sh da : List Int) : Int := if okB sh da = true ∧ 1 ≤ op ∧ op < 5 then firstC (oneM op) da else 9
def each1S (op : Int) (sh da : List Int) : List Int := if each1C op sh da = 0 then sh else []
def each1D (op : Int) (sh da : List Int) : List Int := if each1C op sh da = 0 then da.map (fun x => (oneM op x).1) else []

theorem ok_cell {sh da : List Int} (h : okB sh da = true) {x : Int} (hx : x ∈ da) : -3000000000 ≤ x ∧ x ≤ 3000000000 := by
  simp only [okB, Bool.and_eq_true, List.all_eq_true] at h
  have := h.2 x hx
  simpa [valB] using this
end Pl

theorem each1c_all (pa po : Nat) (op : Int) (v0 v1 : Value) (sh da : List Int) (w : World) (hl0 : sh.length ≤ 1048576) (hl1 : da.length ≤ 1048576) (h0 : Rd w.heap.size w v0 sh) (h1 : Rd w.heap.size w v1 da)
    (ca0 : w.cell? ⟨pa, 0, none⟩ = some v0) (ca1 : w.cell? ⟨pa, 1, none⟩ = some v1) (co : w.cell? ⟨po, 0, none⟩ = some (.int .i64 op)) (hpa : pa < w.heap.size) (hpo : po < w.heap.size) :
    Calls Try.prog 43 #[.pointer (some ⟨pa, 0, none⟩), .pointer (some ⟨po, 0, none⟩)] w (KPost w (Pl.each1C op sh da) (Pl.each1S op sh da) (Pl.each1D op sh da)) := by
  unfold Pl.each1S Pl.each1D
  by_cases hok : Pl.okB sh da = true
  · by_cases hop : 1 ≤ op ∧ op < 5
    · have e : Pl.each1C op sh da = Pl.firstC (Pl.oneM op) da := by unfold Pl.each1C; rw [if_pos ⟨hok, hop⟩]
      rw [e]
      obtain ⟨k, rfl⟩ := Int.eq_ofNat_of_zero_le (show 0 ≤ op by omega)
      have hk : k = 1 ∨ k = 2 ∨ k = 3 ∨ k = 4 := by omega
      refine each1c_go pa po (k : Int) v0 v1 sh da w hl0 hl1 h0 h1 ca0 ca1 co hpa hpo hok (.func (.func (85 + k)) #[] #[]) _ _ _ (fun w' => oneOf_yes k w' (by omega) (by omega)) ?_
      intro w' hb
      refine each1_any (85 + k) #[] (Pl.oneM k) v0 v1 sh da w' hl0 hl1 ((h0.keep hb).up hb.size) ((h1.keep hb).up hb.size) ?_ ?_
      · intro args w''
        rcases hk with rfl | rfl | rfl | rfl
        · exact callF86 args w''
        · exact callF87 args w''
        · exact callF88 args w''
        · exact callF89 args w''
      · intro x hx w'' _
        have hb := Pl.ok_cell hok hx
        rcases hk with rfl | rfl | rfl | rfl
        · exact cellNeg_any x w'' hb.1 hb.2
        · exact cellAbs_any x w'' hb.1 hb.2
        · exact cellSign_any x w''
        · exact cellNot_any x w'' hb.1 hb.2
    · have e : Pl.each1C op sh da = 9 := by unfold Pl.each1C; rw [if_neg (fun h => hop h.2)]
      rw [e]
      exact each1c_op pa po op v0 v1 sh da w hl0 hl1 h0 h1 ca0 ca1 co hpa hpo hok (by omega)
  · have e : Pl.each1C op sh da = 9 := by unfold Pl.each1C; rw [if_neg (fun h => hok h.1)]
    rw [e]
    exact each1c_bad pa po v0 v1 sh da w hl0 hl1 h0 h1 ca0 ca1 hpa (by simpa using hok)

set_option maxRecDepth 100000 in
set_option maxHeartbeats 1000000 in
/-- impl.Each1 -/
theorem each1_face (op : Int) (v0 v1 : Value) (sh da : List Int) (w : World) (hl0 : sh.length ≤ 1048576) (hl1 : da.length ≤ 1048576) (h0 : Rd w.heap.size w v0 sh) (h1 : Rd w.heap.size w v1 da) :
    Calls Try.prog 17 #[.int .i64 op, .agg #[v0, v1]] w (FPost w (Pl.each1C op sh da) (Pl.each1S op sh da) (Pl.each1D op sh da)) := by
  have hmf : ∀ (fn : Fn) (first cap : Array Value) (w : World), (Instr.makeFunc fn first cap).run Try.prog w = .ok (.func fn first cap) w := fun _ _ _ _ => rfl
  have K := hideP (fun pa po w' (hb : Below w.heap.size w w') => each1c_all pa po op v0 v1 sh da w' hl0 hl1 ((h0.keep hb).up hb.size) ((h1.keep hb).up hb.size))
  obtain ⟨a0, d0, e0⟩ := h0.form
  obtain ⟨a1, d1, e1⟩ := h1.form
  subst e0
  subst e1
  clear h0 h1
  generalize Pl.each1C op sh da = c at *
  generalize Pl.each1S op sh da = sh' at *
  generalize Pl.each1D op sh da = da' at *
  go_enter Try.func17, Try.ntmps17
  go_wp2_with fail
  refine (answer_any 43 _ c sh' da' _ (callF43 _) ?_).mono ?_
  · refine K.out (w.heap.size + 1) w.heap.size _ ?_ ?_ ?_ ?_ ?_ ?_
    · exact (((((Below.refl _ _).alloc (Nat.le_refl _) _).alloc (by simp) _).alloc (by simp; omega) _).alloc (by simp; omega) _).alloc (by simp; omega) _
    · simp [go_sem]
    · simp [go_sem]
    · simp [go_sem]
    · simp
    · simp; omega
  rintro e w1 ⟨hb1, u0, u1, rfl, hres⟩
  have B0 : Hid (Below w.heap.size w w1) := ((((Below.refl _ _).alloc (Nat.le_refl _) _).alloc (by simp) _).alloc (by simp; omega) _).trans (hb1.mono (by simp; omega))
  have hs := hb1.size
  simp at hs
  obtain ⟨hc, hf⟩ := bcell hb1
  have r0 : w1.cell? ⟨w.heap.size + 1 + 1, 0, none⟩ = some (.slice none 0 0) := by rw [hc (w.heap.size + 1 + 1) 0 (by simp)]; simp [go_sem]
  have r1 : w1.cell? ⟨w.heap.size + 1 + 1, 1, none⟩ = some (.slice none 0 0) := by rw [hc (w.heap.size + 1 + 1) 1 (by simp)]; simp [go_sem]
  have f3 : ∀ o, w1.frozen? ⟨w.heap.size + 1 + 1, o, none⟩ = false := fun o => by rw [hf (w.heap.size + 1 + 1) o (by simp)]; simp [go_sem]
  have R : Hid (Res (w.heap.size + 1 + 1 + 1) w1 u0 u1 sh' da') := by
    have := hres
    show Res _ _ _ _ _ _
    simpa using this
  obtain ⟨x0, y0, e0⟩ := hres.1.form
  obtain ⟨x1, y1, e1⟩ := hres.2.1.form
  subst e0
  subst e1
  clear hc hf hb1 hres K
  go_wp2_with fail
  refine bodyPost_ret (v := .tuple #[.agg #[.slice x0 sh'.length y0, .slice x1 da'.length y1], .int .i64 c]) (by simp [results, Try.results17, go_sem, r0, r1]) rfl ⟨(B0.out.setCell (by simp; omega) _).setCell (by simp; omega) _, _, _, rfl, ?_, ?_, R.out.2.2⟩
  · exact Own.base (Own.store (Own.store R.out.1 (by omega) _) (by omega) _) (by omega)
  · exact Own.base (Own.store (Own.store R.out.2.1 (by omega) _) (by omega) _) (by omega)

end Go.Proofs.Ytmobjomebmipdaa
