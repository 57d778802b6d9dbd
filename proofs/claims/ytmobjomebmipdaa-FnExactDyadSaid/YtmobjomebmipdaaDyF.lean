import Derived.Test.YtmobjomebmipdaaDyY
import Derived.Test.YtmobjomebmipdaaDyZ
import Derived.Test.YtmobjomebmipdaaDyW
import Derived.Test.YtmobjomebmipdaaDy9
import Derived.Test.YtmobjomebmipdaaDy7
import Derived.Test.YtmobjomebmipdaaDy5
import Derived.Test.YtmobjomebmipdaaDyC
import Derived.Test.YtmobjomebmipdaaFold
namespace Go.Proofs.Ytmobjomebmipdaa
open Go.RowKit
set_option linter.unusedVariables false

namespace Pl
/-- what Dyad does by its number -/
def dyadM (op : Int) (sa da sb db : List Int) : Int × List Int × List Int :=
  if op = 1 then reshM sa da sb db else if op = 2 then takeM sa da sb db else if op = 3 then dropM sa da sb db else if op = 4 then catM sa da sb db
  else if op = 5 then fromM sa da sb db else if op = 6 then findM sa da sb db else (0, [], [boolM (decide (sa = sb) && decide (da = db))])
theorem asR_len (s : List Int) (m : Nat) : (asR s m).length ≤ s.length + 1 := by
  unfold asR
  split <;> simp
theorem axes_len (s d : List Int) : (axesS s d).length ≤ s.length + 1 := by
  unfold axesS
  split <;> simp
theorem dyad_len (op : Int) (sa da sb db : List Int) (h : sa.length ≤ 1048576 ∧ da.length ≤ 1048576 ∧ sb.length ≤ 1048576 ∧ db.length ≤ 1048576) :
    (dy8 (dyadM op) op sa da sb db).2.1.length ≤ 1048576 ∧ (dy8 (dyadM op) op sa da sb db).2.2.length ≤ 1048576 := by
  unfold dy8
  split
  · rename_i hok
    obtain ⟨h0, h1⟩ := ok_max hok.2.2.1
    obtain ⟨h2, h3⟩ := ok_max hok.2.2.2
    have hax := axes_len sb db
    have hax2 := axes_len sa da
    unfold dyadM
    split
    · unfold reshM
      repeat' split
      all_goals try simp
      rename_i g1 g2 g3 g4 g5
      have hf : fitsB da = true := by simpa using g4
      simp only [fitsB, Bool.and_eq_true, decide_eq_true_eq] at hf
      omega
    · split
      · unfold takeM
        split
        · split
          · rename_i hsa hf
            refine ⟨by simp; omega, ?_⟩
            obtain ⟨x, hx⟩ := List.length_eq_one_iff.1 (ok_one hok.2.2.1 hsa)
            obtain ⟨W, hW⟩ := Int.eq_ofNat_of_zero_le (show 0 ≤ max (da.getD 0 0) (-da.getD 0 0) by omega)
            rw [hW] at hf ⊢
            have hbt : baseB (axesS sb db).tail = true := by
              simp only [fitsB, Bool.and_eq_true] at hf
              exact base_tail (sh := (W : Int) :: (axesS sb db).tail) hf.1
            obtain ⟨TP, hTP⟩ := Int.eq_ofNat_of_zero_le (prod_two _ hbt).1.1
            have hWT : W * TP ≤ 1000 := by
              rw [fits_eq] at hf
              simp only [Bool.and_eq_true, decide_eq_true_eq] at hf
              have h4 := hf.2
              rw [prodP_cons, hTP] at h4
              have : ((W * TP : Nat) : Int) = (W : Int) * (TP : Int) := by simp
              omega
            rw [hTP, Int.toNat_natCast, Int.toNat_natCast]
            unfold takeD
            have h5 : ∀ t : Nat, (W - t) * TP ≤ W * TP := fun t => Nat.mul_le_mul_right TP (Nat.sub_le _ _)
            split
            · rw [List.length_append, List.length_replicate, List.length_take, List.length_drop]
              have := h5 (gone (da.getD 0 0) ((axesS sb db).getD 0 0)).toNat
              omega
            · rw [List.length_append, List.length_replicate, List.length_take]
              have := h5 (gone (da.getD 0 0) ((axesS sb db).getD 0 0)).toNat
              omega
          · simp
        · simp
      · split
        · unfold dropM
          split
          · refine ⟨by simp; omega, ?_⟩
            show (List.take _ _).length ≤ _
            rw [List.length_take, List.length_drop]
            omega
          · simp
        · split
          · unfold catM
            split
            · split
              · split
                · have := asR_len (axesS sa da) (axesS sb db).length
                  refine ⟨by simp; omega, by simp; omega⟩
                · simp
              · simp
            · simp
          · split
            · unfold fromM
              split
              · simp
              · split
                · split
                  · refine ⟨by simp; omega, ?_⟩
                    have h6 := flat_len db (prodC sb.tail).toNat da
                    have hall : sb.tail.all inR = true := by
                      have := (ok_len hok.2.2.2).2
                      simp only [fitsB, baseB, Bool.and_eq_true, List.all_eq_true] at this ⊢
                      exact fun x hx => this.1.2 x (List.mem_of_mem_tail hx)
                    have h7 := prodC_bd sb.tail hall
                    have h8 : da.length * (prodC sb.tail).toNat ≤ 1000 * 1001 := Nat.mul_le_mul h1 (by omega)
                    show (flat db _ da).length ≤ _
                    omega
                  · simp
                · simp
            · split
              · unfold findM
                split
                · refine ⟨by show sb.length ≤ _; omega, ?_⟩
                  simp
                  omega
                · simp
              · simp
  · simp
end Pl

/-- spec.Dyad -/
theorem specD_face (op : Int) (b0 b1 b2 b3 : Nat) (sa da sb db : List Int) (w : World) (hl0 : sa.length ≤ 1048576) (hl1 : da.length ≤ 1048576) (hl2 : sb.length ≤ 1048576) (hl3 : db.length ≤ 1048576) (h0 : Rd w.heap.size w (.slice (some ⟨b0, 0, none⟩) sa.length sa.length) sa) (h1 : Rd w.heap.size w (.slice (some ⟨b1, 0, none⟩) da.length da.length) da) (h2 : Rd w.heap.size w (.slice (some ⟨b2, 0, none⟩) sb.length sb.length) sb) (h3 : Rd w.heap.size w (.slice (some ⟨b3, 0, none⟩) db.length db.length) db)
    (c : Int) (S D : List Int) (hres : Pl.dy8 (Pl.dyadM op) op sa da sb db = (c, S, D)) :
    Calls Try.prog 24 #[.int .i64 op, .agg #[.slice (some ⟨b0, 0, none⟩) sa.length sa.length, .slice (some ⟨b1, 0, none⟩) da.length da.length], .agg #[.slice (some ⟨b2, 0, none⟩) sb.length sb.length, .slice (some ⟨b3, 0, none⟩) db.length db.length]] w (FPost w c S D) := by
  by_cases h : 1 ≤ op ∧ op < 8 ∧ Pl.okB sa da = true ∧ Pl.okB sb db = true
  · have e := hres
    rw [Pl.dy8_yes h] at e
    obtain ⟨k0, k1, oka, okb⟩ := h
    have hk : op = 1 ∨ op = 2 ∨ op = 3 ∨ op = 4 ∨ op = 5 ∨ op = 6 ∨ op = 7 := by omega
    rcases hk with rfl | rfl | rfl | rfl | rfl | rfl | rfl
    · exact specD_1 b0 b1 b2 b3 sa da sb db w hl0 hl1 hl2 hl3 h0 h1 h2 h3 oka okb c S D (fun w' q0 q1 q2 q3 => l2Reshape_any b0 b1 b2 b3 sa da sb db w' q0 q1 q2 q3 oka okb c S D e)
    · exact specD_2 b0 b1 b2 b3 sa da sb db w hl0 hl1 hl2 hl3 h0 h1 h2 h3 oka okb c S D (fun w' q0 q1 q2 q3 => l2Take_2 b0 b1 b2 b3 sa da sb db w' q0 q1 q2 q3 oka okb c S D e)
    · exact specD_3 b0 b1 b2 b3 sa da sb db w hl0 hl1 hl2 hl3 h0 h1 h2 h3 oka okb c S D (fun w' q0 q1 q2 q3 => l2Take_3 b0 b1 b2 b3 sa da sb db w' q0 q1 q2 q3 oka okb c S D e)
    · exact specD_4 b0 b1 b2 b3 sa da sb db w hl0 hl1 hl2 hl3 h0 h1 h2 h3 oka okb c S D (fun w' q0 q1 q2 q3 => l2Cat_any b0 b1 b2 b3 sa da sb db w' q0 q1 q2 q3 oka okb c S D e)
    · exact specD_5 b0 b1 b2 b3 sa da sb db w hl0 hl1 hl2 hl3 h0 h1 h2 h3 oka okb c S D (fun w' q0 q1 q2 q3 => l2From_any b0 b1 b2 b3 sa da sb db w' q0 q1 q2 q3 oka okb c S D e)
    · exact specD_6 b0 b1 b2 b3 sa da sb db w hl0 hl1 hl2 hl3 h0 h1 h2 h3 oka okb c S D e
    · have e' : ((0 : Int), ([] : List Int), [Pl.boolM (decide (sa = sb) && decide (da = db))]) = (c, S, D) := e
      simp only [Prod.mk.injEq] at e'
      obtain ⟨rfl, rfl, rfl⟩ := e'
      exact specD_7 b0 b1 b2 b3 sa da sb db w hl0 hl1 hl2 hl3 h0 h1 h2 h3 oka okb
  · have e := hres
    rw [Pl.dy8_no h] at e
    simp only [Prod.mk.injEq] at e
    obtain ⟨rfl, rfl, rfl⟩ := e
    exact specD_bad op b0 b1 b2 b3 sa da sb db w hl0 hl1 hl2 hl3 h0 h1 h2 h3 h

set_option maxRecDepth 100000 in
set_option maxHeartbeats 1000000 in
/-- impl.Dyad -/
theorem dyad_face (op : Int) (b0 b1 b2 b3 : Nat) (sa da sb db : List Int) (w : World) (hl0 : sa.length ≤ 1048576) (hl1 : da.length ≤ 1048576) (hl2 : sb.length ≤ 1048576) (hl3 : db.length ≤ 1048576) (h0 : Rd w.heap.size w (.slice (some ⟨b0, 0, none⟩) sa.length sa.length) sa) (h1 : Rd w.heap.size w (.slice (some ⟨b1, 0, none⟩) da.length da.length) da) (h2 : Rd w.heap.size w (.slice (some ⟨b2, 0, none⟩) sb.length sb.length) sb) (h3 : Rd w.heap.size w (.slice (some ⟨b3, 0, none⟩) db.length db.length) db)
    (c : Int) (S D : List Int) (hres : Pl.dy8 (Pl.dyadM op) op sa da sb db = (c, S, D)) :
    Calls Try.prog 25 #[.int .i64 op, .agg #[.slice (some ⟨b0, 0, none⟩) sa.length sa.length, .slice (some ⟨b1, 0, none⟩) da.length da.length], .agg #[(.slice (some ⟨b2, 0, none⟩) sb.length sb.length), (.slice (some ⟨b3, 0, none⟩) db.length db.length)]] w (FPost w c S D) := by
  have hmf : ∀ (fn : Fn) (first cap : Array Value) (w : World), (Instr.makeFunc fn first cap).run Try.prog w = .ok (.func fn first cap) w := fun _ _ _ _ => rfl
  have K : Hid (∀ pa pb po w', Below w.heap.size w w' → w'.cell? ⟨pa, 0, none⟩ = some (.slice (some ⟨b0, 0, none⟩) sa.length sa.length) → w'.cell? ⟨pa, 1, none⟩ = some (.slice (some ⟨b1, 0, none⟩) da.length da.length) → w'.cell? ⟨pb, 0, none⟩ = some (.slice (some ⟨b2, 0, none⟩) sb.length sb.length) → w'.cell? ⟨pb, 1, none⟩ = some (.slice (some ⟨b3, 0, none⟩) db.length db.length) → w'.cell? ⟨po, 0, none⟩ = some (.int .i64 op) → Calls Try.prog 69 #[.pointer (some ⟨pa, 0, none⟩), .pointer (some ⟨pb, 0, none⟩), .pointer (some ⟨po, 0, none⟩)] w' (KPost w' c S D)) :=
    fun pa pb po w' hb g0 g1 g2 g3 g4 => dc_all pa pb po op (.slice (some ⟨b0, 0, none⟩) sa.length sa.length) (.slice (some ⟨b1, 0, none⟩) da.length da.length) (.slice (some ⟨b2, 0, none⟩) sb.length sb.length) (.slice (some ⟨b3, 0, none⟩) db.length db.length) sa da sb db w' hl0 hl1 hl2 hl3 ((h0.keep hb).up hb.size) ((h1.keep hb).up hb.size) ((h2.keep hb).up hb.size) ((h3.keep hb).up hb.size) g0 g1 g2 g3 g4 _ c S D hres
      (fun k hk k0 k1 oka okb e w'' hb' => by
        have hb2 := hb.trans (hb'.mono hb.size)
        have q0 := (h0.keep hb2).up hb2.size
        have q1 := (h1.keep hb2).up hb2.size
        have q2 := (h2.keep hb2).up hb2.size
        have q3 := (h3.keep hb2).up hb2.size
        have hk' : k = 1 ∨ k = 2 ∨ k = 3 ∨ k = 4 ∨ k = 5 ∨ k = 6 ∨ k = 7 := by omega
        rcases hk' with rfl | rfl | rfl | rfl | rfl | rfl | rfl
        all_goals
          subst hk
        · exact reshape_any b0 b1 b2 b3 sa da sb db w'' q0 q1 q2 q3 oka okb c S D e
        · exact take_any b0 b1 b2 b3 sa da sb db w'' q0 q1 q2 q3 oka okb c S D e
        · exact drop_any b0 b1 b2 b3 sa da sb db w'' q0 q1 q2 q3 oka okb c S D e
        · exact cat_any b0 b1 b2 b3 sa da sb db w'' q0 q1 q2 q3 oka okb c S D e
        · exact from_any b0 b1 b2 b3 sa da sb db w'' q0 q1 q2 q3 oka okb c S D e
        · exact find_any b0 b1 b2 b3 sa da sb db w'' q0 q1 q2 q3 oka okb c S D e
        · have e' : ((0 : Int), ([] : List Int), [Pl.boolM (decide (sa = sb) && decide (da = db))]) = (c, S, D) := e
          simp only [Prod.mk.injEq] at e'
          obtain ⟨rfl, rfl, rfl⟩ := e'
          exact match_any _ _ _ _ sa da sb db w'' hl0 hl1 hl2 hl3 q0 q1 q2 q3)
  clear h0 h1 h2 h3 hres
  go_enter Try.func25, Try.ntmps25
  go_wp2_with fail
  refine (answer_any 69 _ c S D _ (callF69 _) ?_).mono ?_
  · refine K.out (w.heap.size + 1) (w.heap.size + 1 + 1) w.heap.size _ ?_ ?_ ?_ ?_ ?_ ?_
    · exact ((((((Below.refl _ _).alloc (Nat.le_refl _) _).alloc (by simp) _).alloc (by simp; omega) _).alloc (by simp; omega) _).alloc (by simp; omega) _).alloc (by simp; omega) _
    · simp [go_sem]
    · simp [go_sem]
    · simp [go_sem]
    · simp [go_sem]
    · simp [go_sem]
  rintro e w1 ⟨hb1, u0, u1, rfl, hres⟩
  have B0 : Hid (Below w.heap.size w w1) := (((((Below.refl _ _).alloc (Nat.le_refl _) _).alloc (by simp) _).alloc (by simp; omega) _).alloc (by simp; omega) _).trans (hb1.mono (by simp; omega))
  have hs := hb1.size
  simp at hs
  obtain ⟨hc, hf⟩ := bcell hb1
  have r0 : w1.cell? ⟨w.heap.size + 1 + 1 + 1, 0, none⟩ = some (.slice none 0 0) := by rw [hc (w.heap.size + 1 + 1 + 1) 0 (by simp)]; simp [go_sem]
  have r1 : w1.cell? ⟨w.heap.size + 1 + 1 + 1, 1, none⟩ = some (.slice none 0 0) := by rw [hc (w.heap.size + 1 + 1 + 1) 1 (by simp)]; simp [go_sem]
  have f3 : ∀ o, w1.frozen? ⟨w.heap.size + 1 + 1 + 1, o, none⟩ = false := fun o => by rw [hf (w.heap.size + 1 + 1 + 1) o (by simp)]; simp [go_sem]
  have R : Hid (Res (w.heap.size + 1 + 1 + 1 + 1) w1 u0 u1 S D) := by
    have := hres
    show Res _ _ _ _ _ _
    simpa using this
  obtain ⟨x0, y0, e0⟩ := hres.1.form
  obtain ⟨x1, y1, e1⟩ := hres.2.1.form
  subst e0
  subst e1
  clear hc hf hb1 hres K
  go_wp2_with fail
  refine bodyPost_ret (v := .tuple #[.agg #[.slice x0 S.length y0, .slice x1 D.length y1], .int .i64 c]) (by simp [results, Try.results25, go_sem, r0, r1]) rfl ⟨(B0.out.setCell (by simp; omega) _).setCell (by simp; omega) _, _, _, rfl, ?_, ?_, R.out.2.2⟩
  · exact Own.base (Own.store (Own.store R.out.1 (by omega) _) (by omega) _) (by omega)
  · exact Own.base (Own.store (Own.store R.out.2.1 (by omega) _) (by omega) _) (by omega)


end Go.Proofs.Ytmobjomebmipdaa
