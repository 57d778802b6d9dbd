import Derived.Test.YtmobjomebmipdaaHigh
namespace Go.Proofs.Ytmobjomebmipdaa
open Go.RowKit
set_option linter.unusedVariables false

theorem Rd.drewN {B : Nat} {w : World} {v : Value} {zs : List Int} (h : Rd B w v zs) (n : Nat) : Rd B (w.drewN n) v zs := h.keep (below_drewN (Below.refl _ _) _)

theorem Rd.alloc {w : World} {v : Value} {zs : List Int} (h : Rd w.heap.size w v zs) (o : Obj) : Rd w.heap.size (w.alloc o) v zs := h.keep ((Below.refl _ _).alloc (Nat.le_refl _) _)

/-- the lengths do not fit -/
theorem specOk_no (v0 v1 : Value) (sh : List Int) (w : World) (hl0 : sh.length ≤ 1048576) (h0 : Rd w.heap.size w v0 sh) (hf : Pl.fitsB sh = false) :
    Calls Try.prog 12 #[.agg #[v0, v1]] w fun e w' => e = .returned (.bool false) ∧ Below w.heap.size w w' := by
  have K : Hid (∀ n, Calls Try.prog 33 #[v0] ((w.alloc (.cells #[v0, v1] 27)).drewN n) fun e w' => e = .returned (.bool false) ∧ w' = (w.alloc (.cells #[v0, v1] 27)).drewN n) := fun n => by
    have := l1Fits_any w.heap.size v0 sh _ hl0 ((h0.alloc (.cells #[v0, v1] 27)).drewN n)
    rw [hf] at this; exact this
  clear h0 hf
  go_enter Try.func12, Try.ntmps12
  go_wp2
  go_quiet ((go_at_call 33; exact Calls.quiet_of_same (K.out _)))
  go_wp2
  go_ret
  exact ⟨rfl, below_drewN ((Below.refl _ _).alloc (Nat.le_refl _) _) _⟩

/-- they fit, and the number of cells is another one -/
theorem specOk_len (v0 : Value) (a1 : Option Addr) (n1 c1 : Nat) (sh : List Int) (w : World) (hl0 : sh.length ≤ 1048576) (hl1 : n1 ≤ 1048576) (h0 : Rd w.heap.size w v0 sh) (hf : Pl.fitsB sh = true) (hn : ¬ (n1 : Int) = Pl.prodC sh) :
    Calls Try.prog 12 #[.agg #[v0, .slice a1 n1 c1]] w fun e w' => e = .returned (.bool false) ∧ Below w.heap.size w w' := by
  have K : Hid (∀ n, Calls Try.prog 33 #[v0] ((w.alloc (.cells #[v0, .slice a1 n1 c1] 27)).drewN n) fun e w' => e = .returned (.bool true) ∧ w' = (w.alloc (.cells #[v0, .slice a1 n1 c1] 27)).drewN n) := fun n => by
    have := l1Fits_any w.heap.size v0 sh _ hl0 ((h0.alloc (.cells #[v0, .slice a1 n1 c1] 27)).drewN n)
    rw [hf] at this; exact this
  have hr : sh.all Pl.inR = true := by simp only [Pl.fitsB, Pl.baseB, Bool.and_eq_true] at hf; exact hf.1.2
  have K2 : Hid (∀ n, Calls Try.prog 34 #[v0] ((w.alloc (.cells #[v0, .slice a1 n1 c1] 27)).drewN n) fun e w' => e = .returned (.int .i64 (Pl.prodC sh)) ∧ w' = (w.alloc (.cells #[v0, .slice a1 n1 c1] 27)).drewN n) := fun n =>
    l1Product_any w.heap.size v0 sh _ hl0 hr ((h0.alloc (.cells #[v0, .slice a1 n1 c1] 27)).drewN n)
  clear h0 hf hr
  generalize Pl.prodC sh = p at *
  have hne : ((n1 : Int) != p) = true := by rw [bne_iff_ne]; exact hn
  clear hn
  go_enter Try.func12, Try.ntmps12
  go_wp2
  go_quiet ((first | (go_at_call 33; exact Calls.quiet_of_same (K.out _)) | (go_at_call 34; exact Calls.quiet_of_same (K2.out _))))
  go_wp2
  go_ret
  exact ⟨rfl, below_drewN ((Below.refl _ _).alloc (Nat.le_refl _) _) _⟩

/-- they fit, and there are cells -/
theorem specOk_core (v0 : Value) (b off c1 : Nat) (sh da : List Int) (w : World) (hl0 : sh.length ≤ 1048576) (hl1 : da.length ≤ 1048576) (h0 : Rd w.heap.size w v0 sh) (hf : Pl.fitsB sh = true) (hn : (da.length : Int) = Pl.prodC sh)
    (hb : b < w.heap.size) (hc : ∀ i, i < da.length → w.cell? ⟨b, off + i, none⟩ = some (.int .i64 (da.getD i 0))) :
    Calls Try.prog 12 #[.agg #[v0, .slice (some ⟨b, off, none⟩) da.length c1]] w fun e w' => e = .returned (.bool (da.all Pl.valB)) ∧ Below w.heap.size w w' := by
  generalize hm : da.length = n1 at *
  have Hm : Hid (da.length = n1) := hm
  clear hm
  generalize hV : Value.slice (some ⟨b, off, none⟩) n1 c1 = V
  have HV : Hid (Value.slice (some ⟨b, off, none⟩) n1 c1 = V) := hV
  have K : Hid (∀ n, Calls Try.prog 33 #[v0] ((w.alloc (.cells #[v0, V] 27)).drewN n) fun e w' => e = .returned (.bool true) ∧ w' = (w.alloc (.cells #[v0, V] 27)).drewN n) := fun n => by
    have := l1Fits_any w.heap.size v0 sh _ hl0 ((h0.alloc (.cells #[v0, V] 27)).drewN n)
    rw [hf] at this; exact this
  have hr : sh.all Pl.inR = true := by simp only [Pl.fitsB, Pl.baseB, Bool.and_eq_true] at hf; exact hf.1.2
  have K2 : Hid (∀ n, Calls Try.prog 34 #[v0] ((w.alloc (.cells #[v0, V] 27)).drewN n) fun e w' => e = .returned (.int .i64 (Pl.prodC sh)) ∧ w' = (w.alloc (.cells #[v0, V] 27)).drewN n) := fun n =>
    l1Product_any w.heap.size v0 sh _ hl0 hr ((h0.alloc (.cells #[v0, V] 27)).drewN n)
  clear h0 hf hr
  subst hV
  clear HV
  generalize Pl.prodC sh = p at *
  have hne : ((n1 : Int) != p) = false := by simp [hn]
  clear hn
  have Hc : Hid (∀ o m, ∀ i, i < n1 → ((w.alloc o).drewN m).cell? ⟨b, off + i, none⟩ = some (.int .i64 (da.getD i 0))) := fun o m i hi =>
    ((below_drewN ((Below.refl w.heap.size w).alloc (Nat.le_refl _) o) m).cell (p := ⟨b, off + i, none⟩) hb).trans (hc i hi)
  clear hc
  go_enter Try.func12, Try.ntmps12
  go_wp2
  go_quiet ((first | (go_at_call 33; exact Calls.quiet_of_same (K.out _)) | (go_at_call 34; exact Calls.quiet_of_same (K2.out _))))
  go_wp2
  go_loopw [3] (fun i wr => ∃ k : Nat, k ≤ n1 ∧ i = .int .i64 k ∧ Hid ((da.take k).all Pl.valB = true) ∧ wr.cell? ⟨w.heap.size, 1, none⟩ = some (.slice (some ⟨b, off, none⟩) n1 c1) ∧ Hid (∀ i, i < n1 → wr.cell? ⟨b, off + i, none⟩ = some (.int .i64 (da.getD i 0))) ∧ Hid (Below w.heap.size w wr)) (fun i _ => n1 - (intOf i).toNat)
  case atStart => exact ⟨0, Nat.zero_le _, rfl, rfl, by simp [go_sem], Hc.out _ _, below_drewN ((Below.refl _ _).alloc (Nat.le_refl _) _) _⟩
  case round =>
    obtain ⟨k, hk, rfl, hall, hcl, hcs, hbel⟩ := hrel
    clear Hc K K2 hne
    by_cases hlt : k < n1
    · have hck := hcs.out k hlt
      have HS : Hid ((da.take (k + 1)).all Pl.valB = ((da.take k).all Pl.valB && Pl.valB (da.getD k 0))) := Pl.all_snoc da Pl.valB k (by rw [Hm.out]; exact hlt)
      have HF : Hid (Pl.valB (da.getD k 0) = false → da.all Pl.valB = false) := Pl.all_false (by rw [Hm.out]; exact hlt)
      generalize da.getD k 0 = x at *
      by_cases hx0 : x < -3000000000
      · go_wp2
        go_ret
        exact ⟨ret_bool (by rw [HF.out (by simp [Pl.valB]; omega)]), hbel.out⟩
      · by_cases hx1 : 3000000000 < x
        · go_wp2
          go_ret
          exact ⟨ret_bool (by rw [HF.out (by simp [Pl.valB]; omega)]), hbel.out⟩
        · go_wp2
          go_roundw
          case rel => exact ⟨k + 1, by omega, by go_num, by show _ = _; rw [HS.out, hall.out]; simp [Pl.valB]; omega, hcl, hcs, hbel⟩
          case measure => simp [intOf]; omega
    · have HA : Hid (da.all Pl.valB = true) := by
        have := hall.out
        rw [List.take_of_length_le (by rw [Hm.out]; omega)] at this
        exact this
      go_wp2
      go_ret
      exact ⟨ret_bool HA.out.symm, hbel.out⟩

/-- they fit, and there is no cell -/
theorem specOk_nil (v0 : Value) (a1 : Option Addr) (c1 : Nat) (sh : List Int) (w : World) (hl0 : sh.length ≤ 1048576) (h0 : Rd w.heap.size w v0 sh) (hf : Pl.fitsB sh = true) (hn : (0 : Int) = Pl.prodC sh) :
    Calls Try.prog 12 #[.agg #[v0, .slice a1 0 c1]] w fun e w' => e = .returned (.bool true) ∧ Below w.heap.size w w' := by
  have K : Hid (∀ n, Calls Try.prog 33 #[v0] ((w.alloc (.cells #[v0, .slice a1 0 c1] 27)).drewN n) fun e w' => e = .returned (.bool true) ∧ w' = (w.alloc (.cells #[v0, .slice a1 0 c1] 27)).drewN n) := fun n => by
    have := l1Fits_any w.heap.size v0 sh _ hl0 ((h0.alloc (.cells #[v0, .slice a1 0 c1] 27)).drewN n)
    rw [hf] at this; exact this
  have hr : sh.all Pl.inR = true := by simp only [Pl.fitsB, Pl.baseB, Bool.and_eq_true] at hf; exact hf.1.2
  have K2 : Hid (∀ n, Calls Try.prog 34 #[v0] ((w.alloc (.cells #[v0, .slice a1 0 c1] 27)).drewN n) fun e w' => e = .returned (.int .i64 0) ∧ w' = (w.alloc (.cells #[v0, .slice a1 0 c1] 27)).drewN n) := fun n => by
    have := l1Product_any w.heap.size v0 sh _ hl0 hr ((h0.alloc (.cells #[v0, .slice a1 0 c1] 27)).drewN n)
    rw [← hn] at this; exact this
  clear h0 hf hr hn
  go_enter Try.func12, Try.ntmps12
  go_wp2
  go_quiet ((first | (go_at_call 33; exact Calls.quiet_of_same (K.out _)) | (go_at_call 34; exact Calls.quiet_of_same (K2.out _))))
  go_wp2
  go_loopw [3] (fun i wr => i = .int .i64 0 ∧ wr.cell? ⟨w.heap.size, 1, none⟩ = some (.slice a1 0 c1) ∧ Hid (Below w.heap.size w wr)) (fun _ _ => 0)
  case atStart => exact ⟨rfl, by simp [go_sem], below_drewN ((Below.refl _ _).alloc (Nat.le_refl _) _) _⟩
  case round =>
    obtain ⟨rfl, hcl, hbel⟩ := hrel
    clear K K2
    go_wp2
    go_ret
    exact ⟨rfl, hbel.out⟩

/-- spec.ArrayOk -/
theorem specOk_any (v0 v1 : Value) (sh da : List Int) (w : World) (hl0 : sh.length ≤ 1048576) (hl1 : da.length ≤ 1048576) (h0 : Rd w.heap.size w v0 sh) (h1 : Rd w.heap.size w v1 da) :
    Calls Try.prog 12 #[.agg #[v0, v1]] w fun e w' => e = .returned (.bool (Pl.okB sh da)) ∧ Below w.heap.size w w' := by
  unfold Pl.okB
  by_cases hf : Pl.fitsB sh = true
  · by_cases hn : (da.length : Int) = Pl.prodC sh
    · have hd : decide ((da.length : Int) = Pl.prodC sh) = true := decide_eq_true hn
      rw [hf, hd, Bool.true_and, Bool.true_and]
      obtain ⟨a1, c1, rfl, h1⟩ := h1
      rcases h1 with h1 | ⟨b, off, hb, rfl, hc⟩
      · obtain rfl := List.length_eq_zero_iff.1 h1
        exact specOk_nil v0 a1 c1 sh w hl0 h0 hf (by simpa using hn)
      · exact specOk_core v0 b off c1 sh da w hl0 hl1 h0 hf hn hb hc
    · have hd : decide ((da.length : Int) = Pl.prodC sh) = false := decide_eq_false hn
      rw [hf, hd, Bool.true_and, Bool.false_and]
      obtain ⟨a1, c1, rfl, h1⟩ := h1
      exact specOk_len v0 a1 da.length c1 sh w hl0 hl1 h0 hf hn
  · have hf' : Pl.fitsB sh = false := by simpa using hf
    rw [hf', Bool.false_and, Bool.false_and]
    exact specOk_no v0 v1 sh w hl0 h0 hf'

end Go.Proofs.Ytmobjomebmipdaa
