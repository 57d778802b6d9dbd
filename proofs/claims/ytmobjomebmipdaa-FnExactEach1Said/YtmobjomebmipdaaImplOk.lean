import Derived.Test.YtmobjomebmipdaaOk
namespace Go.Proofs.Ytmobjomebmipdaa
open Go.RowKit
set_option linter.unusedVariables false

theorem cellCount_fits (B : Nat) (v : Value) (zs : List Int) (w : World) (hf : Pl.fitsB zs = true) (h : Rd B w v zs) :
    Calls Try.prog 37 #[v] w fun e w' => e = .returned (.int .i64 (Pl.prodC zs)) ∧ w' = w := by
  rw [Pl.prod_eq hf]
  refine cellCount_any B v zs w ?_ h
  simp only [Pl.fitsB, Bool.and_eq_true] at hf
  exact hf.1

/-- the lengths do not fit -/
theorem implOk_no (v0 v1 : Value) (sh : List Int) (w : World) (hl0 : sh.length ≤ 1048576) (h0 : Rd w.heap.size w v0 sh) (hf : Pl.fitsB sh = false) :
    Calls Try.prog 14 #[.agg #[v0, v1]] w fun e w' => e = .returned (.bool false) ∧ Below w.heap.size w w' := by
  have K : Hid (∀ n, Calls Try.prog 36 #[v0] ((w.alloc (.cells #[v0, v1] 27)).drewN n) fun e w' => e = .returned (.bool false) ∧ w' = (w.alloc (.cells #[v0, v1] 27)).drewN n) := fun n => by
    have := shapeFits_any w.heap.size v0 sh _ hl0 ((h0.alloc (.cells #[v0, v1] 27)).drewN n)
    rw [hf] at this; exact this
  clear h0 hf
  go_enter Try.func14, Try.ntmps14
  go_wp2
  go_quiet ((go_at_call 36; exact Calls.quiet_of_same (K.out _)))
  go_wp2
  go_ret
  exact ⟨rfl, below_drewN ((Below.refl _ _).alloc (Nat.le_refl _) _) _⟩

/-- they fit, and the number of cells is another one -/
theorem implOk_len (v0 : Value) (a1 : Option Addr) (n1 c1 : Nat) (sh : List Int) (w : World) (hl0 : sh.length ≤ 1048576) (hl1 : n1 ≤ 1048576) (h0 : Rd w.heap.size w v0 sh) (hf : Pl.fitsB sh = true) (hn : ¬ (n1 : Int) = Pl.prodC sh) :
    Calls Try.prog 14 #[.agg #[v0, .slice a1 n1 c1]] w fun e w' => e = .returned (.bool false) ∧ Below w.heap.size w w' := by
  have K : Hid (∀ n, Calls Try.prog 36 #[v0] ((w.alloc (.cells #[v0, .slice a1 n1 c1] 27)).drewN n) fun e w' => e = .returned (.bool true) ∧ w' = (w.alloc (.cells #[v0, .slice a1 n1 c1] 27)).drewN n) := fun n => by
    have := shapeFits_any w.heap.size v0 sh _ hl0 ((h0.alloc (.cells #[v0, .slice a1 n1 c1] 27)).drewN n)
    rw [hf] at this; exact this
  have K2 : Hid (∀ n, Calls Try.prog 37 #[v0] ((w.alloc (.cells #[v0, .slice a1 n1 c1] 27)).drewN n) fun e w' => e = .returned (.int .i64 (Pl.prodC sh)) ∧ w' = (w.alloc (.cells #[v0, .slice a1 n1 c1] 27)).drewN n) := fun n =>
    cellCount_fits w.heap.size v0 sh _ hf ((h0.alloc (.cells #[v0, .slice a1 n1 c1] 27)).drewN n)
  clear h0 hf
  generalize Pl.prodC sh = p at *
  have hne : ((n1 : Int) != p) = true := by rw [bne_iff_ne]; exact hn
  clear hn
  go_enter Try.func14, Try.ntmps14
  go_wp2
  go_quiet ((first | (go_at_call 36; exact Calls.quiet_of_same (K.out _)) | (go_at_call 37; exact Calls.quiet_of_same (K2.out _))))
  go_wp2
  go_ret
  exact ⟨rfl, below_drewN ((Below.refl _ _).alloc (Nat.le_refl _) _) _⟩

/-- they fit, and there are cells -/
theorem implOk_core (v0 : Value) (b off c1 : Nat) (sh da : List Int) (w : World) (hl0 : sh.length ≤ 1048576) (hl1 : da.length ≤ 1048576) (h0 : Rd w.heap.size w v0 sh) (hf : Pl.fitsB sh = true) (hn : (da.length : Int) = Pl.prodC sh)
    (hb : b < w.heap.size) (hc : ∀ i, i < da.length → w.cell? ⟨b, off + i, none⟩ = some (.int .i64 (da.getD i 0))) :
    Calls Try.prog 14 #[.agg #[v0, .slice (some ⟨b, off, none⟩) da.length c1]] w fun e w' => e = .returned (.bool (da.all Pl.valB)) ∧ Below w.heap.size w w' := by
  generalize hm : da.length = n1 at *
  have Hm : Hid (da.length = n1) := hm
  clear hm
  generalize hV : Value.slice (some ⟨b, off, none⟩) n1 c1 = V
  have HV : Hid (Value.slice (some ⟨b, off, none⟩) n1 c1 = V) := hV
  have K : Hid (∀ n, Calls Try.prog 36 #[v0] ((w.alloc (.cells #[v0, V] 27)).drewN n) fun e w' => e = .returned (.bool true) ∧ w' = (w.alloc (.cells #[v0, V] 27)).drewN n) := fun n => by
    have := shapeFits_any w.heap.size v0 sh _ hl0 ((h0.alloc (.cells #[v0, V] 27)).drewN n)
    rw [hf] at this; exact this
  have K2 : Hid (∀ n, Calls Try.prog 37 #[v0] ((w.alloc (.cells #[v0, V] 27)).drewN n) fun e w' => e = .returned (.int .i64 (Pl.prodC sh)) ∧ w' = (w.alloc (.cells #[v0, V] 27)).drewN n) := fun n =>
    cellCount_fits w.heap.size v0 sh _ hf ((h0.alloc (.cells #[v0, V] 27)).drewN n)
  clear h0 hf
  subst hV
  clear HV
  generalize Pl.prodC sh = p at *
  have hne : ((n1 : Int) != p) = false := by simp [hn]
  clear hn
  have Hc : Hid (∀ o m, ∀ i, i < n1 → ((w.alloc o).drewN m).cell? ⟨b, off + i, none⟩ = some (.int .i64 (da.getD i 0))) := fun o m i hi =>
    ((below_drewN ((Below.refl w.heap.size w).alloc (Nat.le_refl _) o) m).cell (p := ⟨b, off + i, none⟩) hb).trans (hc i hi)
  clear hc
  go_enter Try.func14, Try.ntmps14
  go_wp2
  go_quiet ((first | (go_at_call 36; exact Calls.quiet_of_same (K.out _)) | (go_at_call 37; exact Calls.quiet_of_same (K2.out _))))
  go_wp2
  go_loopw [4, 21] (fun _ i wr => ∃ k : Nat, k ≤ n1 ∧ i = .int .i64 k ∧ Hid ((da.take k).all Pl.valB = true) ∧ Hid (∀ i, i < n1 → wr.cell? ⟨b, off + i, none⟩ = some (.int .i64 (da.getD i 0))) ∧ Hid (Below w.heap.size w wr)) (fun _ i _ => n1 - (intOf i).toNat)
  case atStart => exact ⟨0, Nat.zero_le _, rfl, rfl, Hc.out _ _, below_drewN ((Below.refl _ _).alloc (Nat.le_refl _) _) _⟩
  case round =>
    obtain ⟨k, hk, rfl, hall, hcs, hbel⟩ := hrel
    clear Hc K K2 hne
    by_cases hlt : k < n1
    · have hck := hcs.out k hlt
      have HS : Hid ((da.take (k + 1)).all Pl.valB = ((da.take k).all Pl.valB && Pl.valB (da.getD k 0))) := Pl.all_snoc da Pl.valB k (by rw [Hm.out]; exact hlt)
      have HF : Hid (Pl.valB (da.getD k 0) = false → da.all Pl.valB = false) := Pl.all_false (by rw [Hm.out]; exact hlt)
      generalize da.getD k 0 = x at *
      by_cases hx : Pl.valB x = true
      · have V : Hid (∀ w, Calls Try.prog 38 #[.int .i64 x] w fun e w' => e = .returned (.bool true) ∧ w' = w) := fun w => by
          have := valueFits_any x w
          rw [hx] at this; exact this
        have HX : Hid (Pl.valB x = true) := hx
        clear hx
        go_wp2_with (go_at_call 38; refine (V.out _).mono ?_; rintro e w' ⟨rfl, rfl⟩)
        go_roundw
        case rel => exact ⟨k + 1, by omega, by go_num, by show _ = _; rw [HS.out, hall.out, HX.out]; rfl, hcs, hbel⟩
        case measure => simp [intOf]; omega
      · have hx' : Pl.valB x = false := by simpa using hx
        have V : Hid (∀ w, Calls Try.prog 38 #[.int .i64 x] w fun e w' => e = .returned (.bool false) ∧ w' = w) := fun w => by
          have := valueFits_any x w
          rw [hx'] at this; exact this
        have HX : Hid (Pl.valB x = false) := hx'
        clear hx hx'
        go_wp2_with (go_at_call 38; refine (V.out _).mono ?_; rintro e w' ⟨rfl, rfl⟩)
        go_ret
        exact ⟨ret_bool (HF.out HX.out).symm, hbel.out⟩
    · have HA : Hid (da.all Pl.valB = true) := by
        have := hall.out
        rw [List.take_of_length_le (by rw [Hm.out]; omega)] at this
        exact this
      go_wp2
      go_ret
      exact ⟨ret_bool HA.out.symm, hbel.out⟩

/-- they fit, and there is no cell -/
theorem implOk_nil (v0 : Value) (a1 : Option Addr) (c1 : Nat) (sh : List Int) (w : World) (hl0 : sh.length ≤ 1048576) (h0 : Rd w.heap.size w v0 sh) (hf : Pl.fitsB sh = true) (hn : (0 : Int) = Pl.prodC sh) :
    Calls Try.prog 14 #[.agg #[v0, .slice a1 0 c1]] w fun e w' => e = .returned (.bool true) ∧ Below w.heap.size w w' := by
  have K : Hid (∀ n, Calls Try.prog 36 #[v0] ((w.alloc (.cells #[v0, .slice a1 0 c1] 27)).drewN n) fun e w' => e = .returned (.bool true) ∧ w' = (w.alloc (.cells #[v0, .slice a1 0 c1] 27)).drewN n) := fun n => by
    have := shapeFits_any w.heap.size v0 sh _ hl0 ((h0.alloc (.cells #[v0, .slice a1 0 c1] 27)).drewN n)
    rw [hf] at this; exact this
  have K2 : Hid (∀ n, Calls Try.prog 37 #[v0] ((w.alloc (.cells #[v0, .slice a1 0 c1] 27)).drewN n) fun e w' => e = .returned (.int .i64 0) ∧ w' = (w.alloc (.cells #[v0, .slice a1 0 c1] 27)).drewN n) := fun n => by
    have := cellCount_fits w.heap.size v0 sh _ hf ((h0.alloc (.cells #[v0, .slice a1 0 c1] 27)).drewN n)
    rw [← hn] at this; exact this
  clear h0 hf hn
  go_enter Try.func14, Try.ntmps14
  go_wp2
  go_quiet ((first | (go_at_call 36; exact Calls.quiet_of_same (K.out _)) | (go_at_call 37; exact Calls.quiet_of_same (K2.out _))))
  go_wp2
  go_loopw [4, 21] (fun _ i wr => i = .int .i64 0 ∧ Hid (Below w.heap.size w wr)) (fun _ _ _ => 0)
  case atStart => exact ⟨rfl, below_drewN ((Below.refl _ _).alloc (Nat.le_refl _) _) _⟩
  case round =>
    obtain ⟨rfl, hbel⟩ := hrel
    clear K K2
    go_wp2
    go_ret
    exact ⟨rfl, hbel.out⟩

/-- impl.ArrayOk -/
theorem implOk_any (v0 v1 : Value) (sh da : List Int) (w : World) (hl0 : sh.length ≤ 1048576) (hl1 : da.length ≤ 1048576) (h0 : Rd w.heap.size w v0 sh) (h1 : Rd w.heap.size w v1 da) :
    Calls Try.prog 14 #[.agg #[v0, v1]] w fun e w' => e = .returned (.bool (Pl.okB sh da)) ∧ Below w.heap.size w w' := by
  unfold Pl.okB
  by_cases hf : Pl.fitsB sh = true
  · by_cases hn : (da.length : Int) = Pl.prodC sh
    · have hd : decide ((da.length : Int) = Pl.prodC sh) = true := decide_eq_true hn
      rw [hf, hd, Bool.true_and, Bool.true_and]
      obtain ⟨a1, c1, rfl, h1⟩ := h1
      rcases h1 with h1 | ⟨b, off, hb, rfl, hc⟩
      · obtain rfl := List.length_eq_zero_iff.1 h1
        exact implOk_nil v0 a1 c1 sh w hl0 h0 hf (by simpa using hn)
      · exact implOk_core v0 b off c1 sh da w hl0 hl1 h0 hf hn hb hc
    · have hd : decide ((da.length : Int) = Pl.prodC sh) = false := decide_eq_false hn
      rw [hf, hd, Bool.true_and, Bool.false_and]
      obtain ⟨a1, c1, rfl, h1⟩ := h1
      exact implOk_len v0 a1 da.length c1 sh w hl0 hl1 h0 hf hn
  · have hf' : Pl.fitsB sh = false := by simpa using hf
    rw [hf', Bool.false_and, Bool.false_and]
    exact implOk_no v0 v1 sh w hl0 h0 hf'

end Go.Proofs.Ytmobjomebmipdaa
