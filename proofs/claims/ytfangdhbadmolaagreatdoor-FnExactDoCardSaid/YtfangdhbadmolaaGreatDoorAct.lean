import Derived.Test.YtfangdhbadmolaaGreatDoorBld
namespace Go.Proofs.YtfangdhbadmolaaGreatDoor
open Go.RowKit
set_option linter.unusedVariables false

theorem list_size (s : ByteArray) : s.toList.length = s.size := by rw [ByteArray.toList_eq]; rfl
theorem empty_beq (s : ByteArray) : (s.toList == []) = decide (s.size = 0) := by
  have h := list_size s
  cases e : s.toList with
  | nil => rw [e] at h; simp at h; simp [← h]
  | cons x r => rw [e] at h; simp at h; have : ¬ s.size = 0 := by omega
                simp [this]

namespace Pl
theorem act_off (kd : Int) (nm to da : ByteArray) (h : kd < 1 ∨ 4 < kd) : actB ⟨kd, nm, to, da⟩ = false := by
  unfold actB
  rw [if_neg (by show ¬ (kd = 1 ∨ kd = 4); omega), if_neg (by show ¬ kd = 2; omega), if_neg (by show ¬ kd = 3; omega)]
theorem act_mk (kd : Int) (nm to da : ByteArray) (h : kd = 1 ∨ kd = 4) : actB ⟨kd, nm, to, da⟩ = (nameB nm && decide (to.size = 0) && decide (da.size = 0)) := by
  unfold actB
  rw [if_pos h]
theorem act_add (nm to da : ByteArray) : actB ⟨2, nm, to, da⟩ = (nameB nm && decide (to.size = 0)) := by
  unfold actB
  rw [if_neg (by show ¬ ((2 : Int) = 1 ∨ (2 : Int) = 4); omega), if_pos rfl]
theorem act_ren (nm to da : ByteArray) : actB ⟨3, nm, to, da⟩ = (nameB nm && nameB to && decide (da.size = 0)) := by
  unfold actB
  rw [if_neg (by show ¬ ((3 : Int) = 1 ∨ (3 : Int) = 4); omega), if_neg (by show ¬ (3 : Int) = 2; omega), if_pos rfl]
theorem act_name (kd : Int) (nm to da : ByteArray) (h : nameB nm = false) : actB ⟨kd, nm, to, da⟩ = false := by
  unfold actB
  simp only [h, Bool.false_and]
  split
  · rfl
  · split
    · rfl
    · split <;> rfl
theorem act_data (kd : Int) (nm to da : ByteArray) (hk : ¬ kd = 2) (h : decide (da.size = 0) = false) : actB ⟨kd, nm, to, da⟩ = false := by
  unfold actB
  simp only [h, Bool.and_false]
  split
  · rfl
  · first | (rw [if_neg hk]; split <;> rfl) | (split <;> rfl)
end Pl

/-- an act as a value -/
abbrev acV (a : Pl.Ac) : Value := .agg #[.int .i64 a.kind, .string a.name, .string a.to, .string a.data]

set_option maxHeartbeats 1000000 in
/-- spec.l7ActOk -/
theorem l7ActOk_any (kd : Int) (nm to da : ByteArray) (w : World) (hn : nm.size ≤ 9223372036854775807) (ht : to.size ≤ 9223372036854775807) :
    Calls Tryz.prog 28 #[.agg #[.int .i64 kd, .string nm, .string to, .string da]] w fun e w' => e = .returned (.bool (Pl.actB ⟨kd, nm, to, da⟩)) ∧ Below w.heap.size w w' := by
  have HB : Hid (∀ o, Below w.heap.size w (w.alloc o)) := fun o => (Below.refl _ _).alloc (Nat.le_refl _) _
  have K := hideP (fun w => l7NameOk_any nm w hn)
  have K2 := hideP (fun w => l7NameOk_any to w ht)
  by_cases h1 : kd < 1
  · have R := hideP (Pl.act_off kd nm to da (.inl h1))
    go_enter Tryz.func28, Tryz.ntmps28
    go_wp2_with fail
    go_ret
    exact ⟨ret_bool R.out.symm, HB.out _⟩
  by_cases h4 : 4 < kd
  · have R := hideP (Pl.act_off kd nm to da (.inr h4))
    go_enter Tryz.func28, Tryz.ntmps28
    go_wp2_with fail
    go_ret
    exact ⟨ret_bool R.out.symm, HB.out _⟩
  have hk : kd = 1 ∨ kd = 2 ∨ kd = 3 ∨ kd = 4 := by omega
  have ed : (da.toList == []) = decide (da.size = 0) := empty_beq da
  have et : (to.toList == []) = decide (to.size = 0) := empty_beq to
  cases hnm : Pl.nameB nm
  · rw [hnm] at K
    have R := hideP (Pl.act_name kd nm to da hnm)
    clear hnm ed et hk
    go_enter Tryz.func28, Tryz.ntmps28
    go_wp2_with fail
    refine (K.out _).mono ?_
    rintro e w' ⟨rfl, rfl⟩
    go_wp2_with fail
    go_ret
    exact ⟨ret_bool R.out.symm, HB.out _⟩
  rw [hnm] at K
  by_cases h2 : kd = 2
  · subst h2
    have R := hideP (show Pl.actB ⟨2, nm, to, da⟩ = decide (to.size = 0) by rw [Pl.act_add, hnm, Bool.true_and])
    clear hnm hk ed
    generalize decide (to.size = 0) = q at *
    go_enter Tryz.func28, Tryz.ntmps28
    go_wp2_with fail
    refine (K.out _).mono ?_
    rintro e w' ⟨rfl, rfl⟩
    go_wp2_with fail
    go_ret
    exact ⟨ret_bool (by rw [R.out]), HB.out _⟩
  have h2' : (kd != 2) = true := by rw [bne_iff_ne]; exact h2
  cases hd : decide (da.size = 0)
  · have R := hideP (Pl.act_data kd nm to da h2 hd)
    rw [hd] at ed
    clear hnm hk et hd h2
    go_enter Tryz.func28, Tryz.ntmps28
    go_wp2_with fail
    refine (K.out _).mono ?_
    rintro e w' ⟨rfl, rfl⟩
    go_wp2_with fail
    go_ret
    exact ⟨ret_bool R.out.symm, HB.out _⟩
  · rw [hd] at ed
    by_cases h3 : kd = 3
    · subst h3
      have R := hideP (show Pl.actB ⟨3, nm, to, da⟩ = Pl.nameB to by rw [Pl.act_ren, hnm, hd, Bool.true_and, Bool.and_true])
      clear hnm hk et hd h2
      generalize Pl.nameB to = q at *
      go_enter Tryz.func28, Tryz.ntmps28
      go_wp2_with fail
      refine (K.out _).mono ?_
      rintro e w' ⟨rfl, rfl⟩
      go_wp2_with fail
      refine (K2.out _).mono ?_
      rintro e w' ⟨rfl, rfl⟩
      go_wp2_with fail
      go_ret
      exact ⟨ret_bool (by rw [R.out]), HB.out _⟩
    · have h3' : (kd == 3) = false := by simp [h3]
      have R := hideP (show Pl.actB ⟨kd, nm, to, da⟩ = decide (to.size = 0) by rw [Pl.act_mk kd nm to da (by omega), hnm, hd, Bool.true_and, Bool.and_true])
      clear hnm hk hd h2 h3
      generalize decide (to.size = 0) = q at *
      go_enter Tryz.func28, Tryz.ntmps28
      go_wp2_with fail
      refine (K.out _).mono ?_
      rintro e w' ⟨rfl, rfl⟩
      go_wp2_with fail
      go_ret
      exact ⟨ret_bool (by rw [R.out]), HB.out _⟩

set_option maxHeartbeats 1000000 in
/-- impl.actOk -/
theorem actOk_any (kd : Int) (nm to da : ByteArray) (w : World) (hn : nm.size ≤ 9223372036854775807) (ht : to.size ≤ 9223372036854775807) :
    Calls Tryz.prog 48 #[.agg #[.int .i64 kd, .string nm, .string to, .string da]] w fun e w' => e = .returned (.bool (Pl.actB ⟨kd, nm, to, da⟩)) ∧ Below w.heap.size w w' := by
  have HB : Hid (∀ o, Below w.heap.size w (w.alloc o)) := fun o => (Below.refl _ _).alloc (Nat.le_refl _) _
  have K := hideP (fun w => nameOk_any nm w hn)
  have K2 := hideP (fun w => nameOk_any to w ht)
  have ed : (da.toList == []) = decide (da.size = 0) := empty_beq da
  have et : (to.toList == []) = decide (to.size = 0) := empty_beq to
  by_cases h14 : kd = 1 ∨ kd = 4
  · have R := hideP (Pl.act_mk kd nm to da h14)
    generalize Pl.nameB nm = q0 at *
    generalize decide (to.size = 0) = q1 at *
    generalize decide (da.size = 0) = q2 at *
    rcases h14 with rfl | rfl
    · cases q0 <;> cases q1 <;> cases q2 <;>
      · go_enter Tryz.func48, Tryz.ntmps48
        go_wp2_with fail
        refine (K.out _).mono ?_
        rintro e w' ⟨rfl, rfl⟩
        go_wp2_with fail
        go_ret
        exact ⟨ret_bool R.out.symm, HB.out _⟩
    · cases q0 <;> cases q1 <;> cases q2 <;>
      · go_enter Tryz.func48, Tryz.ntmps48
        go_wp2_with fail
        refine (K.out _).mono ?_
        rintro e w' ⟨rfl, rfl⟩
        go_wp2_with fail
        go_ret
        exact ⟨ret_bool R.out.symm, HB.out _⟩
  by_cases h2 : kd = 2
  · subst h2
    have R := hideP (Pl.act_add nm to da)
    clear h14 ed
    generalize Pl.nameB nm = q0 at *
    generalize decide (to.size = 0) = q1 at *
    cases q0 <;> cases q1 <;>
    · go_enter Tryz.func48, Tryz.ntmps48
      go_wp2_with fail
      refine (K.out _).mono ?_
      rintro e w' ⟨rfl, rfl⟩
      go_wp2_with fail
      go_ret
      exact ⟨ret_bool R.out.symm, HB.out _⟩
  by_cases h3 : kd = 3
  · subst h3
    have R := hideP (Pl.act_ren nm to da)
    clear h14 h2 et
    generalize Pl.nameB nm = q0 at *
    generalize Pl.nameB to = q1 at *
    generalize decide (da.size = 0) = q2 at *
    cases q0
    · go_enter Tryz.func48, Tryz.ntmps48
      go_wp2_with fail
      refine (K.out _).mono ?_
      rintro e w' ⟨rfl, rfl⟩
      go_wp2_with fail
      go_ret
      exact ⟨ret_bool R.out.symm, HB.out _⟩
    · cases q1 <;> cases q2 <;>
      · go_enter Tryz.func48, Tryz.ntmps48
        go_wp2_with fail
        refine (K.out _).mono ?_
        rintro e w' ⟨rfl, rfl⟩
        go_wp2_with fail
        refine (K2.out _).mono ?_
        rintro e w' ⟨rfl, rfl⟩
        go_wp2_with fail
        go_ret
        exact ⟨ret_bool R.out.symm, HB.out _⟩
  have e1 : (kd == 1) = false := by simp; omega
  have e2 : (kd == 2) = false := by simp; omega
  have e3 : (kd == 3) = false := by simp; omega
  have e4 : (kd == 4) = false := by simp; omega
  have R := hideP (show Pl.actB ⟨kd, nm, to, da⟩ = false by unfold Pl.actB; rw [if_neg h14, if_neg h2, if_neg h3])
  clear h14 h2 h3 ed et
  go_enter Tryz.func48, Tryz.ntmps48
  go_wp2_with fail
  go_ret
  exact ⟨ret_bool R.out.symm, HB.out _⟩

namespace Pl
theorem at_first (fs : List Fl) (nm : ByteArray) (k : Nat) (hk : k < fs.length) (hall : ∀ i, i < k → ¬ (at' fs i).1 = nm) (he : (at' fs k).1 = nm) : hasF fs nm = true ∧ dataF fs nm = (at' fs k).2 := by
  induction fs generalizing k with
  | nil => simp at hk
  | cons g r ih =>
    cases k with
    | zero =>
      have : g.1 = nm := by simpa [at'] using he
      exact ⟨by simp [hasF, this], by simp [dataF, this, at']⟩
    | succ k =>
      have h0 : ¬ g.1 = nm := by simpa [at'] using hall 0 (by omega)
      have := ih k (by simpa using hk) (fun i hi => by simpa [at'] using hall (i + 1) (by omega)) (by simpa [at'] using he)
      refine ⟨?_, ?_⟩
      · have := this.1; unfold hasF at this ⊢; rw [List.any_cons, this, Bool.or_true]
      · have := this.2
        unfold dataF at this ⊢
        rw [List.find?_cons_of_neg (by simp [h0]), this]
        simp [at']
theorem at_none (fs : List Fl) (nm : ByteArray) (hall : ∀ i, i < fs.length → ¬ (at' fs i).1 = nm) : hasF fs nm = false := by
  cases e : hasF fs nm
  · rfl
  · obtain ⟨f, hf, e1⟩ := has_mem.1 e
    obtain ⟨i, hi, e2⟩ := List.getElem_of_mem hf
    exact absurd e1 (by have := hall i hi; simp only [at', List.getD, hi, List.getElem?_eq_getElem, Option.getD_some] at this; rw [e2] at this; exact this)
end Pl

set_option maxHeartbeats 1000000 in
/-- spec.l7At -/
theorem l7At_any (u : Value) (fs : List Pl.Fl) (nm : ByteArray) (w : World) (hl : fs.length ≤ 1048576) (h : RdF w.heap.size w u fs) :
    Calls Tryz.prog 29 #[.agg #[u], .string nm] w fun e w' => Below w.heap.size w w' ∧ ((Pl.hasF fs nm = false ∧ e = .returned (.int .i64 (-1))) ∨
      (Pl.hasF fs nm = true ∧ ∃ i : Nat, i < fs.length ∧ e = .returned (.int .i64 i) ∧ Pl.dataF fs nm = (Pl.at' fs i).2)) := by
  obtain ⟨ao, cap, e0⟩ := h.form
  subst e0
  generalize hn : fs.length = n at *
  have Hn : Hid (fs.length = n) := hn
  have HR : Hid (∀ k, k < n → ∃ b off, ao = some ⟨b, off, none⟩ ∧ b < w.heap.size ∧ w.cell? ⟨b, off + k * 2, none⟩ = some (.string (Pl.at' fs k).1)) := by
    intro k hk
    obtain ⟨ao', cap', e, h⟩ := h
    simp only [Value.slice.injEq] at e
    obtain ⟨rfl, _, rfl⟩ := e
    rcases h with h0 | ⟨b, off, hb, e, hc⟩
    · omega
    · exact ⟨b, off, e, hb, (hc k (by omega)).1⟩
  clear hn h
  have BW : Hid (∀ o, Below w.heap.size w (w.alloc o)) := fun o => (Below.refl _ _).alloc (Nat.le_refl _) _
  have CN : Hid ((w.alloc (.cells #[.slice ao n cap] 31)).cell? ⟨w.heap.size, 0, none⟩ = some (.slice ao n cap)) := by show _ = _; simp [go_sem]
  go_enter Tryz.func29, Tryz.ntmps29
  go_wp2_with fail
  go_loop [5] (fun i => ∃ k : Nat, k ≤ n ∧ i = .int .i64 k ∧ Hid (∀ i, i < k → ¬ (Pl.at' fs i).1 = nm)) (fun i => n - (intOf i).toNat)
  case atStart => exact ⟨0, Nat.zero_le _, rfl, by intro i hi; omega⟩
  case round =>
    obtain ⟨k, hk, rfl, hall⟩ := hrel
    by_cases hlt : k < n
    · obtain ⟨b, off, e0, hb, hx⟩ := HR.out k hlt
      subst e0
      have HF := hideP (Pl.at_first fs nm k (by rw [Hn.out]; exact hlt) hall.out)
      have hbn : b < w.heap.size := hb
      have hx0 : (w.alloc (.cells #[.slice (some ⟨b, off, none⟩) n cap] 31)).cell? ⟨b, off + k * 2, none⟩ = some (.string (Pl.at' fs k).1) := ((BW.out _).cell (p := ⟨b, off + k * 2, none⟩) hb).trans hx
      clear hx
      by_cases hnm : (Pl.at' fs k).1 = nm
      · have HF2 := hideP (HF.out hnm)
        have e1 : ((Pl.at' fs k).1.toList == nm.toList) = true := by rw [ba_eq]; exact decide_eq_true hnm
        clear hnm HF
        generalize (Pl.at' fs k).1 = ga at *
        go_wp2_with fail
        go_ret
        exact ⟨BW.out _, .inr ⟨HF2.out.1, k, hlt, rfl, HF2.out.2⟩⟩
      · have hall2 : Hid (∀ i, i < k + 1 → ¬ (Pl.at' fs i).1 = nm) := by
          intro i hi
          by_cases h : i = k
          · subst h; exact hnm
          · exact hall.out i (by omega)
        have e1 : ((Pl.at' fs k).1.toList == nm.toList) = false := by rw [ba_eq]; exact decide_eq_false hnm
        clear hnm HF
        generalize (Pl.at' fs k).1 = ga at *
        go_wp2_with fail
        go_round
        case rel => exact ⟨k + 1, by omega, by go_num, hall2⟩
        case measure => simp [intOf]; omega
    · have R := hideP (Pl.at_none fs nm (fun i hi => hall.out i (by rw [Hn.out] at hi; omega)))
      go_wp2_with fail
      go_ret
      exact ⟨BW.out _, .inl ⟨R.out, rfl⟩⟩

end Go.Proofs.YtfangdhbadmolaaGreatDoor
