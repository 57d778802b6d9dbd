import Derived.Test.YtfangdhbadmolaaGreatDoorTo
import Derived.Deep.RegionWith
namespace Go.Proofs.YtfangdhbadmolaaGreatDoor
open Go.RowKit
set_option linter.unusedVariables false

theorem ba_eq {a b : ByteArray} : (a.toList == b.toList) = decide (a = b) := by
  rw [ByteArray.toList_eq, ByteArray.toList_eq]
  by_cases h : a = b
  · subst h; simp
  · have : ¬ a.data.toList = b.data.toList := fun e => h (by cases a; cases b; simp at e ⊢; exact e)
    rw [decide_eq_false h]; exact beq_eq_false_iff_ne.2 this

/-- laws.eqFile -/
theorem eqFile_any (a b c d : ByteArray) (w : World) :
    Calls Tryz.prog 41 #[.agg #[.string a, .string b], .agg #[.string c, .string d]] w fun e w' => e = .returned (.bool (decide ((a, b) = (c, d)))) ∧ Below w.heap.size w w' := by
  have HB : Hid (∀ o1 o2 : Obj, Below w.heap.size w ((w.alloc o1).alloc o2)) := fun o1 o2 => ((Below.refl _ _).alloc (Nat.le_refl _) _).alloc (by simp) _
  by_cases h0 : a = c
  · have e0 : (a.toList == c.toList) = true := by rw [ba_eq]; simp [h0]
    have H0 := hideP h0
    clear h0
    by_cases h1 : b = d
    · have e1 : (b.toList == d.toList) = true := by rw [ba_eq]; simp [h1]
      have H1 := hideP h1
      clear h1
      go_enter Tryz.func41, Tryz.ntmps41
      go_wp2
      go_ret
      exact ⟨ret_bool (by symm; rw [decide_eq_true_iff, H0.out, H1.out]), HB.out _ _⟩
    · have e1 : (b.toList == d.toList) = false := by rw [ba_eq]; simp [h1]
      have H1 := hideP h1
      clear h1
      go_enter Tryz.func41, Tryz.ntmps41
      go_wp2
      go_ret
      exact ⟨ret_bool (by symm; rw [decide_eq_false_iff_not]; intro h; cases h; exact H1.out rfl), HB.out _ _⟩
  · have e0 : (a.toList == c.toList) = false := by rw [ba_eq]; simp [h0]
    have H0 := hideP h0
    clear h0
    go_enter Tryz.func41, Tryz.ntmps41
    go_wp2
    go_ret
    exact ⟨ret_bool (by symm; rw [decide_eq_false_iff_not]; intro h; cases h; exact H0.out rfl), HB.out _ _⟩

/-- laws.eqFileS -/
theorem eqFileS_core (b1 o1 c1 b2 o2 c2 : Nat) (xs ys : List Pl.Fl) (w : World) (hl : xs.length ≤ 1048576) (hxy : xs.length = ys.length) (hb1 : b1 < w.heap.size) (hb2 : b2 < w.heap.size)
    (hc1 : ∀ i, i < xs.length → w.cell? ⟨b1, o1 + i * 2, none⟩ = some (.string (Pl.at' xs i).1) ∧ w.cell? ⟨b1, o1 + i * 2 + 1, none⟩ = some (.string (Pl.at' xs i).2))
    (hc2 : ∀ i, i < xs.length → w.cell? ⟨b2, o2 + i * 2, none⟩ = some (.string (Pl.at' ys i).1) ∧ w.cell? ⟨b2, o2 + i * 2 + 1, none⟩ = some (.string (Pl.at' ys i).2)) :
    Calls Tryz.prog 23 #[.slice (some ⟨b1, o1, none⟩) xs.length c1, .slice (some ⟨b2, o2, none⟩) xs.length c2] w fun e w' => e = .returned (.bool (decide (xs = ys))) ∧ Below w.heap.size w w' := by
  generalize hn : xs.length = n at *
  have Hn : Hid (xs.length = n) := hn
  have Hm : Hid (ys.length = n) := hxy.symm
  clear hn hxy
  go_enter Tryz.func23, Tryz.ntmps23
  go_wp2
  go_loopw [5] (fun i wr => ∃ k : Nat, k ≤ n ∧ i = .int .i64 k ∧ Hid (xs.take k = ys.take k) ∧ Hid (Below w.heap.size w wr)) (fun i _ => n - (intOf i).toNat)
  case atStart => exact ⟨0, Nat.zero_le _, rfl, rfl, Below.refl _ _⟩
  case round =>
    obtain ⟨k, hk, rfl, hall, hbel⟩ := hrel
    by_cases hlt : k < n
    · have hx0 : wr.cell? ⟨b1, o1 + k * 2, none⟩ = some (.string (Pl.at' xs k).1) := (hbel.out.cell (p := ⟨b1, o1 + k * 2, none⟩) hb1).trans (hc1 k hlt).1
      have hx1 : wr.cell? ⟨b1, o1 + k * 2 + 1, none⟩ = some (.string (Pl.at' xs k).2) := (hbel.out.cell (p := ⟨b1, o1 + k * 2 + 1, none⟩) hb1).trans (hc1 k hlt).2
      have hy0 : wr.cell? ⟨b2, o2 + k * 2, none⟩ = some (.string (Pl.at' ys k).1) := (hbel.out.cell (p := ⟨b2, o2 + k * 2, none⟩) hb2).trans (hc2 k hlt).1
      have hy1 : wr.cell? ⟨b2, o2 + k * 2 + 1, none⟩ = some (.string (Pl.at' ys k).2) := (hbel.out.cell (p := ⟨b2, o2 + k * 2 + 1, none⟩) hb2).trans (hc2 k hlt).2
      have HX : Hid (xs.take (k + 1) = xs.take k ++ [Pl.at' xs k]) := Pl.take_snoc xs k (by rw [Hn.out]; exact hlt)
      have HY : Hid (ys.take (k + 1) = ys.take k ++ [Pl.at' ys k]) := Pl.take_snoc ys k (by rw [Hm.out]; exact hlt)
      have HE : Hid (xs = ys → Pl.at' xs k = Pl.at' ys k) := fun h => by rw [h]
      generalize Pl.at' xs k = x at *
      generalize Pl.at' ys k = y at *
      obtain ⟨xa, xb⟩ := x
      obtain ⟨ya, yb⟩ := y
      simp only at hx0 hx1 hy0 hy1
      clear hc1 hc2
      have K := hideP (eqFile_any xa xb ya yb)
      by_cases hxy : (xa, xb) = (ya, yb)
      · rw [decide_eq_true hxy] at K
        have HXY := hideP hxy
        clear hxy
        go_wp2
        go_region_with (go_at_call 41; refine (K.out _).mono ?_; rintro e w2 ⟨rfl, hb3⟩; have HB2 := hideP (hbel.out.drew.trans (hb3.mono hbel.out.drew.size)); clear hb3)
        all_goals go_wp2_with fail
        all_goals go_roundw
        all_goals first
          | exact ⟨k + 1, by omega, by go_num, by show _ = _; rw [HX.out, HY.out, hall.out, HXY.out], HB2⟩
          | (simp [intOf]; omega)
      · rw [decide_eq_false hxy] at K
        have HN := hideP hxy
        clear hxy
        go_wp2
        go_region_with (go_at_call 41; refine (K.out _).mono ?_; rintro e w2 ⟨rfl, hb3⟩; have HB2 := hideP (hbel.out.drew.trans (hb3.mono hbel.out.drew.size)); clear hb3)
        all_goals go_wp2_with fail
        all_goals go_ret
        all_goals exact ⟨ret_bool (by symm; rw [decide_eq_false_iff_not]; exact fun h => HN.out (HE.out h)), HB2.out⟩
    · have R : Hid (xs = ys ∧ Below w.heap.size w wr) := by
        have := hall.out
        rw [List.take_of_length_le (by rw [Hn.out]; omega), List.take_of_length_le (by rw [Hm.out]; omega)] at this
        exact ⟨this, hbel.out⟩
      clear hbel hc1 hc2
      go_wp2
      go_ret
      exact ⟨ret_bool (by symm; rw [decide_eq_true_iff]; exact R.out.1), R.out.2⟩

theorem eqFileS_lens (a1 a2 : Option Addr) (n1 c1 n2 c2 : Nat) (w : World) (h1 : n1 ≤ 1048576) (h2 : n2 ≤ 1048576) (h : ¬ n1 = n2) :
    Calls Tryz.prog 23 #[.slice a1 n1 c1, .slice a2 n2 c2] w fun e w' => e = .returned (.bool false) ∧ w' = w := by
  have hne : ((n1 : Int) != (n2 : Int)) = true := by rw [bne_iff_ne]; omega
  go_enter Tryz.func23, Tryz.ntmps23
  go_wp2
  go_ret
  exact ⟨rfl, rfl⟩

theorem eqFileS_nil (a1 a2 : Option Addr) (c1 c2 : Nat) (w : World) :
    Calls Tryz.prog 23 #[.slice a1 0 c1, .slice a2 0 c2] w fun e w' => e = .returned (.bool true) ∧ w' = w := by
  go_enter Tryz.func23, Tryz.ntmps23
  go_wp2
  go_loopw [5] (fun i wr => i = .int .i64 0 ∧ wr = w) (fun _ _ => 0)
  case atStart => exact ⟨rfl, rfl⟩
  case round =>
    obtain ⟨rfl, rfl⟩ := hrel
    go_wp2
    go_ret
    exact ⟨rfl, rfl⟩

theorem eqFileS_any (v1 v2 : Value) (xs ys : List Pl.Fl) (w : World) (hl1 : xs.length ≤ 1048576) (hl2 : ys.length ≤ 1048576) (h1 : RdF w.heap.size w v1 xs) (h2 : RdF w.heap.size w v2 ys) :
    Calls Tryz.prog 23 #[v1, v2] w fun e w' => e = .returned (.bool (decide (xs = ys))) ∧ Below w.heap.size w w' := by
  obtain ⟨a1, c1, rfl, h1⟩ := h1
  obtain ⟨a2, c2, rfl, h2⟩ := h2
  by_cases hxy : xs.length = ys.length
  · rcases h1 with h1 | ⟨b1, o1, hb1, rfl, hc1⟩
    · obtain rfl := List.length_eq_zero_iff.1 h1
      obtain rfl := List.length_eq_zero_iff.1 hxy.symm
      refine (eqFileS_nil a1 a2 c1 c2 w).mono ?_
      rintro e w' ⟨rfl, rfl⟩
      exact ⟨rfl, Below.refl _ _⟩
    · rcases h2 with h2 | ⟨b2, o2, hb2, rfl, hc2⟩
      · obtain rfl := List.length_eq_zero_iff.1 h2
        obtain rfl := List.length_eq_zero_iff.1 hxy
        refine (eqFileS_nil _ a2 c1 c2 w).mono ?_
        rintro e w' ⟨rfl, rfl⟩
        exact ⟨rfl, Below.refl _ _⟩
      · rw [← hxy] at hc2 ⊢
        exact eqFileS_core b1 o1 c1 b2 o2 c2 xs ys w hl1 hxy hb1 hb2 hc1 hc2
  · refine (eqFileS_lens a1 a2 _ c1 _ c2 w hl1 hl2 hxy).mono ?_
    rintro e w' ⟨rfl, rfl⟩
    exact ⟨ret_bool (by symm; rw [decide_eq_false_iff_not]; intro h; exact hxy (by rw [h])), Below.refl _ _⟩

/-- laws.eqDisk -/
theorem eqDisk_any (v1 v2 : Value) (xs ys : List Pl.Fl) (w : World) (hl1 : xs.length ≤ 1048576) (hl2 : ys.length ≤ 1048576) (h1 : RdF w.heap.size w v1 xs) (h2 : RdF w.heap.size w v2 ys) :
    Calls Tryz.prog 10 #[.agg #[v1], .agg #[v2]] w fun e w' => e = .returned (.bool (decide (xs = ys))) ∧ Below w.heap.size w w' := by
  have H1 := hideP h1
  have H2 := hideP h2
  clear h1 h2
  have HB : Hid (∀ o1 o2 : Obj, Below w.heap.size w ((w.alloc o1).alloc o2)) := fun o1 o2 => ((Below.refl _ _).alloc (Nat.le_refl _) _).alloc (by simp) _
  go_enter Tryz.func10, Tryz.ntmps10
  go_wp2_with fail
  refine (eqFileS_any v1 v2 xs ys _ hl1 hl2 ((H1.out.keep (HB.out _ _)).up (by simp; omega)) ((H2.out.keep (HB.out _ _)).up (by simp; omega))).mono ?_
  rintro e w1 ⟨rfl, hb1⟩
  have B1 := hideP ((HB.out _ _).trans (hb1.mono (by simp; omega)))
  clear hb1
  by_cases h : xs = ys
  · rw [decide_eq_true h]
    have HD := hideP h
    clear h
    go_wp2_with fail
    go_ret
    exact ⟨ret_bool (decide_eq_true HD.out).symm, B1.out⟩
  · rw [decide_eq_false h]
    have HD := hideP h
    clear h
    go_wp2_with fail
    go_ret
    exact ⟨ret_bool (decide_eq_false HD.out).symm, B1.out⟩

end Go.Proofs.YtfangdhbadmolaaGreatDoor
