import Derived.Test.YtmobjomebmipdaaLow
import Derived.Deep.QuietTactic
import Derived.BigQuiet
import Derived.WalkSmall
namespace Go.Proofs.Ytmobjomebmipdaa
open Go.RowKit
set_option linter.unusedVariables false

theorem Try.info3 : (Try.prog.info? 3).map (fun i => (i.zero, i.size, i.bytes)) = some (some (.int .i64 0), 1, 8) := by kernel_rfl

/-- the first k are copied, the rest are still 0 -/
def upTo (zs : List Int) (k : Nat) : List Int := zs.take k ++ List.replicate (zs.length - k) 0
theorem upTo_zero (zs : List Int) : upTo zs 0 = List.replicate zs.length 0 := by simp [upTo]
theorem upTo_all (zs : List Int) (k : Nat) (h : zs.length ≤ k) : upTo zs k = zs := by
  simp [upTo, List.take_of_length_le h, Nat.sub_eq_zero_of_le h]
theorem upTo_step (zs : List Int) (k : Nat) (h : k < zs.length) : (upTo zs k).set k (zs.getD k 0) = upTo zs (k + 1) := by
  unfold upTo
  rw [Pl.take_snoc zs k h, List.set_append_right k (zs.getD k 0) (by simp; omega)]
  have e : zs.length - k = (zs.length - (k + 1)) + 1 := by omega
  have e2 : k - (zs.take k).length = 0 := by simp; omega
  rw [e2, e, List.replicate_succ]
  simp

/-- the row that was made: n zeros -/
theorem made_zeros (n : Nat) : (madeCells #[Value.int .i64 0] n).toList = (List.replicate n (0 : Int)).map (Value.int .i64) := by
  rw [toList_madeCells_one]; simp

/-- laws.toIntS -/
theorem toIntS_core (b off cap : Nat) (zs : List Int) (w : World) (hl : zs.length ≤ 1048576) (hb : b < w.heap.size)
    (hc : ∀ i, i < zs.length → w.cell? ⟨b, off + i, none⟩ = some (.int .i64 (zs.getD i 0))) :
    Calls Try.prog 35 #[.slice (some ⟨b, off, none⟩) zs.length cap] w fun e w' => e = .returned (.slice (some ⟨w.heap.size, 0, none⟩) zs.length zs.length) ∧
      w'.ownsRow w.heap.size 3 1 (.slice (some ⟨w.heap.size, 0, none⟩) zs.length zs.length) zs.length (zs.map (Value.int .i64)) ∧ Below w.heap.size w w' := by
  obtain ⟨i0, hi, hz0, hz1, hz2⟩ := info_parts Try.info3
  generalize hn : zs.length = n at *
  have Hn : Hid (zs.length = n) := hn
  clear hn
  go_enter Try.func35, Try.ntmps35
  go_wp2_with (at_make; refine wpList_make_full _ rfl _ _ 22 rfl w.heap.size 3 i0 (.int .i64 0) 1 Try.underlying22 hi hz0 hz1 _ _ _ _ n rfl rfl rfl rfl ?b2 ?b3 ?b4 ?_)
  case b2 => rw [hz2]; omega
  case b3 => unfold maxLen; omega
  case b4 => exact Nat.le_refl _
  intro w1 hown hgrow
  rw [made_zeros] at hown
  have hbel : Below w.heap.size w w1 := (Below.refl _ _).grown hgrow (Nat.le_refl _) (by intro k h; cases h)
  clear hgrow hi hz0 hz1 hz2
  go_wp2
  go_loopw [4] (fun i wr => ∃ k : Nat, k ≤ n ∧ i = .int .i64 k ∧ wr.ownsRow w.heap.size 3 1 (.slice (some ⟨w.heap.size, 0, none⟩) n n) n ((upTo zs k).map (Value.int .i64)) ∧ Below w.heap.size w wr) (fun i _ => n - (intOf i).toNat)
  case atStart => exact ⟨0, Nat.zero_le _, rfl, by rw [upTo_zero, Hn.out]; exact hown, hbel⟩
  case round =>
    clear hown hbel
    obtain ⟨k, hk, rfl, hown, hbel⟩ := hrel
    by_cases hlt : k < n
    · have hck : wr.cell? ⟨b, off + k, none⟩ = some (.int .i64 (zs.getD k 0)) := (hbel.cell (p := ⟨b, off + k, none⟩) hb).trans (hc k hlt)
      have hfz := hown.frozenAt k
      have hst := hown.stored k (.int .i64 (zs.getD k 0))
      have hcg : ∃ u, wr.cell? ⟨w.heap.size, k, none⟩ = some (.int .i64 u) := by
        rw [hown.cellAt k (by omega)]
        have hlen : k < (upTo zs k).length := by simp [upTo]; have := Hn.out; omega
        exact ⟨(upTo zs k)[k], by simp [hlen]⟩
      obtain ⟨u, hcg⟩ := hcg
      have R : Hid ((wr.setCell ⟨w.heap.size, k, none⟩ (.int .i64 (zs.getD k 0))).ownsRow w.heap.size 3 1 (.slice (some ⟨w.heap.size, 0, none⟩) n n) n ((upTo zs (k + 1)).map (Value.int .i64)) ∧ Below w.heap.size w (wr.setCell ⟨w.heap.size, k, none⟩ (.int .i64 (zs.getD k 0)))) := by
        refine ⟨?_, hbel.setCell (Nat.le_refl _) _⟩
        rw [← upTo_step zs k (by rw [Hn.out]; exact hlt), List.map_set]
        exact hst.1
      clear hst hown hbel hc
      generalize zs.getD k 0 = x at *
      go_wp2
      go_roundw
      case rel => exact ⟨k + 1, by omega, by go_num, R.out.1, R.out.2⟩
      case measure => simp [intOf]; omega
    · have R : Hid (wr.ownsRow w.heap.size 3 1 (.slice (some ⟨w.heap.size, 0, none⟩) n n) n (zs.map (Value.int .i64)) ∧ Below w.heap.size w wr) := by
        rw [upTo_all zs k (by rw [Hn.out]; omega)] at hown
        exact ⟨hown, hbel⟩
      clear hown hbel hc
      go_wp2
      go_ret
      exact ⟨rfl, R.out⟩


theorem toIntS_nil (ao : Option Addr) (cap : Nat) (w : World) :
    Calls Try.prog 35 #[.slice ao 0 cap] w fun e w' => e = .returned (.slice (some ⟨w.heap.size, 0, none⟩) 0 0) ∧
      w'.ownsRow w.heap.size 3 1 (.slice (some ⟨w.heap.size, 0, none⟩) 0 0) 0 [] ∧ Below w.heap.size w w' := by
  obtain ⟨i0, hi, hz0, hz1, hz2⟩ := info_parts Try.info3
  go_enter Try.func35, Try.ntmps35
  go_wp2_with (at_make; refine wpList_make_full _ rfl _ _ 22 rfl w.heap.size 3 i0 (.int .i64 0) 1 Try.underlying22 hi hz0 hz1 _ _ _ _ 0 rfl rfl rfl rfl ?b2 ?b3 ?b4 ?_)
  case b2 => rw [hz2]; omega
  case b3 => unfold maxLen; omega
  case b4 => exact Nat.le_refl _
  intro w1 hown hgrow
  have hbel : Below w.heap.size w w1 := (Below.refl _ _).grown hgrow (Nat.le_refl _) (by intro k h; cases h)
  have R : Hid (w1.ownsRow w.heap.size 3 1 (.slice (some ⟨w.heap.size, 0, none⟩) 0 0) 0 [] ∧ Below w.heap.size w w1) := ⟨by simpa [madeCells] using hown, hbel⟩
  clear hgrow hi hz0 hz1 hz2 hown hbel
  go_wp2
  go_loopw [4] (fun i wr => i = .int .i64 0 ∧ wr = w1) (fun _ _ => 0)
  case atStart => exact ⟨rfl, rfl⟩
  case round =>
    obtain ⟨rfl, rfl⟩ := hrel
    go_wp2
    go_ret
    exact ⟨rfl, R.out⟩

theorem toIntS_any (v : Value) (zs : List Int) (w : World) (hl : zs.length ≤ 1048576) (h : Rd w.heap.size w v zs) :
    Calls Try.prog 35 #[v] w fun e w' => e = .returned (.slice (some ⟨w.heap.size, 0, none⟩) zs.length zs.length) ∧
      w'.ownsRow w.heap.size 3 1 (.slice (some ⟨w.heap.size, 0, none⟩) zs.length zs.length) zs.length (zs.map (Value.int .i64)) ∧ Below w.heap.size w w' := by
  obtain ⟨ao, cap, rfl, h⟩ := h
  rcases h with h | ⟨b, off, hb, rfl, hc⟩
  · obtain rfl := List.length_eq_zero_iff.1 h
    exact toIntS_nil ao cap w
  · exact toIntS_core b off cap zs w hl hb hc

/-- laws.eqIntS -/
theorem eqIntS_core (b1 o1 c1 b2 o2 c2 : Nat) (xs ys : List Int) (w : World) (hl : xs.length ≤ 1048576) (hxy : xs.length = ys.length) (hb1 : b1 < w.heap.size) (hb2 : b2 < w.heap.size)
    (hc1 : ∀ i, i < xs.length → w.cell? ⟨b1, o1 + i, none⟩ = some (.int .i64 (xs.getD i 0))) (hc2 : ∀ i, i < xs.length → w.cell? ⟨b2, o2 + i, none⟩ = some (.int .i64 (ys.getD i 0))) :
    Calls Try.prog 39 #[.slice (some ⟨b1, o1, none⟩) xs.length c1, .slice (some ⟨b2, o2, none⟩) xs.length c2] w fun e w' => e = .returned (.bool (decide (xs = ys))) ∧ Below w.heap.size w w' := by
  generalize hn : xs.length = n at *
  have Hn : Hid (xs.length = n) := hn
  have Hm : Hid (ys.length = n) := hxy.symm
  clear hn hxy
  go_enter Try.func39, Try.ntmps39
  go_wp2
  go_loopw [5] (fun i wr => ∃ k : Nat, k ≤ n ∧ i = .int .i64 k ∧ Hid (xs.take k = ys.take k) ∧ Below w.heap.size w wr) (fun i _ => n - (intOf i).toNat)
  case atStart => exact ⟨0, Nat.zero_le _, rfl, rfl, Below.refl _ _⟩
  case round =>
    obtain ⟨k, hk, rfl, hall, hbel⟩ := hrel
    by_cases hlt : k < n
    · have hck1 : wr.cell? ⟨b1, o1 + k, none⟩ = some (.int .i64 (xs.getD k 0)) := (hbel.cell (p := ⟨b1, o1 + k, none⟩) hb1).trans (hc1 k hlt)
      have hck2 : wr.cell? ⟨b2, o2 + k, none⟩ = some (.int .i64 (ys.getD k 0)) := (hbel.cell (p := ⟨b2, o2 + k, none⟩) hb2).trans (hc2 k hlt)
      have HX : Hid (xs.take (k + 1) = xs.take k ++ [xs.getD k 0]) := Pl.take_snoc xs k (by rw [Hn.out]; exact hlt)
      have HY : Hid (ys.take (k + 1) = ys.take k ++ [ys.getD k 0]) := Pl.take_snoc ys k (by rw [Hm.out]; exact hlt)
      have HE : Hid (xs = ys → xs.getD k 0 = ys.getD k 0) := fun h => by rw [h]
      have HB : Hid (Below w.heap.size w wr) := hbel
      generalize xs.getD k 0 = x at *
      generalize ys.getD k 0 = y at *
      clear hc1 hc2 hbel
      have hlt' : (k : Int) < (n : Int) := by omega
      by_cases hxy : x = y
      · have hne : (x != y) = false := by simp [hxy]
        have HXY : Hid (x = y) := hxy
        clear hxy
        go_wp2
        go_quiet (fail)
        go_wp2
        go_roundw
        case rel => exact ⟨k + 1, by omega, by go_num, by show _ = _; rw [HX.out, HY.out, hall.out, HXY.out], below_drewN HB.out _⟩
        case measure => simp [intOf]; omega
      · have hne : (x != y) = true := by simp [hxy]
        have HN : Hid (¬ x = y) := hxy
        clear hxy
        go_wp2
        go_quiet (fail)
        go_wp2
        go_ret
        exact ⟨ret_bool (by symm; rw [decide_eq_false_iff_not]; exact fun h => HN.out (HE.out h)), below_drewN HB.out _⟩
    · have R : Hid (xs = ys ∧ Below w.heap.size w wr) := by
        have := hall.out
        rw [List.take_of_length_le (by rw [Hn.out]; omega), List.take_of_length_le (by rw [Hm.out]; omega)] at this
        exact ⟨this, hbel⟩
      clear hbel hc1 hc2
      go_wp2
      go_ret
      exact ⟨ret_bool (by symm; rw [decide_eq_true_iff]; exact R.out.1), R.out.2⟩


theorem eqIntS_lens (a1 a2 : Option Addr) (n1 c1 n2 c2 : Nat) (w : World) (h1 : n1 ≤ 1048576) (h2 : n2 ≤ 1048576) (h : ¬ n1 = n2) :
    Calls Try.prog 39 #[.slice a1 n1 c1, .slice a2 n2 c2] w fun e w' => e = .returned (.bool false) ∧ w' = w := by
  have hne : ((n1 : Int) != (n2 : Int)) = true := by rw [bne_iff_ne]; omega
  go_enter Try.func39, Try.ntmps39
  go_wp2
  go_ret
  exact ⟨rfl, rfl⟩

theorem eqIntS_nil (a1 a2 : Option Addr) (c1 c2 : Nat) (w : World) :
    Calls Try.prog 39 #[.slice a1 0 c1, .slice a2 0 c2] w fun e w' => e = .returned (.bool true) ∧ w' = w := by
  go_enter Try.func39, Try.ntmps39
  go_wp2
  go_loopw [5] (fun i wr => i = .int .i64 0 ∧ wr = w) (fun _ _ => 0)
  case atStart => exact ⟨rfl, rfl⟩
  case round =>
    obtain ⟨rfl, rfl⟩ := hrel
    go_wp2
    go_ret
    exact ⟨rfl, rfl⟩

theorem eqIntS_any (v1 v2 : Value) (xs ys : List Int) (w : World) (hl1 : xs.length ≤ 1048576) (hl2 : ys.length ≤ 1048576) (h1 : Rd w.heap.size w v1 xs) (h2 : Rd w.heap.size w v2 ys) :
    Calls Try.prog 39 #[v1, v2] w fun e w' => e = .returned (.bool (decide (xs = ys))) ∧ Below w.heap.size w w' := by
  obtain ⟨a1, c1, rfl, h1⟩ := h1
  obtain ⟨a2, c2, rfl, h2⟩ := h2
  by_cases hxy : xs.length = ys.length
  · rcases h1 with h1 | ⟨b1, o1, hb1, rfl, hc1⟩
    · obtain rfl := List.length_eq_zero_iff.1 h1
      obtain rfl := List.length_eq_zero_iff.1 hxy.symm
      refine (eqIntS_nil a1 a2 c1 c2 w).mono ?_
      rintro e w' ⟨rfl, rfl⟩
      exact ⟨rfl, Below.refl _ _⟩
    · rcases h2 with h2 | ⟨b2, o2, hb2, rfl, hc2⟩
      · obtain rfl := List.length_eq_zero_iff.1 h2
        obtain rfl := List.length_eq_zero_iff.1 hxy
        refine (eqIntS_nil _ a2 c1 c2 w).mono ?_
        rintro e w' ⟨rfl, rfl⟩
        exact ⟨rfl, Below.refl _ _⟩
      · rw [← hxy] at hc2 ⊢
        exact eqIntS_core b1 o1 c1 b2 o2 c2 xs ys w hl1 hxy hb1 hb2 hc1 hc2
  · refine (eqIntS_lens a1 a2 _ c1 _ c2 w hl1 hl2 hxy).mono ?_
    rintro e w' ⟨rfl, rfl⟩
    exact ⟨ret_bool (by symm; rw [decide_eq_false_iff_not]; intro h; exact hxy (by rw [h])), Below.refl _ _⟩

/-- laws.szArray: what it answers says whether both lengths together are at most 'l' -/
theorem szArray_any (a0 a1 : Option Addr) (n0 c0 n1 c1 : Nat) (w : World) (h0 : n0 ≤ 9223372036854775807) (h1 : n1 ≤ 9223372036854775807) (l : Int) (hl0 : 0 ≤ l) (hl1 : l ≤ 1048576) :
    Calls Try.prog 11 #[.agg #[.slice a0 n0 c0, .slice a1 n1 c1], .int .i64 l] w fun e w' => ∃ r : Int, e = .returned (.int .i64 r) ∧ r ≤ 1048576 ∧ ((r = -1 ∧ l < n0 + n1) ∨ (r = l - n0 - n1 ∧ 0 ≤ r)) ∧ Below w.heap.size w w' := by
  by_cases g0 : l < n0
  · have s0 := fun w => szIntS_any a0 n0 c0 l w h0 hl0 hl1
    simp only [if_pos g0] at s0
    have S0 : Hid _ := s0
    clear s0
    go_enter Try.func11, Try.ntmps11
    go_wp2_with (go_at_call 32; refine (S0.out _).mono ?_; rintro e w' ⟨rfl, rfl⟩)
    go_ret
    exact ⟨_, rfl, by omega, .inl ⟨rfl, by omega⟩, (Below.refl _ _).alloc (Nat.le_refl _) _⟩
  · have s0 := fun w => szIntS_any a0 n0 c0 l w h0 hl0 hl1
    simp only [if_neg g0] at s0
    have S0 : Hid _ := s0
    clear s0
    have e0 : 0 ≤ l - (n0 : Int) := by omega
    by_cases g1 : l - (n0 : Int) < n1
    · have s1 := fun w => szIntS_any a1 n1 c1 (l - (n0 : Int)) w h1 e0 (by omega)
      simp only [if_pos g1] at s1
      have S1 : Hid _ := s1
      clear s1
      go_enter Try.func11, Try.ntmps11
      go_wp2_with fail
      refine (S0.out _).mono ?_
      rintro e w' ⟨rfl, rfl⟩
      go_wp2_with fail
      refine (S1.out _).mono ?_
      rintro e w' ⟨rfl, rfl⟩
      go_wp2_with fail
      go_ret
      exact ⟨_, rfl, by omega, .inl ⟨rfl, by omega⟩, (Below.refl _ _).alloc (Nat.le_refl _) _⟩
    · have s1 := fun w => szIntS_any a1 n1 c1 (l - (n0 : Int)) w h1 e0 (by omega)
      simp only [if_neg g1] at s1
      have S1 : Hid _ := s1
      clear s1
      have e1 : 0 ≤ l - (n0 : Int) - n1 := by omega
      go_enter Try.func11, Try.ntmps11
      go_wp2_with fail
      refine (S0.out _).mono ?_
      rintro e w' ⟨rfl, rfl⟩
      go_wp2_with fail
      refine (S1.out _).mono ?_
      rintro e w' ⟨rfl, rfl⟩
      go_wp2_with fail
      go_ret
      exact ⟨_, rfl, by omega, .inr ⟨rfl, by omega⟩, (Below.refl _ _).alloc (Nat.le_refl _) _⟩

end Go.Proofs.Ytmobjomebmipdaa
