import Derived.Test.YtbmkbplgncoapaaDoorId
namespace Go.Proofs.YtbmkbplgncoapaaDoor
open Go.RowKit Go.Sort
set_option linter.unusedVariables false

namespace Pl
/-- a verdict is right -/
def vB (k c : Int) : Bool := if k = 3 then decide (1 ≤ c ∧ c ≤ 99) else decide (1 ≤ k ∧ k ≤ 5) && decide (c = 0)
def vsAll (vs : List Vt) : Bool := vs.all fun v => vB v.1 v.2
def vsB (vs : List Vt) : Bool := decide (vs.length ≤ 20) && vsAll vs
theorem vsAll_snoc (vs : List Vt) (k : Nat) (h : k < vs.length) : vsAll (vs.take (k + 1)) = (vsAll (vs.take k) && vB (at2 vs k).1 (at2 vs k).2) := by
  rw [take_snoc2 vs k h]; simp [vsAll]
theorem vsAll_false {vs : List Vt} {k : Nat} (h : k < vs.length) (hf : vB (at2 vs k).1 (at2 vs k).2 = false) : vsAll vs = false := by
  cases e : vsAll vs
  · rfl
  · unfold vsAll at e
    rw [List.all_eq_true] at e
    rw [e _ (at_mem h)] at hf; cases hf
end Pl

set_option maxHeartbeats 1000000 in
/-- impl.verdictOk -/
theorem verdictOk_any (k c : Int) (w : World) : Calls Tryd.prog 97 #[.agg #[.int .i64 k, .int .i64 c]] w fun e w' => e = .returned (.bool (Pl.vB k c)) ∧ Below w.heap.size w w' := by
  have A : Hid (∀ o, Below w.heap.size w (w.alloc o)) := fun o => (Below.refl _ _).alloc (Nat.le_refl _) _
  by_cases h3 : k = 3
  · have h3' : (k == 3) = true := by rw [beq_iff_eq]; exact h3
    have HR : Hid (Pl.vB k c = (decide (1 ≤ c) && decide (c ≤ 99))) := by show _ = _; simp [Pl.vB, h3]
    clear h3
    by_cases h1 : 1 ≤ c <;> by_cases h2 : c ≤ 99 <;> first
    | (exfalso; omega)
    | (go_enter Tryd.func97, Tryd.ntmps97
       go_wp2_with fail
       go_ret
       exact ⟨ret_bool (by rw [HR.out]; simp [h1, h2]), A.out _⟩)
  · have h3' : (k == 3) = false := by rw [beq_eq_false_iff_ne]; exact h3
    have HR : Hid (Pl.vB k c = (decide (1 ≤ k) && decide (k ≤ 5) && decide (c = 0))) := by show _ = _; simp [Pl.vB, h3]
    clear h3
    by_cases h0 : c = 0
    · have h0' : (c == 0) = true := by rw [beq_iff_eq]; exact h0
      have H0 := hideP h0
      clear h0
      by_cases h1 : 1 ≤ k <;> by_cases h2 : k ≤ 5 <;> first
      | (exfalso; omega)
      | (go_enter Tryd.func97, Tryd.ntmps97
         go_wp2_with fail
         go_ret
         exact ⟨ret_bool (by rw [HR.out]; simp [h1, h2, H0.out]), A.out _⟩)
    · have h0' : (c == 0) = false := by rw [beq_eq_false_iff_ne]; exact h0
      have H0 := hideP h0
      clear h0
      by_cases h1 : 1 ≤ k <;> by_cases h2 : k ≤ 5 <;> first
      | (exfalso; omega)
      | (go_enter Tryd.func97, Tryd.ntmps97
         go_wp2_with fail
         go_ret
         exact ⟨ret_bool (by rw [HR.out]; simp [h1, h2, H0.out]), A.out _⟩)

theorem vsB_long {vs : List Pl.Vt} (h : 20 < vs.length) : Pl.vsB vs = false := by unfold Pl.vsB; rw [decide_eq_false (by omega)]; rfl
theorem vsB_short {vs : List Pl.Vt} (h : ¬ 20 < vs.length) : Pl.vsB vs = Pl.vsAll vs := by unfold Pl.vsB; rw [decide_eq_true (by omega)]; rfl

set_option maxRecDepth 100000 in
set_option maxHeartbeats 4000000 in
/-- impl.verdictsOk -/
theorem verdictsOk_core (b off cap : Nat) (vs : List Pl.Vt) (w : World) (hl : vs.length ≤ 1048576) (hb : b < w.heap.size)
    (hc : ∀ i, i < vs.length → w.cell? ⟨b, off + i * 2, none⟩ = some (.int .i64 (Pl.at2 vs i).1) ∧ w.cell? ⟨b, off + i * 2 + 1, none⟩ = some (.int .i64 (Pl.at2 vs i).2)) :
    Calls Tryd.prog 61 #[.slice (some ⟨b, off, none⟩) vs.length cap] w fun e w' => e = .returned (.bool (Pl.vsB vs)) ∧ Below w.heap.size w w' := by
  have HC := hideP hc
  clear hc
  obtain ⟨n, hn⟩ : ∃ n, vs.length = n := ⟨_, rfl⟩
  have Hn := hideP hn
  have BR := hideP (Below.refl w.heap.size w)
  by_cases hlong : 20 < vs.length
  · have HV := hideP (vsB_long hlong)
    rw [hn] at hlong hl ⊢
    have hlong' : (20 : Int) < (n : Int) := by omega
    clear hn HC
    go_enter Tryd.func61, Tryd.ntmps61
    go_wp2_with fail
    go_ret
    exact ⟨ret_bool HV.out.symm, BR.out⟩
  · have HV := hideP (vsB_short hlong)
    rw [hn] at hlong hl HC ⊢
    have hlong' : ¬ (20 : Int) < (n : Int) := by omega
    clear hn
    go_enter Tryd.func61, Tryd.ntmps61
    go_wp2_with fail
    go_loopw [10, 4] (fun i _ wr => ∃ k : Nat, k ≤ n ∧ i = .int .i64 (k : Int) ∧ Hid (Pl.vsAll (vs.take k) = true) ∧ Hid (Below w.heap.size w wr)) (fun i _ _ => n - (intOf i).toNat)
    case atStart => exact ⟨0, Nat.zero_le _, rfl, rfl, BR⟩
    case round =>
      obtain ⟨k, hk, rfl, hall, BB⟩ := hrel
      by_cases hlt : k < n
      · have hlt' : (k : Int) < (n : Int) := by omega
        have c0 : wr.cell? ⟨b, off + k * 2, none⟩ = some (.int .i64 (Pl.at2 vs k).1) := (BB.out.cell (p := ⟨b, off + k * 2, none⟩) hb).trans (HC.out k hlt).1
        have c1 : wr.cell? ⟨b, off + k * 2 + 1, none⟩ = some (.int .i64 (Pl.at2 vs k).2) := (BB.out.cell (p := ⟨b, off + k * 2 + 1, none⟩) hb).trans (HC.out k hlt).2
        have HS := hideP (Pl.vsAll_snoc vs k (by rw [Hn.out]; exact hlt))
        have HF := hideP (fun h => Pl.vsAll_false (vs := vs) (k := k) (by rw [Hn.out]; exact hlt) h)
        generalize Pl.at2 vs k = t at *
        obtain ⟨tk, tc⟩ := t
        simp only at c0 c1 HS HF
        have AL : Hid (∀ o, Below wr.heap.size wr (wr.alloc o)) := fun o => (Below.refl _ _).alloc (Nat.le_refl _) _
        go_wp2_with fail
        refine (verdictOk_any tk tc _).mono ?_
        rintro e w2 ⟨rfl, hb2⟩
        have B2 := hideP ((BB.out.trans ((AL.out _).mono BB.out.size)).trans (hb2.mono (Nat.le_trans BB.out.size (AL.out _).size)))
        clear hb2 c0 c1
        cases hv : Pl.vB tk tc
        · have HX := hideP (HF.out hv)
          clear hv
          go_wp2_with fail
          go_ret
          exact ⟨ret_bool (by rw [HV.out, HX.out]), B2.out⟩
        · have HX : Hid (Pl.vsAll (vs.take (k + 1)) = true) := by show _ = _; rw [HS.out, hall.out, hv]; rfl
          clear hv
          go_wp2_with fail
          go_roundw
          case rel => exact ⟨k + 1, by omega, by go_num, HX, B2⟩
          case measure => simp [intOf]; omega
      · have hlt' : ¬ (k : Int) < (n : Int) := by omega
        have HA : Hid (Pl.vsAll vs = true) := by
          have := hall.out
          rw [List.take_of_length_le (by rw [Hn.out]; omega)] at this
          exact this
        go_wp2_with fail
        go_ret
        exact ⟨ret_bool (by rw [HV.out, HA.out]), BB.out⟩

theorem verdictsOk_nil (ao : Option Addr) (cap : Nat) (w : World) : Calls Tryd.prog 61 #[.slice ao 0 cap] w fun e w' => e = .returned (.bool true) ∧ w' = w := by
  go_enter Tryd.func61, Tryd.ntmps61
  go_wp2_with fail
  go_loop [10, 4] (fun i _ => i = .int .i64 0) (fun _ _ => 0)
  case atStart => rfl
  case round =>
    obtain rfl := hrel
    go_wp2_with fail
    go_ret
    exact ⟨rfl, rfl⟩

theorem verdictsOk_any (v : Value) (vs : List Pl.Vt) (w : World) (hl : vs.length ≤ 1048576) (h : RdV w.heap.size w v vs) :
    Calls Tryd.prog 61 #[v] w fun e w' => e = .returned (.bool (Pl.vsB vs)) ∧ Below w.heap.size w w' := by
  obtain ⟨ao, cap, rfl, h⟩ := h
  rcases h with h | ⟨b, off, hb, rfl, hc⟩
  · obtain rfl := List.length_eq_zero_iff.1 h
    refine (verdictsOk_nil ao cap w).mono ?_
    rintro e w' ⟨rfl, rfl⟩
    exact ⟨rfl, Below.refl _ _⟩
  · exact verdictsOk_core b off cap vs w hl hb hc

theorem l6VerdictsOk_nil (ao : Option Addr) (cap : Nat) (w : World) : Calls Tryd.prog 55 #[.slice ao 0 cap] w fun e w' => e = .returned (.bool true) ∧ w' = w := by
  go_enter Tryd.func55, Tryd.ntmps55
  go_wp2_with fail
  go_loop [3, 4] (fun i _ => i = .int .i64 0) (fun _ _ => 0)
  case atStart => rfl
  case round =>
    obtain rfl := hrel
    go_wp2_with fail
    go_ret
    exact ⟨rfl, rfl⟩

set_option maxRecDepth 100000 in
set_option maxHeartbeats 8000000 in
/-- spec.l6VerdictsOk -/
theorem l6VerdictsOk_core (b off cap : Nat) (vs : List Pl.Vt) (w : World) (hl : vs.length ≤ 1048576) (hb : b < w.heap.size)
    (hc : ∀ i, i < vs.length → w.cell? ⟨b, off + i * 2, none⟩ = some (.int .i64 (Pl.at2 vs i).1) ∧ w.cell? ⟨b, off + i * 2 + 1, none⟩ = some (.int .i64 (Pl.at2 vs i).2)) :
    Calls Tryd.prog 55 #[.slice (some ⟨b, off, none⟩) vs.length cap] w fun e w' => e = .returned (.bool (Pl.vsB vs)) ∧ Below w.heap.size w w' := by
  have HC := hideP hc
  clear hc
  obtain ⟨n, hn⟩ : ∃ n, vs.length = n := ⟨_, rfl⟩
  have Hn := hideP hn
  have BR := hideP (Below.refl w.heap.size w)
  by_cases hlong : 20 < vs.length
  · have HV := hideP (vsB_long hlong)
    rw [hn] at hlong hl ⊢
    have hlong' : (20 : Int) < (n : Int) := by omega
    clear hn HC
    go_enter Tryd.func55, Tryd.ntmps55
    go_wp2_with fail
    go_ret
    exact ⟨ret_bool HV.out.symm, BR.out⟩
  · have HV := hideP (vsB_short hlong)
    rw [hn] at hlong hl HC ⊢
    have hlong' : ¬ (20 : Int) < (n : Int) := by omega
    clear hn
    go_enter Tryd.func55, Tryd.ntmps55
    go_wp2_with fail
    go_loopw [3, 4] (fun i _ wr => ∃ k : Nat, k ≤ n ∧ i = .int .i64 (k : Int) ∧ Hid (Pl.vsAll (vs.take k) = true) ∧ Hid (Below w.heap.size w wr)) (fun i _ _ => n - (intOf i).toNat)
    case atStart => exact ⟨0, Nat.zero_le _, rfl, rfl, BR⟩
    case round =>
      obtain ⟨k, hk, rfl, hall, BB⟩ := hrel
      by_cases hlt : k < n
      · have hlt' : (k : Int) < (n : Int) := by omega
        have c0 : wr.cell? ⟨b, off + k * 2, none⟩ = some (.int .i64 (Pl.at2 vs k).1) := (BB.out.cell (p := ⟨b, off + k * 2, none⟩) hb).trans (HC.out k hlt).1
        have c1 : wr.cell? ⟨b, off + k * 2 + 1, none⟩ = some (.int .i64 (Pl.at2 vs k).2) := (BB.out.cell (p := ⟨b, off + k * 2 + 1, none⟩) hb).trans (HC.out k hlt).2
        have HS := hideP (Pl.vsAll_snoc vs k (by rw [Hn.out]; exact hlt))
        have HF := hideP (fun h => Pl.vsAll_false (vs := vs) (k := k) (by rw [Hn.out]; exact hlt) h)
        generalize Pl.at2 vs k = t at *
        obtain ⟨tk, tc⟩ := t
        simp only at c0 c1 HS HF
        have AL : Hid (∀ o, Below w.heap.size w (wr.alloc o)) := fun o => BB.out.alloc BB.out.size _
        have BADK : Hid (Pl.vB tk tc = false → Pl.vsB vs = false) := fun h => by rw [HV.out, HF.out h]
        have GOODK : Hid (Pl.vB tk tc = true → Pl.vsAll (vs.take (k + 1)) = true) := fun h => by rw [HS.out, hall.out, h]; rfl
        clear HS HF
        by_cases k1 : tk < 1
        · have X := hideP (BADK.out (by unfold Pl.vB; rw [if_neg (by omega), decide_eq_false (by omega)]; rfl))
          go_wp2_with fail
          go_ret
          exact ⟨ret_bool X.out.symm, AL.out _⟩
        · by_cases k5 : 5 < tk
          · have X := hideP (BADK.out (by unfold Pl.vB; rw [if_neg (by omega), decide_eq_false (by omega)]; rfl))
            go_wp2_with fail
            go_ret
            exact ⟨ret_bool X.out.symm, AL.out _⟩
          · by_cases k3 : tk = 3
            · have n3 : (tk != 3) = false := by rw [bne_eq_false_iff_eq]; exact k3
              have e3 : (tk == 3) = true := by rw [beq_iff_eq]; exact k3
              by_cases c1' : tc < 1
              · have X := hideP (BADK.out (by simp [Pl.vB, k3]; omega))
                clear k3
                go_wp2_with fail
                go_ret
                exact ⟨ret_bool X.out.symm, AL.out _⟩
              · by_cases c9 : 99 < tc
                · have X := hideP (BADK.out (by simp [Pl.vB, k3]; omega))
                  clear k3
                  go_wp2_with fail
                  go_ret
                  exact ⟨ret_bool X.out.symm, AL.out _⟩
                · have X := hideP (GOODK.out (by simp [Pl.vB, k3]; omega))
                  clear k3
                  go_wp2_with fail
                  go_roundw
                  case rel => exact ⟨k + 1, by omega, by go_num, X, AL.out _⟩
                  case measure => simp [intOf]; omega
            · have n3 : (tk != 3) = true := by rw [bne_iff_ne]; exact k3
              have e3 : (tk == 3) = false := by rw [beq_eq_false_iff_ne]; exact k3
              by_cases cz : tc = 0
              · have nz : (tc != 0) = false := by rw [bne_eq_false_iff_eq]; exact cz
                have X := hideP (GOODK.out (by simp [Pl.vB, k3, cz]; omega))
                clear k3 cz
                go_wp2_with fail
                go_roundw
                case rel => exact ⟨k + 1, by omega, by go_num, X, AL.out _⟩
                case measure => simp [intOf]; omega
              · have nz : (tc != 0) = true := by rw [bne_iff_ne]; exact cz
                have X := hideP (BADK.out (by simp [Pl.vB, k3, cz]))
                clear k3 cz
                go_wp2_with fail
                go_ret
                exact ⟨ret_bool X.out.symm, AL.out _⟩
      · have hlt' : ¬ (k : Int) < (n : Int) := by omega
        have HA : Hid (Pl.vsAll vs = true) := by
          have := hall.out
          rw [List.take_of_length_le (by rw [Hn.out]; omega)] at this
          exact this
        go_wp2_with fail
        go_ret
        exact ⟨ret_bool (by rw [HV.out, HA.out]), BB.out⟩

theorem l6VerdictsOk_any (v : Value) (vs : List Pl.Vt) (w : World) (hl : vs.length ≤ 1048576) (h : RdV w.heap.size w v vs) :
    Calls Tryd.prog 55 #[v] w fun e w' => e = .returned (.bool (Pl.vsB vs)) ∧ Below w.heap.size w w' := by
  obtain ⟨ao, cap, rfl, h⟩ := h
  rcases h with h | ⟨b, off, hb, rfl, hc⟩
  · obtain rfl := List.length_eq_zero_iff.1 h
    refine (l6VerdictsOk_nil ao cap w).mono ?_
    rintro e w' ⟨rfl, rfl⟩
    exact ⟨rfl, Below.refl _ _⟩
  · exact l6VerdictsOk_core b off cap vs w hl hb hc

end Go.Proofs.YtbmkbplgncoapaaDoor
