import Derived.Test.YtbmkbplgncoapaaDoorF2
namespace Go.Proofs.YtbmkbplgncoapaaDoor
open Go.RowKit
set_option linter.unusedVariables false

set_option maxRecDepth 100000 in
set_option maxHeartbeats 2000000 in
/-- spec.DrawReport -/
theorem drawReport_any (ao : Option Addr) (n cap : Nat) (w : World) (hn : n ≤ 1048576) (hcap : n ≤ cap) (hm : cap ≤ 9223372036854775807) (h : RdB w.heap.size w ao n) :
    Calls Tryd.prog 39 #[.slice ao n cap] w fun e w' => ∃ (id : ByteArray) (v : Value) (vs : List Pl.Vt), e = .returned (.tuple #[.string id, v]) ∧ id.size ≤ 21 ∧ vs.length ≤ 30 ∧ RdV w'.heap.size w' v vs ∧ Below w.heap.size w w' := by
  have K0 := hideP (l1Open_any ao n cap w hn hcap hm h)
  clear h
  go_enter Tryd.func39, Tryd.ntmps39
  go_wp2_with fail
  refine K0.out.mono ?_
  rintro e w1 ⟨rfl, hr1, hb1⟩
  have B1 := hideP hb1
  have K1 := hideP (l6Id_any w.heap.size w.heap.size w1 hb1.size hr1)
  clear hr1 hb1 K0
  go_wp2_with fail
  refine K1.out.mono ?_
  rintro e w2 ⟨id, rfl, hid, hr2, hb2⟩
  have B2 := hideP (B1.out.trans hb2)
  have K2 := hideP (l6Verdicts_any w.heap.size w.heap.size w2 (B1.out.trans hb2).size hr2)
  clear hr2 hb2 K1
  go_wp2_with fail
  refine K2.out.mono ?_
  rintro e w3 ⟨v, vs, rfl, hl, hrd, hr3, hb3⟩
  have B3 := hideP (B2.out.trans hb3)
  have RD := hideP hrd
  clear hr3 hb3 K2 hrd
  go_wp2_with fail
  go_ret2
  exact ⟨id, v, vs, rfl, hid, hl, RD.out, B3.out⟩

set_option maxRecDepth 100000 in
set_option maxHeartbeats 2000000 in
/-- spec.SameVerdicts, of the same ones -/
theorem sameVerdicts_core (b1 o1 c1 b2 o2 c2 : Nat) (vs : List Pl.Vt) (w : World) (hl : vs.length ≤ 1048576) (hb1 : b1 < w.heap.size) (hb2 : b2 < w.heap.size)
    (h1 : ∀ k, k < vs.length → w.cell? ⟨b1, o1 + k * 2, none⟩ = some (.int .i64 (Pl.at2 vs k).1) ∧ w.cell? ⟨b1, o1 + k * 2 + 1, none⟩ = some (.int .i64 (Pl.at2 vs k).2))
    (h2 : ∀ k, k < vs.length → w.cell? ⟨b2, o2 + k * 2, none⟩ = some (.int .i64 (Pl.at2 vs k).1) ∧ w.cell? ⟨b2, o2 + k * 2 + 1, none⟩ = some (.int .i64 (Pl.at2 vs k).2)) :
    Calls Tryd.prog 40 #[.slice (some ⟨b1, o1, none⟩) vs.length c1, .slice (some ⟨b2, o2, none⟩) vs.length c2] w fun e w' => e = .returned (.bool true) ∧ Below w.heap.size w w' := by
  have H1 := hideP h1
  have H2 := hideP h2
  have BR := hideP (Below.refl w.heap.size w)
  generalize vs.length = n at *
  clear h1 h2
  go_enter Tryd.func40, Tryd.ntmps40
  go_wp2_with fail
  go_loopw [5] (fun i wr => ∃ k : Nat, k ≤ n ∧ i = .int .i64 (k : Int) ∧ Hid (Below w.heap.size w wr)) (fun i _ => n - (intOf i).toNat)
  case atStart => exact ⟨0, Nat.zero_le _, rfl, BR⟩
  case round =>
    obtain ⟨k, hk, rfl, BB⟩ := hrel
    by_cases hlt : k < n
    · have hlt' : (k : Int) < (n : Int) := by omega
      have c0 := (BB.out.cell (p := ⟨b1, o1 + k * 2, none⟩) hb1).trans (H1.out k hlt).1
      have c1 := (BB.out.cell (p := ⟨b1, o1 + k * 2 + 1, none⟩) hb1).trans (H1.out k hlt).2
      have d0 := (BB.out.cell (p := ⟨b2, o2 + k * 2, none⟩) hb2).trans (H2.out k hlt).1
      have d1 := (BB.out.cell (p := ⟨b2, o2 + k * 2 + 1, none⟩) hb2).trans (H2.out k hlt).2
      generalize Pl.at2 vs k = t at *
      obtain ⟨tk, tc⟩ := t
      simp only at c0 c1 d0 d1
      have BD : Hid (∀ m, Below w.heap.size w (wr.drewN m)) := fun m => below_drewN BB.out m
      go_wp2_with fail
      go_quiet (fail)
      go_wp2_with fail
      go_roundw
      case rel => exact ⟨k + 1, by omega, by go_num, BD.out _⟩
      case measure => simp [intOf]; omega
    · have hlt' : ¬ (k : Int) < (n : Int) := by omega
      go_wp2_with fail
      go_ret
      exact ⟨rfl, BB.out⟩

theorem sameVerdicts_nil (ao bo : Option Addr) (c1 c2 : Nat) (w : World) : Calls Tryd.prog 40 #[.slice ao 0 c1, .slice bo 0 c2] w fun e w' => e = .returned (.bool true) ∧ w' = w := by
  go_enter Tryd.func40, Tryd.ntmps40
  go_wp2_with fail
  go_loop [5] (fun i => i = .int .i64 0) (fun _ => 0)
  case atStart => rfl
  case round =>
    obtain rfl := hrel
    go_wp2_with fail
    go_ret
    exact ⟨rfl, rfl⟩

/-- spec.SameVerdicts -/
theorem sameVerdicts_any (v1 v2 : Value) (vs : List Pl.Vt) (w : World) (hl : vs.length ≤ 1048576) (h1 : RdV w.heap.size w v1 vs) (h2 : RdV w.heap.size w v2 vs) :
    Calls Tryd.prog 40 #[v1, v2] w fun e w' => e = .returned (.bool true) ∧ Below w.heap.size w w' := by
  obtain ⟨ao, c1, rfl, h1⟩ := h1
  obtain ⟨bo, c2, rfl, h2⟩ := h2
  by_cases h0 : vs.length = 0
  · rw [h0]
    refine (sameVerdicts_nil ao bo c1 c2 w).mono ?_
    rintro e w' ⟨rfl, rfl⟩
    exact ⟨rfl, Below.refl _ _⟩
  · rcases h1 with h1 | ⟨b1, o1, hb1, rfl, hc1⟩
    · exact absurd h1 h0
    · rcases h2 with h2 | ⟨b2, o2, hb2, rfl, hc2⟩
      · exact absurd h2 h0
      · exact sameVerdicts_core b1 o1 c1 b2 o2 c2 vs w hl hb1 hb2 hc1 hc2

end Go.Proofs.YtbmkbplgncoapaaDoor
