import Derived.Test.YtmobjomebmipdaaMon1
namespace Go.Proofs.Ytmobjomebmipdaa
open Go.RowKit
set_option linter.unusedVariables false

namespace Pl
/-- 0, 1, .. n - 1 -/
def iotaL (n : Nat) : List Int := (List.range n).map (fun (i : Nat) => (i : Int))
def iotaZ (n j : Nat) : List Int := iotaL j ++ List.replicate (n - j) 0
theorem iotaL_len (n : Nat) : (iotaL n).length = n := by simp [iotaL]
theorem iotaL_succ (n : Nat) : iotaL (n + 1) = iotaL n ++ [(n : Int)] := by simp [iotaL, List.range_succ]
theorem iotaZ_all (n : Nat) : iotaZ n n = iotaL n := by simp [iotaZ]
theorem iotaZ_zero (n : Nat) : iotaZ n 0 = List.replicate n 0 := by simp [iotaZ, iotaL]
theorem iotaZ_len (n j : Nat) (h : j ≤ n) : (iotaZ n j).length = n := by simp [iotaZ, iotaL_len]; omega
theorem iotaZ_step (n j : Nat) (h : j < n) : (iotaZ n j).set j (j : Int) = iotaZ n (j + 1) := by
  unfold iotaZ
  have e : n - j = (n - (j + 1)) + 1 := by omega
  rw [List.set_append_right j _ (by rw [iotaL_len]; exact Nat.le_refl _), iotaL_len, Nat.sub_self, e, List.replicate_succ, List.set_cons_zero, iotaL_succ]
  simp
end Pl

set_option maxRecDepth 100000 in
set_option maxHeartbeats 2000000 in
/-- impl.positions -/
theorem positions_any (n : Nat) (w : World) (hn : n ≤ 1000) :
    Calls Try.prog 141 #[.int .i64 (n : Int)] w fun e w' => e = .returned (.slice (some ⟨w.heap.size, 0, none⟩) n n) ∧ w'.ownsRow w.heap.size 3 1 (.slice (some ⟨w.heap.size, 0, none⟩) n n) n ((Pl.iotaL n).map (Value.int .i64)) ∧ Below w.heap.size w w' := by
  obtain ⟨i0, hi, hz0, hz1, hz2⟩ := info_parts Try.info3
  have HI := hideP (And.intro hi (And.intro hz0 (And.intro hz1 hz2)))
  clear hi hz0 hz1 hz2
  go_enter Try.func141, Try.ntmps141
  go_wp2_with (at_make; refine wpList_make_full _ rfl _ _ 22 rfl w.heap.size 3 i0 (.int .i64 0) 1 Try.underlying22 HI.out.1 HI.out.2.1 HI.out.2.2.1 _ _ _ _ n rfl rfl rfl rfl ?b2 ?b3 ?b4 ?_)
  case b2 => rw [HI.out.2.2.2]; omega
  case b3 => unfold maxLen; omega
  case b4 => exact Nat.le_refl _
  intro w1 hown hgrow
  rw [made_zeros] at hown
  have B1 : Hid (Below w.heap.size w w1) := (Below.refl _ _).grown hgrow (Nat.le_refl _) (by intro k h; cases h)
  have O1 : Hid (w1.ownsRow w.heap.size 3 1 (.slice (some ⟨w.heap.size, 0, none⟩) n n) n ((Pl.iotaZ n 0).map (Value.int .i64))) := by
    show World.ownsRow _ _ _ _ _ _ _
    rw [Pl.iotaZ_zero]
    simpa using hown
  clear hown hgrow
  go_wp2_with fail
  go_loopw [4, 9] (fun _ i wr => ∃ j : Nat, j ≤ n ∧ i = .int .i64 j ∧ Hid (wr.ownsRow w.heap.size 3 1 (.slice (some ⟨w.heap.size, 0, none⟩) n n) n ((Pl.iotaZ n j).map (Value.int .i64))) ∧ Hid (Below w.heap.size w wr)) (fun _ i _ => n - (intOf i).toNat)
  case atStart => exact ⟨0, Nat.zero_le _, rfl, O1, B1⟩
  case round =>
    obtain ⟨j, hj, rfl, ho, hB⟩ := hrel
    by_cases hlt : j < n
    · have hlt' : (j : Int) < (n : Int) := by omega
      have hfz : wr.frozen? ⟨w.heap.size, j, none⟩ = false := ho.out.frozenAt j
      have hcg : ∃ u, wr.cell? ⟨w.heap.size, j, none⟩ = some (.int .i64 u) := by
        rw [ho.out.cellAt j (by omega)]
        have hlen : j < (Pl.iotaZ n j).length := by rw [Pl.iotaZ_len n j hj]; exact hlt
        exact ⟨(Pl.iotaZ n j)[j], by simp [hlen]⟩
      obtain ⟨u, hcg⟩ := hcg
      have R : Hid ((wr.setCell ⟨w.heap.size, j, none⟩ (.int .i64 (j : Int))).ownsRow w.heap.size 3 1 (.slice (some ⟨w.heap.size, 0, none⟩) n n) n ((Pl.iotaZ n (j + 1)).map (Value.int .i64))) := by
        show World.ownsRow _ _ _ _ _ _ _
        rw [← Pl.iotaZ_step n j hlt, List.map_set]
        exact (ho.out.stored j (.int .i64 (j : Int))).1
      have S : Hid (Below w.heap.size w (wr.setCell ⟨w.heap.size, j, none⟩ (.int .i64 (j : Int)))) := hB.out.setCell (by simp) _
      go_wp2_with fail
      go_roundw
      case rel => exact ⟨j + 1, by omega, by go_num, R, S⟩
      case measure => simp [intOf]; omega
    · have jn : j = n := by omega
      subst jn
      have OF := ho.out
      rw [Pl.iotaZ_all] at OF
      have HOF := hideP OF
      clear OF
      go_wp2_with fail
      go_ret
      exact ⟨rfl, HOF.out, hB.out⟩

end Go.Proofs.Ytmobjomebmipdaa
