import Derived.Test.YtljkolffjjhgeaaGreatDoorSzk
namespace Go.Proofs.YtljkolffjjhgeaaGreatDoor
open Go.RowKit
set_option linter.unusedVariables false
set_option maxRecDepth 100000
namespace Pl
/-- leftBehindCode behind k steps -/
def lbs (y : Int) (c : List Sv) : Nat → Int
  | 0 => y
  | k + 1 => if 0 ≤ lbs y c k then lbs y c k - ((c.getD k ⟨0, [], [], f0⟩).nums.length : Nat) else lbs y c k
def lbF (x : Int) (c : List Sv) : Int := lbs (x - c.length) c c.length
theorem lbs_stop {y : Int} {c : List Sv} {k : Nat} (h : lbs y c k < 0) : ∀ d, lbs y c (k + d) = lbs y c k := by
  intro d
  induction d with
  | zero => rfl
  | succ d ih =>
    show (if 0 ≤ lbs y c (k + d) then lbs y c (k + d) - ((c.getD (k + d) ⟨0, [], [], f0⟩).nums.length : Nat) else lbs y c (k + d)) = _
    rw [ih, if_neg (by omega)]
theorem lbs_spec {y : Int} {c : List Sv} : ∀ k, k ≤ c.length → y - (nsum c k : Nat) ≤ lbs y c k ∧ (0 ≤ y - (nsum c k : Nat) → lbs y c k = y - (nsum c k : Nat)) ∧ (y - (nsum c k : Nat) < 0 → lbs y c k < 0 ∨ (k = 0)) ∧ lbs y c k ≤ y := by
  intro k
  induction k with
  | zero => intro _; simp [lbs, nsum]
  | succ k ih =>
    intro hk
    have hlt : k < c.length := hk
    obtain ⟨h1, h2, h3, h4⟩ := ih (by omega)
    have hs := nsum_succ (List.getElem?_eq_getElem hlt)
    have hd : c.getD k ⟨0, [], [], f0⟩ = c[k] := by rw [List.getD_eq_getElem?_getD, List.getElem?_eq_getElem hlt]; rfl
    unfold lbs
    rw [hd, hs]
    split
    · rename_i h0
      refine ⟨by omega, fun h => ?_, fun h => ?_, by omega⟩
      · have := h2 (by omega); omega
      · left
        by_cases hp : 0 ≤ y - (nsum c k : Nat)
        · have := h2 hp; omega
        · rcases h3 (by omega) with h | h
          · omega
          · subst h
            have e : lbs y c 0 = y := rfl
            have e2 : nsum c 0 = 0 := rfl
            omega
    · rename_i h0
      refine ⟨by omega, fun h => ?_, fun h => by left; omega, by omega⟩
      have := h2 (by omega)
      omega
theorem lbF_spec {x : Int} {c : List Sv} : x - (csz c : Nat) ≤ lbF x c ∧ (0 ≤ x - (csz c : Nat) → lbF x c = x - (csz c : Nat)) ∧ (x - (csz c : Nat) < 0 → lbF x c < 0) ∧ lbF x c ≤ x := by
  obtain ⟨h1, h2, h3, h4⟩ := lbs_spec (y := x - c.length) (c := c) c.length (Nat.le_refl _)
  have e := csz_eq c
  unfold lbF
  refine ⟨by omega, fun h => by have := h2 (by omega); omega, fun h => ?_, by omega⟩
  rcases h3 (by omega) with h | h
  · exact h
  · have : lbs (x - c.length) c c.length = x - c.length := by rw [h]; rfl
    have e2 : nsum c c.length = 0 := by rw [h]; rfl
    omega
end Pl
set_option maxHeartbeats 4000000 in
/-- impl.leftBehindCode -/
theorem leftBehind_fx (x : Int) (c : List Pl.Sv) (ao : Option Addr) (cap B : Nat) (hx0 : -1000000000 ≤ x) (hx1 : x ≤ 1000000000) (hl : Pl.csz c ≤ 1048576) (w : World) (hR : RdS B w ao c) :
    Calls Tryz.prog 42 #[.int .i64 x, .slice ao c.length cap] w fun e w' => e = .returned (.int .i64 (Pl.lbF x c)) ∧ w' = w := by
  have HG : Hid (∀ k, k < c.length → ∃ b off a cp, ao = some ⟨b, off, none⟩ ∧ w.cell? ⟨b, off + k * 7 + 1, none⟩ = some (.slice a (c.getD k ⟨0, [], [], Pl.f0⟩).nums.length cp)) := fun k hk => by
    rcases hR with rfl | ⟨b, off, hb, rfl, hc⟩
    · cases hk
    · obtain ⟨an, cn, h⟩ := hc k c[k] (List.getElem?_eq_getElem hk)
      refine ⟨b, off, an, cn, rfl, ?_⟩
      have hd : c.getD k ⟨0, [], [], Pl.f0⟩ = c[k] := by rw [List.getD_eq_getElem?_getD, List.getElem?_eq_getElem hk]; rfl
      rw [hd]
      exact h.n
  have HB : Hid (∀ k, k ≤ c.length → -10000000000 ≤ Pl.lbs (x - c.length) c k ∧ Pl.lbs (x - c.length) c k ≤ 10000000000) := fun k hk => by
    have h := Pl.lbs_spec (y := x - c.length) (c := c) k hk
    have h2 := Pl.nsum_le c k
    have h3 := Pl.csz_eq c
    omega
  have HS : Hid (∀ k, Pl.lbs (x - c.length) c k < 0 → k ≤ c.length → Pl.lbF x c = Pl.lbs (x - c.length) c k) := fun k h hk => by
    have := Pl.lbs_stop h (c.length - k)
    rw [show k + (c.length - k) = c.length by omega] at this
    exact this
  have HN : Hid (∀ k, 0 ≤ Pl.lbs (x - c.length) c k → Pl.lbs (x - c.length) c (k + 1) = Pl.lbs (x - c.length) c k - ((c.getD k ⟨0, [], [], Pl.f0⟩).nums.length : Nat)) := fun k h => by
    show (if 0 ≤ Pl.lbs (x - c.length) c k then _ else _) = _
    rw [if_pos h]
  have HE : Hid (Pl.lbF x c = Pl.lbs (x - c.length) c c.length) := rfl
  have H0 : Hid (Pl.lbs (x - c.length) c 0 = x - c.length) := rfl
  have hln : c.length ≤ 1048576 := by have := Pl.csz_eq c; omega
  clear hR hl
  generalize Pl.lbF x c = r at *
  generalize hL : c.length = L at *
  clear hL
  go_enter Tryz.func42, Tryz.ntmps42
  go_wp2
  go_loop [0, 5] (fun u v => ∃ k : Nat, k ≤ L ∧ v = .int .i64 k ∧ u = .int .i64 (Pl.lbs (x - L) c k)) (fun u v => L - (intOf v).toNat)
  case atStart => exact ⟨0, Nat.zero_le _, rfl, by rw [H0.out]⟩
  case round =>
    obtain ⟨k, hk, rfl, rfl⟩ := hrel
    obtain ⟨b1, b2⟩ := HB.out k hk
    by_cases hlt : k < L
    · by_cases h0 : 0 ≤ Pl.lbs (x - L) c k
      · obtain ⟨b, off, a, cp, rfl, hcell⟩ := HG.out k hlt
        have N := hideP (HN.out k h0)
        have bb := HB.out (k + 1) (by omega)
        rw [N.out] at bb
        clear HG HB HS HN HE H0
        generalize (c.getD k ⟨0, [], [], Pl.f0⟩).nums.length = q at *
        generalize Pl.lbs (x - L) c k = y at *
        go_wp2
        go_round
        case rel => exact ⟨k + 1, by omega, by go_num, by rw [N.out]⟩
        case measure => simp [intOf]; omega
      · have HR := hideP (HS.out k (by omega) hk)
        clear HG HB HS HN HE H0
        generalize Pl.lbs (x - L) c k = y at *
        go_wp2
        go_ret
        exact ⟨ret_int HR.out.symm, rfl⟩
    · obtain rfl : k = L := by omega
      clear HG HB HS HN H0
      go_wp2
      go_ret
      exact ⟨ret_int HE.out.symm, rfl⟩
end Go.Proofs.YtljkolffjjhgeaaGreatDoor
