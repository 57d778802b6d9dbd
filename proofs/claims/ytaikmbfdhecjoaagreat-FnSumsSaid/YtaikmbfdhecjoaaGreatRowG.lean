import Derived.Test.YtaikmbfdhecjoaaGreatRow
namespace Go.Proofs.YtaikmbfdhecjoaaGreat
open Go.RowKit
set_option linter.unusedVariables false

/-- a slice that isn't empty has an address -/
theorem rd_some {B : Nat} {w : World} {ao : Option Addr} {n c : Nat} {zs : List Int} (h : Rd B w (.slice ao n c) zs) (h1 : 1 ≤ zs.length) : ∃ b off, ao = some ⟨b, off, none⟩ := by
  obtain ⟨ao', cp, e, g⟩ := h
  simp only [Value.slice.injEq] at e
  rcases g with g | ⟨b, off, hB, e2, hc⟩
  · omega
  · exact ⟨b, off, e.1.trans e2⟩

theorem rows_none (cap p q : Nat) (i j s : Int) (w : World) (hp : i * s = (p : Int)) (hq : j * s = (q : Int)) (p0 : p = 0) (q0 : q = 0) :
    Calls Tryz.prog 69 #[.slice none 0 cap, .int .i64 s, .int .i64 i, .int .i64 j] w fun e w' => ∃ ao' c', e = .returned (.slice ao' 0 c') ∧ w' = w := by
  subst p0
  subst q0
  by_cases hp : cap = 0
  · subst hp
    go_enter Tryz.func69, Tryz.ntmps69
    go_wp2_with fail
    go_ret
    exact ⟨_, _, rfl, rfl⟩
  · go_enter Tryz.func69, Tryz.ntmps69
    go_wp2_with fail
    go_ret
    exact ⟨_, _, rfl, rfl⟩

theorem rows_some (ad : Addr) (cap p q : Nat) (i j s : Int) (w : World) (hp : i * s = (p : Int)) (hq : j * s = (q : Int)) (p0 : p = 0) (q0 : q = 0) :
    Calls Tryz.prog 69 #[.slice (some ad) 0 cap, .int .i64 s, .int .i64 i, .int .i64 j] w fun e w' => ∃ ao' c', e = .returned (.slice ao' 0 c') ∧ w' = w := by
  subst p0
  subst q0
  by_cases hp : cap = 0
  · subst hp
    go_enter Tryz.func69, Tryz.ntmps69
    go_wp2_with fail
    go_ret
    exact ⟨_, _, rfl, rfl⟩
  · go_enter Tryz.func69, Tryz.ntmps69
    go_wp2_with fail
    go_ret
    exact ⟨_, _, rfl, rfl⟩

/-- impl.rows, of any slice -/
theorem rows_gen (B : Nat) (ao : Option Addr) (cap s i j : Nat) (zs : List Int) (w : World) (hd : Rd B w (.slice ao zs.length cap) zs) (hi : i ≤ j) (hn : j * s ≤ zs.length) (hc : zs.length ≤ cap) (hc2 : 0 < zs.length → cap ≤ 9223372036854775807) :
    Calls Tryz.prog 69 #[.slice ao zs.length cap, .int .i64 (s : Int), .int .i64 (i : Int), .int .i64 (j : Int)] w fun e w' => ∃ v, e = .returned v ∧ Rd B w v ((zs.drop (i * s)).take (j * s - i * s)) ∧ w' = w := by
  by_cases h0 : zs.length = 0
  · have hz : zs = [] := List.eq_nil_of_length_eq_zero h0
    subst hz
    have e2 : j * s = 0 := by simpa using hn
    have e1 : i * s = 0 := by
      have := Nat.mul_le_mul_right s hi
      omega
    have key : Calls Tryz.prog 69 #[.slice ao 0 cap, .int .i64 (s : Int), .int .i64 (i : Int), .int .i64 (j : Int)] w fun e w' => ∃ ao' c', e = .returned (.slice ao' 0 c') ∧ w' = w := by
      have i1 : (i : Int) * (s : Int) = ((0 : Nat) : Int) := by rw [← Int.natCast_mul, e1]
      have i2 : (j : Int) * (s : Int) = ((0 : Nat) : Int) := by rw [← Int.natCast_mul, e2]
      cases ao with
      | none => exact rows_none cap 0 0 _ _ _ w i1 i2 rfl rfl
      | some ad => exact rows_some ad cap 0 0 _ _ _ w i1 i2 rfl rfl
    refine key.mono ?_
    rintro e w' ⟨ao', c', rfl, rfl⟩
    exact ⟨_, rfl, rd_zero _ _ _ _ _ (by simp), rfl⟩
  · obtain ⟨b, off, rfl⟩ := rd_some hd (by omega)
    exact rows_any B b off cap s i j zs w hd hi hn hc (hc2 (by omega))

end Go.Proofs.YtaikmbfdhecjoaaGreat
