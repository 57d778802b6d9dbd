import Derived.Test.YtaopohihipihdaaGreatDoorCopied
import Derived.Test.YtaopohihipihdaaGreatDoorFirst2
import Derived.Test.YtaopohihipihdaaGreatDoorSame
namespace Go.Proofs.YtaopohihipihdaaGreatDoor
open Go.RowKit
set_option linter.unusedVariables false

theorem own_lit (w w' : World) (x : Int) (hb : Below (w.heap.size + 1) (w.alloc (.cells #[.int .i64 x] 3)) w') : Own w.heap.size w' (.slice (some ⟨w.heap.size, 0, none⟩) 1 1) [x] := by
  have o : Own w.heap.size (w.alloc (.cells #[.int .i64 x] 3)) (.slice (some ⟨w.heap.size, 0, none⟩) 1 1) [x] := own_of_any (owns_one w x w.heap.size (Nat.le_refl _))
  exact o.keep (by have e : (w.alloc (.cells #[.int .i64 x] 3)).heap.size = w.heap.size + 1 := by simp
                   rw [e]; exact hb)

set_option maxRecDepth 100000 in
/-- impl.vector -/
theorem vector_any (ao : Option Addr) (cap n : Nat) (w : World) :
    Calls Tryz.prog 64 #[.slice ao n cap] w fun e w' => ∃ g, e = .returned (.agg #[.slice (some ⟨g, 0, none⟩) 1 1, .slice ao n cap]) ∧ Own w.heap.size w' (.slice (some ⟨g, 0, none⟩) 1 1) [(n : Int)] ∧ Below w.heap.size w w' := by
  have B : Hid (∀ o o', Below w.heap.size w ((w.alloc o).alloc o')) := fun o o' => ((Below.refl _ _).alloc (Nat.le_refl _) _).alloc (by simp) _
  have O : Hid (∀ o, Own (w.heap.size + 1) ((w.alloc o).alloc (.cells #[.int .i64 (n : Int)] 3)) (.slice (some ⟨w.heap.size + 1, 0, none⟩) 1 1) [(n : Int)]) := fun o => by
    have := own_lit (w.alloc o) ((w.alloc o).alloc (.cells #[.int .i64 (n : Int)] 3)) (n : Int) (Below.refl _ _)
    have e : (w.alloc o).heap.size = w.heap.size + 1 := by simp
    rw [e] at this
    exact this
  go_enter Tryz.func64, Tryz.ntmps64
  go_wp2_with fail
  refine bodyPost_ret (v := .agg #[.slice (some ⟨w.heap.size + 1, 0, none⟩) 1 1, .slice ao n cap]) (by simp [results, Tryz.results64, go_sem]) rfl ⟨w.heap.size + 1, rfl, ?_, ?_⟩
  · exact (O.out _).base (by omega)
  · exact B.out _ _

theorem apart_lo2 {B : Nat} {w : World} {u0 u1 : Value} {sh da : List Int} (h : Own B w u0 sh) (h1 : da.length = 0 ∨ ∀ b, u1.ownBlock = some b → b < B) : Apart u0 u1 sh da := by
  rcases h1 with h1 | h1
  · exact .inr (.inl h1)
  · exact apart_left h h1

set_option maxRecDepth 100000 in
set_option maxHeartbeats 2000000 in
/-- impl.ravel -/
theorem ravel_any (v0 v1 : Value) (sh da : List Int) (w : World) (hl0 : sh.length ≤ 1048576) (hl1 : da.length ≤ 1048576) (h0 : Rd w.heap.size w v0 sh) (h1 : Rd w.heap.size w v1 da) :
    Calls Tryz.prog 40 #[.agg #[v0, v1]] w (KPost w 0 [(da.length : Int)] da) := by
  have H0 := hideP h0
  have H1 := hideP h1
  obtain ⟨a0, d0, e0⟩ := h0.form
  obtain ⟨a1, d1, e1⟩ := h1.form
  subst e0
  subst e1
  clear h0 h1
  have PB : Hid (∀ W, Below (w.heap.size + 1 + 1) ((w.alloc (.cells #[.slice a0 sh.length d0, .slice a1 da.length d1] 25)).alloc (.cells #[.slice none 0 0, .slice none 0 0] 25)) W → (W.cell? ⟨w.heap.size, 0, none⟩ = some (.slice a0 sh.length d0) ∧ W.cell? ⟨w.heap.size, 1, none⟩ = some (.slice a1 da.length d1)) ∧ (W.cell? ⟨w.heap.size + 1, 0, none⟩ = some (.slice none 0 0) ∧ W.cell? ⟨w.heap.size + 1, 1, none⟩ = some (.slice none 0 0) ∧ ∀ o, W.frozen? ⟨w.heap.size + 1, o, none⟩ = false) ∧ Below w.heap.size w W) := fun W hb => boxes2 hb
  have KJ : Hid (∀ o o', Calls Tryz.prog 66 #[.slice (some ⟨w.heap.size + 1 + 1, 0, none⟩) 1 1] (((w.alloc o).alloc o').alloc (.cells #[.slice a1 da.length d1] 23)) fun e w' => ∃ ao cap, e = .returned (.slice ao da.length cap) ∧ Own (w.heap.size + 1 + 1 + 1) w' (.slice ao da.length cap) da ∧ Below (w.heap.size + 1 + 1) ((w.alloc o).alloc o') w') := fun o o' => by
    have k : Below w.heap.size w (((w.alloc o).alloc o').alloc (.cells #[.slice a1 da.length d1] 23)) := below3 w _ _ _
    refine (joined1_own (w.heap.size + 1 + 1) _ da _ (by omega) (by simp) (by simp [go_sem]) ((H1.out.keep k).up (by simp; omega))).mono ?_
    rintro e w' ⟨ao, cap, rfl, ho, hb⟩
    refine ⟨ao, cap, rfl, by simpa using ho, ?_⟩
    exact ((Below.refl _ _).alloc (by simp) _).trans (hb.mono (by simp))
  go_enter Tryz.func40, Tryz.ntmps40
  go_wp2_with fail
  refine (KJ.out _ _).mono ?_
  rintro e w1 ⟨ao, cap, rfl, ho1, hb1⟩
  have B1 := hideP hb1
  have O1 := hideP ho1
  have hs1 : w.heap.size + 1 + 1 ≤ w1.heap.size := by have := hb1.size; simpa using this
  clear hb1 ho1
  go_wp2_with fail
  refine (vector_any ao cap da.length w1).mono ?_
  rintro e w2 ⟨g, rfl, ho2, hb2⟩
  have B2 := hideP (B1.out.trans (hb2.mono hs1))
  have X2 := hideP (PB.out _ B2.out)
  have OV := hideP (O1.out.keep hb2)
  have OS := hideP ho2
  have AP := hideP (apart_lo2 (u1 := .slice ao da.length cap) (da := da) ho2 O1.out.lt)
  have hs2 := hb2.size
  clear hb2 ho2
  have r0 := X2.out.2.1.1
  have r1 := X2.out.2.1.2.1
  have f2 := X2.out.2.1.2.2
  go_wp2_with fail
  refine bodyPost_ret (v := .agg #[.slice (some ⟨g, 0, none⟩) 1 1, .slice ao da.length cap]) (by simp [results, Tryz.results40, go_sem, r0, r1]) rfl ⟨(X2.out.2.2.setCell (by simp) _).setCell (by simp) _, .inl ⟨rfl, _, _, rfl, ?_, ?_, AP.out⟩⟩
  · exact Own.base (Own.store (Own.store OS.out (by omega) _) (by omega) _) (by omega)
  · exact Own.base (Own.store (Own.store OV.out (by omega) _) (by omega) _) (by omega)

end Go.Proofs.YtaopohihipihdaaGreatDoor

namespace Go.Proofs.YtaopohihipihdaaGreatDoor
open Go.RowKit
set_option linter.unusedVariables false

/-- an array in its variable -/
structure Va (b : Nat) (v0 v1 : Value) (sh da : List Int) (w : World) : Prop where
  lt : b < w.heap.size
  c0 : w.cell? ⟨b, 0, none⟩ = some v0
  c1 : w.cell? ⟨b, 1, none⟩ = some v1
  r0 : Rd w.heap.size w v0 sh
  r1 : Rd w.heap.size w v1 da
theorem Va.keep {b : Nat} {v0 v1 : Value} {sh da : List Int} {w w' : World} (h : Va b v0 v1 sh da w) (hb : Below w.heap.size w w') : Va b v0 v1 sh da w' :=
  ⟨Nat.lt_of_lt_of_le h.lt hb.size, (hb.cell (p := ⟨b, 0, none⟩) h.lt).trans h.c0, (hb.cell (p := ⟨b, 1, none⟩) h.lt).trans h.c1, (h.r0.keep hb).up hb.size, (h.r1.keep hb).up hb.size⟩

/-- an array put into a new variable -/
theorem va_new (w : World) (v0 v1 : Value) (sh da : List Int) (r0 : Rd w.heap.size w v0 sh) (r1 : Rd w.heap.size w v1 da) (W : World) (hW : W = w.alloc (.cells #[v0, v1] 25)) :
    Va w.heap.size v0 v1 sh da W ∧ Below w.heap.size w W := by
  have B : Below w.heap.size w W := by
    rw [hW]
    exact (Below.refl _ _).alloc (Nat.le_refl _) _
  refine ⟨⟨by rw [hW]; simp, by rw [hW]; simp [go_sem], by rw [hW]; simp [go_sem], (r0.keep B).up B.size, (r1.keep B).up B.size⟩, B⟩

/-- the capacity of a list of one's own -/
theorem own_cap {B : Nat} {w : World} {ao : Option Addr} {c : Nat} {zs : List Int} (h : Own B w (.slice ao zs.length c) zs) : zs.length ≤ c ∧ (0 < zs.length → c ≤ 9223372036854775807) := by
  obtain ⟨ao', cap', e, g⟩ := h
  simp only [Value.slice.injEq] at e
  obtain ⟨_, _, rfl⟩ := e
  rcases g with g | ⟨g, off, hB, _⟩
  · exact ⟨by omega, fun h => by omega⟩
  · exact ⟨hB.2.1, fun _ => hB.2.2.1⟩
theorem own_at {B : Nat} {w : World} {ao : Option Addr} {n c : Nat} {zs : List Int} (h : Own B w (.slice ao n c) zs) (hp : 0 < zs.length) : ∃ g, ao = some ⟨g, 0, none⟩ := by
  obtain ⟨ao', cap', e, g⟩ := h
  simp only [Value.slice.injEq] at e
  obtain ⟨rfl, _, _⟩ := e
  rcases g with g | ⟨g, off, hB, _, e, _⟩
  · omega
  · exact ⟨g, by rw [e, hB.2.2.2]⟩
theorem own_cap1 {B : Nat} {w : World} {ao : Option Addr} {c : Nat} {zs : List Int} (h : Own B w (.slice ao zs.length c) zs) (hp : 0 < zs.length) : zs.length ≤ c ∧ c ≤ 9223372036854775807 := ⟨(own_cap h).1, (own_cap h).2 hp⟩

/-- a list of one number, just built -/
theorem lit_rd (w : World) (x : Int) : Rd (w.alloc (.cells #[.int .i64 x] 3)).heap.size (w.alloc (.cells #[.int .i64 x] 3)) (.slice (some ⟨w.heap.size, 0, none⟩) 1 1) [x] := by
  have h := (own_lit w _ x (Below.refl _ _)).rd
  exact h

/-- spec.SameArray of equal arrays -/
theorem same_yes (v0 v1 v2 v3 : Value) (sh da : List Int) (w : World) (hl0 : sh.length ≤ 1048576) (hl1 : da.length ≤ 1048576) (h0 : Rd w.heap.size w v0 sh) (h1 : Rd w.heap.size w v1 da) (h2 : Rd w.heap.size w v2 sh) (h3 : Rd w.heap.size w v3 da) :
    Calls Tryz.prog 27 #[.agg #[v0, v1], .agg #[v2, v3]] w fun e w' => e = .returned (.bool true) ∧ Below w.heap.size w w' := by
  have B : Hid (∀ o o', Below w.heap.size w ((w.alloc o).alloc o')) := fun o o' => ((Below.refl _ _).alloc (Nat.le_refl _) _).alloc (by simp) _
  have K0 : Hid (∀ w', Below w.heap.size w w' → Calls Tryz.prog 48 #[v0, v2] w' fun e w'' => e = .returned (.bool true) ∧ Below w'.heap.size w' w'') := fun w' hb => by
    have := l2Same_any v0 v2 sh sh w' hl0 hl0 ((h0.keep hb).up hb.size) ((h2.keep hb).up hb.size)
    rw [decide_eq_true rfl] at this
    exact this
  have K1 : Hid (∀ w', Below w.heap.size w w' → Calls Tryz.prog 48 #[v1, v3] w' fun e w'' => e = .returned (.bool true) ∧ Below w'.heap.size w' w'') := fun w' hb => by
    have := l2Same_any v1 v3 da da w' hl1 hl1 ((h1.keep hb).up hb.size) ((h3.keep hb).up hb.size)
    rw [decide_eq_true rfl] at this
    exact this
  obtain ⟨a0, c0, e0⟩ := h0.form
  obtain ⟨a1, c1, e1⟩ := h1.form
  obtain ⟨a2, c2, e2⟩ := h2.form
  obtain ⟨a3, c3, e3⟩ := h3.form
  subst e0 e1 e2 e3
  clear h0 h1 h2 h3
  generalize sh.length = L0 at *
  generalize da.length = L1 at *
  go_enter Tryz.func27, Tryz.ntmps27
  go_wp2_with fail
  refine (K0.out _ (B.out _ _)).mono ?_
  rintro e w1 ⟨rfl, hb1⟩
  have hs1 := hb1.size
  simp at hs1
  obtain ⟨hc, hf⟩ := bcell hb1
  have q1 : w1.cell? ⟨w.heap.size, 1, none⟩ = some (.slice a1 L1 c1) := by rw [hc w.heap.size 1 (by simp; omega)]; simp [go_sem]
  have q3 : w1.cell? ⟨w.heap.size + 1, 1, none⟩ = some (.slice a3 L1 c3) := by rw [hc (w.heap.size + 1) 1 (by simp)]; simp [go_sem]
  have B1 := hideP ((B.out _ _).trans (hb1.mono (by simp; omega)))
  clear hb1 hc hf K0 B
  go_wp2_with fail
  refine (K1.out _ B1.out).mono ?_
  rintro e w2 ⟨rfl, hb2⟩
  have B2 := hideP (B1.out.trans (hb2.mono B1.out.size))
  clear hb2 q1 q3
  go_wp2_with fail
  go_ret
  exact ⟨rfl, B2.out⟩

end Go.Proofs.YtaopohihipihdaaGreatDoor

namespace Go.Proofs.YtaopohihipihdaaGreatDoor
open Go.RowKit
set_option linter.unusedVariables false

namespace Pl
/-- 0, 1, .. n - 1 -/
def iotaL (n : Nat) : List Int := (List.range n).map (fun (i : Nat) => (i : Int))
def iotaZ (n j : Nat) : List Int := iotaL j ++ List.replicate (n - j) 0
theorem iotaL_len (n : Nat) : (iotaL n).length = n := by simp [iotaL]
theorem iotaL_succ (n : Nat) : iotaL (n + 1) = iotaL n ++ [(n : Int)] := by simp [iotaL, List.range_succ]
theorem iotaZ_all (n : Nat) : iotaZ n n = iotaL n := by simp [iotaZ]
theorem iotaZ_zero (n : Nat) : iotaZ n 0 = List.replicate n 0 := by simp [iotaZ, iotaL]
theorem iotaZ_len (n j : Nat) (h : j ≤ n) : (iotaZ n j).length = n := by simp [iotaZ, iotaL_len]; omega
theorem iotaZ_step (n j : Nat) (h : j < n) : (iotaZ n j).set j (j : Int) = iotaZ n (j + 1) := by
  unfold iotaZ
  have e : n - j = (n - (j + 1)) + 1 := by omega
  rw [List.set_append_right j _ (by rw [iotaL_len]; exact Nat.le_refl _), iotaL_len, Nat.sub_self, e, List.replicate_succ, List.set_cons_zero, iotaL_succ]
  simp
end Pl

set_option maxRecDepth 100000 in
set_option maxHeartbeats 2000000 in
/-- impl.positions -/
theorem positions_any (n : Nat) (w : World) (hn : n ≤ 1000) :
    Calls Tryz.prog 65 #[.int .i64 (n : Int)] w fun e w' => e = .returned (.slice (some ⟨w.heap.size, 0, none⟩) n n) ∧ w'.ownsRow w.heap.size 3 1 (.slice (some ⟨w.heap.size, 0, none⟩) n n) n ((Pl.iotaL n).map (Value.int .i64)) ∧ Below w.heap.size w w' := by
  obtain ⟨i0, hi, hz0, hz1, hz2⟩ := info_parts Tryz.info3
  have HI := hideP (And.intro hi (And.intro hz0 (And.intro hz1 hz2)))
  clear hi hz0 hz1 hz2
  go_enter Tryz.func65, Tryz.ntmps65
  go_wp2_with (at_make; refine wpList_make_full _ rfl _ _ 23 rfl w.heap.size 3 i0 (.int .i64 0) 1 Tryz.underlying23 HI.out.1 HI.out.2.1 HI.out.2.2.1 _ _ _ _ n rfl rfl rfl rfl ?b2 ?b3 ?b4 ?_)
  case b2 => rw [HI.out.2.2.2]; omega
  case b3 => unfold maxLen; omega
  case b4 => exact Nat.le_refl _
  intro w1 hown hgrow
  rw [made_zeros] at hown
  have B1 : Hid (Below w.heap.size w w1) := (Below.refl _ _).grown hgrow (Nat.le_refl _) (by intro k h; cases h)
  have O1 : Hid (w1.ownsRow w.heap.size 3 1 (.slice (some ⟨w.heap.size, 0, none⟩) n n) n ((Pl.iotaZ n 0).map (Value.int .i64))) := by
    show World.ownsRow _ _ _ _ _ _ _
    rw [Pl.iotaZ_zero]
    simpa using hown
  clear hown hgrow
  go_wp2_with fail
  go_loopw [4, 9] (fun _ i wr => ∃ j : Nat, j ≤ n ∧ i = .int .i64 j ∧ Hid (wr.ownsRow w.heap.size 3 1 (.slice (some ⟨w.heap.size, 0, none⟩) n n) n ((Pl.iotaZ n j).map (Value.int .i64))) ∧ Hid (Below w.heap.size w wr)) (fun _ i _ => n - (intOf i).toNat)
  case atStart => exact ⟨0, Nat.zero_le _, rfl, O1, B1⟩
  case round =>
    obtain ⟨j, hj, rfl, ho, hB⟩ := hrel
    by_cases hlt : j < n
    · have hlt' : (j : Int) < (n : Int) := by omega
      have hfz : wr.frozen? ⟨w.heap.size, j, none⟩ = false := ho.out.frozenAt j
      have hcg : ∃ u, wr.cell? ⟨w.heap.size, j, none⟩ = some (.int .i64 u) := by
        rw [ho.out.cellAt j (by omega)]
        have hlen : j < (Pl.iotaZ n j).length := by rw [Pl.iotaZ_len n j hj]; exact hlt
        exact ⟨(Pl.iotaZ n j)[j], by simp [hlen]⟩
      obtain ⟨u, hcg⟩ := hcg
      have R : Hid ((wr.setCell ⟨w.heap.size, j, none⟩ (.int .i64 (j : Int))).ownsRow w.heap.size 3 1 (.slice (some ⟨w.heap.size, 0, none⟩) n n) n ((Pl.iotaZ n (j + 1)).map (Value.int .i64))) := by
        show World.ownsRow _ _ _ _ _ _ _
        rw [← Pl.iotaZ_step n j hlt, List.map_set]
        exact (ho.out.stored j (.int .i64 (j : Int))).1
      have S : Hid (Below w.heap.size w (wr.setCell ⟨w.heap.size, j, none⟩ (.int .i64 (j : Int)))) := hB.out.setCell (by simp) _
      go_wp2_with fail
      go_roundw
      case rel => exact ⟨j + 1, by omega, by go_num, R, S⟩
      case measure => simp [intOf]; omega
    · have jn : j = n := by omega
      subst jn
      have OF := ho.out
      rw [Pl.iotaZ_all] at OF
      have HOF := hideP OF
      clear OF
      go_wp2_with fail
      go_ret
      exact ⟨rfl, HOF.out, hB.out⟩

end Go.Proofs.YtaopohihipihdaaGreatDoor
