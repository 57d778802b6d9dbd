import Derived.Test.YtbmkbplgncoapaaDoorOw
import Derived.Test.YtbmkbplgncoapaaDoorVd
import Derived.Lib.QuietBelow
namespace Go.Proofs.YtbmkbplgncoapaaDoor
open Go.RowKit Go.Sort
set_option linter.unusedVariables false

namespace Pl
/-- an outcome -/
structure Ot where
  k : Int
  c : Int
  sh : List Int
  da : List Int
  fu : Int
  ce : Int
/-- its rows are short -/
def Ot.bd (o : Ot) : Prop := o.sh.length ≤ 1048576 ∧ o.da.length ≤ 1048576
theorem mem_take_succ {os : List Ot} {k : Nat} {o x : Ot} (h : os[k]? = some o) (hx : x ∈ os.take (k + 1)) : x ∈ os.take k ∨ x = o := by
  rw [List.take_add_one, h] at hx
  simpa using hx
end Pl

/-- an outcome that is read: its six cells from p on in block b -/
structure OtAt (B : Nat) (w : World) (b p : Nat) (o : Pl.Ot) (v0 v1 : Value) : Prop where
  c0 : w.cell? ⟨b, p, none⟩ = some (.int .i64 o.k)
  c1 : w.cell? ⟨b, p + 1, none⟩ = some (.int .i64 o.c)
  c2 : w.cell? ⟨b, p + 2, none⟩ = some v0
  c3 : w.cell? ⟨b, p + 3, none⟩ = some v1
  c4 : w.cell? ⟨b, p + 4, none⟩ = some (.int .i64 o.fu)
  c5 : w.cell? ⟨b, p + 5, none⟩ = some (.int .i64 o.ce)
  r0 : Rd B w v0 o.sh
  r1 : Rd B w v1 o.da
theorem OtAt.keep {B b p : Nat} {w w' : World} {o : Pl.Ot} {v0 v1 : Value} (h : OtAt B w b p o v0 v1) (hb : Below B w w') (hB : b < B) : OtAt B w' b p o v0 v1 :=
  ⟨(hb.cell (p := ⟨b, p, none⟩) hB).trans h.c0, (hb.cell (p := ⟨b, p + 1, none⟩) hB).trans h.c1, (hb.cell (p := ⟨b, p + 2, none⟩) hB).trans h.c2, (hb.cell (p := ⟨b, p + 3, none⟩) hB).trans h.c3, (hb.cell (p := ⟨b, p + 4, none⟩) hB).trans h.c4, (hb.cell (p := ⟨b, p + 5, none⟩) hB).trans h.c5, h.r0.keep hb, h.r1.keep hb⟩
theorem OtAt.up {B B' b p : Nat} {w : World} {o : Pl.Ot} {v0 v1 : Value} (h : OtAt B w b p o v0 v1) (hb : B ≤ B') : OtAt B' w b p o v0 v1 :=
  ⟨h.c0, h.c1, h.c2, h.c3, h.c4, h.c5, h.r0.up hb, h.r1.up hb⟩

/-- In the world w the slice v reads as the outcomes os, in blocks below B. -/
def RdO (B : Nat) (w : World) (v : Value) (os : List Pl.Ot) : Prop :=
  ∃ ao cap, v = .slice ao os.length cap ∧ (os.length = 0 ∨ ∃ b off, b < B ∧ ao = some ⟨b, off, none⟩ ∧ ∀ i o, os[i]? = some o → ∃ v0 v1, OtAt B w b (off + i * 6) o v0 v1)
theorem RdO.keep {B : Nat} {w w' : World} {v : Value} {os : List Pl.Ot} (h : RdO B w v os) (hb : Below B w w') : RdO B w' v os := by
  obtain ⟨ao, cap, rfl, h⟩ := h
  refine ⟨ao, cap, rfl, ?_⟩
  rcases h with h | ⟨b, off, hB, rfl, hc⟩
  · exact .inl h
  · refine .inr ⟨b, off, hB, rfl, fun i o ho => ?_⟩
    obtain ⟨v0, v1, h1⟩ := hc i o ho
    exact ⟨v0, v1, h1.keep hb hB⟩
theorem RdO.up {B B' : Nat} {w : World} {v : Value} {os : List Pl.Ot} (h : RdO B w v os) (hb : B ≤ B') : RdO B' w v os := by
  obtain ⟨ao, cap, rfl, h⟩ := h
  refine ⟨ao, cap, rfl, ?_⟩
  rcases h with h | ⟨b, off, hB, rfl, hc⟩
  · exact .inl h
  · refine .inr ⟨b, off, by omega, rfl, fun i o ho => ?_⟩
    obtain ⟨v0, v1, h1⟩ := hc i o ho
    exact ⟨v0, v1, h1.up hb⟩

/-- laws.szOutcome -/
theorem szOutcome_any (k c fu ce : Int) (v0 v1 : Value) (sh da : List Int) (w w0 : World) (B : Nat) (m0 : sh.length ≤ 9223372036854775807) (m1 : da.length ≤ 9223372036854775807) (h0 : Rd B w0 v0 sh) (h1 : Rd B w0 v1 da) (l : Int) (hl0 : 0 ≤ l) (hl1 : l ≤ 1048576) :
    Calls Tryd.prog 73 #[.agg #[.int .i64 k, .int .i64 c, v0, v1, .int .i64 fu, .int .i64 ce], .int .i64 l] w fun e w' => ∃ r : Int, e = .returned (.int .i64 r) ∧ r ≤ 1048576 ∧ ((r = -1 ∧ l < sh.length + da.length) ∨ (r = l - sh.length - da.length ∧ 0 ≤ r)) ∧ Below w.heap.size w w' := by
  have KZ := hideP (fun W => szArray_rd v0 v1 sh da W w0 B m0 m1 h0 h1 l hl0 hl1)
  have A : Hid (∀ o, Below w.heap.size w (w.alloc o)) := fun o => (Below.refl _ _).alloc (Nat.le_refl _) _
  clear h0 h1
  go_enter Tryd.func73, Tryd.ntmps73
  go_wp2_with fail
  refine (KZ.out _).mono ?_
  rintro e w1 ⟨r, rfl, hr1, hr, hb1⟩
  have B1 := hideP ((A.out _).trans (hb1.mono (A.out _).size))
  have HR := hideP hr
  have hr0 : r = -1 ∨ 0 ≤ r := by omega
  clear hb1 KZ hr
  by_cases hneg : r < 0
  · go_wp2_with fail
    go_ret
    exact ⟨_, rfl, by omega, by have := HR.out; omega, B1.out⟩
  · go_wp2_with fail
    go_ret
    exact ⟨_, rfl, hr1, HR.out, B1.out⟩

set_option maxRecDepth 100000 in
set_option maxHeartbeats 1000000 in
theorem szOutcomeS_core (b off cap : Nat) (os : List Pl.Ot) (w : World) (hm : os.length ≤ 9223372036854775807) (hms : ∀ o ∈ os, o.sh.length ≤ 9223372036854775807 ∧ o.da.length ≤ 9223372036854775807) (hb : b < w.heap.size)
    (hc : ∀ i o, os[i]? = some o → ∃ v0 v1, OtAt w.heap.size w b (off + i * 6) o v0 v1) :
    Calls Tryd.prog 28 #[.slice (some ⟨b, off, none⟩) os.length cap, .int .i64 1048576] w fun e w' => ∃ r : Int, e = .returned (.int .i64 r) ∧ r ≤ 1048576 ∧ (r < 0 ∨ (os.length ≤ 1048576 ∧ ∀ o ∈ os, o.bd)) ∧ Below w.heap.size w w' := by
  have HC := hideP hc
  have HM := hideP hms
  have BR := hideP (Below.refl w.heap.size w)
  clear hc hms
  obtain ⟨n, hn⟩ : ∃ n, os.length = n := ⟨_, rfl⟩
  have Hn := hideP hn
  rw [hn] at hm ⊢
  clear hn
  by_cases g : (1048576 : Int) - (n : Int) < 0
  · go_enter Tryd.func28, Tryd.ntmps28
    go_wp2_with fail
    go_ret
    exact ⟨_, rfl, by omega, .inl (by omega), BR.out⟩
  · have hn1 : n ≤ 1048576 := by omega
    go_enter Tryd.func28, Tryd.ntmps28
    go_wp2_with fail
    go_loopw [1, 5] (fun r i wr => ∃ (k : Nat) (q : Int), k ≤ n ∧ i = .int .i64 (k : Int) ∧ r = .int .i64 q ∧ 0 ≤ q ∧ q ≤ 1048576 ∧ Hid (∀ o ∈ os.take k, o.bd) ∧ Hid (Below w.heap.size w wr)) (fun _ i _ => n - (intOf i).toNat)
    case atStart => exact ⟨0, _, Nat.zero_le _, rfl, rfl, by omega, by omega, by intro o ho; simp at ho, BR⟩
    case round =>
      obtain ⟨k, q, hk, rfl, rfl, hq0, hq1, hall, BB⟩ := hrel
      by_cases hlt : k < n
      · have hlt' : (k : Int) < (n : Int) := by omega
        obtain ⟨o, ho⟩ : ∃ o, os[k]? = some o := ⟨_, List.getElem?_eq_getElem (by rw [Hn.out]; exact hlt)⟩
        obtain ⟨v0, v1, hat⟩ := HC.out k o ho
        have HO := hideP ho
        have hat' := hat.keep BB.out hb
        obtain ⟨c0, c1, c2, c3, c4, c5, r0, r1⟩ := hat'
        have hmo := HM.out o (List.mem_of_getElem? ho)
        have KZ := hideP (fun W => szOutcome_any o.k o.c o.fu o.ce v0 v1 o.sh o.da W wr w.heap.size hmo.1 hmo.2 r0 r1 q hq0 hq1)
        clear hat ho r0 r1 hmo
        go_wp2_with fail
        refine (KZ.out _).mono ?_
        rintro e w1 ⟨r, rfl, hr1, hr, hb1⟩
        have B1 := hideP (BB.out.trans (hb1.mono BB.out.size))
        have HR := hideP hr
        have hr0 : r = -1 ∨ 0 ≤ r := by omega
        clear hb1 KZ hr c0 c1 c2 c3 c4 c5
        by_cases hneg : r < 0
        · go_wp2_with fail
          go_ret
          exact ⟨_, rfl, by omega, .inl (by omega), B1.out⟩
        · have HA : Hid (∀ x ∈ os.take (k + 1), x.bd) := by
            intro x hx
            rcases Pl.mem_take_succ HO.out hx with hx | rfl
            · exact hall.out x hx
            · have := HR.out
              exact ⟨by omega, by omega⟩
          go_wp2_with fail
          go_roundw
          case rel => exact ⟨k + 1, r, by omega, by go_num, rfl, by omega, by omega, HA, B1⟩
          case measure => simp [intOf]; omega
      · have hlt' : ¬ (k : Int) < (n : Int) := by omega
        have HA : Hid (∀ x ∈ os, x.bd) := by
          have := hall.out
          rw [List.take_of_length_le (by rw [Hn.out]; omega)] at this
          exact this
        go_wp2_with fail
        go_ret
        exact ⟨_, rfl, hq1, .inr HA.out, BB.out⟩

theorem szOutcomeS_nil (ao : Option Addr) (cap : Nat) (w : World) :
    Calls Tryd.prog 28 #[.slice ao 0 cap, .int .i64 1048576] w fun e w' => e = .returned (.int .i64 1048576) ∧ w' = w := by
  go_enter Tryd.func28, Tryd.ntmps28
  go_wp2_with fail
  go_loop [1, 5] (fun r i => r = .int .i64 1048576 ∧ i = .int .i64 0) (fun _ _ => 0)
  case atStart => exact ⟨rfl, rfl⟩
  case round =>
    obtain ⟨rfl, rfl⟩ := hrel
    go_wp2_with fail
    go_ret
    exact ⟨rfl, rfl⟩

/-- laws.szOutcomeS -/
theorem szOutcomeS_any (v : Value) (os : List Pl.Ot) (w : World) (hm : os.length ≤ 9223372036854775807) (hms : ∀ o ∈ os, o.sh.length ≤ 9223372036854775807 ∧ o.da.length ≤ 9223372036854775807) (h : RdO w.heap.size w v os) :
    Calls Tryd.prog 28 #[v, .int .i64 1048576] w fun e w' => ∃ r : Int, e = .returned (.int .i64 r) ∧ r ≤ 1048576 ∧ (r < 0 ∨ (os.length ≤ 1048576 ∧ ∀ o ∈ os, o.bd)) ∧ Below w.heap.size w w' := by
  obtain ⟨ao, cap, rfl, h⟩ := h
  by_cases h0 : os.length = 0
  · obtain rfl := List.length_eq_zero_iff.1 h0
    refine (szOutcomeS_nil ao cap w).mono ?_
    rintro e w' ⟨rfl, rfl⟩
    exact ⟨_, rfl, by omega, .inr ⟨by simp, by simp⟩, Below.refl _ _⟩
  · rcases h with h | ⟨b, off, hB, rfl, hc⟩
    · exact absurd h h0
    · exact szOutcomeS_core b off cap os w hm hms hB hc

end Go.Proofs.YtbmkbplgncoapaaDoor
