import Derived.Test.YtljkolffjjhgeaaGreatDoorXr
namespace Go.Proofs.YtljkolffjjhgeaaGreatDoor
open Go.RowKit
set_option linter.unusedVariables false
set_option maxRecDepth 100000
theorem Tryz.inf3 : (Tryz.prog.info? 3).map (fun i => (i.zero, i.size, i.bytes)) = some (some (.int .i64 0), 1, 8) := by kernel_rfl
def QI (P : Nat → Prop) (w : World) (b o : Nat) (x : Int) : Prop := w.cell? ⟨b, o, none⟩ = some (.int .i64 x)
theorem mI : Moves QI 1 := ⟨fun h _ hc => (hc 0 (by omega)).trans h⟩
set_option maxHeartbeats 4000000 in
/-- laws.toIntS -/
theorem toIntS_any (l : List Int) (ao : Option Addr) (cap : Nat) (w : World) (hl : l.length ≤ 1048576) (hR : RdI w.heap.size w ao l) :
    Calls Tryz.prog 56 #[.slice ao l.length cap] w fun e w' => e = .returned (.slice (some ⟨w.heap.size, 0, none⟩) l.length l.length) ∧ XI (Fr w.heap.size w') w' (some ⟨w.heap.size, 0, none⟩) l ∧ Below w.heap.size w w' ∧ w.heap.size < w'.heap.size := by
  obtain ⟨i0, hi, hz0, hz1, hz2⟩ := info_parts Tryz.inf3
  have HG : Hid (∀ k, k < l.length → ∃ x b off, l[k]? = some x ∧ ao = some ⟨b, off, none⟩ ∧ b < w.heap.size ∧ ∀ w', Below w.heap.size w w' → w'.cell? ⟨b, off + k, none⟩ = some (.int .i64 x)) := fun k hk => by
    rcases hR with rfl | ⟨b, off, hb, rfl, hc⟩
    · cases hk
    · exact ⟨l[k], b, off, List.getElem?_eq_getElem hk, rfl, hb, fun w' hw => (hw.cell (p := ⟨b, off + k, none⟩) hb).trans (hc k l[k] (List.getElem?_eq_getElem hk))⟩
  clear hR
  generalize hn : l.length = n at *
  have Hn : Hid (l.length = n) := hn
  clear hn
  go_enter Tryz.func56, Tryz.ntmps56
  go_wp2_with (at_make; refine wpList_make_full _ rfl _ _ 67 rfl w.heap.size 3 i0 (.int .i64 0) 1 Tryz.underlying67 hi hz0 hz1 _ _ _ _ n rfl rfl rfl rfl ?b2 ?b3 ?b4 ?_)
  case b2 => rw [hz2]; omega
  case b3 => unfold maxLen; omega
  case b4 => exact Nat.le_refl _
  intro w1 hown hgrow
  have I0 : Hid (Inv QI 1 w l n 0 w1) := Inv.made hown (by simp [size_madeCells]) ((Below.refl _ _).grown hgrow (Nat.le_refl _) (by intro k h; cases h))
  clear hgrow hi hz0 hz1 hz2 hown
  go_wp2
  go_loopw [4] (fun i wr => ∃ k : Nat, k ≤ n ∧ i = .int .i64 k ∧ Hid (Inv QI 1 w l n k wr)) (fun i _ => n - (intOf i).toNat)
  case atStart => exact ⟨0, Nat.zero_le _, rfl, I0⟩
  case round =>
    clear I0
    obtain ⟨k, hk, rfl, hI⟩ := hrel
    by_cases hlt : k < n
    · obtain ⟨x, b, off, hs, rfl, hb, hst⟩ := HG.out k hlt
      have c0 := hst _ hI.out.bel
      have f0 := hI.out.fz k
      obtain ⟨v0, g0⟩ := hI.out.cl k (by omega)
      have R : Hid (Inv QI 1 w l n (k + 1) (wr.setCell ⟨w.heap.size, k, none⟩ (.int .i64 x))) := by
        have := hI.out.put mI [.int .i64 x] rfl hlt hs (fun w3 hc hm => hc 0 (by simp))
        rw [Nat.mul_one] at this
        exact this
      clear hst hs HG hI
      go_wp2
      go_roundw
      case rel => exact ⟨k + 1, by omega, by go_num, R⟩
      case measure => simp [intOf]; omega
    · have R : Hid (XI (Fr w.heap.size wr) wr (some ⟨w.heap.size, 0, none⟩) l ∧ Below w.heap.size w wr ∧ w.heap.size < wr.heap.size) := by
        refine ⟨?_, hI.out.bel, hI.out.lt⟩
        rcases hI.out.done mI (by rw [Hn.out]; omega) with h | ⟨b, off, hB, e, hc⟩
        · exact .inl h
        · exact .inr ⟨b, off, hB, e, fun i x hi => by have := hc i x hi; rw [Nat.mul_one] at this; exact this⟩
      clear hI HG
      go_wp2
      go_ret
      exact ⟨rfl, R.out⟩
theorem below3 (w : World) (o1 o2 o3 : Obj) : Below w.heap.size w (((w.alloc o1).alloc o2).alloc o3) :=
  (((Below.refl _ _).alloc (Nat.le_refl _) _).alloc (by simp) _).alloc (by simp; omega) _
set_option maxHeartbeats 4000000 in
/-- laws.toFn -/
theorem toFn_any (k a b : Int) (nm : ByteArray) (w : World) :
    Calls Tryz.prog 57 #[.agg #[.int .i64 k, .int .i64 a, .int .i64 b, .string nm]] w fun e w' => e = .returned (.agg #[.int .i64 k, .int .i64 a, .int .i64 b, .string nm]) ∧ Below w.heap.size w w' := by
  have HB := hideP (below3 w)
  go_enter Tryz.func57, Tryz.ntmps57
  go_wp2
  refine bodyPost_ret (v := .agg #[.int .i64 k, .int .i64 a, .int .i64 b, .string nm]) (by simp [results, Tryz.results57, go_sem]) rfl ⟨rfl, ?_⟩
  repeat (refine Below.setCell ?_ (by simp) _)
  exact HB.out _ _ _
end Go.Proofs.YtljkolffjjhgeaaGreatDoor
