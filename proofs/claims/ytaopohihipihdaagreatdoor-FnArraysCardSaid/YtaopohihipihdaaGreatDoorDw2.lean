import Derived.Test.YtaopohihipihdaaGreatDoorDw1
import Derived.Test.YtaopohihipihdaaGreatDoorFirst2
import Derived.Deep.CutRange
namespace Go.Proofs.YtaopohihipihdaaGreatDoor
open Go.RowKit
set_option linter.unusedVariables false

theorem own_blk_ne {w : World} {B n z P : Nat} {v : Value} {e t : TypeId} {xs : List Value} {c : Array Value} (h : w.ownsRow B e z v n xs) (hP : w.heap[P]? = some (.cells c t (0, 0))) (ht : ¬ t = e) : ¬ v.ownBlock = some P := by
  intro hv
  rcases h.2 with ⟨rfl, _⟩ | ⟨g, cap, cur, rfl, _, hg, _⟩
  · simp [Value.ownBlock] at hv
  · simp [Value.ownBlock] at hv
    subst hv
    rw [hg] at hP
    injection hP with hP
    injection hP with _ h2
    exact ht h2.symm
theorem Rdr.blk {B P : Nat} {w : World} (h : Rdr B P w) : ∃ c, w.heap[P]? = some (.cells c 58 (0, 0)) := by
  obtain ⟨_, ao, n, cap, pos, _, _, hk, _⟩ := h
  exact ⟨_, hk⟩

theorem grown_trans {a b c : World} {P : Nat} {r : Option Nat} (h : a.grownBy b (some P)) (k : b.grownBy c r) (hr : ∀ i, r = some i → i = P ∨ a.heap.size ≤ i) : a.grownBy c (some P) :=
  ⟨k.os.trans h.os, k.tape.trans h.tape, k.output.trans h.output, Nat.le_trans h.size k.size, fun i hi hne => (k.block i (Nat.lt_of_lt_of_le hi h.size) (fun e => by
    rcases hr i e.symm with h1 | h1
    · exact hne (by rw [h1])
    · omega)).trans (h.block i hi hne)⟩
theorem grown_of_b {a b : World} (h : Below a.heap.size a b) (r : Option Nat) : a.grownBy b r := ⟨h.os, h.tape, h.output, h.size, fun i hi _ => h.block i hi⟩

/-- numbers under way, and the reader -/
structure NsSt (B P : Nat) (w0 : World) (v : Value) (zs : List Int) (w : World) : Prop where
  o : w.ownsRow w0.heap.size 3 1 v zs.length (zs.map (Value.int .i64))
  k : ∃ g, v.ownBlock = some g
  r : Rdr B P w
  b : Below B w0 w
  s : w0.heap.size ≤ w.heap.size
  g : w0.grownBy w (some P)
  u : B ≤ w0.heap.size
theorem NsSt.keep {B P : Nat} {w0 w w' : World} {v : Value} {zs : List Int} (h : NsSt B P w0 v zs w) (hb : Below w.heap.size w w') : NsSt B P w0 v zs w' :=
  ⟨owns_keep h.o hb, h.k, h.r.keep hb, h.b.trans (hb.mono (Nat.le_trans h.u h.s)), Nat.le_trans h.s hb.size, grown_trans h.g (grown_of_b hb none) (fun i e => by cases e), h.u⟩
theorem NsSt.next {B P : Nat} {w0 w w' : World} {v : Value} {zs : List Int} (h : NsSt B P w0 v zs w) (hg : w.grownBy w' (some P)) (hr : Rdr B P w') : NsSt B P w0 v zs w' := by
  obtain ⟨c, hc⟩ := h.r.blk
  exact ⟨h.o.kept hg (.inr (own_blk_ne h.o hc (by decide))), h.k, hr, h.b.trans (grown_below hg h.r.1 (Nat.le_trans h.u h.s)), Nat.le_trans h.s hg.size, grown_trans h.g hg (fun i e => .inl (by injection e with e; exact e.symm)), h.u⟩
theorem NsSt.app {B P : Nat} {w0 w w' : World} {v v' : Value} {zs : List Int} {x : Int} (h : NsSt B P w0 v zs w) (hg : w.grownBy w' v.ownBlock) (ho : w'.ownsRow w0.heap.size 3 1 v' (zs.length + 1) (zs.map (Value.int .i64) ++ [.int .i64 x]))
    {m : Nat} (hat : v'.ownBlock = v.ownBlock ∨ v'.ownBlock = some m) : NsSt B P w0 v' (zs ++ [x]) w' := by
  obtain ⟨c, hc⟩ := h.r.blk
  refine ⟨by rw [List.length_append, List.map_append]; exact ho, ?_, h.r.kept hg (fun k hk => ⟨Nat.le_trans h.u (h.o.lt k hk).1, fun e => own_blk_ne h.o hc (by decide) (by rw [hk, e])⟩), h.b.grown hg (Nat.le_trans h.u h.s) (fun k hk => Nat.le_trans h.u (h.o.lt k hk).1), Nat.le_trans h.s hg.size, grown_trans h.g hg (fun i e => .inr (h.o.lt i e).1), h.u⟩
  rcases hat with e | e
  · rw [e]; exact h.k
  · exact ⟨_, e⟩
theorem NsSt.new {B P : Nat} {w0 w : World} (hr : Rdr B P w) (hb : Below B w0 w) (hs : w0.heap.size ≤ w.heap.size) (hg : w0.grownBy w (some P)) (hu : B ≤ w0.heap.size) : NsSt B P w0 (.slice (some ⟨w.heap.size, 0, none⟩) 0 0) [] (w.alloc (.cells #[] 3)) :=
  ⟨World.ownsRow_lit w #[] 0 hs (by unfold maxLen; omega) rfl, ⟨_, rfl⟩, hr.keep ((Below.refl _ _).alloc (Nat.le_refl _) _), hb.alloc (Nat.le_trans hu hs) _, by simp; omega, grown_trans hg (grown_of_b ((Below.refl _ _).alloc (Nat.le_refl _) _) none) (fun i e => by cases e), hu⟩
theorem NsSt.one {B P : Nat} {w0 w : World} (x : Int) (hr : Rdr B P w) (hb : Below B w0 w) (hs : w0.heap.size ≤ w.heap.size) (hg : w0.grownBy w (some P)) (hu : B ≤ w0.heap.size) : NsSt B P w0 (.slice (some ⟨w.heap.size, 0, none⟩) 1 1) [x] (w.alloc (.cells #[.int .i64 x] 3)) :=
  ⟨owns_one w x w0.heap.size hs, ⟨_, rfl⟩, hr.keep ((Below.refl _ _).alloc (Nat.le_refl _) _), hb.alloc (Nat.le_trans hu hs) _, by simp; omega, grown_trans hg (grown_of_b ((Below.refl _ _).alloc (Nat.le_refl _) _) none) (fun i e => by cases e), hu⟩
theorem NsSt.form {B P : Nat} {w0 w : World} {v : Value} {zs : List Int} (h : NsSt B P w0 v zs w) : ∃ g cap, v = .slice (some ⟨g, 0, none⟩) zs.length cap ∧ zs.length ≤ cap ∧ cap ≤ 9223372036854775807 := owns_some h.o h.k

/-- what l1Shape leaves -/
def ShPost (B P : Nat) (w : World) (e : Ending) (w' : World) : Prop := ∃ (v : Value) (zs : List Int), e = .returned v ∧ Pl.fitsB zs = true ∧ NsSt B P w v zs w'
theorem ShPost.mk {B P : Nat} {w w' : World} {v : Value} {zs : List Int} (hf : Pl.fitsB zs = true) (h : NsSt B P w v zs w') : ShPost B P w (.returned v) w' := ⟨v, zs, rfl, hf, h⟩

theorem Pl.fits_small (zs : List Int) (hl : zs.length ≤ 3) (h : ∀ z ∈ zs, 0 ≤ z ∧ z ≤ 4) : Pl.fitsB zs = true := by
  have five : ∀ z : Int, 0 ≤ z ∧ z ≤ 4 → z = 0 ∨ z = 1 ∨ z = 2 ∨ z = 3 ∨ z = 4 := fun z _ => by omega
  match zs, hl, h with
  | [], _, _ => decide
  | [a], _, h =>
    rcases five a (h a (by simp)) with rfl | rfl | rfl | rfl | rfl <;> decide
  | [a, b], _, h =>
    rcases five a (h a (by simp)) with rfl | rfl | rfl | rfl | rfl <;> rcases five b (h b (by simp)) with rfl | rfl | rfl | rfl | rfl <;> decide
  | [a, b, c], _, h =>
    rcases five a (h a (by simp)) with rfl | rfl | rfl | rfl | rfl <;> rcases five b (h b (by simp)) with rfl | rfl | rfl | rfl | rfl <;> rcases five c (h c (by simp)) with rfl | rfl | rfl | rfl | rfl <;> decide
  | a :: b :: c :: d :: t, hl, _ => simp at hl

theorem six_cell (r : Nat) (hr : r ≤ 5) : ∃ z : Nat, z ≤ 3 ∧ ∀ w : World, (w.alloc (.cells #[.int .i64 0, .int .i64 1, .int .i64 1, .int .i64 2, .int .i64 2, .int .i64 3] 3)).cell? ⟨w.heap.size, r, none⟩ = some (.int .i64 (z : Int)) := by
  match r, hr with
  | 0, _ => exact ⟨0, by decide, fun w => by simp [go_sem]⟩
  | 1, _ => exact ⟨1, by decide, fun w => by simp [go_sem]⟩
  | 2, _ => exact ⟨1, by decide, fun w => by simp [go_sem]⟩
  | 3, _ => exact ⟨2, by decide, fun w => by simp [go_sem]⟩
  | 4, _ => exact ⟨2, by decide, fun w => by simp [go_sem]⟩
  | 5, _ => exact ⟨3, by decide, fun w => by simp [go_sem]⟩

theorem rd_lit1 (w : World) (x : Int) (B : Nat) (hB : w.heap.size < B) : Rd B (w.alloc (.cells #[.int .i64 x] 3)) (.slice (some ⟨w.heap.size, 0, none⟩) 1 1) [x] :=
  ⟨_, _, rfl, .inr ⟨w.heap.size, 0, hB, rfl, fun i hi => by
    have : i = 0 := by simpa using hi
    subst this
    simp [go_sem]⟩⟩

set_option maxRecDepth 100000 in
set_option maxHeartbeats 4000000 in
/-- spec.l1Shape -/
theorem l1Shape_any (B P : Nat) (w : World) (hBw : B ≤ w.heap.size) (h : Rdr B P w) : Calls Tryz.prog 58 #[.pointer (some ⟨P, 0, none⟩)] w (ShPost B P w) := by
  have KN := hideP (next_any B P w h)
  have hB := h.1
  clear h
  go_enter Tryz.func58, Tryz.ntmps58
  go_wp2_with fail
  refine KN.out.mono ?_
  rintro e w1 ⟨x, rfl, hx, hr, hg⟩
  have S1 := hideP (NsSt.new hr (grown_below hg hB hBw) hg.size hg hBw)
  clear hr hg KN
  obtain ⟨r6, hr6⟩ : ∃ r6 : Nat, (x : Int) % 6 = (r6 : Int) := ⟨x % 6, by omega⟩
  have hr5 : r6 ≤ 5 := by omega
  have hr5' : (r6 : Int) < 6 := by omega
  obtain ⟨q, hq3, cq⟩ := six_cell r6 hr5
  have CQ := hideP cq
  clear cq
  go_wp2_with fail
  generalize (w1.alloc (.cells #[] 3)) = wa at *
  generalize w1.heap.size = N0 at *
  go_loopw [4, 5] (fun ov i wr => ∃ (j : Nat) (zs : List Int), j ≤ q ∧ i = .int .i64 (j : Int) ∧ Hid (zs.length = j) ∧ Hid (∀ z ∈ zs, 0 ≤ z ∧ z ≤ 4) ∧ Hid (NsSt B P w ov zs wr)) (fun _ i _ => q - (intOf i).toNat)
  case atStart => exact ⟨0, [], Nat.zero_le _, rfl, (show ([] : List Int).length = 0 from rfl), by intro z hz; simp at hz, S1⟩
  case round =>
    obtain ⟨j, zs, hj, rfl, hzl, hz4, ST⟩ := hrel
    clear S1
    obtain ⟨g, cap, eo, hc1, hc2⟩ := ST.out.form
    subst eo
    have cq := CQ.out wr
    by_cases hlt : j < q
    · have hlt' : (j : Int) < (q : Int) := by omega
      obtain ⟨tz, htz⟩ : ∃ tz, ((x : Int) / 6 + (j : Int) * 2) % 5 = tz := ⟨_, rfl⟩
      have htz4 : 0 ≤ tz ∧ tz ≤ 4 := by omega
      have HZ : Hid (∀ z ∈ zs ++ [tz], 0 ≤ z ∧ z ≤ 4) := by
        intro z hz
        simp at hz
        rcases hz with hz | rfl
        · exact hz4.out z hz
        · exact htz4
      have HL : Hid ((zs ++ [tz]).length = j + 1) := by show _ = _; rw [List.length_append, hzl.out]; rfl
      have S2 : Hid (NsSt B P w (.slice (some ⟨g, 0, none⟩) zs.length cap) zs (wr.alloc (.cells #[.int .i64 0, .int .i64 1, .int .i64 1, .int .i64 2, .int .i64 2, .int .i64 3] 3))) := ST.out.keep ((Below.refl _ _).alloc (Nat.le_refl _) _)
      go_upto_region 6 with fail
      clear cq ST
      generalize (wr.alloc (.cells #[.int .i64 0, .int .i64 1, .int .i64 1, .int .i64 2, .int .i64 2, .int .i64 3] 3)) = w2 at *
      have S5 : Hid (NsSt B P w (.slice (some ⟨g, 0, none⟩) zs.length cap) zs (w2.alloc (.cells #[.int .i64 tz] 3))) := S2.out.keep ((Below.refl _ _).alloc (Nat.le_refl _) _)
      have RO : Hid (Rd (w2.heap.size + 1) (w2.alloc (.cells #[.int .i64 tz] 3)) (.slice (some ⟨w2.heap.size, 0, none⟩) 1 1) [tz]) := rd_lit1 w2 tz _ (by omega)
      go_wp2_with (at_builtin; refine wpList_append_rd_at (base := w.heap.size) _ rfl (.tmp 18) (.tmp 25) rfl (.slice (some ⟨g, 0, none⟩) zs.length cap) (.slice (some ⟨w2.heap.size, 0, none⟩) 1 1) rfl rfl zs.length zs [tz] S5.out.o RO.out (by have := hzl.out; simp; omega) S5.out.s ?_)
      intro v' w6 ho hg hat
      have S6 := hideP (S5.out.app hg ho hat)
      clear ho hg hat S5 S2 RO
      go_wp2_with fail
      go_roundw
      case rel => exact ⟨j + 1, _, by omega, by go_num, HL.out, HZ, S6⟩
      case measure => simp [intOf]; omega
    · have hlt' : ¬ (j : Int) < (q : Int) := by omega
      have S2 : Hid (NsSt B P w (.slice (some ⟨g, 0, none⟩) zs.length cap) zs (wr.alloc (.cells #[.int .i64 0, .int .i64 1, .int .i64 1, .int .i64 2, .int .i64 2, .int .i64 3] 3))) := ST.out.keep ((Below.refl _ _).alloc (Nat.le_refl _) _)
      go_upto_region 7 with fail
      clear cq ST
      generalize (wr.alloc (.cells #[.int .i64 0, .int .i64 1, .int .i64 1, .int .i64 2, .int .i64 2, .int .i64 3] 3)) = w2 at *
      by_cases h248 : 248 ≤ x
      · have h248' : (248 : Int) ≤ (x : Int) := by omega
        by_cases h2 : x % 2 = 0
        · have e2 : (x : Int) % 2 = 0 := by omega
          have O1 := hideP (NsSt.one 1000 S2.out.r S2.out.b S2.out.s S2.out.g S2.out.u)
          clear S2
          go_wp2_with fail
          go_ret
          exact ShPost.mk (by decide) O1.out
        · have e2 : (x : Int) % 2 = 1 := by omega
          have O1 := hideP (NsSt.one 500 S2.out.r S2.out.b S2.out.s S2.out.g S2.out.u)
          clear S2
          go_wp2_with fail
          go_ret
          exact ShPost.mk (by decide) O1.out
      · have h248' : ¬ (248 : Int) ≤ (x : Int) := by omega
        go_wp2_with fail
        go_ret
        exact ShPost.mk (Pl.fits_small zs (by have := hzl.out; omega) hz4.out) S2.out

end Go.Proofs.YtaopohihipihdaaGreatDoor
