import Derived.Test.YthhfpcdbgndioaaGreatDoorMem
namespace Go.Proofs.YthhfpcdbgndioaaGreatDoor
open Go.RowKit
set_option linter.unusedVariables false
set_option maxRecDepth 100000
/-- impl's table of functions as it lies -/
structure Mt (w : World) (mb mo cp : Nat) : Prop where
  g : w.cell? ⟨1, 0, none⟩ = some (.slice (some ⟨mb, mo, none⟩) 25 cp)
  b : mb < w.heap.size
  z : 1 < w.heap.size
  c : ∀ (k : Nat) (m : Pl.Mg), Pl.mgs[k]? = some m → w.cell? ⟨mb, mo + k * 5, none⟩ = some (.string (Pl.ba m.t)) ∧ w.cell? ⟨mb, mo + k * 5 + 1, none⟩ = some (.int .i64 m.ok) ∧ w.cell? ⟨mb, mo + k * 5 + 2, none⟩ = some (.int .i64 m.ow) ∧ w.cell? ⟨mb, mo + k * 5 + 3, none⟩ = some (.int .i64 m.tk) ∧ w.cell? ⟨mb, mo + k * 5 + 4, none⟩ = some (.int .i64 m.tw)
  ml : ∃ x, w.cell? ⟨0, 0, none⟩ = some (.int .i64 x)
theorem Mt.keep {w w' : World} {mb mo cp : Nat} (h : Mt w mb mo cp) (hb : Below w.heap.size w w') : Mt w' mb mo cp := by
  obtain ⟨h1, h2, h3, h4, x, h5⟩ := h
  refine ⟨(hb.cell (p := ⟨1, 0, none⟩) (show 1 < w.heap.size by omega)).trans h1, Nat.lt_of_lt_of_le h2 hb.size, Nat.lt_of_lt_of_le h3 hb.size, fun k m hm => ?_, x, (hb.cell (p := ⟨0, 0, none⟩) (show 0 < w.heap.size by omega)).trans h5⟩
  obtain ⟨a, b, c, d, e⟩ := h4 k m hm
  exact ⟨(hb.cell (p := ⟨mb, mo + k * 5, none⟩) h2).trans a, (hb.cell (p := ⟨mb, mo + k * 5 + 1, none⟩) h2).trans b, (hb.cell (p := ⟨mb, mo + k * 5 + 2, none⟩) h2).trans c, (hb.cell (p := ⟨mb, mo + k * 5 + 3, none⟩) h2).trans d, (hb.cell (p := ⟨mb, mo + k * 5 + 4, none⟩) h2).trans e⟩
/-- (meaning).uses -/
theorem uses_any (t : ByteArray) (a b c d : Int) (w : World) :
    Calls Tryz.prog 104 #[.agg #[.string t, .int .i64 a, .int .i64 b, .int .i64 c, .int .i64 d]] w fun e w' => e = .returned (.agg #[.int .i64 a, .int .i64 b, .int .i64 0, .string ⟨#[]⟩, .int .i64 c, .int .i64 d, .int .i64 0, .string ⟨#[]⟩]) ∧ Below w.heap.size w w' := by
  have HB : Hid (∀ o o2, Below w.heap.size w ((w.alloc o).alloc o2)) := fun o o2 => ((Below.refl _ _).alloc (Nat.le_refl _) _).alloc (by simp) _
  go_enter Tryz.func104, Tryz.ntmps104
  go_wp2
  refine bodyPost_ret (v := .agg #[.int .i64 a, .int .i64 b, .int .i64 0, .string ⟨#[]⟩, .int .i64 c, .int .i64 d, .int .i64 0, .string ⟨#[]⟩]) (by simp [results, Tryz.results104, go_sem]) rfl ⟨rfl, HB.out _ _⟩
theorem frozen_blk {w : World} {b : Nat} {cs : Array Value} {t : TypeId} (h : w.heap[b]? = some (.cells cs t)) (j : Nat) : w.frozen? ⟨b, j, none⟩ = false := by
  simp [World.frozen?, h]
theorem cell_blk {w : World} {b : Nat} {cs : Array Value} {t : TypeId} {f : Nat × Nat} (h : w.heap[b]? = some (.cells cs t f)) (j : Nat) : w.cell? ⟨b, j, none⟩ = cs[j]? := by
  simp [World.cell?, h]
namespace Pl
/-- impl.usesOf: the first row with that text -/
def rowOf (l : List UInt8) : Option Mg := mgs.find? (fun m => decide (m.t = l))
theorem rowOf_hit {l : List UInt8} {k : Nat} {m : Mg} (hk : mgs[k]? = some m) (hb : ∀ x ∈ mgs.take k, x.t ≠ l) (hm : m.t = l) : rowOf l = some m := by
  unfold rowOf
  have hlt := (List.getElem?_eq_some_iff.1 hk).1
  have e : mgs = mgs.take k ++ m :: mgs.drop (k + 1) := by
    have := (List.take_append_drop k mgs).symm
    rw [List.drop_eq_getElem_cons hlt] at this
    rw [(List.getElem?_eq_some_iff.1 hk).2] at this
    exact this
  rw [e, List.find?_append]
  have : (mgs.take k).find? (fun m => decide (m.t = l)) = none := by
    rw [List.find?_eq_none]
    intro x hx
    simpa using hb x hx
  rw [this]
  simp [hm]
theorem rowOf_none {l : List UInt8} (hb : ∀ x ∈ mgs.take 25, x.t ≠ l) : rowOf l = none := by
  unfold rowOf
  rw [List.find?_eq_none]
  intro x hx
  have : mgs.take 25 = mgs := rfl
  rw [this] at hb
  simpa using hb x hx
theorem take_next {l : List UInt8} {k : Nat} {m : Mg} (hk : mgs[k]? = some m) (hb : ∀ x ∈ mgs.take k, x.t ≠ l) (hm : m.t ≠ l) : ∀ x ∈ mgs.take (k + 1), x.t ≠ l := by
  intro x hx
  rw [List.take_add_one, hk] at hx
  rcases List.mem_append.1 hx with h | h
  · exact hb x h
  · have : x = m := by simpa using h
    rw [this]; exact hm
theorem mgs_some (k : Nat) (h : k < 25) : ∃ m, mgs[k]? = some m := ⟨mgs[k]'h, List.getElem?_eq_getElem (show k < mgs.length from h)⟩
end Pl
theorem ba_beq2 (l : List UInt8) (s : ByteArray) : ((Pl.ba l).toList == s.toList) = decide (l = s.data.toList) := by
  rw [ba_eq, Bool.eq_iff_iff]
  simp only [decide_eq_true_eq]
  rw [Pl.ba_iff]
  exact Iff.rfl
/-- what usesOf hands back -/
def usV (l : List UInt8) : Value := match Pl.rowOf l with
  | some m => .agg #[.int .i64 m.ok, .int .i64 m.ow, .int .i64 0, .string ⟨#[]⟩, .int .i64 m.tk, .int .i64 m.tw, .int .i64 0, .string ⟨#[]⟩]
  | none => .agg #[.int .i64 0, .int .i64 0, .int .i64 0, .string ⟨#[]⟩, .int .i64 0, .int .i64 0, .int .i64 0, .string ⟨#[]⟩]
theorem usV_some {l : List UInt8} {m : Pl.Mg} (h : Pl.rowOf l = some m) : usV l = .agg #[.int .i64 m.ok, .int .i64 m.ow, .int .i64 0, .string ⟨#[]⟩, .int .i64 m.tk, .int .i64 m.tw, .int .i64 0, .string ⟨#[]⟩] := by unfold usV; rw [h]
theorem usV_none {l : List UInt8} (h : Pl.rowOf l = none) : usV l = .agg #[.int .i64 0, .int .i64 0, .int .i64 0, .string ⟨#[]⟩, .int .i64 0, .int .i64 0, .int .i64 0, .string ⟨#[]⟩] := by unfold usV; rw [h]
set_option maxHeartbeats 4000000 in
/-- impl.usesOf -/
theorem usesOf_any (s : ByteArray) (mb mo cp : Nat) (w : World) (hm : Mt w mb mo cp) :
    Calls Tryz.prog 91 #[.string s] w fun e w' => e = .returned (usV s.data.toList) ∧ Below w.heap.size w w' := by
  obtain ⟨h1, h2, h3, h4, h5⟩ := hm
  have HT := hideP h4
  clear h4 h5
  obtain ⟨W0, hW0⟩ : ∃ W0, w.alloc (.cells #[.int .i64 0, .int .i64 0, .int .i64 0, .string ⟨#[]⟩, .int .i64 0, .int .i64 0, .int .i64 0, .string ⟨#[]⟩] 140) = W0 := ⟨_, rfl⟩
  have HS0 : Hid (W0.heap.size = w.heap.size + 1) := by show _ = _; rw [← hW0]; simp
  have HB0 : Hid (Below w.heap.size w W0) := by show Below _ _ _; rw [← hW0]; exact (Below.refl _ _).alloc (Nat.le_refl _) _
  have HK0 : Hid (W0.heap[w.heap.size]? = some (.cells #[.int .i64 0, .int .i64 0, .int .i64 0, .string ⟨#[]⟩, .int .i64 0, .int .i64 0, .int .i64 0, .string ⟨#[]⟩] 140)) := by show _ = _; rw [← hW0]; exact heap_alloc_new w _
  have g0 : ∀ o, (w.alloc o).cell? ⟨1, 0, none⟩ = some (.slice (some ⟨mb, mo, none⟩) 25 cp) := fun o => (((Below.refl w.heap.size w).alloc (Nat.le_refl _) o).cell (p := ⟨1, 0, none⟩) (show 1 < w.heap.size by omega)).trans h1
  have HW0 := hideP hW0
  have HR0 : Hid (Below (w.heap.size + 1) W0 W0) := Below.refl _ _
  clear hW0
  have HC : Hid (∀ k m wr, Pl.mgs[k]? = some m → Below (w.heap.size + 1) W0 wr → wr.cell? ⟨mb, mo + k * 5, none⟩ = some (.string (Pl.ba m.t)) ∧ wr.cell? ⟨mb, mo + k * 5 + 1, none⟩ = some (.int .i64 m.ok) ∧ wr.cell? ⟨mb, mo + k * 5 + 2, none⟩ = some (.int .i64 m.ow) ∧ wr.cell? ⟨mb, mo + k * 5 + 3, none⟩ = some (.int .i64 m.tk) ∧ wr.cell? ⟨mb, mo + k * 5 + 4, none⟩ = some (.int .i64 m.tw)) := fun k m wr hk hb => by
    obtain ⟨a, b, c, d, e⟩ := HT.out k m hk
    have hb' : Below w.heap.size w wr := HB0.out.trans (hb.mono (Nat.le_succ _))
    exact ⟨(hb'.cell (p := ⟨mb, mo + k * 5, none⟩) h2).trans a, (hb'.cell (p := ⟨mb, mo + k * 5 + 1, none⟩) h2).trans b, (hb'.cell (p := ⟨mb, mo + k * 5 + 2, none⟩) h2).trans c, (hb'.cell (p := ⟨mb, mo + k * 5 + 3, none⟩) h2).trans d, (hb'.cell (p := ⟨mb, mo + k * 5 + 4, none⟩) h2).trans e⟩
  clear HT h1 h2 h3
  go_enter Tryz.func91, Tryz.ntmps91
  go_wp2_with fail
  rw [HW0.out]
  go_loopw [7] (fun v wr => ∃ k : Nat, k ≤ 25 ∧ v = .int .i64 k ∧ Hid (∀ x ∈ Pl.mgs.take k, x.t ≠ s.data.toList) ∧ Hid (Below (w.heap.size + 1) W0 wr)) (fun v _ => 25 - (intOf v).toNat)
  case atStart => exact ⟨0, by omega, rfl, fun x hx => by simp at hx, HR0⟩
  case round =>
    obtain ⟨k, hk, rfl, hno, hbx⟩ := hrel
    have hsz : w.heap.size + 1 ≤ wr.heap.size := by have := hbx.out.size; have := HS0.out; omega
    by_cases hlt : k < 25
    · obtain ⟨m, hm⟩ := Pl.mgs_some k hlt
      obtain ⟨c0, c1, c2, c3, c4⟩ := HC.out k m wr hm hbx.out
      have hq := ba_beq2 m.t s
      by_cases he : m.t = s.data.toList
      · have HRW := hideP (Pl.rowOf_hit hm hno.out he)
        rw [decide_eq_true he] at hq
        have K := hideP (uses_any (Pl.ba m.t) m.ok m.ow m.tk m.tw)
        clear hno hm HC he
        generalize Pl.ba m.t = t at *
        have HBX : Hid (∀ o w', Below (wr.alloc o).heap.size (wr.alloc o) w' → w'.heap[w.heap.size]? = some (.cells #[.int .i64 0, .int .i64 0, .int .i64 0, .string ⟨#[]⟩, .int .i64 0, .int .i64 0, .int .i64 0, .string ⟨#[]⟩] 140) ∧ Below (w.heap.size) w w') := fun o w' hb => by
          have hb2 : Below (w.heap.size + 1) W0 w' := (hbx.out.alloc hsz o).trans (hb.mono (by simp; omega))
          exact ⟨(hb2.block w.heap.size (Nat.lt_succ_self _)).trans HK0.out, HB0.out.trans (hb2.mono (Nat.le_succ _))⟩
        go_wp2_with fail
        refine (K.out _).mono ?_
        rintro e w2 ⟨rfl, hb2⟩
        obtain ⟨hblk, hbw⟩ := HBX.out _ _ hb2
        have fz := frozen_blk hblk
        have HBW := hideP hbw
        have z0 := cell_blk hblk 0
        have z1 := cell_blk hblk 1
        have z2 := cell_blk hblk 2
        have z3 := cell_blk hblk 3
        have z4 := cell_blk hblk 4
        have z5 := cell_blk hblk 5
        have z6 := cell_blk hblk 6
        have z7 := cell_blk hblk 7
        simp at z0 z1 z2 z3 z4 z5 z6 z7
        clear hb2 hblk hbw
        go_wp2_with fail
        refine bodyPost_ret (v := .agg #[.int .i64 m.ok, .int .i64 m.ow, .int .i64 0, .string ⟨#[]⟩, .int .i64 m.tk, .int .i64 m.tw, .int .i64 0, .string ⟨#[]⟩]) (by simp [results, Tryz.results91, go_sem, z0, z1, z2, z3, z4, z5, z6, z7]) rfl ⟨by rw [usV_some HRW.out], ((((((((HBW.out.setCell (by simp) _).setCell (by simp) _).setCell (by simp) _).setCell (by simp) _).setCell (by simp) _).setCell (by simp) _).setCell (by simp) _).setCell (by simp) _)⟩
      · rw [decide_eq_false he] at hq
        have HNX := hideP (Pl.take_next hm hno.out he)
        clear hno hm HC he
        generalize Pl.ba m.t = t at *
        have HBX : Hid (∀ o, Below (w.heap.size + 1) W0 (wr.alloc o)) := fun o => hbx.out.alloc hsz o
        go_wp2_with fail
        go_roundw
        case rel => exact ⟨k + 1, by omega, by go_num, HNX.out, HBX.out _⟩
        case measure => simp [intOf]; omega
    · obtain rfl : k = 25 := by omega
      have HRW := hideP (Pl.rowOf_none hno.out)
      have hblk : wr.heap[w.heap.size]? = some (.cells #[.int .i64 0, .int .i64 0, .int .i64 0, .string ⟨#[]⟩, .int .i64 0, .int .i64 0, .int .i64 0, .string ⟨#[]⟩] 140) := (hbx.out.block w.heap.size (Nat.lt_succ_self _)).trans HK0.out
      have fz := frozen_blk hblk
      have HBW := hideP (HB0.out.trans (hbx.out.mono (Nat.le_succ _)))
      have z0 := cell_blk hblk 0
      have z1 := cell_blk hblk 1
      have z2 := cell_blk hblk 2
      have z3 := cell_blk hblk 3
      have z4 := cell_blk hblk 4
      have z5 := cell_blk hblk 5
      have z6 := cell_blk hblk 6
      have z7 := cell_blk hblk 7
      simp at z0 z1 z2 z3 z4 z5 z6 z7
      clear hblk hno HC
      go_wp2_with fail
      refine bodyPost_ret (v := .agg #[.int .i64 0, .int .i64 0, .int .i64 0, .string ⟨#[]⟩, .int .i64 0, .int .i64 0, .int .i64 0, .string ⟨#[]⟩]) (by simp [results, Tryz.results91, go_sem, z0, z1, z2, z3, z4, z5, z6, z7]) rfl ⟨by rw [usV_none HRW.out], ((((((((HBW.out.setCell (by simp) _).setCell (by simp) _).setCell (by simp) _).setCell (by simp) _).setCell (by simp) _).setCell (by simp) _).setCell (by simp) _).setCell (by simp) _)⟩
end Go.Proofs.YthhfpcdbgndioaaGreatDoor
