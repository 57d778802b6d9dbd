import Derived.Test.YtljkolffjjhgeaaDoorMm
namespace Go.Proofs.YtljkolffjjhgeaaDoor
open Go.RowKit
set_option linter.unusedVariables false
set_option maxRecDepth 100000
/-- impl's table of functions as it lies -/
structure Mt (w : World) (mb mo cp : Nat) : Prop where
  g : w.cell? ⟨1, 0, none⟩ = some (.slice (some ⟨mb, mo, none⟩) 25 cp)
  b : mb < w.heap.size
  z : 1 < w.heap.size
  c : ∀ (k : Nat) (m : Pl.Mg), Pl.mgs[k]? = some m → w.cell? ⟨mb, mo + k * 5, none⟩ = some (.string (Pl.ba m.t)) ∧ w.cell? ⟨mb, mo + k * 5 + 1, none⟩ = some (.int .i64 m.ok) ∧ w.cell? ⟨mb, mo + k * 5 + 2, none⟩ = some (.int .i64 m.ow) ∧ w.cell? ⟨mb, mo + k * 5 + 3, none⟩ = some (.int .i64 m.tk) ∧ w.cell? ⟨mb, mo + k * 5 + 4, none⟩ = some (.int .i64 m.tw)
  ml : ∃ x, w.cell? ⟨0, 0, none⟩ = some (.int .i64 x)
theorem Mt.keep {w w' : World} {mb mo cp : Nat} (h : Mt w mb mo cp) (hb : Below w.heap.size w w') : Mt w' mb mo cp := by
  obtain ⟨h1, h2, h3, h4, x, h5⟩ := h
  refine ⟨(hb.cell (p := ⟨1, 0, none⟩) (show 1 < w.heap.size by omega)).trans h1, Nat.lt_of_lt_of_le h2 hb.size, Nat.lt_of_lt_of_le h3 hb.size, fun k m hm => ?_, x, (hb.cell (p := ⟨0, 0, none⟩) (show 0 < w.heap.size by omega)).trans h5⟩
  obtain ⟨a, b, c, d, e⟩ := h4 k m hm
  exact ⟨(hb.cell (p := ⟨mb, mo + k * 5, none⟩) h2).trans a, (hb.cell (p := ⟨mb, mo + k * 5 + 1, none⟩) h2).trans b, (hb.cell (p := ⟨mb, mo + k * 5 + 2, none⟩) h2).trans c, (hb.cell (p := ⟨mb, mo + k * 5 + 3, none⟩) h2).trans d, (hb.cell (p := ⟨mb, mo + k * 5 + 4, none⟩) h2).trans e⟩
/-- (meaning).uses -/
theorem uses_any (t : ByteArray) (a b c d : Int) (w : World) :
    Calls Tryd.prog 78 #[.agg #[.string t, .int .i64 a, .int .i64 b, .int .i64 c, .int .i64 d]] w fun e w' => e = .returned (.agg #[.int .i64 a, .int .i64 b, .int .i64 0, .string ⟨#[]⟩, .int .i64 c, .int .i64 d, .int .i64 0, .string ⟨#[]⟩]) ∧ Below w.heap.size w w' := by
  have HB : Hid (∀ o o2, Below w.heap.size w ((w.alloc o).alloc o2)) := fun o o2 => ((Below.refl _ _).alloc (Nat.le_refl _) _).alloc (by simp) _
  go_enter Tryd.func78, Tryd.ntmps78
  go_wp2
  refine bodyPost_ret (v := .agg #[.int .i64 a, .int .i64 b, .int .i64 0, .string ⟨#[]⟩, .int .i64 c, .int .i64 d, .int .i64 0, .string ⟨#[]⟩]) (by simp [results, Tryd.results78, go_sem]) rfl ⟨rfl, HB.out _ _⟩
theorem frozen_blk {w : World} {b : Nat} {cs : Array Value} {t : TypeId} (h : w.heap[b]? = some (.cells cs t)) (j : Nat) : w.frozen? ⟨b, j, none⟩ = false := by
  simp [World.frozen?, h]
theorem cell_blk {w : World} {b : Nat} {cs : Array Value} {t : TypeId} {f : Nat × Nat} (h : w.heap[b]? = some (.cells cs t f)) (j : Nat) : w.cell? ⟨b, j, none⟩ = cs[j]? := by
  simp [World.cell?, h]
namespace Pl
/-- impl.usesOf: the first row with that text -/
def rowOf (l : List UInt8) : Option Mg := mgs.find? (fun m => decide (m.t = l))
theorem rowOf_hit {l : List UInt8} {k : Nat} {m : Mg} (hk : mgs[k]? = some m) (hb : ∀ x ∈ mgs.take k, x.t ≠ l) (hm : m.t = l) : rowOf l = some m := by
  unfold rowOf
  have hlt := (List.getElem?_eq_some_iff.1 hk).1
  have e : mgs = mgs.take k ++ m :: mgs.drop (k + 1) := by
    have := (List.take_append_drop k mgs).symm
    rw [List.drop_eq_getElem_cons hlt] at this
    rw [(List.getElem?_eq_some_iff.1 hk).2] at this
    exact this
  rw [e, List.find?_append]
  have : (mgs.take k).find? (fun m => decide (m.t = l)) = none := by
    rw [List.find?_eq_none]
    intro x hx
    simpa using hb x hx
  rw [this]
  simp [hm]
theorem rowOf_none {l : List UInt8} (hb : ∀ x ∈ mgs.take 25, x.t ≠ l) : rowOf l = none := by
  unfold rowOf
  rw [List.find?_eq_none]
  intro x hx
  have : mgs.take 25 = mgs := rfl
  rw [this] at hb
  simpa using hb x hx
theorem take_next {l : List UInt8} {k : Nat} {m : Mg} (hk : mgs[k]? = some m) (hb : ∀ x ∈ mgs.take k, x.t ≠ l) (hm : m.t ≠ l) : ∀ x ∈ mgs.take (k + 1), x.t ≠ l := by
  intro x hx
  rw [List.take_add_one, hk] at hx
  rcases List.mem_append.1 hx with h | h
  · exact hb x h
  · have : x = m := by simpa using h
    rw [this]; exact hm
theorem mgs_some (k : Nat) (h : k < 25) : ∃ m, mgs[k]? = some m := ⟨mgs[k]'h, List.getElem?_eq_getElem (show k < mgs.length from h)⟩
end Pl
theorem ba_beq2 (l : List UInt8) (s : ByteArray) : ((Pl.ba l).toList == s.toList) = decide (l = s.data.toList) := by
  rw [ba_eq, Bool.eq_iff_iff]
  simp only [decide_eq_true_eq]
  rw [Pl.ba_iff]
  exact Iff.rfl
/-- what usesOf hands back -/
def usV (l : List UInt8) : Value := match Pl.rowOf l with
  | some m => .agg #[.int .i64 m.ok, .int .i64 m.ow, .int .i64 0, .string ⟨#[]⟩, .int .i64 m.tk, .int .i64 m.tw, .int .i64 0, .string ⟨#[]⟩]
  | none => .agg #[.int .i64 0, .int .i64 0, .int .i64 0, .string ⟨#[]⟩, .int .i64 0, .int .i64 0, .int .i64 0, .string ⟨#[]⟩]
theorem usV_some {l : List UInt8} {m : Pl.Mg} (h : Pl.rowOf l = some m) : usV l = .agg #[.int .i64 m.ok, .int .i64 m.ow, .int .i64 0, .string ⟨#[]⟩, .int .i64 m.tk, .int .i64 m.tw, .int .i64 0, .string ⟨#[]⟩] := by unfold usV; rw [h]
theorem usV_none {l : List UInt8} (h : Pl.rowOf l = none) : usV l = .agg #[.int .i64 0, .int .i64 0, .int .i64 0, .string ⟨#[]⟩, .int .i64 0, .int .i64 0, .int .i64 0, .string ⟨#[]⟩] := by unfold usV; rw [h]
set_option maxHeartbeats 4000000 in
/-- impl.usesOf -/
theorem usesOf_any (s : ByteArray) (mb mo cp : Nat) (w : World) (hm : Mt w mb mo cp) :
    Calls Tryd.prog 74 #[.string s] w fun e w' => e = .returned (usV s.data.toList) ∧ Below w.heap.size w w' := by
  obtain ⟨h1, h2, h3, h4, h5⟩ := hm
  have HT := hideP h4
  clear h4 h5
  obtain ⟨W0, hW0⟩ : ∃ W0, w.alloc (.cells #[.int .i64 0, .int .i64 0, .int .i64 0, .string ⟨#[]⟩, .int .i64 0, .int .i64 0, .int .i64 0, .string ⟨#[]⟩] 114) = W0 := ⟨_, rfl⟩
  have HS0 : Hid (W0.heap.size = w.heap.size + 1) := by show _ = _; rw [← hW0]; simp
  have HB0 : Hid (Below w.heap.size w W0) := by show Below _ _ _; rw [← hW0]; exact (Below.refl _ _).alloc (Nat.le_refl _) _
  have HK0 : Hid (W0.heap[w.heap.size]? = some (.cells #[.int .i64 0, .int .i64 0, .int .i64 0, .string ⟨#[]⟩, .int .i64 0, .int .i64 0, .int .i64 0, .string ⟨#[]⟩] 114)) := by show _ = _; rw [← hW0]; exact heap_alloc_new w _
  have g0 : ∀ o, (w.alloc o).cell? ⟨1, 0, none⟩ = some (.slice (some ⟨mb, mo, none⟩) 25 cp) := fun o => (((Below.refl w.heap.size w).alloc (Nat.le_refl _) o).cell (p := ⟨1, 0, none⟩) (show 1 < w.heap.size by omega)).trans h1
  have HW0 := hideP hW0
  have HR0 : Hid (Below (w.heap.size + 1) W0 W0) := Below.refl _ _
  clear hW0
  have HC : Hid (∀ k m wr, Pl.mgs[k]? = some m → Below (w.heap.size + 1) W0 wr → wr.cell? ⟨mb, mo + k * 5, none⟩ = some (.string (Pl.ba m.t)) ∧ wr.cell? ⟨mb, mo + k * 5 + 1, none⟩ = some (.int .i64 m.ok) ∧ wr.cell? ⟨mb, mo + k * 5 + 2, none⟩ = some (.int .i64 m.ow) ∧ wr.cell? ⟨mb, mo + k * 5 + 3, none⟩ = some (.int .i64 m.tk) ∧ wr.cell? ⟨mb, mo + k * 5 + 4, none⟩ = some (.int .i64 m.tw)) := fun k m wr hk hb => by
    obtain ⟨a, b, c, d, e⟩ := HT.out k m hk
    have hb' : Below w.heap.size w wr := HB0.out.trans (hb.mono (Nat.le_succ _))
    exact ⟨(hb'.cell (p := ⟨mb, mo + k * 5, none⟩) h2).trans a, (hb'.cell (p := ⟨mb, mo + k * 5 + 1, none⟩) h2).trans b, (hb'.cell (p := ⟨mb, mo + k * 5 + 2, none⟩) h2).trans c, (hb'.cell (p := ⟨mb, mo + k * 5 + 3, none⟩) h2).trans d, (hb'.cell (p := ⟨mb, mo + k * 5 + 4, none⟩) h2).trans e⟩
  clear HT h1 h2 h3
  go_enter Tryd.func74, Tryd.ntmps74
  go_wp2_with fail
  rw [HW0.out]
  go_loopw [7] (fun v wr => ∃ k : Nat, k ≤ 25 ∧ v = .int .i64 k ∧ Hid (∀ x ∈ Pl.mgs.take k, x.t ≠ s.data.toList) ∧ Hid (Below (w.heap.size + 1) W0 wr)) (fun v _ => 25 - (intOf v).toNat)
  case atStart => exact ⟨0, by omega, rfl, fun x hx => by simp at hx, HR0⟩
  case round =>
    obtain ⟨k, hk, rfl, hno, hbx⟩ := hrel
    have hsz : w.heap.size + 1 ≤ wr.heap.size := by have := hbx.out.size; have := HS0.out; omega
    by_cases hlt : k < 25
    · obtain ⟨m, hm⟩ := Pl.mgs_some k hlt
      obtain ⟨c0, c1, c2, c3, c4⟩ := HC.out k m wr hm hbx.out
      have hq := ba_beq2 m.t s
      by_cases he : m.t = s.data.toList
      · have HRW := hideP (Pl.rowOf_hit hm hno.out he)
        rw [decide_eq_true he] at hq
        have K := hideP (uses_any (Pl.ba m.t) m.ok m.ow m.tk m.tw)
        clear hno hm HC he
        generalize Pl.ba m.t = t at *
        have HBX : Hid (∀ o w', Below (wr.alloc o).heap.size (wr.alloc o) w' → w'.heap[w.heap.size]? = some (.cells #[.int .i64 0, .int .i64 0, .int .i64 0, .string ⟨#[]⟩, .int .i64 0, .int .i64 0, .int .i64 0, .string ⟨#[]⟩] 114) ∧ Below (w.heap.size) w w') := fun o w' hb => by
          have hb2 : Below (w.heap.size + 1) W0 w' := (hbx.out.alloc hsz o).trans (hb.mono (by simp; omega))
          exact ⟨(hb2.block w.heap.size (Nat.lt_succ_self _)).trans HK0.out, HB0.out.trans (hb2.mono (Nat.le_succ _))⟩
        go_wp2_with fail
        refine (K.out _).mono ?_
        rintro e w2 ⟨rfl, hb2⟩
        obtain ⟨hblk, hbw⟩ := HBX.out _ _ hb2
        have fz := frozen_blk hblk
        have HBW := hideP hbw
        have z0 := cell_blk hblk 0
        have z1 := cell_blk hblk 1
        have z2 := cell_blk hblk 2
        have z3 := cell_blk hblk 3
        have z4 := cell_blk hblk 4
        have z5 := cell_blk hblk 5
        have z6 := cell_blk hblk 6
        have z7 := cell_blk hblk 7
        simp at z0 z1 z2 z3 z4 z5 z6 z7
        clear hb2 hblk hbw
        go_wp2_with fail
        refine bodyPost_ret (v := .agg #[.int .i64 m.ok, .int .i64 m.ow, .int .i64 0, .string ⟨#[]⟩, .int .i64 m.tk, .int .i64 m.tw, .int .i64 0, .string ⟨#[]⟩]) (by simp [results, Tryd.results74, go_sem, z0, z1, z2, z3, z4, z5, z6, z7]) rfl ⟨by rw [usV_some HRW.out], ((((((((HBW.out.setCell (by simp) _).setCell (by simp) _).setCell (by simp) _).setCell (by simp) _).setCell (by simp) _).setCell (by simp) _).setCell (by simp) _).setCell (by simp) _)⟩
      · rw [decide_eq_false he] at hq
        have HNX := hideP (Pl.take_next hm hno.out he)
        clear hno hm HC he
        generalize Pl.ba m.t = t at *
        have HBX : Hid (∀ o, Below (w.heap.size + 1) W0 (wr.alloc o)) := fun o => hbx.out.alloc hsz o
        go_wp2_with fail
        go_roundw
        case rel => exact ⟨k + 1, by omega, by go_num, HNX.out, HBX.out _⟩
        case measure => simp [intOf]; omega
    · obtain rfl : k = 25 := by omega
      have HRW := hideP (Pl.rowOf_none hno.out)
      have hblk : wr.heap[w.heap.size]? = some (.cells #[.int .i64 0, .int .i64 0, .int .i64 0, .string ⟨#[]⟩, .int .i64 0, .int .i64 0, .int .i64 0, .string ⟨#[]⟩] 114) := (hbx.out.block w.heap.size (Nat.lt_succ_self _)).trans HK0.out
      have fz := frozen_blk hblk
      have HBW := hideP (HB0.out.trans (hbx.out.mono (Nat.le_succ _)))
      have z0 := cell_blk hblk 0
      have z1 := cell_blk hblk 1
      have z2 := cell_blk hblk 2
      have z3 := cell_blk hblk 3
      have z4 := cell_blk hblk 4
      have z5 := cell_blk hblk 5
      have z6 := cell_blk hblk 6
      have z7 := cell_blk hblk 7
      simp at z0 z1 z2 z3 z4 z5 z6 z7
      clear hblk hno HC
      go_wp2_with fail
      refine bodyPost_ret (v := .agg #[.int .i64 0, .int .i64 0, .int .i64 0, .string ⟨#[]⟩, .int .i64 0, .int .i64 0, .int .i64 0, .string ⟨#[]⟩]) (by simp [results, Tryd.results74, go_sem, z0, z1, z2, z3, z4, z5, z6, z7]) rfl ⟨by rw [usV_none HRW.out], ((((((((HBW.out.setCell (by simp) _).setCell (by simp) _).setCell (by simp) _).setCell (by simp) _).setCell (by simp) _).setCell (by simp) _).setCell (by simp) _).setCell (by simp) _)⟩
theorem eq130 (a b c d : Int) (w : World) : (Op.equalIn 10000 114 (.agg #[.int .i64 a, .int .i64 b, .int .i64 0, .string ⟨#[]⟩, .int .i64 c, .int .i64 d, .int .i64 0, .string ⟨#[]⟩]) (.agg #[.int .i64 0, .int .i64 0, .int .i64 0, .string ⟨#[]⟩, .int .i64 0, .int .i64 0, .int .i64 0, .string ⟨#[]⟩])).run Tryd.prog w = .ok (decide (a = 0) && decide (b = 0) && decide (c = 0) && decide (d = 0)) w := by
  have u3 := Tryd.underlying3
  have a3 := Tryd.isAgg3
  have z3 := Tryd.sizeOf3
  have u9 := Tryd.underlying9
  have a9 := Tryd.isAgg9
  have z9 := Tryd.sizeOf9
  have a78 := Tryd.isAgg79
  have z78 := Tryd.sizeOf79
  have hS : Tryd.prog.underlying 114 = some (.struct (Tryd.prog.fieldsOf 114)) := by kernel_rfl
  have hp : Tryd.prog.stoodInHeld 114 = false := by kernel_rfl
  have hS2 : Tryd.prog.underlying 79 = some (.struct (Tryd.prog.fieldsOf 79)) := by kernel_rfl
  have hp2 : Tryd.prog.stoodInHeld 79 = false := by kernel_rfl
  have e2 : ∀ (x y : Int) (w : World), (Op.equalIn 9999 79 (.agg #[.int .i64 x, .int .i64 y, .int .i64 0, .string ⟨#[]⟩]) (.agg #[.int .i64 0, .int .i64 0, .int .i64 0, .string ⟨#[]⟩])).run Tryd.prog w = .ok (decide (x = 0) && decide (y = 0)) w := by
    intro x y w
    rw [show (9999 : Nat) = 9998 + 1 from rfl, run_equalIn_agg w 9998 79 _ _ hS2 hp2]
    simp only [Program.fieldsOf, Tryd.underlying79]
    go_simp
    by_cases h1 : x = 0 <;> by_cases h2 : y = 0 <;> simp [h1, h2]
  rw [show (10000 : Nat) = 9999 + 1 from rfl, run_equalIn_agg w 9999 114 _ _ hS hp]
  simp only [Program.fieldsOf, Tryd.underlying114]
  clear hS2
  go_simp
  by_cases h1 : a = 0 <;> by_cases h2 : b = 0 <;> by_cases h3 : c = 0 <;> by_cases h4 : d = 0 <;> simp [h1, h2, h3, h4]
namespace Pl
theorem rowOf_any (l : List UInt8) : (rowOf l).isSome = mgs.any (fun m => decide (m.t = l)) := by
  unfold rowOf
  rw [Bool.eq_iff_iff, List.find?_isSome, List.any_eq_true]
theorem row_nz {l : List UInt8} {m : Mg} (h : rowOf l = some m) : (decide (m.ok = 0) && decide (m.ow = 0) && decide (m.tk = 0) && decide (m.tw = 0)) = false := by
  have hm := List.mem_of_find?_eq_some h
  have : ∀ m ∈ mgs, (decide (m.ok = 0) && decide (m.ow = 0) && decide (m.tk = 0) && decide (m.tw = 0)) = false := by decide
  exact this m hm
end Pl
/-- impl.hasMeaning -/
theorem hasMeaning_any (s : ByteArray) (mb mo cp : Nat) (w : World) (hm : Mt w mb mo cp) :
    Calls Tryd.prog 67 #[.string s] w fun e w' => e = .returned (.bool (Pl.mgs.any (fun m => decide (m.t = s.data.toList)))) ∧ Below w.heap.size w w' := by
  have K := hideP (usesOf_any s mb mo cp w hm)
  rw [← Pl.rowOf_any]
  cases h : Pl.rowOf s.data.toList with
  | none =>
    rw [usV_none h] at K
    have heq := eq130 0 0 0 0
    clear h hm
    go_enter Tryd.func67, Tryd.ntmps67
    go_wp2_with (go_at_call 74; refine K.out.mono ?_; rintro e w' ⟨rfl, hb⟩)
    go_ret
    exact ⟨rfl, hb⟩
  | some m =>
    rw [usV_some h] at K
    have heq := eq130 m.ok m.ow m.tk m.tw
    rw [Pl.row_nz h] at heq
    clear h hm
    go_enter Tryd.func67, Tryd.ntmps67
    go_wp2_with (go_at_call 74; refine K.out.mono ?_; rintro e w' ⟨rfl, hb⟩)
    go_ret
    exact ⟨rfl, hb⟩
set_option maxHeartbeats 4000000 in
/-- impl.wordKind -/
theorem wordKind_any (s : ByteArray) (mb mo cp : Nat) (w : World) (hm : Mt w mb mo cp) (hl : s.size ≤ 9223372036854775807) :
    Calls Tryd.prog 50 #[.string s] w fun e w' => e = .returned (.int .i64 (Pl.wk s.data.toList)) ∧ Below w.heap.size w w' := by
  by_cases h0 : s.size = 0
  · have hq : (s.toList == []) = true := by rw [ba_nil]; exact decide_eq_true h0
    have HR : Hid (Pl.wk s.data.toList = 0) := by
      show _ = _
      rw [Pl.sz_eq] at h0
      rw [List.eq_nil_of_length_eq_zero h0]
      rfl
    clear h0
    generalize Pl.wk s.data.toList = r at *
    go_enter Tryd.func50, Tryd.ntmps50
    go_wp2
    go_ret
    exact ⟨ret_int HR.out.symm, Below.refl _ _⟩
  have hq : (s.toList == []) = false := by rw [ba_nil]; exact decide_eq_false h0
  have hix : ∀ w, (Instr.index 9 (.string s) (.int .i64 0)).run Tryd.prog w = .ok (.int .u8 (Pl.bt s 0)) w := idx_str s 0 (by omega)
  have HW := hideP (Pl.wk_I s h0)
  have K : Hid (∀ w, Calls Tryd.prog 49 #[.int .u8 (Pl.bt s 0)] w fun e w' => e = .returned (.bool (Pl.lttI (Pl.bt s 0))) ∧ w' = w) := isLetter_any _
  have K2 : Hid (∀ w, Calls Tryd.prog 45 #[.string s, .int .i64 0] w fun e w' => e = .returned (.int .i64 (Pl.stre s (s.size - 1) 1 : Nat)) ∧ w' = w) := fun w => stretchEnd_any s 0 w (by omega) hl
  have K3 : Hid (∀ w, Calls Tryd.prog 66 #[.int .u8 (Pl.bt s 0)] w fun e w' => e = .returned (.bool (decide (65 ≤ Pl.bt s 0 ∧ Pl.bt s 0 ≤ 90))) ∧ w' = w) := isCapital_any _
  have K4 := hideP (hasMeaning_any s mb mo cp w hm)
  clear hm
  generalize Pl.wk s.data.toList = r at *
  generalize Pl.mgs.any (fun m => decide (m.t = s.data.toList)) = q at *
  generalize Pl.stre s (s.size - 1) 1 = z at *
  generalize hcx : decide (65 ≤ Pl.bt s 0 ∧ Pl.bt s 0 ≤ 90) = cx at *
  have HCX := hideP hcx
  clear hcx
  generalize Pl.bt s 0 = x at *
  generalize hlx : Pl.lttI x = lx at *
  clear hlx
  have Hs : Hid (∀ n, s.size = n → s.size = n) := fun _ h => h
  generalize hn : s.size = n at *
  by_cases g1 : (20 : Int) < n
  · have HR := hideP (show r = 0 by rw [HW.out, if_pos (by omega)])
    go_enter Tryd.func50, Tryd.ntmps50
    go_wp2
    go_ret
    exact ⟨ret_int HR.out.symm, Below.refl _ _⟩
  have HW1 := hideP (show r = if lx = false then 0 else if z < n then 0 else if s = ⟨#[115, 101, 108, 102]⟩ ∨ (65 ≤ x ∧ x ≤ 90) then 3 else if q = true then 4 else 2 by rw [HW.out, if_neg (by omega)])
  clear HW
  cases lx
  · have HR := hideP (show r = 0 by rw [HW1.out, if_pos rfl])
    go_enter Tryd.func50, Tryd.ntmps50
    go_wp2_with (first | (go_at_call 49; refine (K.out _).mono ?_; rintro e w' ⟨rfl, rfl⟩))
    go_ret
    exact ⟨ret_int HR.out.symm, Below.refl _ _⟩
  have HW2 := hideP (show r = if z < n then 0 else if s = ⟨#[115, 101, 108, 102]⟩ ∨ (65 ≤ x ∧ x ≤ 90) then 3 else if q = true then 4 else 2 by rw [HW1.out, if_neg (by decide)])
  clear HW1
  by_cases g2 : (z : Int) < n
  · have HR := hideP (show r = 0 by rw [HW2.out, if_pos (by omega)])
    go_enter Tryd.func50, Tryd.ntmps50
    go_wp2_with (first | (go_at_call 49; refine (K.out _).mono ?_; rintro e w' ⟨rfl, rfl⟩) | (go_at_call 45; refine (K2.out _).mono ?_; rintro e w' ⟨rfl, rfl⟩))
    go_ret
    exact ⟨ret_int HR.out.symm, Below.refl _ _⟩
  have HW3 := hideP (show r = if s = ⟨#[115, 101, 108, 102]⟩ ∨ (65 ≤ x ∧ x ≤ 90) then 3 else if q = true then 4 else 2 by rw [HW2.out, if_neg (by omega)])
  clear HW2
  by_cases g3 : s = ⟨#[115, 101, 108, 102]⟩
  · have HR := hideP (show r = 3 by rw [HW3.out, if_pos (.inl g3)])
    have hqs : (s.toList == [115, 101, 108, 102]) = true := by rw [← self_list, ba_eq]; exact decide_eq_true g3
    clear g3
    go_enter Tryd.func50, Tryd.ntmps50
    go_wp2_with (first | (go_at_call 49; refine (K.out _).mono ?_; rintro e w' ⟨rfl, rfl⟩) | (go_at_call 45; refine (K2.out _).mono ?_; rintro e w' ⟨rfl, rfl⟩))
    go_ret
    exact ⟨ret_int HR.out.symm, Below.refl _ _⟩
  have hqs : (s.toList == [115, 101, 108, 102]) = false := by rw [← self_list, ba_eq]; exact decide_eq_false g3
  cases cx
  · have hnc := of_decide_eq_false HCX.out
    have HW4 := hideP (show r = if q = true then 4 else 2 by rw [HW3.out, if_neg (by rintro (h | h); exact g3 h; exact hnc h)])
    clear g3 hnc HW3 HCX
    cases q
    · have HR := hideP (show r = 2 by rw [HW4.out]; rfl)
      go_enter Tryd.func50, Tryd.ntmps50
      go_wp2_with (first | (go_at_call 49; refine (K.out _).mono ?_; rintro e w' ⟨rfl, rfl⟩) | (go_at_call 45; refine (K2.out _).mono ?_; rintro e w' ⟨rfl, rfl⟩) | (go_at_call 66; refine (K3.out _).mono ?_; rintro e w' ⟨rfl, rfl⟩) | (go_at_call 67; refine K4.out.mono ?_; rintro e w' ⟨rfl, hb⟩))
      go_ret
      exact ⟨ret_int HR.out.symm, hb⟩
    · have HR := hideP (show r = 4 by rw [HW4.out]; rfl)
      go_enter Tryd.func50, Tryd.ntmps50
      go_wp2_with (first | (go_at_call 49; refine (K.out _).mono ?_; rintro e w' ⟨rfl, rfl⟩) | (go_at_call 45; refine (K2.out _).mono ?_; rintro e w' ⟨rfl, rfl⟩) | (go_at_call 66; refine (K3.out _).mono ?_; rintro e w' ⟨rfl, rfl⟩) | (go_at_call 67; refine K4.out.mono ?_; rintro e w' ⟨rfl, hb⟩))
      go_ret
      exact ⟨ret_int HR.out.symm, hb⟩
  · have hc := of_decide_eq_true HCX.out
    have HR := hideP (show r = 3 by rw [HW3.out, if_pos (.inr hc)])
    clear g3 hc HCX HW3
    go_enter Tryd.func50, Tryd.ntmps50
    go_wp2_with (first | (go_at_call 49; refine (K.out _).mono ?_; rintro e w' ⟨rfl, rfl⟩) | (go_at_call 45; refine (K2.out _).mono ?_; rintro e w' ⟨rfl, rfl⟩) | (go_at_call 66; refine (K3.out _).mono ?_; rintro e w' ⟨rfl, rfl⟩))
    go_ret
    exact ⟨ret_int HR.out.symm, Below.refl _ _⟩
end Go.Proofs.YtljkolffjjhgeaaDoor
