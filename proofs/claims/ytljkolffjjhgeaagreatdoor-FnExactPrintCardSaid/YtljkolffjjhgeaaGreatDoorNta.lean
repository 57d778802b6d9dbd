import Derived.Test.YtljkolffjjhgeaaGreatDoorNof
import Derived.Test.YtljkolffjjhgeaaGreatDoorNum
import Derived.Test.YtljkolffjjhgeaaGreatDoorFnk
namespace Go.Proofs.YtljkolffjjhgeaaGreatDoor
open Go.RowKit
set_option linter.unusedVariables false
set_option maxRecDepth 100000
theorem Tryz.info9 : (Tryz.prog.info? 9).map (fun i => (i.zero, i.size, i.bytes)) = some (some (.string ByteArray.empty), 1, 16) := by kernel_rfl
theorem und99 : Tryz.prog.underlying 99 = some (.slice 9) := by kernel_rfl
def tv (t : List UInt8) : Value := .string (Pl.ba t)
/-- blocks that hold no strings are as they were -/
def Ok9 (w w' : World) : Prop := w.heap.size ≤ w'.heap.size ∧ ∀ (b : Nat) (cs : Array Value) (t : TypeId) (f : Nat × Nat), w.heap[b]? = some (.cells cs t f) → t ≠ 9 → w'.heap[b]? = some (.cells cs t f)
theorem Ok9.refl (w : World) : Ok9 w w := ⟨Nat.le_refl _, fun _ _ _ _ h _ => h⟩
theorem Ok9.trans {a b c : World} (h1 : Ok9 a b) (h2 : Ok9 b c) : Ok9 a c := ⟨Nat.le_trans h1.1 h2.1, fun k cs t f h ht => h2.2 k cs t f (h1.2 k cs t f h ht) ht⟩
theorem Ok9.of_below {w w' : World} (h : Below w.heap.size w w') : Ok9 w w' := ⟨h.size, fun b cs t f hb _ => (h.block b (Array.getElem?_eq_some_iff.1 hb).1).trans hb⟩
theorem Ok9.of_grown {w w' : World} {base n : Nat} {v : Value} {xs : List Value} (ho : w.ownsRow base 9 1 v n xs) (hg : w.grownBy w' v.ownBlock) : Ok9 w w' := by
  refine ⟨hg.size, fun b cs t f hb ht => (hg.block b (Array.getElem?_eq_some_iff.1 hb).1 ?_).trans hb⟩
  intro e
  rcases ho.2 with ⟨rfl, _⟩ | ⟨g, cp, cur, rfl, _, hg2, _⟩
  · cases e
  · have e : b = g := Option.some.inj e
    subst e
    rw [hg2] at hb
    injection hb with hb
    injection hb with _ hb _
    exact ht hb.symm
theorem Ok9.cell {w w' : World} (h : Ok9 w w') {b : Nat} {cs : Array Value} {t : TypeId} {f : Nat × Nat} (hb : w.heap[b]? = some (.cells cs t f)) (ht : t ≠ 9) (j : Nat) : w'.cell? ⟨b, j, none⟩ = cs[j]? := cell_blk (h.2 b cs t f hb ht) j
/-- append of tokens -/
theorem wpList_append9 {base : Nat} (w : World) {ops : Array Oper} {rest : List Oper} {o : Oper} {a : Act} {Q : Exit → Act → World → Prop} (hg : o.guard = none) (s x : Operand)
    (hop : o.op = Op.call { callee := Callee.builtin Builtin.append, args := #[s, x], argTypes := #[99, 99] }) (v u : Value) (hs : a.eval s = v) (hx : a.eval x = u) (bs ys : List (List UInt8)) (n b cap : Nat) (hn : n = ys.length) (hu : u = .slice (some ⟨b, 0, none⟩) n cap)
    (hown : w.ownsRow base 9 1 v bs.length (bs.map tv)) (hc : ∀ (j : Nat) (t : List UInt8), ys[j]? = some t → w.cell? ⟨b, j, none⟩ = some (.string (Pl.ba t))) (hbd : bs.length + ys.length ≤ 4000000000) (hbase : base ≤ w.heap.size)
    (hK : ∀ v' w', w'.ownsRow base 9 1 v' (bs ++ ys).length ((bs ++ ys).map tv) → Below base w w' → Ok9 w w' → wpList Tryz.prog ops Q rest (a.put o.dst v') w') : wpList Tryz.prog ops Q (o :: rest) a w := by
  obtain ⟨i0, hi, hz0, hz1, hz2⟩ := info_parts Tryz.info9
  subst hu
  obtain ⟨v', w', hr, ho, hg', _⟩ := run_append_own (P := Tryz.prog) w base 99 o.type 9 i0 (.string ByteArray.empty) 1 16 und99 hi hz0 hz1 hz2 rfl (by decide) v bs.length _ hown ⟨b, 0, none⟩ n cap (ys.map tv) (by simp [hn])
    (by
      intro j y hj
      rw [Addr.add_lit, Nat.zero_add]
      rw [List.getElem?_map] at hj
      obtain ⟨t, ht, rfl⟩ := Option.map_eq_some_iff.1 hj
      exact hc j t ht)
    (by
      intro y hy
      obtain ⟨z, _, rfl⟩ := List.mem_map.1 hy
      rfl) (by unfold maxLen; omega) (by omega) hbase
  refine wpList_plain hg fun K hK' => ?_
  unfold Oper.wp
  simp [execOp, hop, resolve, invoke, builtin, hs, hx, hr, Result.andThen]
  refine hK' _ _ (hK v' w' ?_ ((Below.refl _ _).grown hg' hbase (fun k hk => (hown.lt k hk).1)) (Ok9.of_grown hown hg'))
  rw [List.length_append, List.map_append, ← hn]
  exact ho
/-- what puts tokens behind those given -/
def TokPost (base : Nat) (l0 new : List (List UInt8)) (w : World) (e : Ending) (w' : World) : Prop :=
  ∃ v', e = .returned v' ∧ w'.ownsRow base 9 1 v' (l0 ++ new).length ((l0 ++ new).map tv) ∧ Below base w w' ∧ Ok9 w w'
/-- tokens that lie where they may be appended to -/
structure Tk (w0 w : World) (base : Nat) (v0 : Value) (l0 : List (List UInt8)) : Prop where
  hw : Below w0.heap.size w0 w
  b0 : w0.heap.size ≤ base
  b1 : base ≤ w.heap.size
  ow : w.ownsRow base 9 1 v0 l0.length (l0.map tv)
  ln : l0.length ≤ 100000000
theorem ta121_121 (p : Value) (w : World) : (Instr.typeAssert (.iface 121 p) 104 121 true).run Tryz.prog w = .ok (.tuple #[p, .bool true]) w := by kernel_rfl
theorem ta123_121 (p : Value) (w : World) : (Instr.typeAssert (.iface 123 p) 104 121 true).run Tryz.prog w = .ok (.tuple #[.agg #[.slice none 0 0], .bool false]) w := by kernel_rfl
theorem ta123_123 (p : Value) (w : World) : (Instr.typeAssert (.iface 123 p) 104 123 true).run Tryz.prog w = .ok (.tuple #[p, .bool true]) w := by kernel_rfl
theorem ta125_121 (p : Value) (w : World) : (Instr.typeAssert (.iface 125 p) 104 121 true).run Tryz.prog w = .ok (.tuple #[.agg #[.slice none 0 0], .bool false]) w := by kernel_rfl
theorem ta125_123 (p : Value) (w : World) : (Instr.typeAssert (.iface 125 p) 104 123 true).run Tryz.prog w = .ok (.tuple #[.agg #[.string ⟨#[]⟩], .bool false]) w := by kernel_rfl
theorem ta125_125 (p : Value) (w : World) : (Instr.typeAssert (.iface 125 p) 104 125 true).run Tryz.prog w = .ok (.tuple #[p, .bool true]) w := by kernel_rfl
theorem ta128_121 (p : Value) (w : World) : (Instr.typeAssert (.iface 128 p) 104 121 true).run Tryz.prog w = .ok (.tuple #[.agg #[.slice none 0 0], .bool false]) w := by kernel_rfl
theorem ta128_123 (p : Value) (w : World) : (Instr.typeAssert (.iface 128 p) 104 123 true).run Tryz.prog w = .ok (.tuple #[.agg #[.string ⟨#[]⟩], .bool false]) w := by kernel_rfl
theorem ta128_125 (p : Value) (w : World) : (Instr.typeAssert (.iface 128 p) 104 125 true).run Tryz.prog w = .ok (.tuple #[.agg #[.int .i64 0, .int .i64 0, .int .i64 0, .string ⟨#[]⟩, .nilIface], .bool false]) w := by kernel_rfl
theorem ta128_128 (p : Value) (w : World) : (Instr.typeAssert (.iface 128 p) 104 128 true).run Tryz.prog w = .ok (.tuple #[p, .bool true]) w := by kernel_rfl
set_option maxHeartbeats 4000000 in
theorem nodeTokens_name (s : Pl.Sv) (w0 w : World) (base : Nat) (v0 : Value) (l0 : List (List UInt8)) (h : Tk w0 w base v0 l0) :
    Calls Tryz.prog 60 #[v0, .iface 123 (.agg #[.string (Pl.ba s.nm)])] w (TokPost base l0 [s.nm] w) := by
  obtain ⟨hw, b0, b1, ow, ln⟩ := h
  obtain ⟨xo, yo, rfl, hyo⟩ := owns_form ow
  have OW := hideP ow
  clear ow
  have t1 := ta123_121 (.agg #[.string (Pl.ba s.nm)])
  have t2 := ta123_123 (.agg #[.string (Pl.ba s.nm)])
  have HB2 : Hid (∀ o o2, Below w.heap.size w ((w.alloc o).alloc o2)) := fun o o2 => ((Below.refl _ _).alloc (Nat.le_refl _) _).alloc (by simp) _
  have HCX : Hid (∀ (o : Obj) (j : Nat) (t : List UInt8), ([s.nm] : List (List UInt8))[j]? = some t → ((w.alloc o).alloc (.cells #[.string (Pl.ba s.nm)] 9)).cell? ⟨w.heap.size + 1, j, none⟩ = some (.string (Pl.ba t))) := fun o j t hj => by
    match j, hj with
    | 0, hj => simp at hj; subst hj; simp [go_sem]
    | j + 1, hj => simp at hj
  have HP : Hid (∀ (o o2 : Obj) v' w', w'.ownsRow base 9 1 v' (l0 ++ [s.nm]).length ((l0 ++ [s.nm]).map tv) → Below base ((w.alloc o).alloc o2) w' → Ok9 ((w.alloc o).alloc o2) w' → TokPost base l0 [s.nm] w (.returned v') w') := fun o o2 v' w' h1 h2 h3 => ⟨v', rfl, h1, ((HB2.out o o2).mono b1).trans h2, (Ok9.of_below (HB2.out o o2)).trans h3⟩
  have HO : Hid (∀ o o2, ((w.alloc o).alloc o2).ownsRow base 9 1 (.slice xo l0.length yo) l0.length (l0.map tv)) := fun o o2 => owns_keep OW.out (HB2.out o o2)
  have HL : Hid (l0.length + ([s.nm] : List (List UInt8)).length ≤ 4000000000) := by show _ ≤ _; simp; omega
  have HZ : Hid (∀ o o2, base ≤ ((w.alloc o).alloc o2).heap.size) := fun o o2 => by simp; omega
  generalize Pl.ba s.nm = nm at *
  go_enter Tryz.func60, Tryz.ntmps60
  go_wp2_with (at_builtin; refine wpList_append9 (base := base) _ rfl (.tmp 31) (.tmp 34) rfl (.slice xo l0.length yo) (.slice (some ⟨w.heap.size + 1, 0, none⟩) 1 1) rfl rfl l0 [s.nm] 1 (w.heap.size + 1) 1 rfl rfl (HO.out _ _) (HCX.out _) HL.out (HZ.out _ _) ?_)
  intro v' w' h1 h2 h3
  have H := hideP (HP.out _ _ v' w' (by simpa using h1) h2 h3)
  clear h1 h2 h3
  go_wp2_with fail
  go_ret
  exact H.out
set_option maxHeartbeats 4000000 in
theorem nodeTokens_nums (s : Pl.Sv) (an : Option Addr) (cn mb mo cp : Nat) (w0 w : World) (he : Ev w0 mb mo cp) (hr : RdI w0.heap.size w0 an s.nums) (hv : ∀ x ∈ s.nums, -3000000000 ≤ x ∧ x ≤ 3000000000) (hln : s.nums.length ≤ 1000) (base : Nat) (v0 : Value) (l0 : List (List UInt8)) (h : Tk w0 w base v0 l0) :
    Calls Tryz.prog 60 #[v0, .iface 121 (.agg #[.slice an s.nums.length cn])] w (TokPost base l0 (s.nums.map Pl.nt) w) := by
  obtain ⟨hw, b0, b1, ow, ln⟩ := h
  obtain ⟨xo, yo, rfl, hyo⟩ := owns_form ow
  have t1 := ta121_121 (.agg #[.slice an s.nums.length cn])
  obtain ⟨W1, hW1⟩ : ∃ W1, w.alloc (.cells #[.slice an s.nums.length cn] 121) = W1 := ⟨_, rfl⟩
  have HB1 : Hid (Below w.heap.size w W1) := by show Below _ _ _; rw [← hW1]; exact (Below.refl _ _).alloc (Nat.le_refl _) _
  have OW : Hid (W1.ownsRow base 9 1 (.slice xo l0.length yo) (l0 ++ (s.nums.take 0).map Pl.nt).length ((l0 ++ (s.nums.take 0).map Pl.nt).map tv)) := by
    show World.ownsRow _ _ _ _ _ _ _
    simp only [List.take_zero, List.map_nil, List.append_nil]
    exact owns_keep ow HB1.out
  have R1 : Hid (Below base W1 W1 ∧ Ok9 W1 W1) := ⟨Below.refl _ _, Ok9.refl _⟩
  have HF : Hid (∀ wr, Below base W1 wr → Below w0.heap.size w0 wr) := fun wr h => hw.trans ((HB1.out.mono (by omega)).trans (h.mono b0))
  have HZ : Hid (∀ wr, Below base W1 wr → base ≤ wr.heap.size) := fun wr h => by have := HB1.out.size; have := h.size; omega
  have HI : Hid (∀ k, k < s.nums.length → ∃ x nb no, s.nums[k]? = some x ∧ an = some ⟨nb, no, none⟩ ∧ (-3000000000 ≤ x ∧ x ≤ 3000000000) ∧ (∀ wr, Below base W1 wr → wr.cell? ⟨nb, no + k, none⟩ = some (.int .i64 x)) ∧ s.nums.take (k + 1) = s.nums.take k ++ [x]) := fun k hk => by
    obtain ⟨nb, no, h1, h2, h3⟩ := hr.resolve_left (fun e => by rw [e] at hk; cases hk)
    refine ⟨s.nums[k], nb, no, List.getElem?_eq_getElem hk, h2, hv _ (List.getElem_mem hk), fun wr h => ((HF.out wr h).cell (p := ⟨nb, no + k, none⟩) h1).trans (h3 k _ (List.getElem?_eq_getElem hk)), ?_⟩
    rw [List.take_add_one, List.getElem?_eq_getElem hk]
    rfl
  have KN : Hid (∀ x, -3000000000 ≤ x → x ≤ 3000000000 → ∀ wr, Below base W1 wr → Calls Tryz.prog 73 #[.int .i64 x] wr fun e w' => e = .returned (.string (Pl.ba (Pl.nt x))) ∧ Below wr.heap.size wr w') := fun x h1 h2 wr h => numberToken_any x mb mo cp wr (by omega) (by omega) (he.keep (HF.out wr h))
  have HEND : Hid (∀ v' wr, wr.ownsRow base 9 1 v' (l0 ++ (s.nums.take s.nums.length).map Pl.nt).length ((l0 ++ (s.nums.take s.nums.length).map Pl.nt).map tv) → Below base W1 wr ∧ Ok9 W1 wr → TokPost base l0 (s.nums.map Pl.nt) w (.returned v') wr) := fun v' wr h1 h2 => by
    rw [List.take_length] at h1
    exact ⟨v', rfl, h1, (HB1.out.mono b1).trans h2.1, (Ok9.of_below HB1.out).trans h2.2⟩
  have HW1 := hideP hW1
  clear ow hW1 he hr hv
  generalize hL : s.nums.length = n at *
  clear hL
  go_enter Tryz.func60, Tryz.ntmps60
  go_wp2_with fail
  rw [HW1.out]
  go_loopw [0, 18] (fun sv iv wr => ∃ k : Nat, k ≤ n ∧ iv = .int .i64 k ∧ Hid (wr.ownsRow base 9 1 sv (l0 ++ (s.nums.take k).map Pl.nt).length ((l0 ++ (s.nums.take k).map Pl.nt).map tv)) ∧ Hid (Below base W1 wr ∧ Ok9 W1 wr)) (fun _ iv _ => n - (intOf iv).toNat)
  case atStart => exact ⟨0, Nat.zero_le _, rfl, OW, R1⟩
  case round =>
    obtain ⟨k, hk, rfl, hO, BB⟩ := hrel
    obtain ⟨x2, y2, eo, hy2⟩ := owns_form hO.out
    subst eo
    by_cases hlt : k < n
    · obtain ⟨x, nb, no, hx, rfl, hxr, hcx, htk⟩ := HI.out k hlt
      have cx := hcx _ BB.out.1
      have K := hideP (KN.out x hxr.1 hxr.2 wr BB.out.1)
      have HTK := hideP htk
      have hz := HZ.out _ BB.out.1
      have HL : Hid ((l0 ++ (s.nums.take k).map Pl.nt).length + ([Pl.nt x] : List (List UInt8)).length ≤ 4000000000) := by
        show _ ≤ _
        simp only [List.length_append, List.length_map, List.length_take, List.length_cons, List.length_nil]
        omega
      have HCX : Hid (∀ (w2 : World) (j : Nat) (t : List UInt8), ([Pl.nt x] : List (List UInt8))[j]? = some t → (w2.alloc (.cells #[.string (Pl.ba (Pl.nt x))] 9)).cell? ⟨w2.heap.size, j, none⟩ = some (.string (Pl.ba t))) := fun w2 j t hj => by
        match j, hj with
        | 0, hj => simp at hj; subst hj; simp [go_sem]
        | j + 1, hj => simp at hj
      have HNX : Hid (∀ (w2 : World), Below wr.heap.size wr w2 → ∀ v' w', w'.ownsRow base 9 1 v' ((l0 ++ (s.nums.take k).map Pl.nt) ++ [Pl.nt x]).length (((l0 ++ (s.nums.take k).map Pl.nt) ++ [Pl.nt x]).map tv) → Below base (w2.alloc (.cells #[.string (Pl.ba (Pl.nt x))] 9)) w' → Ok9 (w2.alloc (.cells #[.string (Pl.ba (Pl.nt x))] 9)) w' → w'.ownsRow base 9 1 v' (l0 ++ (s.nums.take (k + 1)).map Pl.nt).length ((l0 ++ (s.nums.take (k + 1)).map Pl.nt).map tv) ∧ Below base W1 w' ∧ Ok9 W1 w') := fun w2 h v' w' h1 h2 h3 => by
        have e : l0 ++ (s.nums.take (k + 1)).map Pl.nt = (l0 ++ (s.nums.take k).map Pl.nt) ++ [Pl.nt x] := by rw [HTK.out]; simp
        rw [e]
        have hb : Below wr.heap.size wr (w2.alloc (.cells #[.string (Pl.ba (Pl.nt x))] 9)) := h.alloc h.size _
        exact ⟨h1, BB.out.1.trans ((hb.mono hz).trans h2), BB.out.2.trans ((Ok9.of_below hb).trans h3)⟩
      have HO2 : Hid (∀ (w2 : World), Below wr.heap.size wr w2 → ∀ o, (w2.alloc o).ownsRow base 9 1 (.slice x2 (l0 ++ (s.nums.take k).map Pl.nt).length y2) (l0 ++ (s.nums.take k).map Pl.nt).length ((l0 ++ (s.nums.take k).map Pl.nt).map tv) ∧ base ≤ (w2.alloc o).heap.size) := fun w2 h o => ⟨owns_keep hO.out (h.alloc h.size o), by have := h.size; simp; omega⟩
      clear hx hcx htk HI KN HF HZ hxr HEND
      generalize hnm : Pl.ba (Pl.nt x) = nm at *
      generalize hq : Pl.nt x = q at *
      clear hnm hq
      generalize l0 ++ (s.nums.take k).map Pl.nt = lk at *
      go_wp2_with fail
      refine K.out.mono ?_
      rintro e w2 ⟨rfl, hb2⟩
      have H2 := hideP hb2
      clear hb2
      go_wp2_with (at_builtin; refine wpList_append9 (base := base) _ rfl (.tmp 22) (.tmp 25) rfl (.slice x2 lk.length y2) (.slice (some ⟨w2.heap.size, 0, none⟩) 1 1) rfl rfl lk [q] 1 w2.heap.size 1 rfl rfl (HO2.out _ H2.out _).1 (HCX.out _) HL.out (HO2.out _ H2.out _).2 ?_)
      intro v' w' h1 h2 h3
      have H := hideP (HNX.out _ H2.out v' w' (by simpa using h1) h2 h3)
      clear h1 h2 h3
      go_wp2_with fail
      go_roundw
      case rel => exact ⟨k + 1, by omega, by go_num, H.out.1, H.out.2⟩
      case measure => simp [intOf]; omega
    · obtain rfl : k = n := by omega
      have H := hideP (HEND.out _ _ hO.out BB.out)
      clear HI KN HF HZ HEND
      generalize l0 ++ (s.nums.take k).map Pl.nt = lk at *
      go_wp2_with fail
      go_ret
      exact H.out
theorem Tk.keep {w0 w w' : World} {base : Nat} {v0 : Value} {l0 : List (List UInt8)} (h : Tk w0 w base v0 l0) (hb : Below w.heap.size w w') : Tk w0 w' base v0 l0 :=
  ⟨h.hw.trans (hb.mono h.hw.size), h.b0, Nat.le_trans h.b1 hb.size, owns_keep h.ow hb, h.ln⟩
theorem Tk.next {w0 w w' : World} {base : Nat} {v0 v' : Value} {l0 l1 : List (List UInt8)} (h : Tk w0 w base v0 l0) (ho : w'.ownsRow base 9 1 v' l1.length (l1.map tv)) (hb : Below base w w') (hl : l1.length ≤ 100000000) : Tk w0 w' base v' l1 :=
  ⟨h.hw.trans (hb.mono h.b0), h.b0, Nat.le_trans h.b1 hb.size, ho, hl⟩
theorem TokPost.after {base : Nat} {l0 a b : List (List UInt8)} {w w1 w' : World} {e : Ending} (h : TokPost base (l0 ++ a) b w1 e w') (hb : Below base w w1) (ho : Ok9 w w1) : TokPost base l0 (a ++ b) w e w' := by
  obtain ⟨v', rfl, h1, h2, h3⟩ := h
  rw [List.append_assoc] at h1
  exact ⟨v', rfl, h1, hb.trans h2, ho.trans h3⟩
theorem fnk_cells {l : List (List UInt8)} {w w' : World} {b : Nat} (h : ∀ (j : Nat) (t : List UInt8), l[j]? = some t → w'.cell? ⟨b, j, none⟩ = some (.string (Pl.ba t))) : ∀ (j : Nat) (t : List UInt8), l[j]? = some t → w'.cell? ⟨b, j, none⟩ = some (.string (Pl.ba t)) := h
/-- the contract of nodeTokens at a node -/
def TkC (w0 : World) (t : Pl.Nd Pl.Sv) (v : Value) : Prop := ∀ (w : World) (base : Nat) (v0 : Value) (l0 : List (List UInt8)), Tk w0 w base v0 l0 → l0.length + (Pl.toks (Pl.fa Pl.nt) Pl.ff t).length ≤ 100000000 → Calls Tryz.prog 60 #[v0, v] w (TokPost base l0 (Pl.toks (Pl.fa Pl.nt) Pl.ff t) w)
/-- the tokens of an operand -/
def opT (t : Pl.Nd Pl.Sv) : List (List UInt8) := match Pl.bareN t with | true => Pl.toks (Pl.fa Pl.nt) Pl.ff t | false => [40] :: (Pl.toks (Pl.fa Pl.nt) Pl.ff t ++ [[41]])
end Go.Proofs.YtljkolffjjhgeaaGreatDoor
