import Derived.Test.YthhfpcdbgndioaaGreatDoorIle
import Derived.Lib.AppendIntMem
import Derived.Test.YthhfpcdbgndioaaGreatDoorNof
import Derived.Test.YthhfpcdbgndioaaGreatDoorFnk
namespace Go.Proofs.YthhfpcdbgndioaaGreatDoor
open Go.RowKit
set_option linter.unusedVariables false
set_option maxRecDepth 100000
/-- the table that strconv reads -/
abbrev Tab (w : World) : Prop := Lib.TabIs Tryz.prog w "internal/strconv.uint64pow10" .u64 Lib.pow10Tab
theorem Tab.keep {w w' : World} (h : Tab w) (hb : Below w.heap.size w w') : Tab w' := Lib.tabBelow_of_tabIs h w' hb
/-- what lies in the package variables -/
structure Ev (w : World) (mb mo cp : Nat) : Prop where
  mt : Mt w mb mo cp
  tb : Tab w
theorem Ev.keep {w w' : World} {mb mo cp : Nat} (h : Ev w mb mo cp) (hb : Below w.heap.size w w') : Ev w' mb mo cp := ⟨h.mt.keep hb, h.tb.keep hb⟩
theorem itoa_len (x : Int) (h0 : -9223372036854775808 ≤ x) (h1 : x ≤ 9223372036854775807) : (Lib.itoa x).length ≤ 21 := by
  unfold Lib.itoa
  split
  · rw [List.length_cons, Lib.decDigits_length]
    have := Lib.nDigits_le20 x.natAbs (by omega)
    omega
  · rw [Lib.decDigits_length]
    have := Lib.nDigits_le20 x.toNat (by omega)
    omega
/-- impl.numberToken -/
theorem numberToken_any (x : Int) (mb mo cp : Nat) (w : World) (h0 : -9223372036854775808 ≤ x) (h1 : x ≤ 9223372036854775807) (he : Ev w mb mo cp) :
    Calls Tryz.prog 88 #[.int .i64 x] w fun e w' => e = .returned (.string (Pl.ba (Pl.nt x))) ∧ Below w.heap.size w w' := by
  have K1 : Hid (Calls Tryz.prog 101 #[.int .i64 x] w fun e w' => e = .returned (.string ⟨(Lib.itoa x).toArray⟩) ∧ Below w.heap.size w w') := by
    refine (Tryz.strconv_Itoa x h0 h1 w he.tb).mono ?_
    rintro e w' ⟨rfl, k, os, rfl⟩
    exact ⟨rfl, Lib.below_grow _ _ (Nat.le_refl _) _ _⟩
  have hlen := itoa_len x h0 h1
  have K2 : Hid (∀ w', Below w.heap.size w w' → Calls Tryz.prog 100 #[.string ⟨(Lib.itoa x).toArray⟩, .string ⟨#[45]⟩, .string ⟨#[95]⟩, .int .i64 1] w' fun e w2 => e = .returned (.string (Pl.ba (Pl.nt x))) ∧ Below w'.heap.size w' w2) := fun w' h => by
    obtain ⟨m, hm⟩ := (he.keep h).mt.ml
    have hs : (⟨(Lib.itoa x).toArray⟩ : ByteArray).size = (Lib.itoa x).length := by show (Lib.itoa x).toArray.size = _; simp
    have hc : Lib.countB ⟨(Lib.itoa x).toArray⟩ ⟨#[45]⟩ ≤ 1 := Pl.count_nt x
    have hz : (⟨#[95]⟩ : ByteArray).size = 1 := rfl
    have := Tryz.strings_Replace ⟨(Lib.itoa x).toArray⟩ ⟨#[45]⟩ ⟨#[95]⟩ 1 m w' (by rw [hs]; omega) hm (by decide) (by rw [hs, hz]; omega)
    have e : Lib.replace (⟨(Lib.itoa x).toArray⟩ : ByteArray).data.toList (⟨#[45]⟩ : ByteArray).data.toList (⟨#[95]⟩ : ByteArray).data.toList 1 = Pl.nt x := Pl.rep_nt x
    rw [e] at this
    exact this
  clear he
  generalize (⟨(Lib.itoa x).toArray⟩ : ByteArray) = s at *
  generalize Pl.ba (Pl.nt x) = r at *
  go_enter Tryz.func88, Tryz.ntmps88
  go_wp2_with fail
  refine K1.out.mono ?_
  rintro e w1 ⟨rfl, hb1⟩
  have H1 := hideP hb1
  clear hb1
  go_wp2_with (go_at_call 100; refine (K2.out _ H1.out).mono ?_; rintro e w2 ⟨rfl, hb2⟩)
  go_ret
  exact ⟨rfl, H1.out.trans (hb2.mono H1.out.size)⟩
theorem Tryz.info9 : (Tryz.prog.info? 9).map (fun i => (i.zero, i.size, i.bytes)) = some (some (.string ByteArray.empty), 1, 16) := by kernel_rfl
theorem und99 : Tryz.prog.underlying 61 = some (.slice 9) := by kernel_rfl
def tv (t : List UInt8) : Value := .string (Pl.ba t)
/-- blocks that hold no strings are as they were -/
def Ok9 (w w' : World) : Prop := w.heap.size ≤ w'.heap.size ∧ ∀ (b : Nat) (cs : Array Value) (t : TypeId) (f : Nat × Nat), w.heap[b]? = some (.cells cs t f) → t ≠ 9 → w'.heap[b]? = some (.cells cs t f)
theorem Ok9.refl (w : World) : Ok9 w w := ⟨Nat.le_refl _, fun _ _ _ _ h _ => h⟩
theorem Ok9.trans {a b c : World} (h1 : Ok9 a b) (h2 : Ok9 b c) : Ok9 a c := ⟨Nat.le_trans h1.1 h2.1, fun k cs t f h ht => h2.2 k cs t f (h1.2 k cs t f h ht) ht⟩
theorem Ok9.of_below {w w' : World} (h : Below w.heap.size w w') : Ok9 w w' := ⟨h.size, fun b cs t f hb _ => (h.block b (Array.getElem?_eq_some_iff.1 hb).1).trans hb⟩
theorem Ok9.of_grown {w w' : World} {base n : Nat} {v : Value} {xs : List Value} (ho : w.ownsRow base 9 1 v n xs) (hg : w.grownBy w' v.ownBlock) : Ok9 w w' := by
  refine ⟨hg.size, fun b cs t f hb ht => (hg.block b (Array.getElem?_eq_some_iff.1 hb).1 ?_).trans hb⟩
  intro e
  rcases ho.2 with ⟨rfl, _⟩ | ⟨g, cp, cur, rfl, _, hg2, _⟩
  · cases e
  · have e : b = g := Option.some.inj e
    subst e
    rw [hg2] at hb
    injection hb with hb
    injection hb with _ hb _
    exact ht hb.symm
theorem Ok9.cell {w w' : World} (h : Ok9 w w') {b : Nat} {cs : Array Value} {t : TypeId} {f : Nat × Nat} (hb : w.heap[b]? = some (.cells cs t f)) (ht : t ≠ 9) (j : Nat) : w'.cell? ⟨b, j, none⟩ = cs[j]? := cell_blk (h.2 b cs t f hb ht) j
/-- append of tokens -/
theorem wpList_append9 {base : Nat} (w : World) {ops : Array Oper} {rest : List Oper} {o : Oper} {a : Act} {Q : Exit → Act → World → Prop} (hg : o.guard = none) (s x : Operand)
    (hop : o.op = Op.call { callee := Callee.builtin Builtin.append, args := #[s, x], argTypes := #[61, 61] }) (v u : Value) (hs : a.eval s = v) (hx : a.eval x = u) (bs ys : List (List UInt8)) (n b cap : Nat) (hn : n = ys.length) (hu : u = .slice (some ⟨b, 0, none⟩) n cap)
    (hown : w.ownsRow base 9 1 v bs.length (bs.map tv)) (hc : ∀ (j : Nat) (t : List UInt8), ys[j]? = some t → w.cell? ⟨b, j, none⟩ = some (.string (Pl.ba t))) (hbd : bs.length + ys.length ≤ 4000000000) (hbase : base ≤ w.heap.size)
    (hK : ∀ v' w', w'.ownsRow base 9 1 v' (bs ++ ys).length ((bs ++ ys).map tv) → Below base w w' → Ok9 w w' → wpList Tryz.prog ops Q rest (a.put o.dst v') w') : wpList Tryz.prog ops Q (o :: rest) a w := by
  obtain ⟨i0, hi, hz0, hz1, hz2⟩ := info_parts Tryz.info9
  subst hu
  obtain ⟨v', w', hr, ho, hg', _⟩ := run_append_own (P := Tryz.prog) w base 61 o.type 9 i0 (.string ByteArray.empty) 1 16 und99 hi hz0 hz1 hz2 rfl (by decide) v bs.length _ hown ⟨b, 0, none⟩ n cap (ys.map tv) (by simp [hn])
    (by
      intro j y hj
      rw [Addr.add_lit, Nat.zero_add]
      rw [List.getElem?_map] at hj
      obtain ⟨t, ht, rfl⟩ := Option.map_eq_some_iff.1 hj
      exact hc j t ht)
    (by
      intro y hy
      obtain ⟨z, _, rfl⟩ := List.mem_map.1 hy
      rfl) (by unfold maxLen; omega) (by omega) hbase
  refine wpList_plain hg fun K hK' => ?_
  unfold Oper.wp
  simp [execOp, hop, resolve, invoke, builtin, hs, hx, hr, Result.andThen]
  refine hK' _ _ (hK v' w' ?_ ((Below.refl _ _).grown hg' hbase (fun k hk => (hown.lt k hk).1)) (Ok9.of_grown hown hg'))
  rw [List.length_append, List.map_append, ← hn]
  exact ho
/-- what puts tokens behind those given -/
def TokPost (base : Nat) (l0 new : List (List UInt8)) (w : World) (e : Ending) (w' : World) : Prop :=
  ∃ v', e = .returned v' ∧ w'.ownsRow base 9 1 v' (l0 ++ new).length ((l0 ++ new).map tv) ∧ Below base w w' ∧ Ok9 w w'
/-- tokens that lie where they may be appended to -/
structure Tk (w0 w : World) (base : Nat) (v0 : Value) (l0 : List (List UInt8)) : Prop where
  hw : Below w0.heap.size w0 w
  b0 : w0.heap.size ≤ base
  b1 : base ≤ w.heap.size
  ow : w.ownsRow base 9 1 v0 l0.length (l0.map tv)
  ln : l0.length ≤ 100000000
theorem ta121_121 (p : Value) (w : World) : (Instr.typeAssert (.iface 131 p) 115 131 true).run Tryz.prog w = .ok (.tuple #[p, .bool true]) w := by kernel_rfl
theorem ta123_121 (p : Value) (w : World) : (Instr.typeAssert (.iface 133 p) 115 131 true).run Tryz.prog w = .ok (.tuple #[.agg #[.slice none 0 0], .bool false]) w := by kernel_rfl
theorem ta123_123 (p : Value) (w : World) : (Instr.typeAssert (.iface 133 p) 115 133 true).run Tryz.prog w = .ok (.tuple #[p, .bool true]) w := by kernel_rfl
theorem ta125_121 (p : Value) (w : World) : (Instr.typeAssert (.iface 135 p) 115 131 true).run Tryz.prog w = .ok (.tuple #[.agg #[.slice none 0 0], .bool false]) w := by kernel_rfl
theorem ta125_123 (p : Value) (w : World) : (Instr.typeAssert (.iface 135 p) 115 133 true).run Tryz.prog w = .ok (.tuple #[.agg #[.string ⟨#[]⟩], .bool false]) w := by kernel_rfl
theorem ta125_125 (p : Value) (w : World) : (Instr.typeAssert (.iface 135 p) 115 135 true).run Tryz.prog w = .ok (.tuple #[p, .bool true]) w := by kernel_rfl
theorem ta128_121 (p : Value) (w : World) : (Instr.typeAssert (.iface 138 p) 115 131 true).run Tryz.prog w = .ok (.tuple #[.agg #[.slice none 0 0], .bool false]) w := by kernel_rfl
theorem ta128_123 (p : Value) (w : World) : (Instr.typeAssert (.iface 138 p) 115 133 true).run Tryz.prog w = .ok (.tuple #[.agg #[.string ⟨#[]⟩], .bool false]) w := by kernel_rfl
theorem ta128_125 (p : Value) (w : World) : (Instr.typeAssert (.iface 138 p) 115 135 true).run Tryz.prog w = .ok (.tuple #[.agg #[.int .i64 0, .int .i64 0, .int .i64 0, .string ⟨#[]⟩, .nilIface], .bool false]) w := by kernel_rfl
theorem ta128_128 (p : Value) (w : World) : (Instr.typeAssert (.iface 138 p) 115 138 true).run Tryz.prog w = .ok (.tuple #[p, .bool true]) w := by kernel_rfl
set_option maxHeartbeats 4000000 in
theorem nodeTokens_name (s : Pl.Sv) (w0 w : World) (base : Nat) (v0 : Value) (l0 : List (List UInt8)) (h : Tk w0 w base v0 l0) :
    Calls Tryz.prog 72 #[v0, .iface 133 (.agg #[.string (Pl.ba s.nm)])] w (TokPost base l0 [s.nm] w) := by
  obtain ⟨hw, b0, b1, ow, ln⟩ := h
  obtain ⟨xo, yo, rfl, hyo⟩ := owns_form ow
  have OW := hideP ow
  clear ow
  have t1 := ta123_121 (.agg #[.string (Pl.ba s.nm)])
  have t2 := ta123_123 (.agg #[.string (Pl.ba s.nm)])
  have HB2 : Hid (∀ o o2, Below w.heap.size w ((w.alloc o).alloc o2)) := fun o o2 => ((Below.refl _ _).alloc (Nat.le_refl _) _).alloc (by simp) _
  have HCX : Hid (∀ (o : Obj) (j : Nat) (t : List UInt8), ([s.nm] : List (List UInt8))[j]? = some t → ((w.alloc o).alloc (.cells #[.string (Pl.ba s.nm)] 9)).cell? ⟨w.heap.size + 1, j, none⟩ = some (.string (Pl.ba t))) := fun o j t hj => by
    match j, hj with
    | 0, hj => simp at hj; subst hj; simp [go_sem]
    | j + 1, hj => simp at hj
  have HP : Hid (∀ (o o2 : Obj) v' w', w'.ownsRow base 9 1 v' (l0 ++ [s.nm]).length ((l0 ++ [s.nm]).map tv) → Below base ((w.alloc o).alloc o2) w' → Ok9 ((w.alloc o).alloc o2) w' → TokPost base l0 [s.nm] w (.returned v') w') := fun o o2 v' w' h1 h2 h3 => ⟨v', rfl, h1, ((HB2.out o o2).mono b1).trans h2, (Ok9.of_below (HB2.out o o2)).trans h3⟩
  have HO : Hid (∀ o o2, ((w.alloc o).alloc o2).ownsRow base 9 1 (.slice xo l0.length yo) l0.length (l0.map tv)) := fun o o2 => owns_keep OW.out (HB2.out o o2)
  have HL : Hid (l0.length + ([s.nm] : List (List UInt8)).length ≤ 4000000000) := by show _ ≤ _; simp; omega
  have HZ : Hid (∀ o o2, base ≤ ((w.alloc o).alloc o2).heap.size) := fun o o2 => by simp; omega
  generalize Pl.ba s.nm = nm at *
  go_enter Tryz.func72, Tryz.ntmps72
  go_wp2_with (at_builtin; refine wpList_append9 (base := base) _ rfl (.tmp 31) (.tmp 34) rfl (.slice xo l0.length yo) (.slice (some ⟨w.heap.size + 1, 0, none⟩) 1 1) rfl rfl l0 [s.nm] 1 (w.heap.size + 1) 1 rfl rfl (HO.out _ _) (HCX.out _) HL.out (HZ.out _ _) ?_)
  intro v' w' h1 h2 h3
  have H := hideP (HP.out _ _ v' w' (by simpa using h1) h2 h3)
  clear h1 h2 h3
  go_wp2_with fail
  go_ret
  exact H.out
set_option maxHeartbeats 4000000 in
theorem nodeTokens_nums (s : Pl.Sv) (an : Option Addr) (cn mb mo cp : Nat) (w0 w : World) (he : Ev w0 mb mo cp) (hr : RdI w0.heap.size w0 an s.nums) (hv : ∀ x ∈ s.nums, -3000000000 ≤ x ∧ x ≤ 3000000000) (hln : s.nums.length ≤ 1000) (base : Nat) (v0 : Value) (l0 : List (List UInt8)) (h : Tk w0 w base v0 l0) :
    Calls Tryz.prog 72 #[v0, .iface 131 (.agg #[.slice an s.nums.length cn])] w (TokPost base l0 (s.nums.map Pl.nt) w) := by
  obtain ⟨hw, b0, b1, ow, ln⟩ := h
  obtain ⟨xo, yo, rfl, hyo⟩ := owns_form ow
  have t1 := ta121_121 (.agg #[.slice an s.nums.length cn])
  obtain ⟨W1, hW1⟩ : ∃ W1, w.alloc (.cells #[.slice an s.nums.length cn] 131) = W1 := ⟨_, rfl⟩
  have HB1 : Hid (Below w.heap.size w W1) := by show Below _ _ _; rw [← hW1]; exact (Below.refl _ _).alloc (Nat.le_refl _) _
  have OW : Hid (W1.ownsRow base 9 1 (.slice xo l0.length yo) (l0 ++ (s.nums.take 0).map Pl.nt).length ((l0 ++ (s.nums.take 0).map Pl.nt).map tv)) := by
    show World.ownsRow _ _ _ _ _ _ _
    simp only [List.take_zero, List.map_nil, List.append_nil]
    exact owns_keep ow HB1.out
  have R1 : Hid (Below base W1 W1 ∧ Ok9 W1 W1) := ⟨Below.refl _ _, Ok9.refl _⟩
  have HF : Hid (∀ wr, Below base W1 wr → Below w0.heap.size w0 wr) := fun wr h => hw.trans ((HB1.out.mono (by omega)).trans (h.mono b0))
  have HZ : Hid (∀ wr, Below base W1 wr → base ≤ wr.heap.size) := fun wr h => by have := HB1.out.size; have := h.size; omega
  have HI : Hid (∀ k, k < s.nums.length → ∃ x nb no, s.nums[k]? = some x ∧ an = some ⟨nb, no, none⟩ ∧ (-3000000000 ≤ x ∧ x ≤ 3000000000) ∧ (∀ wr, Below base W1 wr → wr.cell? ⟨nb, no + k, none⟩ = some (.int .i64 x)) ∧ s.nums.take (k + 1) = s.nums.take k ++ [x]) := fun k hk => by
    obtain ⟨nb, no, h1, h2, h3⟩ := hr.resolve_left (fun e => by rw [e] at hk; cases hk)
    refine ⟨s.nums[k], nb, no, List.getElem?_eq_getElem hk, h2, hv _ (List.getElem_mem hk), fun wr h => ((HF.out wr h).cell (p := ⟨nb, no + k, none⟩) h1).trans (h3 k _ (List.getElem?_eq_getElem hk)), ?_⟩
    rw [List.take_add_one, List.getElem?_eq_getElem hk]
    rfl
  have KN : Hid (∀ x, -3000000000 ≤ x → x ≤ 3000000000 → ∀ wr, Below base W1 wr → Calls Tryz.prog 88 #[.int .i64 x] wr fun e w' => e = .returned (.string (Pl.ba (Pl.nt x))) ∧ Below wr.heap.size wr w') := fun x h1 h2 wr h => numberToken_any x mb mo cp wr (by omega) (by omega) (he.keep (HF.out wr h))
  have HEND : Hid (∀ v' wr, wr.ownsRow base 9 1 v' (l0 ++ (s.nums.take s.nums.length).map Pl.nt).length ((l0 ++ (s.nums.take s.nums.length).map Pl.nt).map tv) → Below base W1 wr ∧ Ok9 W1 wr → TokPost base l0 (s.nums.map Pl.nt) w (.returned v') wr) := fun v' wr h1 h2 => by
    rw [List.take_length] at h1
    exact ⟨v', rfl, h1, (HB1.out.mono b1).trans h2.1, (Ok9.of_below HB1.out).trans h2.2⟩
  have HW1 := hideP hW1
  clear ow hW1 he hr hv
  generalize hL : s.nums.length = n at *
  clear hL
  go_enter Tryz.func72, Tryz.ntmps72
  go_wp2_with fail
  rw [HW1.out]
  go_loopw [0, 18] (fun sv iv wr => ∃ k : Nat, k ≤ n ∧ iv = .int .i64 k ∧ Hid (wr.ownsRow base 9 1 sv (l0 ++ (s.nums.take k).map Pl.nt).length ((l0 ++ (s.nums.take k).map Pl.nt).map tv)) ∧ Hid (Below base W1 wr ∧ Ok9 W1 wr)) (fun _ iv _ => n - (intOf iv).toNat)
  case atStart => exact ⟨0, Nat.zero_le _, rfl, OW, R1⟩
  case round =>
    obtain ⟨k, hk, rfl, hO, BB⟩ := hrel
    obtain ⟨x2, y2, eo, hy2⟩ := owns_form hO.out
    subst eo
    by_cases hlt : k < n
    · obtain ⟨x, nb, no, hx, rfl, hxr, hcx, htk⟩ := HI.out k hlt
      have cx := hcx _ BB.out.1
      have K := hideP (KN.out x hxr.1 hxr.2 wr BB.out.1)
      have HTK := hideP htk
      have hz := HZ.out _ BB.out.1
      have HL : Hid ((l0 ++ (s.nums.take k).map Pl.nt).length + ([Pl.nt x] : List (List UInt8)).length ≤ 4000000000) := by
        show _ ≤ _
        simp only [List.length_append, List.length_map, List.length_take, List.length_cons, List.length_nil]
        omega
      have HCX : Hid (∀ (w2 : World) (j : Nat) (t : List UInt8), ([Pl.nt x] : List (List UInt8))[j]? = some t → (w2.alloc (.cells #[.string (Pl.ba (Pl.nt x))] 9)).cell? ⟨w2.heap.size, j, none⟩ = some (.string (Pl.ba t))) := fun w2 j t hj => by
        match j, hj with
        | 0, hj => simp at hj; subst hj; simp [go_sem]
        | j + 1, hj => simp at hj
      have HNX : Hid (∀ (w2 : World), Below wr.heap.size wr w2 → ∀ v' w', w'.ownsRow base 9 1 v' ((l0 ++ (s.nums.take k).map Pl.nt) ++ [Pl.nt x]).length (((l0 ++ (s.nums.take k).map Pl.nt) ++ [Pl.nt x]).map tv) → Below base (w2.alloc (.cells #[.string (Pl.ba (Pl.nt x))] 9)) w' → Ok9 (w2.alloc (.cells #[.string (Pl.ba (Pl.nt x))] 9)) w' → w'.ownsRow base 9 1 v' (l0 ++ (s.nums.take (k + 1)).map Pl.nt).length ((l0 ++ (s.nums.take (k + 1)).map Pl.nt).map tv) ∧ Below base W1 w' ∧ Ok9 W1 w') := fun w2 h v' w' h1 h2 h3 => by
        have e : l0 ++ (s.nums.take (k + 1)).map Pl.nt = (l0 ++ (s.nums.take k).map Pl.nt) ++ [Pl.nt x] := by rw [HTK.out]; simp
        rw [e]
        have hb : Below wr.heap.size wr (w2.alloc (.cells #[.string (Pl.ba (Pl.nt x))] 9)) := h.alloc h.size _
        exact ⟨h1, BB.out.1.trans ((hb.mono hz).trans h2), BB.out.2.trans ((Ok9.of_below hb).trans h3)⟩
      have HO2 : Hid (∀ (w2 : World), Below wr.heap.size wr w2 → ∀ o, (w2.alloc o).ownsRow base 9 1 (.slice x2 (l0 ++ (s.nums.take k).map Pl.nt).length y2) (l0 ++ (s.nums.take k).map Pl.nt).length ((l0 ++ (s.nums.take k).map Pl.nt).map tv) ∧ base ≤ (w2.alloc o).heap.size) := fun w2 h o => ⟨owns_keep hO.out (h.alloc h.size o), by have := h.size; simp; omega⟩
      clear hx hcx htk HI KN HF HZ hxr HEND
      generalize hnm : Pl.ba (Pl.nt x) = nm at *
      generalize hq : Pl.nt x = q at *
      clear hnm hq
      generalize l0 ++ (s.nums.take k).map Pl.nt = lk at *
      go_wp2_with fail
      refine K.out.mono ?_
      rintro e w2 ⟨rfl, hb2⟩
      have H2 := hideP hb2
      clear hb2
      go_wp2_with (at_builtin; refine wpList_append9 (base := base) _ rfl (.tmp 22) (.tmp 25) rfl (.slice x2 lk.length y2) (.slice (some ⟨w2.heap.size, 0, none⟩) 1 1) rfl rfl lk [q] 1 w2.heap.size 1 rfl rfl (HO2.out _ H2.out _).1 (HCX.out _) HL.out (HO2.out _ H2.out _).2 ?_)
      intro v' w' h1 h2 h3
      have H := hideP (HNX.out _ H2.out v' w' (by simpa using h1) h2 h3)
      clear h1 h2 h3
      go_wp2_with fail
      go_roundw
      case rel => exact ⟨k + 1, by omega, by go_num, H.out.1, H.out.2⟩
      case measure => simp [intOf]; omega
    · obtain rfl : k = n := by omega
      have H := hideP (HEND.out _ _ hO.out BB.out)
      clear HI KN HF HZ HEND
      generalize l0 ++ (s.nums.take k).map Pl.nt = lk at *
      go_wp2_with fail
      go_ret
      exact H.out
theorem Tk.keep {w0 w w' : World} {base : Nat} {v0 : Value} {l0 : List (List UInt8)} (h : Tk w0 w base v0 l0) (hb : Below w.heap.size w w') : Tk w0 w' base v0 l0 :=
  ⟨h.hw.trans (hb.mono h.hw.size), h.b0, Nat.le_trans h.b1 hb.size, owns_keep h.ow hb, h.ln⟩
theorem Tk.next {w0 w w' : World} {base : Nat} {v0 v' : Value} {l0 l1 : List (List UInt8)} (h : Tk w0 w base v0 l0) (ho : w'.ownsRow base 9 1 v' l1.length (l1.map tv)) (hb : Below base w w') (hl : l1.length ≤ 100000000) : Tk w0 w' base v' l1 :=
  ⟨h.hw.trans (hb.mono h.b0), h.b0, Nat.le_trans h.b1 hb.size, ho, hl⟩
theorem TokPost.after {base : Nat} {l0 a b : List (List UInt8)} {w w1 w' : World} {e : Ending} (h : TokPost base (l0 ++ a) b w1 e w') (hb : Below base w w1) (ho : Ok9 w w1) : TokPost base l0 (a ++ b) w e w' := by
  obtain ⟨v', rfl, h1, h2, h3⟩ := h
  rw [List.append_assoc] at h1
  exact ⟨v', rfl, h1, hb.trans h2, ho.trans h3⟩
theorem fnk_cells {l : List (List UInt8)} {w w' : World} {b : Nat} (h : ∀ (j : Nat) (t : List UInt8), l[j]? = some t → w'.cell? ⟨b, j, none⟩ = some (.string (Pl.ba t))) : ∀ (j : Nat) (t : List UInt8), l[j]? = some t → w'.cell? ⟨b, j, none⟩ = some (.string (Pl.ba t)) := h
/-- the contract of nodeTokens at a node -/
def TkC (w0 : World) (t : Pl.Nd Pl.Sv) (v : Value) : Prop := ∀ (w : World) (base : Nat) (v0 : Value) (l0 : List (List UInt8)), Tk w0 w base v0 l0 → l0.length + (Pl.toks (Pl.fa Pl.nt) Pl.ff t).length ≤ 100000000 → Calls Tryz.prog 72 #[v0, v] w (TokPost base l0 (Pl.toks (Pl.fa Pl.nt) Pl.ff t) w)
/-- the tokens of an operand -/
def opT (t : Pl.Nd Pl.Sv) : List (List UInt8) := match Pl.bareN t with | true => Pl.toks (Pl.fa Pl.nt) Pl.ff t | false => [40] :: (Pl.toks (Pl.fa Pl.nt) Pl.ff t ++ [[41]])
set_option maxHeartbeats 4000000 in
theorem nodeTokens_one (s : Pl.Sv) (r : Pl.Nd Pl.Sv) (vr : Value) (mb mo cp : Nat) (w0 w : World) (he : Ev w0 mb mo cp) (hi : ∃ T p, vr = .iface T p) (hc : TkC w0 r vr) (base : Nat) (v0 : Value) (l0 : List (List UInt8)) (h : Tk w0 w base v0 l0) (hl : l0.length + (Pl.ftk s.fn ++ Pl.toks (Pl.fa Pl.nt) Pl.ff r).length ≤ 100000000) :
    Calls Tryz.prog 72 #[v0, .iface 135 (.agg #[.int .i64 s.fn.k, .int .i64 s.fn.a, .int .i64 s.fn.b, .string (Pl.ba s.fn.nm), vr])] w (TokPost base l0 (Pl.ftk s.fn ++ Pl.toks (Pl.fa Pl.nt) Pl.ff r) w) := by
  obtain ⟨T, p, rfl⟩ := hi
  have HT := hideP h
  have HC : Hid (∀ (w : World) (base : Nat) (v0 : Value) (l0 : List (List UInt8)), Tk w0 w base v0 l0 → l0.length + (Pl.toks (Pl.fa Pl.nt) Pl.ff r).length ≤ 100000000 → Calls Tryz.prog 72 #[v0, .iface T p] w (TokPost base l0 (Pl.toks (Pl.fa Pl.nt) Pl.ff r) w)) := hc
  obtain ⟨xo, yo, rfl, hyo⟩ := owns_form h.ow
  have t1 := ta125_121 (.agg #[.int .i64 s.fn.k, .int .i64 s.fn.a, .int .i64 s.fn.b, .string (Pl.ba s.fn.nm), .iface T p])
  have t2 := ta125_123 (.agg #[.int .i64 s.fn.k, .int .i64 s.fn.a, .int .i64 s.fn.b, .string (Pl.ba s.fn.nm), .iface T p])
  have t3 := ta125_125 (.agg #[.int .i64 s.fn.k, .int .i64 s.fn.a, .int .i64 s.fn.b, .string (Pl.ba s.fn.nm), .iface T p])
  have HB : Hid (∀ o, Below w.heap.size w (w.alloc o)) := fun o => (Below.refl _ _).alloc (Nat.le_refl _) _
  have HK : Hid (∀ o, (w.alloc o).heap[w.heap.size]? = some o) := fun o => heap_alloc_new w o
  have KF : Hid (∀ o, Calls Tryz.prog 89 #[.agg #[.int .i64 s.fn.k, .int .i64 s.fn.a, .int .i64 s.fn.b, .string (Pl.ba s.fn.nm)]] (w.alloc o) (FnkPost (Pl.ftk s.fn) (w.alloc o))) := fun o => fnTokens_any s.fn mb mo cp (w.alloc o) (he.keep (HT.out.keep (HB.out o)).hw).mt
  rw [List.length_append] at hl
  have L1 : Hid (l0.length + (Pl.ftk s.fn).length ≤ 4000000000) := by show _ ≤ _; omega
  have L2 : Hid ((l0 ++ Pl.ftk s.fn).length + (Pl.toks (Pl.fa Pl.nt) Pl.ff r).length ≤ 100000000 ∧ (l0 ++ Pl.ftk s.fn).length ≤ 100000000) := by rw [List.length_append]; exact ⟨by omega, by omega⟩
  clear he hc hl h
  generalize Pl.toks (Pl.fa Pl.nt) Pl.ff r = L at *
  generalize hF : Pl.ftk s.fn = F at *
  clear hF
  generalize Pl.ba s.fn.nm = fnm at *
  generalize s.fn.k = fk at *
  generalize s.fn.a = fa at *
  generalize s.fn.b = fb at *
  go_enter Tryz.func72, Tryz.ntmps72
  go_wp2_with fail
  refine (KF.out _).mono ?_
  rintro e w1 ⟨fb1, rfl, hcells, hb1, hf1, hf2⟩
  have H1 := hideP ((HB.out _).trans (hb1.mono (by simp)))
  have Q1 := hideP (Ok9.of_below hb1)
  have HBLK := hideP (Q1.out.2 _ _ _ _ (HK.out _) (by decide))
  have O1 := hideP (HT.out.keep H1.out).ow
  have z1 := (HT.out.keep H1.out).b1
  have CE := hideP hcells
  clear hcells hb1 hf1 hf2 KF
  generalize hFL : F.length = fl at *
  have HFL := hideP hFL
  clear hFL
  go_wp2_with (at_builtin; refine wpList_append9 (base := base) w1 rfl (.tmp 39) (.tmp 42) rfl (.slice xo l0.length yo) (.slice (some ⟨fb1, 0, none⟩) fl fl) rfl rfl l0 F fl fb1 fl HFL.out.symm rfl O1.out CE.out (by rw [HFL.out]; exact L1.out) z1 ?_)
  intro v2 w2 h1 h2 h3
  have o2 : w2.ownsRow base 9 1 v2 (l0 ++ F).length ((l0 ++ F).map tv) := by simpa using h1
  have B2 : Hid (Below base w w2) := (H1.out.mono HT.out.b1).trans h2
  have Q2 : Hid (Ok9 w w2) := (Ok9.of_below H1.out).trans h3
  have T2 := hideP (HT.out.next o2 B2.out L2.out.2)
  have hcell := Ok9.cell h3 HBLK.out (by decide) 4
  simp at hcell
  obtain ⟨x2, y2, eo, hy2⟩ := owns_form o2
  subst eo
  have K := hideP (HC.out w2 base _ _ T2.out L2.out.1)
  have HE : Hid (∀ e w', TokPost base (l0 ++ F) L w2 e w' → TokPost base l0 (F ++ L) w e w') := fun e w' hp => hp.after B2.out Q2.out
  clear h1 h2 h3 o2 CE O1 HBLK T2 L2
  generalize l0 ++ F = M at *
  go_wp2_with fail
  refine K.out.mono ?_
  rintro e w3 hp
  have H := hideP (HE.out _ _ hp)
  obtain ⟨v', rfl, _⟩ := hp
  go_wp2_with fail
  go_ret
  exact H.out
set_option maxHeartbeats 4000000 in
/-- impl.operandTokens -/
theorem operandTokens_any (w0 : World) (t : Pl.Nd Pl.Sv) (v : Value) (hn : Nsk t v) (hc : TkC w0 t v) (w : World) (base : Nat) (v0 : Value) (l0 : List (List UInt8)) (h : Tk w0 w base v0 l0) (hl : l0.length + (opT t).length ≤ 100000000) :
    Calls Tryz.prog 90 #[v0, v] w (TokPost base l0 (opT t) w) := by
  obtain ⟨T, p, fn, fb, rfl, m1, m2, e1, e2, k1, k2⟩ := hn
  have KB := hideP k2
  have HT := hideP h
  have HC : Hid (∀ (w : World) (base : Nat) (v0 : Value) (l0 : List (List UInt8)), Tk w0 w base v0 l0 → l0.length + (Pl.toks (Pl.fa Pl.nt) Pl.ff t).length ≤ 100000000 → Calls Tryz.prog 72 #[v0, .iface T p] w (TokPost base l0 (Pl.toks (Pl.fa Pl.nt) Pl.ff t) w)) := hc
  obtain ⟨xo, yo, rfl, hyo⟩ := owns_form h.ow
  clear k1 k2 m1 e1 hc
  cases hb : Pl.bareN t
  · have HO : Hid (opT t = [40] :: (Pl.toks (Pl.fa Pl.nt) Pl.ff t ++ [[41]])) := by show _ = _; unfold opT; rw [hb]
    rw [HO.out] at hl ⊢
    rw [hb] at KB
    have HA : Hid (∀ (w1 : World), Below w.heap.size w w1 → ∀ ob, (w1.alloc ob).ownsRow base 9 1 (.slice xo l0.length yo) l0.length (l0.map tv) ∧ base ≤ (w1.alloc ob).heap.size ∧ Below w.heap.size w (w1.alloc ob)) := fun w1 hw1 ob => ⟨((HT.out.keep hw1).keep ((Below.refl _ _).alloc (Nat.le_refl _) ob)).ow, ((HT.out.keep hw1).keep ((Below.refl _ _).alloc (Nat.le_refl _) ob)).b1, hw1.alloc hw1.size ob⟩
    have HCX : Hid (∀ (c : UInt8) (w2 : World) (j : Nat) (t : List UInt8), ([[c]] : List (List UInt8))[j]? = some t → (w2.alloc (.cells #[.string ⟨#[c]⟩] 9)).cell? ⟨w2.heap.size, j, none⟩ = some (.string (Pl.ba t))) := fun c w2 j t hj => by
      match j, hj with
      | 0, hj => simp at hj; subst hj; simp [go_sem]; rfl
      | j + 1, hj => simp at hj
    simp only [List.length_cons, List.length_append, List.length_nil] at hl
    have L1 : Hid (l0.length + ([[40]] : List (List UInt8)).length ≤ 4000000000) := by show _ ≤ _; simp; omega
    have L2 : Hid ((l0 ++ [[40]]).length + (Pl.toks (Pl.fa Pl.nt) Pl.ff t).length ≤ 100000000 ∧ (l0 ++ [[40]]).length ≤ 100000000) := by refine ⟨?_, ?_⟩ <;> simp <;> omega
    have L3 : Hid (((l0 ++ [[40]]) ++ Pl.toks (Pl.fa Pl.nt) Pl.ff t).length + ([[41]] : List (List UInt8)).length ≤ 4000000000) := by show _ ≤ _; simp; omega
    have HEND : Hid (∀ w3 e w', Below base w w3 → Ok9 w w3 → TokPost base ((l0 ++ [[40]]) ++ Pl.toks (Pl.fa Pl.nt) Pl.ff t) [[41]] w3 e w' → TokPost base l0 ([40] :: (Pl.toks (Pl.fa Pl.nt) Pl.ff t ++ [[41]])) w e w') := fun w3 e w' h1 h2 h3 => by
      rw [List.append_assoc] at h3
      have := h3.after h1 h2
      simpa using this
    clear hb hl HO h
    generalize Pl.toks (Pl.fa Pl.nt) Pl.ff t = L at *
    go_enter Tryz.func90, Tryz.ntmps90
    go_wp2_with fail
    refine (KB.out _).mono ?_
    rintro e w1 ⟨rfl, hb1⟩
    have H1 := hideP hb1
    clear hb1
    go_wp2_with (at_builtin; refine wpList_append9 (base := base) _ rfl (.tmp 10) (.tmp 11) rfl (.slice xo l0.length yo) (.slice (some ⟨w1.heap.size, 0, none⟩) 1 1) rfl rfl l0 [[40]] 1 w1.heap.size 1 rfl rfl (HA.out _ H1.out _).1 (HCX.out 40 _) L1.out (HA.out _ H1.out _).2.1 ?_)
    intro v1 w2 h1 h2 h3
    have o1 : w2.ownsRow base 9 1 v1 (l0 ++ [[40]]).length ((l0 ++ [[40]]).map tv) := by simpa using h1
    have B2 : Hid (Below base w w2) := ((HA.out _ H1.out _).2.2.mono HT.out.b1).trans h2
    have Q2 : Hid (Ok9 w w2) := (Ok9.of_below (HA.out _ H1.out _).2.2).trans h3
    have T2 := hideP (HT.out.next o1 B2.out L2.out.2)
    obtain ⟨x2, y2, eo, hy2⟩ := owns_form o1
    subst eo
    have K := hideP (HC.out w2 base _ _ T2.out L2.out.1)
    clear h1 h2 h3 o1 HA H1 T2 L2
    generalize l0 ++ [[40]] = M1 at *
    go_wp2_with fail
    refine K.out.mono ?_
    rintro e w3 ⟨v3, rfl, o3, b3, q3⟩
    obtain ⟨x3, y3, eo, hy3⟩ := owns_form o3
    subst eo
    have B3 := hideP (B2.out.trans b3)
    have Q3 := hideP (Q2.out.trans q3)
    have hz3 : base ≤ w3.heap.size := Nat.le_trans HT.out.b1 B3.out.size
    have AL : Hid (∀ ob, Below w3.heap.size w3 (w3.alloc ob)) := fun ob => (Below.refl _ _).alloc (Nat.le_refl _) ob
    have O3 : Hid (∀ ob, (w3.alloc ob).ownsRow base 9 1 (.slice x3 (M1 ++ L).length y3) (M1 ++ L).length ((M1 ++ L).map tv) ∧ base ≤ (w3.alloc ob).heap.size) := fun ob => ⟨owns_keep o3 (AL.out ob), by simp; omega⟩
    have HE := hideP (fun e w' => HEND.out w3 e w' B3.out Q3.out)
    clear o3 b3 q3 HEND B2 Q2 K
    generalize M1 ++ L = M at *
    go_wp2_with (at_builtin; refine wpList_append9 (base := base) _ rfl (.tmp 14) (.tmp 15) rfl (.slice x3 M.length y3) (.slice (some ⟨w3.heap.size, 0, none⟩) 1 1) rfl rfl M [[41]] 1 w3.heap.size 1 rfl rfl (O3.out _).1 (HCX.out 41 _) L3.out (O3.out _).2 ?_)
    intro v4 w4 h1 h2 h3
    have H := hideP (HE.out (.returned v4) w4 ⟨v4, rfl, by simpa using h1, ((AL.out _).mono hz3).trans h2, (Ok9.of_below (AL.out _)).trans h3⟩)
    clear h1 h2 h3
    go_wp2_with fail
    go_ret
    exact H.out
  · have HO : Hid (opT t = Pl.toks (Pl.fa Pl.nt) Pl.ff t) := by show _ = _; unfold opT; rw [hb]
    rw [HO.out] at hl ⊢
    rw [hb] at KB
    have K : Hid (∀ w1, Below w.heap.size w w1 → Calls Tryz.prog 72 #[.slice xo l0.length yo, .iface T p] w1 (TokPost base l0 (Pl.toks (Pl.fa Pl.nt) Pl.ff t) w1)) := fun w1 hw1 => HC.out w1 base _ l0 (HT.out.keep hw1) hl
    have HEND : Hid (∀ w1 e w', Below w.heap.size w w1 → TokPost base l0 (Pl.toks (Pl.fa Pl.nt) Pl.ff t) w1 e w' → TokPost base l0 (Pl.toks (Pl.fa Pl.nt) Pl.ff t) w e w') := fun w1 e w' hw1 h2 => by
      have := TokPost.after (a := []) (by rw [List.append_nil]; exact h2) (hw1.mono HT.out.b1) (Ok9.of_below hw1)
      exact this
    clear hb hl HO h HC
    generalize Pl.toks (Pl.fa Pl.nt) Pl.ff t = L at *
    go_enter Tryz.func90, Tryz.ntmps90
    go_wp2_with fail
    refine (KB.out _).mono ?_
    rintro e w1 ⟨rfl, hb1⟩
    have H1 := hideP hb1
    clear hb1
    go_wp2_with fail
    refine (K.out _ H1.out).mono ?_
    rintro e w2 h2
    have H := hideP (HEND.out _ _ _ H1.out h2)
    obtain ⟨v', rfl, _⟩ := h2
    go_wp2_with fail
    go_ret
    exact H.out
set_option maxHeartbeats 4000000 in
theorem nodeTokens_two (s : Pl.Sv) (l r : Pl.Nd Pl.Sv) (vl vr : Value) (mb mo cp : Nat) (w0 w : World) (he : Ev w0 mb mo cp) (hn : Nsk l vl) (hi : ∃ T p, vr = .iface T p) (hcl : TkC w0 l vl) (hcr : TkC w0 r vr) (base : Nat) (v0 : Value) (l0 : List (List UInt8)) (h : Tk w0 w base v0 l0) (hl : l0.length + (opT l ++ (Pl.ftk s.fn ++ Pl.toks (Pl.fa Pl.nt) Pl.ff r)).length ≤ 100000000) :
    Calls Tryz.prog 72 #[v0, .iface 138 (.agg #[vl, .int .i64 s.fn.k, .int .i64 s.fn.a, .int .i64 s.fn.b, .string (Pl.ba s.fn.nm), vr])] w (TokPost base l0 (opT l ++ (Pl.ftk s.fn ++ Pl.toks (Pl.fa Pl.nt) Pl.ff r)) w) := by
  obtain ⟨T, p, rfl⟩ := hi
  have hnl : ∃ T p, vl = .iface T p := by obtain ⟨T, p, _, _, h, _⟩ := hn; exact ⟨T, p, h⟩
  have HT := hideP h
  have HC : Hid (∀ (w : World) (base : Nat) (v0 : Value) (l0 : List (List UInt8)), Tk w0 w base v0 l0 → l0.length + (Pl.toks (Pl.fa Pl.nt) Pl.ff r).length ≤ 100000000 → Calls Tryz.prog 72 #[v0, .iface T p] w (TokPost base l0 (Pl.toks (Pl.fa Pl.nt) Pl.ff r) w)) := hcr
  rw [List.length_append, List.length_append] at hl
  have KO : Hid (∀ o, Calls Tryz.prog 90 #[v0, vl] (w.alloc o) (TokPost base l0 (opT l) (w.alloc o))) := fun o => operandTokens_any w0 l vl hn hcl (w.alloc o) base v0 l0 (HT.out.keep ((Below.refl _ _).alloc (Nat.le_refl _) o)) (by omega)
  obtain ⟨Tl, pl, rfl⟩ := hnl
  obtain ⟨xo, yo, rfl, hyo⟩ := owns_form h.ow
  have t1 := ta128_121 (.agg #[.iface Tl pl, .int .i64 s.fn.k, .int .i64 s.fn.a, .int .i64 s.fn.b, .string (Pl.ba s.fn.nm), .iface T p])
  have t2 := ta128_123 (.agg #[.iface Tl pl, .int .i64 s.fn.k, .int .i64 s.fn.a, .int .i64 s.fn.b, .string (Pl.ba s.fn.nm), .iface T p])
  have t3 := ta128_125 (.agg #[.iface Tl pl, .int .i64 s.fn.k, .int .i64 s.fn.a, .int .i64 s.fn.b, .string (Pl.ba s.fn.nm), .iface T p])
  have t4 := ta128_128 (.agg #[.iface Tl pl, .int .i64 s.fn.k, .int .i64 s.fn.a, .int .i64 s.fn.b, .string (Pl.ba s.fn.nm), .iface T p])
  have HB : Hid (∀ o, Below w.heap.size w (w.alloc o)) := fun o => (Below.refl _ _).alloc (Nat.le_refl _) _
  have HK : Hid (∀ o, (w.alloc o).heap[w.heap.size]? = some o) := fun o => heap_alloc_new w o
  have KF : Hid (∀ w', Below w0.heap.size w0 w' → Calls Tryz.prog 89 #[.agg #[.int .i64 s.fn.k, .int .i64 s.fn.a, .int .i64 s.fn.b, .string (Pl.ba s.fn.nm)]] w' (FnkPost (Pl.ftk s.fn) w')) := fun w' h => fnTokens_any s.fn mb mo cp w' (he.keep h).mt
  have L1 : Hid ((l0 ++ opT l).length + (Pl.ftk s.fn).length ≤ 4000000000 ∧ (l0 ++ opT l).length ≤ 100000000) := by rw [List.length_append]; exact ⟨by omega, by omega⟩
  have L2 : Hid (((l0 ++ opT l) ++ Pl.ftk s.fn).length + (Pl.toks (Pl.fa Pl.nt) Pl.ff r).length ≤ 100000000 ∧ ((l0 ++ opT l) ++ Pl.ftk s.fn).length ≤ 100000000) := by rw [List.length_append, List.length_append]; exact ⟨by omega, by omega⟩
  have HEND : Hid (∀ w2 e w', Below base w w2 → Ok9 w w2 → TokPost base ((l0 ++ opT l) ++ Pl.ftk s.fn) (Pl.toks (Pl.fa Pl.nt) Pl.ff r) w2 e w' → TokPost base l0 (opT l ++ (Pl.ftk s.fn ++ Pl.toks (Pl.fa Pl.nt) Pl.ff r)) w e w') := fun w2 e w' h1 h2 h3 => by
    rw [List.append_assoc] at h3
    have := h3.after h1 h2
    rw [List.append_assoc] at this
    exact this
  clear he hcl hcr hl h hn
  generalize Pl.toks (Pl.fa Pl.nt) Pl.ff r = L at *
  generalize opT l = OL at *
  generalize hF : Pl.ftk s.fn = F at *
  clear hF
  generalize Pl.ba s.fn.nm = fnm at *
  generalize s.fn.k = fk at *
  generalize s.fn.a = fa at *
  generalize s.fn.b = fb at *
  go_enter Tryz.func72, Tryz.ntmps72
  go_wp2_with fail
  refine (KO.out _).mono ?_
  rintro e w1 ⟨v1, rfl, o1, b1, q1⟩
  have B1 : Hid (Below base w w1) := ((HB.out _).mono HT.out.b1).trans b1
  have Q1 : Hid (Ok9 w w1) := (Ok9.of_below (HB.out _)).trans q1
  have HBLK := hideP (q1.2 _ _ _ _ (HK.out _) (by decide))
  have T1 := hideP (HT.out.next o1 B1.out L1.out.2)
  have c1 := cell_blk HBLK.out 1
  have c2 := cell_blk HBLK.out 2
  have c3 := cell_blk HBLK.out 3
  have c4 := cell_blk HBLK.out 4
  simp at c1 c2 c3 c4
  obtain ⟨x1, y1, eo, hy1⟩ := owns_form o1
  subst eo
  clear o1 b1 q1 KO
  generalize l0 ++ OL = M at *
  go_wp2_with fail
  refine (KF.out _ T1.out.hw).mono ?_
  rintro e w2 ⟨fb1, rfl, hcells, hb2, hf1, hf2⟩
  have Q2 := hideP (Ok9.of_below hb2)
  have HBK2 := hideP (Q2.out.2 _ _ _ _ HBLK.out (by decide))
  have T2 := hideP (T1.out.keep hb2)
  have B2 := hideP (B1.out.trans (hb2.mono T1.out.b1))
  have CE := hideP hcells
  have z2 := T2.out.b1
  clear hcells hb2 hf1 hf2 KF c1 c2 c3 c4 HBLK
  generalize hFL : F.length = fl at *
  have HFL := hideP hFL
  clear hFL
  go_wp2_with (at_builtin; refine wpList_append9 (base := base) w2 rfl (.tmp 55) (.tmp 58) rfl (.slice x1 M.length y1) (.slice (some ⟨fb1, 0, none⟩) fl fl) rfl rfl M F fl fb1 fl HFL.out.symm rfl T2.out.ow CE.out (by rw [HFL.out]; exact L1.out.1) z2 ?_)
  intro v3 w3 h1 h2 h3
  have o3 : w3.ownsRow base 9 1 v3 (M ++ F).length ((M ++ F).map tv) := by simpa using h1
  have B3 : Hid (Below base w w3) := B2.out.trans h2
  have Q3 : Hid (Ok9 w w3) := (Q1.out.trans Q2.out).trans h3
  have T3 := hideP (T2.out.next o3 h2 L2.out.2)
  have hcell := Ok9.cell h3 HBK2.out (by decide) 5
  simp at hcell
  obtain ⟨x3, y3, eo, hy3⟩ := owns_form o3
  subst eo
  have K := hideP (HC.out w3 base _ _ T3.out L2.out.1)
  have HE := hideP (fun e w' => HEND.out w3 e w' B3.out Q3.out)
  clear h1 h2 h3 o3 CE HBK2 HEND T3 L2
  generalize M ++ F = M2 at *
  go_wp2_with fail
  refine K.out.mono ?_
  rintro e w4 hp
  have H := hideP (HE.out _ _ hp)
  obtain ⟨v', rfl, _⟩ := hp
  go_wp2_with fail
  go_ret
  exact H.out
/-- impl.nodeTokens -/
theorem nodeTokens_any (mb mo cp : Nat) (w0 : World) (he : Ev w0 mb mo cp) : ∀ (t : Pl.Nd Pl.Sv) (v : Value), NdV w0.heap.size w0 t v → t.post.length ≤ 1048576 → (∀ s ∈ t.post, Pl.sok s = true) → TkC w0 t v := by
  intro t
  induction t with
  | «at» s =>
    intro v hv hl hs
    have hsok := hs s (by simp [Pl.Nd.post])
    rcases hv with ⟨hk, an, cn, rfl, hr⟩ | ⟨hk, rfl⟩
    · intro w base v0 l0 h _
      have e : Pl.toks (Pl.fa Pl.nt) Pl.ff (.at s) = s.nums.map Pl.nt := by simp [Pl.toks, Pl.fa, hk]
      rw [e]
      exact nodeTokens_nums s an cn mb mo cp w0 w he hr (Pl.sok_nums hsok hk).1 (Pl.sok_nums hsok hk).2 base v0 l0 h
    · intro w base v0 l0 h _
      have e : Pl.toks (Pl.fa Pl.nt) Pl.ff (.at s) = [s.nm] := by simp [Pl.toks, Pl.fa, hk]
      rw [e]
      exact nodeTokens_name s w0 w base v0 l0 h
  | one s r ih =>
    intro v hv hl hs
    obtain ⟨vr, rfl, hr⟩ := hv
    simp only [Pl.Nd.post, List.length_append, List.length_cons, List.length_nil] at hl
    intro w base v0 l0 h hb
    exact nodeTokens_one s r vr mb mo cp w0 w he hr.iface (ih vr hr (by omega) (fun x hx => hs x (by simp [Pl.Nd.post, hx]))) base v0 l0 h hb
  | two s l r il ir =>
    intro v hv hl hs
    obtain ⟨vl, vr, rfl, hvl, hvr⟩ := hv
    simp only [Pl.Nd.post, List.length_append, List.length_cons, List.length_nil] at hl
    intro w base v0 l0 h hb
    exact nodeTokens_two s l r vl vr mb mo cp w0 w he (hvl.nsk (by omega)) hvr.iface (il vl hvl (by omega) (fun x hx => hs x (by simp [Pl.Nd.post, hx]))) (ir vr hvr (by omega) (fun x hx => hs x (by simp [Pl.Nd.post, hx]))) base v0 l0 h hb
theorem NdV.up {B B' : Nat} {w : World} (hb : B ≤ B') : ∀ {t : Pl.Nd Pl.Sv} {v : Value}, NdV B w t v → NdV B' w t v := by
  intro t
  induction t with
  | «at» s =>
    intro v h
    rcases h with ⟨h1, an, cn, h2, h3⟩ | h
    · exact .inl ⟨h1, an, cn, h2, h3.up hb⟩
    · exact .inr h
  | one s r ih =>
    intro v h
    obtain ⟨vr, h1, h2⟩ := h
    exact ⟨vr, h1, ih h2⟩
  | two s l r il ir =>
    intro v h
    obtain ⟨vl, vr, h1, h2, h3⟩ := h
    exact ⟨vl, vr, h1, il h2, ir h3⟩
namespace Pl
theorem run_posts {c : List Sv} {t : Nd Sv} (h : run ar c [] = some [t]) : c = t.post ∧ t.Wf ar := by
  have h2 := (run_iff c t).1 h
  obtain ⟨hp, hw⟩ := par_post _ _ _ _ h2
  exact ⟨by simpa using congrArg List.reverse hp, hw⟩
theorem ftk_len (f : Fnv) : (ftk f).length ≤ 3 := by
  unfold ftk
  split
  · simp
  split
  · simp
  split
  · simp
  split
  · simp
  split <;> simp
theorem csz_app (a b : List Sv) : csz (a ++ b) = csz a + csz b := by
  unfold csz
  rw [List.map_append, List.sum_append, List.length_append]
  omega
theorem csz_one (s : Sv) : csz [s] = 1 + s.nums.length := by simp [csz]
theorem toks_len : ∀ t : Nd Sv, (toks (fa nt) ff t).length ≤ 5 * csz t.post := by
  intro t
  induction t with
  | «at» s =>
    simp only [toks, fa, Nd.post, csz_one]
    split
    · rw [List.length_map]; omega
    · simp; omega
  | one s r ih =>
    have := ftk_len s.fn
    simp only [toks, ff, Nd.post, csz_app, csz_one, List.length_append]
    omega
  | two s l r il ir =>
    have := ftk_len s.fn
    simp only [toks, ff, Nd.post, csz_app, csz_one, List.length_append]
    cases bareN l <;> simp only [List.length_append, List.length_cons, List.length_nil] <;> omega
theorem ftk_tok {f : Fnv} (h : f.k = 10 → wk f.nm = 3) : ∀ t ∈ ftk f, t.length ≤ 30 := by
  have s1 := sgn_len ⟨5, f.a, 0, []⟩
  have s2 := sgn_len ⟨5, f.b, 0, []⟩
  have s3 := sgn_len f
  intro t ht
  unfold ftk osg at ht
  split at ht
  · simp at ht; rcases ht with rfl | rfl <;> (first | omega | simp)
  split at ht
  · simp at ht; rcases ht with rfl | rfl <;> (first | omega | simp)
  split at ht
  · simp at ht; rcases ht with rfl | rfl <;> (first | omega | simp)
  split at ht
  · simp at ht; rcases ht with rfl | rfl | rfl <;> (first | omega | simp)
  split at ht
  · rename_i h10
    simp at ht
    subst ht
    have := wk_len (s := f.nm) (by rw [h h10]; decide)
    omega
  · simp at ht; subst ht; omega
theorem toks_tok : ∀ t : Nd Sv, AllN (fun s => sok s = true ∧ ar s = 0) (fun s => sok s = true ∧ ar s ≠ 0) t → ∀ x ∈ toks (fa nt) ff t, x.length ≤ 30 := by
  intro t
  induction t with
  | «at» s =>
    intro h x hx
    simp only [toks, fa] at hx
    split at hx
    · rename_i h1
      obtain ⟨n, hn, rfl⟩ := List.mem_map.1 hx
      have hr := (sok_nums h.1 h1).1 n hn
      have := nt_len n (by omega) (by omega)
      omega
    · rename_i h1
      simp at hx
      subst hx
      have h2 : s.k = 2 := by
        rcases sok_kind h.1 with k | k | k | k
        · exact absurd k h1
        · exact k
        · exact absurd h.2 (by simp [ar, k])
        · exact absurd h.2 (by simp [ar, k])
      have hs := h.1
      unfold sok at hs
      rw [if_neg h1, if_pos h2] at hs
      simp only [Bool.and_eq_true, decide_eq_true_eq] at hs
      have := wk_len (s := s.nm) (by rw [hs.1.1]; decide)
      omega
  | one s r ih =>
    intro h x hx
    simp only [toks, ff] at hx
    rcases List.mem_append.1 hx with hx | hx
    · exact ftk_tok (fn_call h.1.1 h.1.2) x hx
    · exact ih h.2 x hx
  | two s l r il ir =>
    intro h x hx
    simp only [toks, ff] at hx
    rcases List.mem_append.1 hx with hx | hx
    · cases hb : bareN l with
      | true => rw [hb] at hx; exact il h.2.1 x hx
      | false =>
        rw [hb] at hx
        simp only [List.mem_cons, List.mem_append, List.not_mem_nil, or_false] at hx
        rcases hx with rfl | hx | rfl
        · simp
        · exact il h.2.1 x hx
        · simp
    · rcases List.mem_append.1 hx with hx | hx
      · exact ftk_tok (fn_call h.1.1 h.1.2) x hx
      · exact ir h.2.2 x hx
theorem txt_ne : ∀ t : Nd Sv, AllN (fun s => sok s = true ∧ ar s = 0) (fun s => sok s = true ∧ ar s ≠ 0) t → txt (ta nt) tf t ≠ [] := by
  intro t h
  cases t with
  | «at» s =>
    show ta nt s ≠ []
    unfold ta fa
    split
    · rename_i h1
      have hs := h.1
      unfold sok at hs
      rw [if_pos h1] at hs
      simp only [numsB, Bool.and_eq_true, decide_eq_true_eq] at hs
      match e : s.nums, hs with
      | [], hs => simp at hs
      | x :: l, _ =>
        obtain ⟨c, r, hc, _⟩ := nt_head x
        simp [sp, hc]
    · rename_i h1
      have h2 : s.k = 2 := by
        rcases sok_kind h.1 with k | k | k | k
        · exact absurd k h1
        · exact k
        · exact absurd h.2 (by simp [ar, k])
        · exact absurd h.2 (by simp [ar, k])
      have hs := h.1
      unfold sok at hs
      rw [if_neg h1, if_pos h2] at hs
      simp only [Bool.and_eq_true, decide_eq_true_eq] at hs
      intro e
      have : s.nm = [] := by simpa [sp, spt] using e
      rw [this] at hs
      exact absurd hs.1.1 (by decide)
  | one s r => simp [txt]
  | two s l r => simp [txt]
theorem xt_of_run {c : List Sv} {t : Nd Sv} (h1 : c.all sok = true) (h2 : run ar c [] = some [t]) : xt nt c = if nest t ≤ 40 then some (sp tg (toks (fa nt) ff t)) else none := by
  rw [← xt_eq nt_fine c]
  unfold xtI
  rw [if_pos h1, h2]
theorem xt_of_not {c : List Sv} (h : ∀ t, ¬ (c.all sok = true ∧ run ar c [] = some [t])) : xt nt c = none := by
  rw [← xt_eq nt_fine c]
  unfold xtI
  split
  · rename_i h1
    split
    · rename_i t e; exact absurd ⟨h1, e⟩ (h t)
    · rfl
  · rfl
theorem node_facts {c : List Sv} {t : Nd Sv} (hsm : Small c) (h1 : c.all sok = true) (h2 : run ar c [] = some [t]) : t.post.length ≤ 1048576 ∧ (∀ s ∈ t.post, sok s = true) ∧ (toks (fa nt) ff t).length ≤ 10000000 ∧ (∀ x ∈ toks (fa nt) ff t, x.length ≤ 30) ∧ sp tg (toks (fa nt) ff t) ≠ [] := by
  obtain ⟨hp, hw⟩ := run_posts h2
  have hs : ∀ s ∈ t.post, sok s = true := by rw [← hp]; exact List.all_eq_true.1 h1
  have ha := all_post hw hs
  refine ⟨by rw [← hp]; exact hsm.len, hs, ?_, toks_tok t ha, ?_⟩
  · have := toks_len t
    have h3 := hsm.sz
    rw [hp] at h3
    omega
  · rw [node_text nt_fine hw hs]
    exact txt_ne t ha
end Pl
theorem ret_x {a b : ByteArray} {x y : Bool} (h : a = b) (h2 : x = y) : Ending.returned (.tuple #[.string a, .bool x]) = .returned (.tuple #[.string b, .bool y]) := by rw [h, h2]
set_option maxHeartbeats 8000000 in
/-- impl.exprText -/
theorem exprText_any (c : List Pl.Sv) (ao : Option Addr) (cap mb mo cp : Nat) (hsm : Pl.Small c) (w : World) (he : Ev w mb mo cp) (hR : RdS w.heap.size w ao c) :
    Calls Tryz.prog 45 #[.slice ao c.length cap] w fun e w' => e = .returned (.tuple #[.string (Pl.ba ((Pl.xt Pl.nt c).getD [])), .bool (Pl.xt Pl.nt c).isSome]) ∧ Below w.heap.size w w' := by
  have K := hideP (nodeOf_any c ao cap mb mo cp hsm w he.mt hR)
  have HSM := hideP hsm
  have HEV := hideP he
  clear hR he hsm
  generalize c.length = L at *
  generalize hx : Pl.xt Pl.nt c = x at *
  have HX := hideP hx
  clear hx
  go_enter Tryz.func45, Tryz.ntmps45
  go_wp2_with fail
  refine K.out.mono ?_
  rintro e w1 ⟨hb1, hpost⟩
  have H1 := hideP hb1
  clear hb1
  rcases hpost with ⟨t, v, hall, hrun, rfl, hv⟩ | ⟨hno, rfl⟩
  · have HXT := hideP (Pl.xt_of_run hall hrun)
    obtain ⟨f1, f2, f3, f4, f5⟩ := Pl.node_facts HSM.out hall hrun
    have hv1 : NdV w1.heap.size w1 t v := hv.up H1.out.size
    have hev1 : Ev w1 mb mo cp := HEV.out.keep H1.out
    have TC := hideP (nodeTokens_any mb mo cp w1 hev1 t v hv1 f1 f2)
    have NS := hv1.nsk f1
    have K60 : Hid (∀ w2, Below w1.heap.size w1 w2 → Calls Tryz.prog 72 #[.slice none 0 0, v] w2 (TokPost w1.heap.size [] (Pl.toks (Pl.fa Pl.nt) Pl.ff t) w2)) := fun w2 h2 => TC.out w2 w1.heap.size (.slice none 0 0) [] ⟨h2, Nat.le_refl _, h2.size, World.ownsRow_nil _ _ _ _, by simp⟩ (by simp; omega)
    have KSP : Hid (∀ (g cap' : Nat) w3, g < w3.heap.size → (∀ (j : Nat) (y : List UInt8), (Pl.toks (Pl.fa Pl.nt) Pl.ff t)[j]? = some y → w3.cell? ⟨g, j, none⟩ = some (.string (Pl.ba y))) → Calls Tryz.prog 71 #[.slice (some ⟨g, 0, none⟩) (Pl.toks (Pl.fa Pl.nt) Pl.ff t).length cap'] w3 fun e w' => e = .returned (.string (Pl.ba (Pl.sp Pl.tg (Pl.toks (Pl.fa Pl.nt) Pl.ff t)))) ∧ Below w3.heap.size w3 w') := fun g cap' w3 hg hc => spaced_any _ g cap' w3 hg f3 f4 hc f5
    have HPOS : Hid (0 < (Pl.toks (Pl.fa Pl.nt) Pl.ff t).length) := by
      refine List.length_pos_iff.2 (fun e => f5 ?_)
      rw [e]; rfl
    obtain ⟨T, p, fn, fb, rfl, m1, m2, e1, e2, k1, k2⟩ := NS
    have KN := hideP k1
    have hnb : Pl.nest t ≤ 1048576 := by have := Pl.nest_le t; omega
    clear k1 k2 m2 e2 hall hrun hv hv1 hev1 TC f1 f2 f3 f4 f5
    generalize Pl.toks (Pl.fa Pl.nt) Pl.ff t = TT at *
    generalize Pl.nest t = q at *
    go_wp2_with fail
    refine (KN.out _).mono ?_
    rintro e w2 ⟨rfl, hb2⟩
    have H2 := hideP hb2
    clear hb2
    by_cases hq : q ≤ 40
    · have HXX := hideP (show x = some (Pl.sp Pl.tg TT) by rw [← HX.out, HXT.out, if_pos hq])
      have hq' : ¬ ((q : Int) > 40) := by omega
      go_wp2_with fail
      refine (K60.out _ H2.out).mono ?_
      rintro e w3 ⟨v3, rfl, o3, b3, _⟩
      rw [List.nil_append] at o3
      obtain ⟨m, hm⟩ : ∃ m, TT.length = m + 1 := ⟨TT.length - 1, by have := HPOS.out; omega⟩
      rw [hm] at o3
      obtain ⟨g, cg, rfl⟩ := owns_succ o3
      have hglt := (o3.lt g rfl).2
      have K59 := hideP (KSP.out g cg w3 hglt (fun j y hj => by
        have hj2 := (List.getElem?_eq_some_iff.1 hj).1
        have := o3.cellAt j (by omega)
        rw [this, List.getElem?_map, hj]
        rfl))
      rw [hm] at K59
      have B3 : Hid (Below w.heap.size w w3) := H1.out.trans ((H2.out.mono H1.out.size).trans (b3.mono H1.out.size))
      clear o3 b3 KSP K60
      go_wp2_with (go_at_call 71; refine K59.out.mono ?_; rintro e w4 ⟨rfl, hb4⟩)
      go_ret2
      exact ⟨ret_x (by rw [HXX.out]; rfl) (by rw [HXX.out]; rfl), B3.out.trans (hb4.mono B3.out.size)⟩
    · have HXX := hideP (show x = none by rw [← HX.out, HXT.out, if_neg hq])
      have hq' : (q : Int) > 40 := by omega
      clear K60 KSP
      go_wp2_with fail
      go_ret2
      exact ⟨ret_x (by rw [HXX.out]; rfl) (by rw [HXX.out]; rfl), H1.out.trans (H2.out.mono H1.out.size)⟩
  · have HXX := hideP (show x = none by rw [← HX.out]; exact Pl.xt_of_not hno)
    clear hno
    go_wp2_with fail
    go_ret2
    exact ⟨ret_x (by rw [HXX.out]; rfl) (by rw [HXX.out]; rfl), H1.out⟩
namespace Pl
theorem gtx_len {l : List Gv} {P : List UInt8} (h : gtx nt l = some P) : P.length ≤ 40 * gsum l l.length + 5 * l.length := by
  have := gx_len (gtx_get h) l.length (Nat.le_refl _)
  rw [gx_all h] at this
  exact this
theorem gtx_step {l : List Gv} {k : Nat} {g : Gv} (h : l[k]? = some g) {P a b : List UInt8} (hp : gtx nt (l.take k) = some P) (ha : xt nt g.test = some a) (hb : xt nt g.thn = some b) : gtx nt (l.take (k + 1)) = some (P ++ (a ++ [32, 58, 32] ++ b ++ [59, 32])) := by
  rw [List.take_add_one, h]
  show gtx nt (l.take k ++ [g]) = _
  rw [gtx_snoc, hp, ha, hb]
theorem gsum_take (l : List Gv) (k : Nat) (hk : k ≤ l.length) : gsum (l.take k) (l.take k).length ≤ gsum l l.length := by
  have h1 := gsum_le l k
  have h2 : (l.take k).length = k := by rw [List.length_take]; omega
  rw [h2]
  unfold gsum at *
  rw [List.take_take, Nat.min_self]
  exact h1
end Pl
set_option maxHeartbeats 8000000 in
/-- impl.guardsText -/
theorem guardsText_any (gs : List Pl.Gv) (ao : Option Addr) (cap mb mo cp : Nat) (hsm : ∀ g ∈ gs, Pl.Small g.test ∧ Pl.Small g.thn) (hz : gs.length + Pl.gsum gs gs.length ≤ 1048576) (w : World) (he : Ev w mb mo cp) (hR : RdG w.heap.size w ao gs) :
    Calls Tryz.prog 46 #[.slice ao gs.length cap] w fun e w' => e = .returned (.tuple #[.string (Pl.ba ((Pl.gtx Pl.nt gs).getD [])), .bool (Pl.gtx Pl.nt gs).isSome]) ∧ Below w.heap.size w w' := by
  have HG : Hid (∀ k, k < gs.length → ∃ g b off, gs[k]? = some g ∧ g ∈ gs ∧ ao = some ⟨b, off, none⟩ ∧ b < w.heap.size ∧ ∃ a1 a2 c1 c2, ∀ w', Below w.heap.size w w' → Gd w.heap.size w' b (off + k * 2) g a1 a2 c1 c2) := fun k hk => by
    rcases hR with rfl | ⟨b, off, hb, rfl, hc⟩
    · cases hk
    · obtain ⟨a1, a2, c1, c2, h⟩ := hc k gs[k] (List.getElem?_eq_getElem hk)
      exact ⟨gs[k], b, off, List.getElem?_eq_getElem hk, List.getElem_mem hk, rfl, hb, a1, a2, c1, c2, fun w' hw => h.keep hb hw⟩
  have HN : Hid (∀ g ∈ gs, (Pl.xt Pl.nt g.test = none ∨ Pl.xt Pl.nt g.thn = none) → Pl.gtx Pl.nt gs = none) := fun g hg h => Pl.gtx_none hg h
  have HS : Hid (∀ k g P a b, gs[k]? = some g → Pl.gtx Pl.nt (gs.take k) = some P → Pl.xt Pl.nt g.test = some a → Pl.xt Pl.nt g.thn = some b → Pl.gtx Pl.nt (gs.take (k + 1)) = some (P ++ (a ++ [32, 58, 32] ++ b ++ [59, 32]))) := fun k g P a b h1 h2 h3 h4 => Pl.gtx_step h1 h2 h3 h4
  have HL : Hid (∀ k P, k ≤ gs.length → Pl.gtx Pl.nt (gs.take k) = some P → P.length ≤ 100000000) := fun k P hk h => by
    have h1 := Pl.gtx_len h
    have h2 := Pl.gsum_take gs k hk
    have h3 : (gs.take k).length ≤ gs.length := by rw [List.length_take]; omega
    omega
  have HE : Hid (∀ P, Pl.gtx Pl.nt (gs.take gs.length) = some P → Pl.gtx Pl.nt gs = some P) := fun P h => by rwa [List.take_length] at h
  have HP : Hid (∀ k P, 0 < k → k ≤ gs.length → Pl.gtx Pl.nt (gs.take k) = some P → P ≠ []) := fun k P h0 hk h => by
    obtain ⟨j, rfl⟩ : ∃ j, k = j + 1 := ⟨k - 1, by omega⟩
    have hj : j < gs.length := hk
    have hmem : gs[j] ∈ gs.take (j + 1) := by
      rw [List.take_add_one, List.getElem?_eq_getElem hj]
      exact List.mem_append_right _ (List.mem_cons_self ..)
    obtain ⟨a, b, ha, hb⟩ := Pl.gtx_get h _ hmem
    cases e : Pl.gtx Pl.nt (gs.take j) with
    | none =>
      have : Pl.gtx Pl.nt (gs.take (j + 1)) = none := by
        rw [List.take_add_one, List.getElem?_eq_getElem hj]
        show Pl.gtx Pl.nt (gs.take j ++ [gs[j]]) = none
        rw [Pl.gtx_snoc, e]
      rw [this] at h; cases h
    | some P0 =>
      rw [Pl.gtx_step (List.getElem?_eq_getElem hj) e ha hb] at h
      rw [← Option.some.inj h]
      simp
  have HX : Hid (∀ g ∈ gs, ∀ (ao' : Option Addr) (cap' : Nat) w', Below w.heap.size w w' → (RdS w.heap.size w' ao' g.test → Calls Tryz.prog 45 #[.slice ao' g.test.length cap'] w' fun e w2 => e = .returned (.tuple #[.string (Pl.ba ((Pl.xt Pl.nt g.test).getD [])), .bool (Pl.xt Pl.nt g.test).isSome]) ∧ Below w'.heap.size w' w2) ∧ (RdS w.heap.size w' ao' g.thn → Calls Tryz.prog 45 #[.slice ao' g.thn.length cap'] w' fun e w2 => e = .returned (.tuple #[.string (Pl.ba ((Pl.xt Pl.nt g.thn).getD [])), .bool (Pl.xt Pl.nt g.thn).isSome]) ∧ Below w'.heap.size w' w2)) := fun g hg ao' cap' w' h => ⟨fun hr => exprText_any g.test ao' cap' mb mo cp (hsm g hg).1 w' (he.keep h) (hr.up h.size), fun hr => exprText_any g.thn ao' cap' mb mo cp (hsm g hg).2 w' (he.keep h) (hr.up h.size)⟩
  have HXL : Hid (∀ g ∈ gs, (Pl.ba ((Pl.xt Pl.nt g.test).getD [])).size ≤ 50000000 ∧ (Pl.ba ((Pl.xt Pl.nt g.thn).getD [])).size ≤ 50000000) := fun g hg => by
    have h1 := (hsm g hg).1.sz
    have h2 := (hsm g hg).2.sz
    constructor
    · cases e : Pl.xt Pl.nt g.test with
      | none => simp [Pl.ba_size]
      | some x => have := Pl.xt_len e; show x.length ≤ _; omega
    · cases e : Pl.xt Pl.nt g.thn with
      | none => simp [Pl.ba_size]
      | some x => have := Pl.xt_len e; show x.length ≤ _; omega
  have T0 := hideP (Tx.new w)
  have B0 : Hid (Below w.heap.size w (w.alloc (.cells #[.pointer none, .slice none 0 0] 68))) := (Below.refl _ _).alloc (Nat.le_refl _) _
  have C0 : Hid ((w.alloc (.cells #[.pointer none, .slice none 0 0] 68)).cell? ⟨w.heap.size, 1, none⟩ = some (.slice none 0 0)) := by show _ = _; simp [go_sem]
  have hln : gs.length ≤ 1048576 := by omega
  clear hR he hsm hz
  generalize hx : Pl.gtx Pl.nt gs = x at *
  clear hx
  generalize hn : gs.length = n at *
  clear hn
  go_enter Tryz.func46, Tryz.ntmps46
  go_wp2_with fail
  go_loopw [13] (fun iv wr => ∃ (k : Nat) (P : List UInt8), k ≤ n ∧ iv = .int .i64 k ∧ Hid (Pl.gtx Pl.nt (gs.take k) = some P ∧ Tx w.heap.size w.heap.size P wr ∧ (k = 0 → wr.cell? ⟨w.heap.size, 1, none⟩ = some (.slice none 0 0))) ∧ Hid (Below w.heap.size w wr)) (fun iv _ => n - (intOf iv).toNat)
  case atStart => exact ⟨0, [], Nat.zero_le _, rfl, ⟨rfl, T0.out, fun _ => C0.out⟩, B0⟩
  case round =>
    rename World => wo
    obtain ⟨k, P, hk, rfl, HH, BB⟩ := hrel
    have hbs := BB.out.size
    have hpl := HL.out k P hk HH.out.1
    by_cases hlt : k < n
    · obtain ⟨g, b, off, hg, hgm, rfl, hb, a1, a2, c1, c2, hgd⟩ := HG.out k hlt
      obtain ⟨g0, g1, r0, r1⟩ := hgd _ BB.out
      have N := hideP (HN.out g hgm)
      have S := hideP (fun a b => HS.out k g P a b hg HH.out.1)
      have BA : Hid (∀ o', Below wo.heap.size wo (wo.alloc o')) := fun o' => (Below.refl _ _).alloc (Nat.le_refl _) _
      have K1 : Hid (∀ w', Below wo.heap.size wo w' → Calls Tryz.prog 45 #[.slice a1 g.test.length c1] w' fun e w2 => e = .returned (.tuple #[.string (Pl.ba ((Pl.xt Pl.nt g.test).getD [])), .bool (Pl.xt Pl.nt g.test).isSome]) ∧ Below w'.heap.size w' w2) := fun w' h => (HX.out g hgm a1 c1 w' (BB.out.trans (h.mono hbs))).1 (r0.keep (h.mono hbs))
      have K2 : Hid (∀ w', Below wo.heap.size wo w' → Calls Tryz.prog 45 #[.slice a2 g.thn.length c2] w' fun e w2 => e = .returned (.tuple #[.string (Pl.ba ((Pl.xt Pl.nt g.thn).getD [])), .bool (Pl.xt Pl.nt g.thn).isSome]) ∧ Below w'.heap.size w' w2) := fun w' h => (HX.out g hgm a2 c2 w' (BB.out.trans (h.mono hbs))).2 (r1.keep (h.mono hbs))
      have CC : Hid (∀ (w1 w' : World) (j : Nat) (v : Value), Below w1.heap.size w1 w' → wo.heap.size < w1.heap.size → w1.cell? ⟨wo.heap.size, j, none⟩ = some v → w'.cell? ⟨wo.heap.size, j, none⟩ = some v) := fun w1 w' j v hb h1 h => (hb.cell (p := ⟨wo.heap.size, j, none⟩) h1).trans h
      obtain ⟨hl1, hl2⟩ := HXL.out g hgm
      have HTX : Hid (∀ w', Below wo.heap.size wo w' → Tx w.heap.size w.heap.size P w') := fun w' h => HH.out.2.1.keep h
      clear HG HN HS HL HE HP HX HXL hg hgm hgd r0 r1 HH
      generalize hxt : Pl.xt Pl.nt g.test = xt1 at *
      generalize hxh : Pl.xt Pl.nt g.thn = xt2 at *
      clear hxt hxh
      generalize g.test.length = l1 at *
      generalize g.thn.length = l2 at *
      cases xt1 with
      | none =>
        have HR := hideP (N.out (.inl rfl))
        simp only [Option.getD_none, Option.isSome_none] at K1
        generalize xt2.isSome = ok2 at *
        generalize Pl.ba (xt2.getD []) = s2 at *
        go_wp2_with fail
        refine (K1.out _ (BA.out _)).mono ?_
        rintro e w2 ⟨rfl, hb2⟩
        have d1 := CC.out _ _ 1 _ hb2 (by simp) (by simp [go_sem]; rfl)
        have H2 := hideP ((BA.out _).trans (hb2.mono (by simp)))
        clear hb2
        go_wp2_with (go_at_call 45; refine (K2.out _ H2.out).mono ?_; rintro e w3 ⟨rfl, hb3⟩)
        go_ret2
        exact ⟨ret_x (by rw [HR.out]; rfl) (by rw [HR.out]; rfl), BB.out.trans ((H2.out.trans (hb3.mono H2.out.size)).mono hbs)⟩
      | some sa =>
        simp only [Option.getD_some, Option.isSome_some] at K1 hl1
        cases xt2 with
        | none =>
          have HR := hideP (N.out (.inr rfl))
          simp only [Option.getD_none, Option.isSome_none] at K2
          generalize Pl.ba sa = s1 at *
          go_wp2_with fail
          refine (K1.out _ (BA.out _)).mono ?_
          rintro e w2 ⟨rfl, hb2⟩
          have d1 := CC.out _ _ 1 _ hb2 (by simp) (by simp [go_sem]; rfl)
          have H2 := hideP ((BA.out _).trans (hb2.mono (by simp)))
          clear hb2
          go_wp2_with (go_at_call 45; refine (K2.out _ H2.out).mono ?_; rintro e w3 ⟨rfl, hb3⟩)
          go_ret2
          exact ⟨ret_x (by rw [HR.out]; rfl) (by rw [HR.out]; rfl), BB.out.trans ((H2.out.trans (hb3.mono H2.out.size)).mono hbs)⟩
        | some sb =>
          simp only [Option.getD_some, Option.isSome_some] at K2 hl2
          have HR := hideP (S.out sa sb rfl rfl)
          have HD : Hid ((Pl.ba sa ++ ⟨#[32, 58, 32]⟩ ++ Pl.ba sb ++ ⟨#[59, 32]⟩ : ByteArray).data.toList = sa ++ [32, 58, 32] ++ sb ++ [59, 32]) := by show _ = _; simp [Pl.ba]
          have HDS : Hid ((Pl.ba sa ++ ⟨#[32, 58, 32]⟩ ++ Pl.ba sb ++ ⟨#[59, 32]⟩ : ByteArray).size ≤ 1000000000) := by
            show _ ≤ _
            rw [Pl.sz_eq, HD.out]
            rw [Pl.ba_size] at hl1 hl2
            simp
            omega
          have m1 : ¬ (9223372036854775807 < (Pl.ba sa).size + 3) := by omega
          have m2 : ¬ (9223372036854775807 < (Pl.ba sa).size + 3 + (Pl.ba sb).size) := by omega
          have m3 : ¬ (9223372036854775807 < (Pl.ba sa).size + 3 + (Pl.ba sb).size + 2) := by omega
          generalize Pl.ba sa = s1 at *
          generalize Pl.ba sb = s2 at *
          go_wp2_with fail
          refine (K1.out _ (BA.out _)).mono ?_
          rintro e w2 ⟨rfl, hb2⟩
          have d1 := CC.out _ _ 1 _ hb2 (by simp) (by simp [go_sem]; rfl)
          have H2 := hideP ((BA.out _).trans (hb2.mono (by simp)))
          clear hb2
          go_wp2_with fail
          refine (K2.out _ H2.out).mono ?_
          rintro e w3 ⟨rfl, hb3⟩
          have H3 := hideP (H2.out.trans (hb3.mono H2.out.size))
          have X3 := hideP (HTX.out _ H3.out)
          have B3 := hideP (BB.out.trans (H3.out.mono hbs))
          clear hb3 K1 K2
          go_wp2_with fail
          refine (tx_str w.heap.size w.heap.size P _ _ X3.out (by omega) HDS.out B3.out.size).mono ?_
          rintro e w4 ⟨rfl, h1, h2⟩
          rw [HD.out] at h1
          have X4 := hideP h1
          have B4 := hideP (B3.out.trans h2)
          clear h1 h2
          go_wp2_with fail
          go_roundw
          case rel => exact ⟨k + 1, _, by omega, by go_num, ⟨HR.out, X4.out, fun h => by omega⟩, B4⟩
          case measure => simp [intOf]; omega
    · obtain rfl : k = n := by omega
      obtain ⟨h1, h2, h3⟩ := HH.out
      have HR := hideP (HE.out P h1)
      by_cases k0 : k = 0
      · have hcell := h3 k0
        have hP : P = [] := by
          rw [k0] at h1
          exact (Option.some.inj h1).symm
        have K := hideP (tx_nil w.heap.size wo hcell)
        have HPN := hideP hP
        clear HG HN HS HL HE HP HX HXL HH h1 h2 h3 hcell hP k0
        go_wp2_with (go_at_call 28; refine K.out.mono ?_; rintro e w' ⟨rfl, hb⟩)
        go_ret2
        exact ⟨ret_x (by rw [HR.out, HPN.out]; rfl) (by rw [HR.out]; rfl), BB.out.trans (hb.mono hbs)⟩
      · have hP := HP.out k P (by omega) hk h1
        have K : Hid (Calls Tryz.prog 28 #[.pointer (some ⟨w.heap.size, 0, none⟩)] wo fun e w' => e = .returned (.string (Pl.ba P)) ∧ Below w.heap.size wo w') := string_any w.heap.size w.heap.size P wo h2 hP
        clear HG HN HS HL HE HP HX HXL HH h1 h2 h3 hP k0
        go_wp2_with (go_at_call 28; refine K.out.mono ?_; rintro e w' ⟨rfl, hb⟩)
        go_ret2
        exact ⟨ret_x (by rw [HR.out]; rfl) (by rw [HR.out]; rfl), BB.out.trans hb⟩
end Go.Proofs.YthhfpcdbgndioaaGreatDoor
