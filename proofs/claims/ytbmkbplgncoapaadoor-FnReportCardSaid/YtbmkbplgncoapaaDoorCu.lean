import Derived.Test.YtbmkbplgncoapaaDoorPy
import Derived.Laws.Strings2
namespace Go.Proofs.YtbmkbplgncoapaaDoor
open Go.RowKit
set_option linter.unusedVariables false

/-- a byte of a string -/
theorem bt_idx (s : ByteArray) (k : Nat) (h : k < s.size) (w : World) : (Instr.index 9 (.string s) (.int .i64 k)).run Tryd.prog w = .ok (.int .u8 ((s.data.toList.getD k 0).toNat : Int)) w := by
  rw [run_index_string w 9 s .i64 k Tryd.underlying9, dif_pos ⟨by omega, by omega⟩]
  have h' : k < s.data.toList.length := by rw [Array.length_toList]; exact h
  have e : (s[k]'h).toNat = (s.data.toList.getD k 0).toNat := by
    rw [List.getD_eq_getElem?_getD, List.getElem?_eq_getElem h']
    rfl
  simp only [Int.toNat_natCast, e]

/-- append of one element -/
theorem wpList_app1 {base : Nat} (w : World) {ops : Array Oper} {rest : List Oper} {o : Oper} {a : Act} {Q : Exit → Act → World → Prop} (hg : o.guard = none) (s x : Operand) (t e : TypeId) (z : Value) (bytes : Nat)
    (hop : o.op = Op.call { callee := Callee.builtin Builtin.append, args := #[s, x], argTypes := #[t, t] }) (ht : Tryd.prog.underlying t = some (.slice e)) (hinfo : (Tryd.prog.info? e).map (fun i => (i.zero, i.size, i.bytes)) = some (some z, 1, bytes)) (hz : z.cells.size = 1) (hby : bytes ≤ 16)
    (v : Value) (hs : a.eval s = v) (b : Nat) (hx : a.eval x = .slice (some ⟨b, 0, none⟩) 1 1) (n : Nat) (xs : List Value) (y : Value)
    (hown : w.ownsRow base e 1 v n xs) (hc : w.cell? ⟨b, 0, none⟩ = some y) (h1 : y.oneCell' = true) (hbd : n + 1 ≤ 2097152) (hbase : base ≤ w.heap.size)
    (hK : ∀ v' w', w'.ownsRow base e 1 v' (n + 1) (xs ++ [y]) → w.grownBy w' v.ownBlock → wpList Tryd.prog ops Q rest (a.put o.dst v') w') : wpList Tryd.prog ops Q (o :: rest) a w := by
  obtain ⟨i0, hi, hz0, hz1, hz2⟩ := info_parts hinfo
  obtain ⟨v', w', hr, ho, hg', _⟩ := run_append_own (P := Tryd.prog) w base t o.type e i0 z 1 bytes ht hi hz0 hz1 hz2 hz (by decide) v n _ hown ⟨b, 0, none⟩ 1 1 [y] rfl
    (by
      intro j u hj
      match j, hj with
      | 0, hj =>
        simp at hj
        subst hj
        rw [Addr.add_lit]
        exact hc
      | j + 1, hj => simp at hj)
    (by
      intro u hu
      rw [List.mem_singleton.1 hu]
      exact h1) (by unfold maxLen; omega) (Nat.le_trans (Nat.mul_le_mul hbd hby) (by decide)) hbase
  refine wpList_plain hg fun K hK' => ?_
  unfold Oper.wp
  simp [execOp, hop, resolve, invoke, builtin, hs, hx, hr, Result.andThen]
  exact hK' _ _ (hK v' w' ho hg')

abbrev bl (s : ByteArray) : List UInt8 := s.data.toList
theorem bl_len (s : ByteArray) : (bl s).length = s.size := by rw [Array.length_toList]; rfl
theorem bl_extract (s : ByteArray) (i j : Nat) : bl (s.extract i j) = ((bl s).drop i).take (j - i) := by
  show (s.extract i j).data.toList = _
  rw [ByteArray.data_extract, Array.toList_extract, List.extract_eq_take_drop]

/-- the state of the cutting -/
def Ct (c : UInt8) (s : ByteArray) (done : List ByteArray) (f k : Nat) : Prop :=
  (k ≤ s.size ∧ f ≤ k ∧ Pl.cuts c (bl s) = done.map bl ++ Pl.cuts c ((bl s).drop f) ∧ c ∉ ((bl s).drop f).take (k - f)) ∨ (k = s.size + 1 ∧ done.map bl = Pl.cuts c (bl s))
theorem Ct.start (c : UInt8) (s : ByteArray) : Ct c s [] 0 0 := .inl ⟨Nat.zero_le _, Nat.le_refl _, rfl, by simp⟩
theorem Ct.le {c : UInt8} {s : ByteArray} {done : List ByteArray} {f k : Nat} (h : Ct c s done f k) (hk : k ≤ s.size) : f ≤ k := by
  rcases h with h | h
  · exact h.2.1
  · omega
theorem take_next (l : List UInt8) (f k : Nat) (hf : f ≤ k) (hk : k < l.length) : (l.drop f).take (k + 1 - f) = (l.drop f).take (k - f) ++ [l.getD k 0] := by
  rw [show k + 1 - f = (k - f) + 1 by omega, List.take_add_one]
  congr 1
  rw [List.getElem?_drop, show f + (k - f) = k by omega, List.getElem?_eq_getElem hk, List.getD_eq_getElem?_getD, List.getElem?_eq_getElem hk]
  rfl
theorem drop_at (l : List UInt8) (f k : Nat) (hf : f ≤ k) (hk : k < l.length) : l.drop f = (l.drop f).take (k - f) ++ l.getD k 0 :: l.drop (k + 1) := by
  have e : l.drop f = (l.drop f).take (k - f) ++ (l.drop f).drop (k - f) := (List.take_append_drop _ _).symm
  rw [List.drop_drop, show f + (k - f) = k by omega, List.drop_eq_getElem_cons hk] at e
  rw [List.getD_eq_getElem?_getD, List.getElem?_eq_getElem hk]
  exact e
theorem Ct.miss {c : UInt8} {s : ByteArray} {done : List ByteArray} {f k : Nat} (h : Ct c s done f k) (hk : k < s.size) (hc : ¬ (bl s).getD k 0 = c) : Ct c s done f (k + 1) := by
  rcases h with ⟨_, h2, h3, h4⟩ | h
  · refine .inl ⟨hk, by omega, h3, ?_⟩
    rw [take_next _ _ _ h2 (by rw [bl_len]; exact hk)]
    intro hm
    rcases List.mem_append.1 hm with hm | hm
    · exact h4 hm
    · exact hc (List.mem_singleton.1 hm).symm
  · omega
theorem Ct.hit {c : UInt8} {s : ByteArray} {done : List ByteArray} {f k : Nat} (h : Ct c s done f k) (hk : k < s.size) (hc : (bl s).getD k 0 = c) : Ct c s (done ++ [s.extract f k]) (k + 1) (k + 1) := by
  rcases h with ⟨_, h2, h3, h4⟩ | h
  · refine .inl ⟨hk, Nat.le_refl _, ?_, by simp⟩
    have e := drop_at (bl s) f k h2 (by rw [bl_len]; exact hk)
    rw [hc] at e
    rw [h3, List.map_append, List.map_cons, List.map_nil, bl_extract]
    conv => lhs; rw [e]
    rw [Pl.cuts_app c _ _ h4, List.append_assoc]
    rfl
  · omega
theorem Ct.last {c : UInt8} {s : ByteArray} {done : List ByteArray} {f k : Nat} (h : Ct c s done f k) (hk : k = s.size) : Ct c s (done ++ [s.extract f k]) (k + 1) (k + 1) := by
  rcases h with ⟨_, h2, h3, h4⟩ | h
  · refine .inr ⟨by omega, ?_⟩
    have e : ((bl s).drop f).take (k - f) = (bl s).drop f := List.take_of_length_le (by rw [List.length_drop, bl_len]; omega)
    rw [e] at h4
    rw [h3, List.map_append, List.map_cons, List.map_nil, bl_extract, e, Pl.cuts_one c _ h4]
  · omega
theorem Ct.done {c : UInt8} {s : ByteArray} {done : List ByteArray} {f k : Nat} (h : Ct c s done f k) (hk : ¬ k ≤ s.size) : done.map bl = Pl.cuts c (bl s) := by
  rcases h with h | h
  · omega
  · exact h.2

theorem owns_form {base n : Nat} {e : TypeId} {w : World} {v : Value} {xs : List Value} (h : w.ownsRow base e 1 v n xs) : ∃ xo yo, v = .slice xo n yo := by
  rcases h.2 with ⟨e, h0⟩ | ⟨g, cp, cur, e, _⟩
  · exact ⟨none, 0, by rw [h0]; exact e⟩
  · exact ⟨_, _, e⟩

set_option maxRecDepth 100000 in
set_option maxHeartbeats 4000000 in
/-- spec.l1Cut -/
theorem l1Cut_any (s : ByteArray) (c : UInt8) (ci : Int) (hci : ci = c.toNat) (w : World) (hl : s.size ≤ 1048576) :
    Calls Tryd.prog 48 #[.string s, .int .u8 ci] w fun e w' => ∃ (v : Value) (done : List ByteArray), e = .returned v ∧ w'.ownsRow w.heap.size 9 1 v done.length (done.map Value.string) ∧ done.map bl = Pl.cuts c (bl s) ∧ Below w.heap.size w w' := by
  have OE : Hid ((w.alloc (.cells #[] 9)).ownsRow w.heap.size 9 1 (.slice (some ⟨w.heap.size, 0, none⟩) 0 0) ([] : List ByteArray).length (([] : List ByteArray).map Value.string)) := World.ownsRow_lit w #[] 0 (Nat.le_refl _) (by unfold maxLen; omega) rfl
  have BE : Hid (Below w.heap.size w (w.alloc (.cells #[] 9))) := (Below.refl _ _).alloc (Nat.le_refl _) _
  have HCI := hideP hci
  clear hci
  go_enter Tryd.func48, Tryd.ntmps48
  go_wp2_with fail
  go_loopw [5, 6, 7] (fun ov fr i wr => ∃ (k f : Nat) (done : List ByteArray), k ≤ s.size + 1 ∧ i = .int .i64 (k : Int) ∧ fr = .int .i64 (f : Int) ∧ f ≤ s.size + 1 ∧ done.length ≤ k ∧ Hid (wr.ownsRow w.heap.size 9 1 ov done.length (done.map Value.string)) ∧ Hid (Below w.heap.size w wr) ∧ Hid (Ct c s done f k)) (fun _ _ i _ => s.size + 1 - (intOf i).toNat)
  case atStart => exact ⟨0, 0, [], Nat.zero_le _, rfl, rfl, Nat.zero_le _, Nat.le_refl _, OE, BE, Ct.start c s⟩
  case round =>
    obtain ⟨k, f, done, hk, rfl, rfl, hf, hdl, hO, BB, hct⟩ := hrel
    obtain ⟨xo, yo, eo⟩ := owns_form hO.out
    subst eo
    by_cases hle : k ≤ s.size
    · have hle' : (k : Int) ≤ (s.size : Int) := by omega
      have hfk := hct.out.le hle
      have hfk' : (f : Int) ≤ (k : Int) := by omega
      have AL : Hid (Below wr.heap.size wr (wr.alloc (.cells #[.string (s.extract f k)] 9))) := (Below.refl _ _).alloc (Nat.le_refl _) _
      have OA := hideP (owns_keep hO.out AL.out)
      have BA := hideP (BB.out.trans (AL.out.mono BB.out.size))
      have hsA := hideP BA.out.size
      have CA : Hid ((wr.alloc (.cells #[.string (s.extract f k)] 9)).cell? ⟨wr.heap.size, 0, none⟩ = some (.string (s.extract f k))) := by show _ = _; simp [go_sem]
      have HB1 : Hid (done.length + 1 ≤ 2097152) := by show _ ≤ _; omega
      by_cases hend : k = s.size
      · have he : ((k : Int) == (s.size : Int)) = true := by rw [beq_iff_eq]; omega
        have HC := hideP (hct.out.last hend)
        clear hend
        go_wp2_with (at_builtin; refine wpList_app1 (base := w.heap.size) (wr.alloc (.cells #[.string (s.extract f k)] 9)) rfl (.tmp 26) (.tmp 31) 68 9 (.string ByteArray.empty) 16 rfl Tryd.underlying68 Tryd.info9 rfl (by decide) (.slice xo done.length yo) rfl wr.heap.size rfl done.length (done.map Value.string) (.string (s.extract f k)) OA.out CA.out rfl HB1.out hsA.out ?_)
        intro v2 w2 ho2 hg2
        have B2 : Hid (Below w.heap.size w w2) := BA.out.grown hg2 hsA.out (fun k hk => (OA.out.lt k hk).1)
        have O2 : Hid (w2.ownsRow w.heap.size 9 1 v2 (done ++ [s.extract f k]).length ((done ++ [s.extract f k]).map Value.string)) := by
          show World.ownsRow _ _ _ _ _ _ _
          rw [List.map_append, List.length_append]
          exact ho2
        clear ho2 hg2
        go_wp2_with fail
        go_roundw
        case rel => exact ⟨k + 1, k + 1, _, by omega, by go_num, by go_num, by omega, by simp; omega, O2, B2, HC⟩
        case measure => simp [intOf]; omega
      · have hlt : k < s.size := by omega
        have he : ((k : Int) == (s.size : Int)) = false := by rw [beq_eq_false_iff_ne]; omega
        have hix := bt_idx s k hlt
        by_cases hcx : (bl s).getD k 0 = c
        · have hx : (((s.data.toList.getD k 0).toNat : Int) == ci) = true := by rw [beq_iff_eq, HCI.out, ← hcx]
          have HC := hideP (hct.out.hit hlt hcx)
          clear hcx hend
          generalize ((s.data.toList.getD k 0).toNat : Int) = x at *
          go_wp2_with (at_builtin; refine wpList_app1 (base := w.heap.size) (wr.alloc (.cells #[.string (s.extract f k)] 9)) rfl (.tmp 26) (.tmp 31) 68 9 (.string ByteArray.empty) 16 rfl Tryd.underlying68 Tryd.info9 rfl (by decide) (.slice xo done.length yo) rfl wr.heap.size rfl done.length (done.map Value.string) (.string (s.extract f k)) OA.out CA.out rfl HB1.out hsA.out ?_)
          intro v2 w2 ho2 hg2
          have B2 : Hid (Below w.heap.size w w2) := BA.out.grown hg2 hsA.out (fun k hk => (OA.out.lt k hk).1)
          have O2 : Hid (w2.ownsRow w.heap.size 9 1 v2 (done ++ [s.extract f k]).length ((done ++ [s.extract f k]).map Value.string)) := by
            show World.ownsRow _ _ _ _ _ _ _
            rw [List.map_append, List.length_append]
            exact ho2
          clear ho2 hg2
          go_wp2_with fail
          go_roundw
          case rel => exact ⟨k + 1, k + 1, _, by omega, by go_num, by go_num, by omega, by simp; omega, O2, B2, HC⟩
          case measure => simp [intOf]; omega
        · have hx : (((s.data.toList.getD k 0).toNat : Int) == ci) = false := by
            rw [beq_eq_false_iff_ne, HCI.out]
            intro e
            exact hcx (UInt8.toNat_inj.1 (Int.ofNat_inj.1 e))
          have HC := hideP (hct.out.miss hlt hcx)
          clear hcx hend
          generalize ((s.data.toList.getD k 0).toNat : Int) = x at *
          go_wp2_with fail
          go_roundw
          case rel => exact ⟨k + 1, f, done, by omega, by go_num, rfl, by omega, by omega, hO, BB, HC⟩
          case measure => simp [intOf]; omega
    · have hle' : ¬ (k : Int) ≤ (s.size : Int) := by omega
      have HD := hideP (hct.out.done hle)
      go_wp2_with fail
      go_ret
      exact ⟨_, rfl, done, hO.out, HD.out, BB.out⟩

end Go.Proofs.YtbmkbplgncoapaaDoor
