import Derived.Test.YtmobjomebmipdaaValid
namespace Go.Proofs.Ytmobjomebmipdaa
open Go.RowKit
set_option linter.unusedVariables false

/-- append(nil, make([]T, n)...), n above 0 -/
theorem run_append_make_nil {P : Program} (w : World) (t it ty e : TypeId) (i : TypeInfo) (z : Value) (ht : P.underlying t = some (.slice e)) (hit : P.underlying it = some (.int .i64)) (hi : P.info? e = some i) (hz : i.zero = some z) (hs : i.size = 1)
    (n : Nat) (h0 : 0 < n) (h63 : (n : Int) ≤ 9223372036854775807) (h48 : n * i.bytes ≤ 281474976710656) :
    (Builtin.append_ #[t, it] ty #[.slice none 0 0, .int .i64 (n : Int)]).run P w =
      .ok (.slice (some ⟨w.heap.size, 0, none⟩) n (grownCap w n 0 e)) (w.drew.alloc (.cells (Builtin.zeroCells z.cells n ++ Builtin.zeroCells z.cells (grownCap w n 0 e - n)) e)) := by
  have hn : n ≠ 0 := by omega
  have h63' : ¬ (9223372036854775807 < (n : Int)) := by omega
  have h48' : ¬ (281474976710656 < Builtin.nextslicecap n 0 * i.bytes) := by rw [nextslicecap_zero h0]; omega
  have hw : IntKind.i64.wrap (n : Int) = (n : Int) := by
    rw [IntKind.wrap_i64]; omega
  have hb : ¬ (281474976710656 < (n : Int) * (i.bytes : Int)) := by
    have : ((n * i.bytes : Nat) : Int) ≤ 281474976710656 := by omega
    rw [Int.natCast_mul] at this; omega
  have hneg : ¬ ((n : Int) < 0) := by omega
  simp [Builtin.append_, run_underlying ht, run_underlying hit, sizeOf, typeInfo, zeroValue, hi, hz, hs, hn, h63', h48', hw, hb, hneg, asInt, asIntOf, Question.forced, run_firstCells_none, newRow, grownCap]


/-- an append whose run is known -/
theorem wpList_append_eq {P : Program} (w w' : World) {ops : Array Oper} {rest : List Oper} {o : Oper} {a : Act} {Q : Exit → Act → World → Prop} (hg : o.guard = none) (s x : Operand) (ts : Array TypeId)
    (hop : o.op = Op.call { callee := Callee.builtin Builtin.append, args := #[s, x], argTypes := ts }) (vs vx v : Value) (hs : a.eval s = vs) (hx : a.eval x = vx) (hrun : (Builtin.append_ ts o.type #[vs, vx]).run P w = .ok v w')
    (hK : wpList P ops Q rest (a.put o.dst v) w') : wpList P ops Q (o :: rest) a w := by
  refine wpList_plain hg fun K hK' => ?_
  unfold Oper.wp
  simp [execOp, hop, resolve, invoke, builtin, hs, hx, hrun, Result.andThen]
  exact hK' _ _ hK

/-- slices.Grow of nil -/
theorem grow_zero (w : World) : Calls Try.prog 151 #[.slice none 0 0, .int .i64 0] w fun e w' => e = .returned (.slice none 0 0) ∧ w' = w := by
  go_enter Try.func151, Try.ntmps151
  go_wp2
  go_ret
  exact ⟨rfl, rfl⟩

set_option maxRecDepth 100000 in
theorem grow_pos (n : Nat) (w : World) (h0 : 0 < n) (h1 : n ≤ 4194304) : Calls Try.prog 151 #[.slice none 0 0, .int .i64 (n : Int)] w fun e w' => ∃ cap, e = .returned (.slice (some ⟨w.heap.size, 0, none⟩) 0 cap) ∧ n ≤ cap ∧
    w'.ownsRow w.heap.size 3 1 (.slice (some ⟨w.heap.size, 0, none⟩) 0 cap) 0 [] ∧ Below w.heap.size w w' := by
  obtain ⟨i0, hi, hz0, hz1, hz2⟩ := info_parts Try.info3
  have hrun := run_append_make_nil (P := Try.prog) w 22 3 22 3 i0 (.int .i64 0) Try.underlying22 Try.underlying3 hi hz0 hz1 n h0 (by omega) (by rw [hz2]; omega)
  have hge := grownCap_ge w n 0 3
  have hle := grownCap_le_maxLen w n 0 3 (by unfold maxLen; omega)
  have R : Hid ((w.drew.alloc (.cells (Builtin.zeroCells (Value.int .i64 0).cells n ++ Builtin.zeroCells (Value.int .i64 0).cells (grownCap w n 0 3 - n)) 3)).ownsRow w.heap.size 3 1 (.slice (some ⟨w.heap.size, 0, none⟩) 0 (grownCap w n 0 3)) 0 []) := by
    refine World.ownsRow_made (base := w.heap.size) (e := 3) (size := 1) w.drew _ _ (Nat.le_refl _) hle ?_
    have e : (Value.int .i64 0).cells.size = 1 := rfl
    simp [size_zeroCells, e]
    omega
  have Hge := hideP hge
  clear hi hz0 hz1 hz2 hge hle
  generalize Builtin.zeroCells (Value.int .i64 0).cells n ++ Builtin.zeroCells (Value.int .i64 0).cells (grownCap w n 0 3 - n) = cs at *
  generalize grownCap w n 0 3 = cap at *
  have HR := hideP hrun
  clear hrun
  go_enter Try.func151, Try.ntmps151
  go_wp2_with (at_builtin; refine wpList_append_eq _ _ rfl _ _ _ rfl _ _ _ rfl rfl HR.out ?_)
  go_ret
  exact ⟨cap, rfl, Hge.out, R.out, (Below.refl _ _).drew.alloc (Nat.le_refl _) _⟩


/-- append(v, u...), v the call's own, u whatever reads as numbers -/
theorem append_rd {base B : Nat} (w : World) (v : Value) (n : Nat) (ys : List Int) (hown : w.ownsRow base 3 1 v n (ys.map (Value.int .i64))) (u : Value) (xs : List Int) (hrd : Rd B w u xs) (hbd : n + xs.length ≤ 16777216) (hbase : base ≤ w.heap.size) (ty : TypeId) :
    ∃ v' w', (Builtin.append_ #[22, 22] ty #[v, u]).run Try.prog w = .ok v' w' ∧ w'.ownsRow base 3 1 v' (n + xs.length) ((ys ++ xs).map (Value.int .i64)) ∧ Below base w w' := by
  obtain ⟨i0, hi, hz0, hz1, hz2⟩ := info_parts Try.info3
  obtain ⟨ao, cap, rfl, h⟩ := hrd
  rcases h with h | ⟨b, off, hB, rfl, hc⟩
  · obtain rfl := List.length_eq_zero_iff.1 h
    refine ⟨v, w, ?_, by simpa using hown, Below.refl _ _⟩
    rcases hown.2 with ⟨rfl, rfl⟩ | ⟨g, cp, cur, rfl, _, _, hnc, _⟩
    · cases ao <;> simp [Builtin.append_, run_underlying Try.underlying22, sizeOf, typeInfo, hi, Builtin.lenOf, Builtin.firstCells, loadCells, loadCellsFrom]
    · cases ao <;> simp [Builtin.append_, run_underlying Try.underlying22, sizeOf, typeInfo, hi, Builtin.lenOf, Builtin.firstCells, loadCells, loadCellsFrom, hnc, storeCells]
  · obtain ⟨v', w', hr, ho, hg, _⟩ := run_append_own (P := Try.prog) w base 22 ty 3 i0 (.int .i64 0) 1 8 Try.underlying22 hi hz0 hz1 hz2 rfl (by decide) v n _ hown ⟨b, off, none⟩ xs.length cap (xs.map (Value.int .i64)) (by simp)
      (by
        intro j x hj
        rw [List.getElem?_map] at hj
        obtain ⟨y, hy, rfl⟩ := Option.map_eq_some_iff.1 hj
        have hlt : j < xs.length := (List.getElem?_eq_some_iff.1 hy).1
        rw [Addr.add_lit, hc j hlt]
        simp [List.getD, hy])
      (ints_oneCell _ _) (by unfold maxLen; omega) (by omega) hbase
    refine ⟨v', w', hr, by simpa using ho, ?_⟩
    exact (Below.refl base w).grown hg hbase (fun k hk => (hown.lt k hk).1)

theorem wpList_append_rd {base B : Nat} (w : World) {ops : Array Oper} {rest : List Oper} {o : Oper} {a : Act} {Q : Exit → Act → World → Prop} (hg : o.guard = none) (s x : Operand)
    (hop : o.op = Op.call { callee := Callee.builtin Builtin.append, args := #[s, x], argTypes := #[22, 22] }) (v u : Value) (hs : a.eval s = v) (hx : a.eval x = u) (n : Nat) (ys xs : List Int)
    (hown : w.ownsRow base 3 1 v n (ys.map (Value.int .i64))) (hrd : Rd B w u xs) (hbd : n + xs.length ≤ 16777216) (hbase : base ≤ w.heap.size)
    (hK : ∀ v' w', w'.ownsRow base 3 1 v' (n + xs.length) ((ys ++ xs).map (Value.int .i64)) → Below base w w' → wpList Try.prog ops Q rest (a.put o.dst v') w') : wpList Try.prog ops Q (o :: rest) a w := by
  obtain ⟨v', w', hr, ho, hb⟩ := append_rd w v n ys hown u xs hrd hbd hbase o.type
  exact wpList_append_eq w w' hg s x _ hop v u v' hs hx hr (hK v' w' ho hb)


/-- the call's own slice, whatever its capacity -/
theorem own_of_any {base n : Nat} {w : World} {v : Value} {zs : List Int} (h : w.ownsRow base 3 1 v n (zs.map (Value.int .i64))) : Own base w v zs := by
  have hn : zs.length = n := by have := h.1; simpa using this
  rcases h.2 with ⟨rfl, rfl⟩ | ⟨g, cap, cur, rfl, r⟩
  · obtain rfl := List.length_eq_zero_iff.1 hn
    exact Own.nil _ _
  · exact own_of_owns h hn

/-- slices.Grow of nil, as its caller uses it -/
theorem grow_any (n : Nat) (w : World) (h1 : n ≤ 4194304) : Calls Try.prog 151 #[.slice none 0 0, .int .i64 (n : Int)] w fun e w' => ∃ v, e = .returned v ∧ w'.ownsRow w.heap.size 3 1 v 0 (([] : List Int).map (Value.int .i64)) ∧ Below w.heap.size w w' := by
  by_cases h0 : n = 0
  · subst h0
    refine (grow_zero w).mono ?_
    rintro e w' ⟨rfl, rfl⟩
    exact ⟨_, rfl, World.ownsRow_nil _ _ _ _, Below.refl _ _⟩
  · refine (grow_pos n w (by omega) h1).mono ?_
    rintro e w' ⟨cap, rfl, _, ho, hb⟩
    exact ⟨_, rfl, ho, hb⟩

set_option maxHeartbeats 1000000 in
/-- slices.Concat of one list -/
theorem concat1 (b : Nat) (u : Value) (xs : List Int) (w : World) (hl : xs.length ≤ 1048576) (hb : b < w.heap.size) (c0 : w.cell? ⟨b, 0, none⟩ = some u) (h0 : Rd w.heap.size w u xs) :
    Calls Try.prog 136 #[.slice (some ⟨b, 0, none⟩) 1 1] w fun e w' => ∃ v, e = .returned v ∧ w'.ownsRow w.heap.size 3 1 v xs.length (xs.map (Value.int .i64)) ∧ Below w.heap.size w w' := by
  obtain ⟨a0, d0, e0⟩ := h0.form
  have H0 := hideP h0
  have HC0 := hideP c0
  have HE := hideP e0
  rw [e0] at c0
  clear h0 e0
  go_enter Try.func136, Try.ntmps136
  go_wp2_with fail
  go_loop [3, 5, 11] (fun s _ i => (i = .int .i64 0 ∧ s = .int .i64 0) ∨ (i = .int .i64 1 ∧ s = .int .i64 xs.length)) (fun _ _ i => 1 - (intOf i).toNat)
  case atStart => exact .inl ⟨rfl, rfl⟩
  case round =>
    rcases hrel with ⟨rfl, rfl⟩ | ⟨rfl, rfl⟩
    · go_wp2_with fail
      go_round
      case rel => exact .inr ⟨rfl, by go_num⟩
      case measure => simp [intOf]
    · go_wp2_with fail
      refine (grow_any xs.length _ (by omega)).mono ?_
      rintro e w1 ⟨v1, rfl, ho1, hb1⟩
      have HO := hideP ho1
      have HB := hideP hb1
      clear ho1 hb1 c0
      go_wp2_with fail
      go_loopw [6, 8, 27] (fun nv _ i wr => ((i = .int .i64 0 ∧ Hid (wr.ownsRow w.heap.size 3 1 nv 0 (([] : List Int).map (Value.int .i64)))) ∨ (i = .int .i64 1 ∧ Hid (wr.ownsRow w.heap.size 3 1 nv xs.length (xs.map (Value.int .i64))))) ∧ Hid (Below w.heap.size w wr)) (fun _ _ i _ => 1 - (intOf i).toNat)
      case atStart => exact ⟨.inl ⟨rfl, HO⟩, HB⟩
      case round =>
        obtain ⟨⟨rfl, ho⟩ | ⟨rfl, ho⟩, hbel⟩ := hrel
        · have c0 : wr.cell? ⟨b, 0, none⟩ = some (.slice a0 xs.length d0) := by rw [← HE.out]; exact (hbel.out.cell (p := ⟨b, 0, none⟩) hb).trans HC0.out
          have RD : Hid (Rd w.heap.size wr (.slice a0 xs.length d0) xs) := by
            have := H0.out.keep hbel.out
            rw [HE.out] at this
            exact this
          have SZ : Hid (w.heap.size ≤ wr.heap.size) := hbel.out.size
          go_wp2_with (at_builtin; refine wpList_append_rd _ rfl _ _ rfl _ _ rfl rfl 0 [] xs ho.out RD.out (by omega) SZ.out ?_)
          intro v' w' ho' hb'
          have HO' : Hid (w'.ownsRow w.heap.size 3 1 v' xs.length (xs.map (Value.int .i64))) := ho'
          have HB' := hideP (hbel.out.trans hb')
          clear ho' hb' c0
          go_wp2_with fail
          go_roundw
          case rel => exact ⟨.inr ⟨rfl, HO'⟩, HB'⟩
          case measure => simp [intOf]
        · go_wp2_with fail
          go_ret
          exact ⟨_, rfl, ho.out, hbel.out⟩


set_option maxHeartbeats 2000000 in
/-- slices.Concat of two lists -/
theorem concat2 (b : Nat) (u t : Value) (xs ys : List Int) (w : World) (hl : xs.length ≤ 1048576) (hl' : ys.length ≤ 1048576) (hb : b < w.heap.size) (c0 : w.cell? ⟨b, 0, none⟩ = some u) (c1 : w.cell? ⟨b, 1, none⟩ = some t)
    (h0 : Rd w.heap.size w u xs) (h1 : Rd w.heap.size w t ys) :
    Calls Try.prog 136 #[.slice (some ⟨b, 0, none⟩) 2 2] w fun e w' => ∃ v, e = .returned v ∧ w'.ownsRow w.heap.size 3 1 v (xs ++ ys).length ((xs ++ ys).map (Value.int .i64)) ∧ Below w.heap.size w w' := by
  obtain ⟨a0, d0, e0⟩ := h0.form
  obtain ⟨a1, d1, e1⟩ := h1.form
  have H0 := hideP h0
  have H1 := hideP h1
  have HC0 := hideP c0
  have HC1 := hideP c1
  have HE := hideP e0
  have HE1 := hideP e1
  rw [e0] at c0
  rw [e1] at c1
  clear h0 h1 e0 e1
  have HS : Hid ((xs ++ ys).length = xs.length + ys.length) := by show _ = _; simp
  go_enter Try.func136, Try.ntmps136
  go_wp2_with fail
  go_loop [3, 5, 11] (fun s _ i => (i = .int .i64 0 ∧ s = .int .i64 0) ∨ (i = .int .i64 1 ∧ s = .int .i64 xs.length) ∨ (i = .int .i64 2 ∧ s = .int .i64 (xs.length + ys.length : Nat))) (fun _ _ i => 2 - (intOf i).toNat)
  case atStart => exact .inl ⟨rfl, rfl⟩
  case round =>
    rcases hrel with ⟨rfl, rfl⟩ | ⟨rfl, rfl⟩ | ⟨rfl, rfl⟩
    · go_wp2_with fail
      go_round
      case rel => exact .inr (.inl ⟨rfl, by go_num⟩)
      case measure => simp [intOf]
    · go_wp2_with fail
      go_round
      case rel => exact .inr (.inr ⟨rfl, by go_num⟩)
      case measure => simp [intOf]
    · go_wp2_with fail
      refine (grow_any (xs.length + ys.length) _ (by omega)).mono ?_
      rintro e w1 ⟨v1, rfl, ho1, hb1⟩
      have HO := hideP ho1
      have HB := hideP hb1
      clear ho1 hb1 c0 c1
      go_wp2_with fail
      go_loopw [6, 8, 27] (fun nv _ i wr => ((i = .int .i64 0 ∧ Hid (wr.ownsRow w.heap.size 3 1 nv 0 (([] : List Int).map (Value.int .i64)))) ∨ (i = .int .i64 1 ∧ Hid (wr.ownsRow w.heap.size 3 1 nv xs.length (xs.map (Value.int .i64)))) ∨ (i = .int .i64 2 ∧ Hid (wr.ownsRow w.heap.size 3 1 nv (xs.length + ys.length) ((xs ++ ys).map (Value.int .i64))))) ∧ Hid (Below w.heap.size w wr)) (fun _ _ i _ => 2 - (intOf i).toNat)
      case atStart => exact ⟨.inl ⟨rfl, HO⟩, HB⟩
      case round =>
        obtain ⟨⟨rfl, ho⟩ | ⟨rfl, ho⟩ | ⟨rfl, ho⟩, hbel⟩ := hrel
        · have c0 : wr.cell? ⟨b, 0, none⟩ = some (.slice a0 xs.length d0) := by rw [← HE.out]; exact (hbel.out.cell (p := ⟨b, 0, none⟩) hb).trans HC0.out
          have RD : Hid (Rd w.heap.size wr (.slice a0 xs.length d0) xs) := by
            have := H0.out.keep hbel.out
            rw [HE.out] at this
            exact this
          have SZ : Hid (w.heap.size ≤ wr.heap.size) := hbel.out.size
          go_wp2_with (at_builtin; refine wpList_append_rd _ rfl _ _ rfl _ _ rfl rfl 0 [] xs ho.out RD.out (by omega) SZ.out ?_)
          intro v' w' ho' hb'
          have HO' : Hid (w'.ownsRow w.heap.size 3 1 v' xs.length (xs.map (Value.int .i64))) := ho'
          have HB' := hideP (hbel.out.trans hb')
          clear ho' hb' c0
          go_wp2_with fail
          go_roundw
          case rel => exact ⟨.inr (.inl ⟨rfl, HO'⟩), HB'⟩
          case measure => simp [intOf]
        · have c0 : wr.cell? ⟨b, 1, none⟩ = some (.slice a1 ys.length d1) := by rw [← HE1.out]; exact (hbel.out.cell (p := ⟨b, 1, none⟩) hb).trans HC1.out
          have RD : Hid (Rd w.heap.size wr (.slice a1 ys.length d1) ys) := by
            have := H1.out.keep hbel.out
            rw [HE1.out] at this
            exact this
          have SZ : Hid (w.heap.size ≤ wr.heap.size) := hbel.out.size
          go_wp2_with (at_builtin; refine wpList_append_rd _ rfl _ _ rfl _ _ rfl rfl xs.length xs ys ho.out RD.out (by omega) SZ.out ?_)
          intro v' w' ho' hb'
          have HO' : Hid (w'.ownsRow w.heap.size 3 1 v' (xs.length + ys.length) ((xs ++ ys).map (Value.int .i64))) := by
            show _
            first | exact ho' | (rw [List.map_append]; exact ho')
          have HB' := hideP (hbel.out.trans hb')
          clear ho' hb' c0
          go_wp2_with fail
          go_roundw
          case rel => exact ⟨.inr (.inr ⟨rfl, HO'⟩), HB'⟩
          case measure => simp [intOf]
        · go_wp2_with fail
          go_ret
          exact ⟨_, rfl, by rw [HS.out]; exact ho.out, hbel.out⟩

/-- impl.joined of one list -/
theorem joined1 (b : Nat) (u : Value) (xs : List Int) (w : World) (hl : xs.length ≤ 1048576) (hb : b < w.heap.size) (c0 : w.cell? ⟨b, 0, none⟩ = some u) (h0 : Rd w.heap.size w u xs) :
    Calls Try.prog 84 #[.slice (some ⟨b, 0, none⟩) 1 1] w fun e w' => ∃ v, e = .returned v ∧ Own w.heap.size w' v xs ∧ Below w.heap.size w w' := by
  have K := hideP (concat1 b u xs w hl hb c0 h0)
  clear c0 h0
  go_enter Try.func84, Try.ntmps84
  go_wp2_with (go_at_call 136; refine K.out.mono ?_; rintro e w' ⟨v, rfl, ho, hb'⟩)
  go_ret
  exact ⟨_, rfl, own_of_any ho, hb'⟩

theorem joined2 (b : Nat) (u t : Value) (xs ys : List Int) (w : World) (hl : xs.length ≤ 1048576) (hl' : ys.length ≤ 1048576) (hb : b < w.heap.size) (c0 : w.cell? ⟨b, 0, none⟩ = some u) (c1 : w.cell? ⟨b, 1, none⟩ = some t)
    (h0 : Rd w.heap.size w u xs) (h1 : Rd w.heap.size w t ys) :
    Calls Try.prog 84 #[.slice (some ⟨b, 0, none⟩) 2 2] w fun e w' => ∃ v, e = .returned v ∧ Own w.heap.size w' v (xs ++ ys) ∧ Below w.heap.size w w' := by
  have K := hideP (concat2 b u t xs ys w hl hl' hb c0 c1 h0 h1)
  clear c0 c1 h0 h1
  go_enter Try.func84, Try.ntmps84
  go_wp2_with (go_at_call 136; refine K.out.mono ?_; rintro e w' ⟨v, rfl, ho, hb'⟩)
  go_ret
  exact ⟨_, rfl, own_of_any ho, hb'⟩

end Go.Proofs.Ytmobjomebmipdaa
