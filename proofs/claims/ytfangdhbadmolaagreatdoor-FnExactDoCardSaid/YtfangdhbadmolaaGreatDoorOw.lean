import Derived.Test.YtfangdhbadmolaaGreatDoorTo
import Derived.Maps.AppendAt
namespace Go.Proofs.YtfangdhbadmolaaGreatDoor
open Go.RowKit
set_option linter.unusedVariables false

/-- In the world w the slice u is the call's own (a block from B on), may be written, and reads as fs. -/
def OwF (B : Nat) (w : World) (u : Value) (fs : List Pl.Fl) : Prop :=
  ∃ ao cap, u = .slice ao fs.length cap ∧ (fs.length = 0 ∨ ∃ g off, B ≤ g ∧ g < w.heap.size ∧ ao = some ⟨g, off, none⟩ ∧
    ∀ i, i < fs.length → (w.cell? ⟨g, off + i * 2, none⟩ = some (.string (Pl.at' fs i).1) ∧ w.cell? ⟨g, off + i * 2 + 1, none⟩ = some (.string (Pl.at' fs i).2)) ∧ (w.frozen? ⟨g, off + i * 2, none⟩ = false ∧ w.frozen? ⟨g, off + i * 2 + 1, none⟩ = false))

theorem OwF.base {B B' : Nat} {w : World} {u : Value} {fs : List Pl.Fl} (h : OwF B w u fs) (hb : B' ≤ B) : OwF B' w u fs := by
  obtain ⟨ao, cap, rfl, h⟩ := h
  refine ⟨ao, cap, rfl, ?_⟩
  rcases h with h | ⟨g, off, h1, h2, h3, h4⟩
  · exact .inl h
  · exact .inr ⟨g, off, by omega, h2, h3, h4⟩

theorem OwF.form {B : Nat} {w : World} {u : Value} {fs : List Pl.Fl} (h : OwF B w u fs) : ∃ ao cap, u = .slice ao fs.length cap := by
  obtain ⟨ao, cap, e, _⟩ := h
  exact ⟨ao, cap, e⟩

theorem RdF.form {B : Nat} {w : World} {u : Value} {fs : List Pl.Fl} (h : RdF B w u fs) : ∃ ao cap, u = .slice ao fs.length cap := by
  obtain ⟨ao, cap, e, _⟩ := h
  exact ⟨ao, cap, e⟩

theorem OwF.nil (B : Nat) (w : World) (ao : Option Addr) (cap : Nat) : OwF B w (.slice ao 0 cap) [] := ⟨ao, cap, rfl, .inl rfl⟩

theorem OwF.blk {B : Nat} {w w' : World} {u : Value} {fs : List Pl.Fl} (h : OwF B w u fs) (hs : w.heap.size ≤ w'.heap.size) (hb : ∀ g, B ≤ g → g < w.heap.size → u.ownBlock = some g → 0 < fs.length → w'.heap[g]? = w.heap[g]?) : OwF B w' u fs := by
  obtain ⟨ao, cap, rfl, h⟩ := h
  refine ⟨ao, cap, rfl, ?_⟩
  rcases h with h | ⟨g, off, h1, h2, rfl, h4⟩
  · exact .inl h
  · by_cases hz : fs.length = 0
    · exact .inl hz
    · have e := hb g h1 h2 rfl (by omega)
      refine .inr ⟨g, off, h1, by omega, rfl, fun i hi => ?_⟩
      obtain ⟨⟨c0, c1⟩, f0, f1⟩ := h4 i hi
      exact ⟨⟨(World.cell?_of_block (w := w) (a := ⟨g, off + i * 2, none⟩) e).trans c0, (World.cell?_of_block (w := w) (a := ⟨g, off + i * 2 + 1, none⟩) e).trans c1⟩,
        (World.frozen?_of_block (w := w) (a := ⟨g, off + i * 2, none⟩) e).trans f0, (World.frozen?_of_block (w := w) (a := ⟨g, off + i * 2 + 1, none⟩) e).trans f1⟩

theorem OwF.keep {B : Nat} {w w' : World} {u : Value} {fs : List Pl.Fl} (h : OwF B w u fs) (hb : Below w.heap.size w w') : OwF B w' u fs :=
  h.blk hb.size (fun g _ h2 _ _ => hb.block g h2)

/-- a store below -/
theorem OwF.store {B : Nat} {w : World} {u : Value} {fs : List Pl.Fl} (h : OwF B w u fs) {b o : Nat} (hb : b < B) (v : Value) : OwF B (w.setCell ⟨b, o, none⟩ v) u fs :=
  h.blk (by simp) (fun g h1 _ _ _ => Below.heap_setCell w ⟨b, o, none⟩ v g (by simp; omega))

theorem OwF.rd {B : Nat} {w : World} {u : Value} {fs : List Pl.Fl} (h : OwF B w u fs) : RdF w.heap.size w u fs := by
  obtain ⟨ao, cap, rfl, h⟩ := h
  refine ⟨ao, cap, rfl, ?_⟩
  rcases h with h | ⟨g, off, h1, h2, h3, h4⟩
  · exact .inl h
  · exact .inr ⟨g, off, h2, h3, fun i hi => (h4 i hi).1⟩

/-- the call's own slice, whatever its capacity -/
theorem owF_of_own {base : Nat} {w : World} {v : Value} {fs : List Pl.Fl} (h : OwnF base w v fs) : OwF base w v fs := by
  rcases h.2 with ⟨rfl, hn⟩ | ⟨g, cap, cur, rfl, hb, hg, hr⟩
  · exact ⟨none, 0, by rw [hn], .inl hn⟩
  · refine ⟨_, cap, rfl, .inr ⟨g, 0, hb, (h.lt g rfl).2, rfl, fun i hi => ?_⟩⟩
    have := cellsF_get fs i hi
    refine ⟨?_, ?_, ?_⟩
    · rw [Nat.zero_add, h.cellAt (i * 2) (by omega), h.cellAt (i * 2 + 1) (by omega)]
      exact this
    · exact h.frozenAt _
    · exact h.frozenAt _

theorem own_form {base n : Nat} {w : World} {e : TypeId} {sz : Nat} {v : Value} {xs : List Value} (h : w.ownsRow base e sz v n xs) : ∃ ao cap, v = .slice ao n cap := by
  rcases h.2 with ⟨rfl, rfl⟩ | ⟨g, cap, cur, rfl, _⟩
  · exact ⟨_, _, rfl⟩
  · exact ⟨_, _, rfl⟩

/-- '[]File{}' -/
theorem owns_empty (w : World) (base : Nat) (hb : base ≤ w.heap.size) : OwnF base (w.alloc (.cells #[] 59)) (.slice (some ⟨w.heap.size, 0, none⟩) 0 0) [] :=
  World.ownsRow_lit w #[] 0 hb (by unfold maxLen; omega) rfl

theorem cellsF_one (fs : List Pl.Fl) : ∀ u ∈ cellsF fs, u.oneCell' = true := by
  intro u hu
  simp only [cellsF, List.mem_flatMap] at hu
  obtain ⟨f, _, hf⟩ := hu
  simp at hf
  rcases hf with rfl | rfl <;> rfl

/-- append(v, u...), v the call's own, u whatever reads as files -/
theorem append_F {base B : Nat} (w : World) (v : Value) (ys : List Pl.Fl) (hown : OwnF base w v ys) (u : Value) (xs : List Pl.Fl) (hrd : RdF B w u xs) (hbd : ys.length + xs.length ≤ 16777216) (hbase : base ≤ w.heap.size) (ty : TypeId) :
    ∃ v' w', (Builtin.append_ #[29, 29] ty #[v, u]).run Tryz.prog w = .ok v' w' ∧ OwnF base w' v' (ys ++ xs) ∧ w.grownBy w' v.ownBlock ∧ (v'.ownBlock = v.ownBlock ∨ v'.ownBlock = some w.heap.size) := by
  obtain ⟨i0, hi, hz0, hz1, hz2⟩ := info_parts Tryz.info59
  obtain ⟨ao, cap, rfl, h⟩ := hrd
  rcases h with h | ⟨b, off, hB, rfl, hc⟩
  · obtain rfl := List.length_eq_zero_iff.1 h
    refine ⟨v, w, ?_, by simpa using hown, World.grownBy.refl _ _, .inl rfl⟩
    rcases hown.2 with ⟨rfl, hn⟩ | ⟨g, cp, cur, rfl, _, _, hnc, _⟩
    · cases ao <;> simp [Builtin.append_, run_underlying Tryz.underlying29, sizeOf, typeInfo, hi, Builtin.lenOf, Builtin.firstCells, loadCells, loadCellsFrom]
    · cases ao <;> simp [Builtin.append_, run_underlying Tryz.underlying29, sizeOf, typeInfo, hi, Builtin.lenOf, Builtin.firstCells, loadCells, loadCellsFrom, hnc, storeCells]
  · obtain ⟨v', w', hr, ho, hg, _, hat⟩ := run_append_own_at (P := Tryz.prog) w base 29 ty 59 i0 (.agg #[.string ByteArray.empty, .string ByteArray.empty]) 2 32 Tryz.underlying29 hi hz0 hz1 hz2 rfl (by decide) v ys.length _ hown ⟨b, off, none⟩ xs.length cap (cellsF xs) (cellsF_len xs)
      (by
        intro j x hj
        have hlt : j < xs.length * 2 := by
          have := (List.getElem?_eq_some_iff.1 hj).1
          rw [cellsF_len] at this; exact this
        have hg := cellsF_get xs (j / 2) (by omega)
        have hcc := hc (j / 2) (by omega)
        rw [Addr.add_lit]
        have h2 : j = j / 2 * 2 ∨ j = j / 2 * 2 + 1 := by omega
        rcases h2 with h2 | h2
        · rw [h2] at hj ⊢
          rw [hg.1] at hj
          rw [hcc.1]; exact hj
        · rw [h2] at hj ⊢
          rw [hg.2] at hj
          rw [← Nat.add_assoc, hcc.2]; exact hj)
      (cellsF_one _) (by unfold maxLen; omega) (by omega) hbase
    refine ⟨v', w', hr, ?_, hg, hat⟩
    unfold OwnF
    rw [List.length_append, cellsF_app]
    exact ho

/-- an append whose run is known -/
theorem wpList_append_eq {P : Program} (w w' : World) {ops : Array Oper} {rest : List Oper} {o : Oper} {a : Act} {Q : Exit → Act → World → Prop} (hg : o.guard = none) (s x : Operand) (ts : Array TypeId)
    (hop : o.op = Op.call { callee := Callee.builtin Builtin.append, args := #[s, x], argTypes := ts }) (vs vx v : Value) (hs : a.eval s = vs) (hx : a.eval x = vx) (hrun : (Builtin.append_ ts o.type #[vs, vx]).run P w = .ok v w')
    (hK : wpList P ops Q rest (a.put o.dst v) w') : wpList P ops Q (o :: rest) a w := by
  refine wpList_plain hg fun K hK' => ?_
  unfold Oper.wp
  simp [execOp, hop, resolve, invoke, builtin, hs, hx, hrun, Result.andThen]
  exact hK' _ _ hK

theorem wpList_append_F {base B : Nat} (w : World) {ops : Array Oper} {rest : List Oper} {o : Oper} {a : Act} {Q : Exit → Act → World → Prop} (hg : o.guard = none) (s x : Operand)
    (hop : o.op = Op.call { callee := Callee.builtin Builtin.append, args := #[s, x], argTypes := #[29, 29] }) (v u : Value) (hs : a.eval s = v) (hx : a.eval x = u) (ys xs : List Pl.Fl)
    (hown : OwnF base w v ys) (hrd : RdF B w u xs) (hbd : ys.length + xs.length ≤ 16777216) (hbase : base ≤ w.heap.size)
    (hK : ∀ v' w', OwnF base w' v' (ys ++ xs) → w.grownBy w' v.ownBlock → (v'.ownBlock = v.ownBlock ∨ v'.ownBlock = some w.heap.size) → wpList Tryz.prog ops Q rest (a.put o.dst v') w') : wpList Tryz.prog ops Q (o :: rest) a w := by
  obtain ⟨v', w', hr, ho, hb, hat⟩ := append_F w v ys hown u xs hrd hbd hbase o.type
  exact wpList_append_eq w w' hg s x _ hop v u v' hs hx hr (hK v' w' ho hb hat)

/-- an append whose run is known, in a region that draws -/
theorem step_append_eq {P : Program} {ops : Array Oper} {o : Oper} {a : Act} {w w' : World} {K : Act → World → Prop} {Q : Exit → Act → World → Prop} {E : Prop} (hg : o.guard = none) (s x : Operand) (ts : Array TypeId)
    (hop : o.op = Op.call { callee := Callee.builtin Builtin.append, args := #[s, x], argTypes := ts }) (vs vx v : Value) (hs : a.eval s = vs) (hx : a.eval x = vx) (hrun : (Builtin.append_ ts o.type #[vs, vx]).run P w = .ok v w')
    (hK : K (a.put o.dst v) w') : if Region.wanted o (yielded ops a.tmps) = true then Oper.wp P o a w K Q else E := by
  have hw : Region.wanted o (yielded ops a.tmps) = true := by simp [Region.wanted, hg]
  rw [if_pos hw]
  unfold Oper.wp
  simp [execOp, hop, resolve, invoke, builtin, hs, hx, hrun, Result.andThen]
  exact hK

/-- append(v, u...) in a region that draws -/
theorem step_append_F {base B : Nat} {ops : Array Oper} {o : Oper} {a : Act} {K : Act → World → Prop} {Q : Exit → Act → World → Prop} {E : Prop} (w : World) (hg : o.guard = none) (s y : Operand)
    (hop : o.op = Op.call { callee := Callee.builtin Builtin.append, args := #[s, y], argTypes := #[29, 29] }) (v u : Value) (hs : a.eval s = v) (hx : a.eval y = u) (ys xs : List Pl.Fl)
    (hown : OwnF base w v ys) (hrd : RdF B w u xs) (hbd : ys.length + xs.length ≤ 16777216) (hbase : base ≤ w.heap.size)
    (hK : ∀ v' w', OwnF base w' v' (ys ++ xs) → w.grownBy w' v.ownBlock → (v'.ownBlock = v.ownBlock ∨ v'.ownBlock = some w.heap.size) → K (a.put o.dst v') w') : if Region.wanted o (yielded ops a.tmps) = true then Oper.wp Tryz.prog o a w K Q else E := by
  obtain ⟨v', w', hr, ho, hb, hat⟩ := append_F w v ys hown u xs hrd hbd hbase o.type
  exact step_append_eq hg s y _ hop v _ v' hs hx hr (hK v' w' ho hb hat)

/-- one file, laid in a block of its own -/
theorem rdF_new (w : World) (f : Pl.Fl) (t : TypeId) : RdF (w.heap.size + 1) (w.alloc (.cells #[.string f.1, .string f.2] t)) (.slice (some ⟨w.heap.size, 0, none⟩) 1 1) [f] := by
  refine ⟨_, _, rfl, .inr ⟨w.heap.size, 0, by omega, rfl, fun i hi => ?_⟩⟩
  have : i = 0 := by simp at hi; omega
  subst this
  simp [go_sem, Pl.at']

/-- spec.l7Copy -/
theorem l7Copy_any (u : Value) (xs : List Pl.Fl) (w : World) (hl : xs.length ≤ 1048576) (h0 : RdF w.heap.size w u xs) :
    Calls Tryz.prog 15 #[.agg #[u]] w fun e w' => ∃ v, e = .returned (.agg #[v]) ∧ OwF w.heap.size w' v xs ∧ Below w.heap.size w w' := by
  have H := hideP h0
  obtain ⟨a0, d0, e0⟩ := h0.form
  subst e0
  clear h0
  have A := hideP (below3 w)
  have B2 : Hid (∀ o1 o2 : Obj, Below w.heap.size w ((w.alloc o1).alloc o2)) := fun o1 o2 => ((Below.refl _ _).alloc (Nat.le_refl _) _).alloc (by simp) _
  have OE : Hid (∀ o1 o2 : Obj, OwnF (w.heap.size + 1 + 1) (((w.alloc o1).alloc o2).alloc (.cells #[] 59)) (.slice (some ⟨w.heap.size + 1 + 1, 0, none⟩) 0 0) []) := fun o1 o2 => by
    have := owns_empty ((w.alloc o1).alloc o2) (w.heap.size + 1 + 1) (by simp)
    simpa using this
  have RD : Hid (∀ o1 o2 o3 : Obj, RdF (w.heap.size) (((w.alloc o1).alloc o2).alloc o3) (.slice a0 xs.length d0) xs) := fun o1 o2 o3 => H.out.keep (A.out _ _ _)
  go_enter Tryz.func15, Tryz.ntmps15
  go_wp2_with (at_builtin; refine wpList_append_F (base := w.heap.size + 1 + 1) _ rfl _ _ rfl _ _ rfl rfl [] xs (OE.out _ _) (RD.out _ _ _) (by simp; omega) (by simp) ?_)
  intro v' w' ho hg hat
  have hb1 := hg.block (w.heap.size + 1) (by simp) (by simp [Value.ownBlock])
  have c1 : w'.cell? ⟨w.heap.size + 1, 0, none⟩ = some (.slice none 0 0) := (World.cell?_of_block (a := ⟨w.heap.size + 1, 0, none⟩) hb1).trans (by simp [go_sem])
  have f1 : w'.frozen? ⟨w.heap.size + 1, 0, none⟩ = false := (World.frozen?_of_block (a := ⟨w.heap.size + 1, 0, none⟩) hb1).trans (by simp [go_sem])
  have HB : Hid (Below w.heap.size w w') := (A.out _ _ _).grown hg (by simp; omega) (fun k hk => by simp [Value.ownBlock] at hk; omega)
  have HO : Hid (OwF (w.heap.size + 1 + 1) w' v' xs) := owF_of_own ho
  obtain ⟨x2, y2, e2⟩ := own_form ho
  subst e2
  clear ho hg hat hb1
  go_wp2_with fail
  exact bodyPost_ret (v := .agg #[.slice x2 xs.length y2]) (by simp [results, Tryz.results15, go_sem, c1]) rfl ⟨_, rfl, (HO.out.store (by omega) _).base (by omega), HB.out.setCell (by simp) _⟩

theorem eql_in (d : Nat) (a : Option Addr) (l c : Nat) (w : World) : (Op.equalIn (d + 1) 29 (.slice a l c) (.slice none 0 0)).run Tryz.prog w = .ok a.isNone w := by
  cases a <;> simp [Op.equalIn, run_underlying Tryz.underlying29]
theorem eql_at (a : Option Addr) (l c : Nat) (w : World) : (Op.equal 29 (.slice a l c) (.slice none 0 0)).run Tryz.prog w = .ok a.isNone w := eql_in 9999 a l c w
theorem eql_nil (a : Option Addr) (l c : Nat) (w : World) : (binOp .eql 29 (.slice a l c) (.slice none 0 0)).run Tryz.prog w = .ok (.bool a.isNone) w := by
  simp [binOp, eql_at]

/-- slices.Clone -/
theorem clone_any (u : Value) (xs : List Pl.Fl) (w : World) (hl : xs.length ≤ 1048576) (h0 : RdF w.heap.size w u xs) :
    Calls Tryz.prog 37 #[u] w fun e w' => ∃ v, e = .returned v ∧ OwF w.heap.size w' v xs ∧ Below w.heap.size w w' := by
  have H := hideP h0
  obtain ⟨a0, d0, e0⟩ := h0.form
  subst e0
  rcases a0 with _ | a0
  · have hn : xs = [] := by
      obtain ⟨ao, cap, e, h⟩ := h0
      rcases h with h | ⟨g, off, _, h2, _⟩
      · exact List.length_eq_zero_iff.1 h
      · simp at e
        rw [h2] at e
        simp at e
    subst hn
    clear h0
    have en := eql_nil
    go_enter Tryz.func37, Tryz.ntmps37
    go_wp2_with fail
    go_ret
    exact ⟨_, rfl, OwF.nil _ _ _ _, Below.refl _ _⟩
  · clear h0
    have en := eql_nil
    have A : Hid (∀ o, Below w.heap.size w (w.alloc o)) := fun o => (Below.refl _ _).alloc (Nat.le_refl _) _
    have OE := hideP (owns_empty w w.heap.size (Nat.le_refl _))
    have RD : Hid (∀ o, RdF w.heap.size (w.alloc o) (.slice (some a0) xs.length d0) xs) := fun o => H.out.keep (A.out _)
    go_enter Tryz.func37, Tryz.ntmps37
    go_wp2_with (at_builtin; refine wpList_append_F (base := w.heap.size) _ rfl _ _ rfl _ _ rfl rfl [] xs OE.out (RD.out _) (by simp; omega) (by simp) ?_)
    intro v' w' ho hg hat
    have HB : Hid (Below w.heap.size w w') := (A.out _).grown hg (by simp) (fun k hk => by simp [Value.ownBlock] at hk; omega)
    have HO : Hid (OwF w.heap.size w' v' xs) := owF_of_own ho
    clear ho hg hat
    go_wp2_with fail
    go_ret
    exact ⟨_, rfl, HO.out, HB.out⟩

/-- impl.sameDisk -/
theorem sameDisk_any (u : Value) (xs : List Pl.Fl) (w : World) (hl : xs.length ≤ 1048576) (h0 : RdF w.heap.size w u xs) :
    Calls Tryz.prog 20 #[.agg #[u]] w fun e w' => ∃ v, e = .returned (.agg #[v]) ∧ OwF w.heap.size w' v xs ∧ Below w.heap.size w w' := by
  have H := hideP h0
  obtain ⟨a0, d0, e0⟩ := h0.form
  subst e0
  clear h0
  have B2 : Hid (∀ o1 o2 : Obj, Below w.heap.size w ((w.alloc o1).alloc o2)) := fun o1 o2 => ((Below.refl _ _).alloc (Nat.le_refl _) _).alloc (by simp) _
  go_enter Tryz.func20, Tryz.ntmps20
  go_wp2_with fail
  refine (clone_any _ xs _ hl ((H.out.keep (B2.out _ _)).up (by simp; omega))).mono ?_
  rintro e w1 ⟨v, rfl, ho, hb1⟩
  have HB := hideP ((B2.out _ _).trans (hb1.mono (by simp; omega)))
  have HO : Hid (OwF (w.heap.size + 1 + 1) w1 v xs) := by show OwF _ _ _ _; simpa using ho
  obtain ⟨hc, hf⟩ := bcell hb1
  have c1 : w1.cell? ⟨w.heap.size + 1, 0, none⟩ = some (.slice none 0 0) := by rw [hc (w.heap.size + 1) 0 (by simp)]; simp [go_sem]
  have f1 : w1.frozen? ⟨w.heap.size + 1, 0, none⟩ = false := by rw [hf (w.heap.size + 1) 0 (by simp)]; simp [go_sem]
  obtain ⟨x2, y2, e2⟩ := ho.form
  subst e2
  clear ho hc hf hb1
  go_wp2_with fail
  exact bodyPost_ret (v := .agg #[.slice x2 xs.length y2]) (by simp [results, Tryz.results20, go_sem, c1]) rfl ⟨_, rfl, (HO.out.store (by omega) _).base (by omega), HB.out.setCell (by simp) _⟩

end Go.Proofs.YtfangdhbadmolaaGreatDoor
