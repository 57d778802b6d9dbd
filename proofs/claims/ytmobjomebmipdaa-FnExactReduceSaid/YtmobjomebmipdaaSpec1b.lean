import Derived.Test.YtmobjomebmipdaaSpec1
namespace Go.Proofs.Ytmobjomebmipdaa
open Go.RowKit
set_option linter.unusedVariables false

theorem own_ne {base n P : Nat} {w : World} {v : Value} {xs : List Value} {c : Array Value} {fr : Nat × Nat} {t : TypeId} (h : w.ownsRow base 3 1 v n xs) (hP : w.heap[P]? = some (.cells c t fr)) (ht : ¬ t = 3) : v.ownBlock ≠ some P := by
  intro e
  rcases h.2 with ⟨rfl, _⟩ | ⟨g, cap, cur, rfl, _, hg, _⟩
  · simp [Value.ownBlock] at e
  · simp [Value.ownBlock] at e
    subst e
    rw [hg] at hP
    simp at hP
    exact ht hP.2.1.symm

theorem owns_form {base n : Nat} {w : World} {v : Value} {xs : List Value} (h : w.ownsRow base 3 1 v n xs) : ∃ ao cap, v = .slice ao n cap := by
  rcases h.2 with ⟨rfl, rfl⟩ | ⟨g, cap, cur, rfl, _⟩
  · exact ⟨none, 0, rfl⟩
  · exact ⟨_, cap, rfl⟩

/-- append_rd, and what is not written -/
theorem append_rd' {base B : Nat} (w : World) (v : Value) (n : Nat) (ys : List Int) (hown : w.ownsRow base 3 1 v n (ys.map (Value.int .i64))) (u : Value) (xs : List Int) (hrd : Rd B w u xs) (hbd : n + xs.length ≤ 16777216) (hbase : base ≤ w.heap.size) (ty : TypeId) :
    ∃ v' w', (Builtin.append_ #[22, 22] ty #[v, u]).run Try.prog w = .ok v' w' ∧ w'.ownsRow base 3 1 v' (n + xs.length) ((ys ++ xs).map (Value.int .i64)) ∧ w.grownBy w' v.ownBlock := by
  obtain ⟨i0, hi, hz0, hz1, hz2⟩ := info_parts Try.info3
  obtain ⟨ao, cap, rfl, h⟩ := hrd
  rcases h with h | ⟨b, off, hB, rfl, hc⟩
  · obtain rfl := List.length_eq_zero_iff.1 h
    refine ⟨v, w, ?_, by simpa using hown, World.grownBy.refl _ _⟩
    rcases hown.2 with ⟨rfl, rfl⟩ | ⟨g, cp, cur, rfl, _, _, hnc, _⟩
    · cases ao <;> simp [Builtin.append_, run_underlying Try.underlying22, sizeOf, typeInfo, hi, Builtin.lenOf, Builtin.firstCells, loadCells, loadCellsFrom]
    · cases ao <;> simp [Builtin.append_, run_underlying Try.underlying22, sizeOf, typeInfo, hi, Builtin.lenOf, Builtin.firstCells, loadCells, loadCellsFrom, hnc, storeCells]
  · obtain ⟨v', w', hr, ho, hg, _⟩ := run_append_own (P := Try.prog) w base 22 ty 3 i0 (.int .i64 0) 1 8 Try.underlying22 hi hz0 hz1 hz2 rfl (by decide) v n _ hown ⟨b, off, none⟩ xs.length cap (xs.map (Value.int .i64)) (by simp)
      (by
        intro j x hj
        rw [List.getElem?_map] at hj
        obtain ⟨y, hy, rfl⟩ := Option.map_eq_some_iff.1 hj
        have hlt : j < xs.length := (List.getElem?_eq_some_iff.1 hy).1
        rw [Addr.add_lit, hc j hlt]
        simp [List.getD, hy])
      (ints_oneCell _ _) (by unfold maxLen; omega) (by omega) hbase
    exact ⟨v', w', hr, by simpa using ho, hg⟩

/-- append(v, x): one number, laid in a block of its own first -/
theorem wpList_append_one {base : Nat} (w : World) (x : Int) (t : TypeId) {ops : Array Oper} {rest : List Oper} {o : Oper} {a : Act} {Q : Exit → Act → World → Prop} (hg : o.guard = none) (s y : Operand)
    (hop : o.op = Op.call { callee := Callee.builtin Builtin.append, args := #[s, y], argTypes := #[22, 22] }) (v : Value) (hs : a.eval s = v) (hx : a.eval y = .slice (some ⟨w.heap.size, 0, none⟩) 1 1) (n : Nat) (ys : List Int)
    (hown : w.ownsRow base 3 1 v n (ys.map (Value.int .i64))) (hbd : n + 1 ≤ 16777216) (hbase : base ≤ w.heap.size)
    (hK : ∀ v' w', w'.ownsRow base 3 1 v' (n + 1) ((ys ++ [x]).map (Value.int .i64)) → (w.alloc (.cells #[.int .i64 x] t)).grownBy w' v.ownBlock → wpList Try.prog ops Q rest (a.put o.dst v') w') : wpList Try.prog ops Q (o :: rest) a (w.alloc (.cells #[.int .i64 x] t)) := by
  have hrd : Rd (w.heap.size + 1) (w.alloc (.cells #[.int .i64 x] t)) (.slice (some ⟨w.heap.size, 0, none⟩) 1 1) [x] := by
    refine ⟨_, _, rfl, .inr ⟨w.heap.size, 0, by omega, rfl, fun i hi => ?_⟩⟩
    have : i = 0 := by simp at hi; omega
    subst this
    simp [go_sem]
  obtain ⟨v', w', hr, ho, hb⟩ := append_rd' _ v n ys (hown.alloc _) _ [x] hrd hbd (by simp; omega) o.type
  exact wpList_append_eq _ w' hg s y _ hop v _ v' hs hx hr (hK v' w' ho hb)

theorem cell_blk {w : World} {P j : Nat} {c : Array Value} {t : TypeId} (h : w.heap[P]? = some (.cells c t (0, 0))) : w.cell? ⟨P, j, none⟩ = c[j]? := cell_of_row w P j c t (0, 0) h
theorem frozen_blk {w : World} {P j : Nat} {c : Array Value} {t : TypeId} (h : w.heap[P]? = some (.cells c t (0, 0))) : w.frozen? ⟨P, j, none⟩ = false := frozen_of_row w P j c t h
theorem grown_setCell (w : World) (P j : Nat) (v : Value) : w.grownBy (w.setCell ⟨P, j, none⟩ v) (some P) :=
  ⟨rfl, rfl, rfl, by simp, fun k _ hk => heap_setCell_other w ⟨P, j, none⟩ k v (fun e => hk (by simp [e]))⟩

theorem apart_right {B : Nat} {w : World} {u0 u1 : Value} {sh da : List Int} (h : Own B w u1 da) (h1 : sh.length = 0 ∨ ∀ b, u0.ownBlock = some b → b < B) : Apart u0 u1 sh da := by
  rcases h1 with h1 | h1
  · exact .inl h1
  obtain ⟨ao, cap, rfl, h⟩ := h
  rcases h with h | ⟨g, off, hB, _, rfl, _⟩
  · exact .inr (.inl h)
  · refine .inr (.inr fun b e0 e1 => ?_)
    have := h1 b e0
    simp [Value.ownBlock] at e1
    omega

theorem Own.lt {B : Nat} {w : World} {u : Value} {zs : List Int} (h : Own B w u zs) : zs.length = 0 ∨ ∀ b, u.ownBlock = some b → b < w.heap.size := by
  obtain ⟨ao, cap, rfl, h⟩ := h
  rcases h with h | ⟨g, off, _, hB, rfl, _⟩
  · exact .inl h
  · refine .inr fun b e0 => ?_
    simp [Value.ownBlock] at e0
    omega

/-- the array that is built, out.Data grown by one -/
theorem out_step {E P : Nat} {W wr w' : World} {x : Int} {t : TypeId} {sv nv v' : Value} {n m : Nat} {ys zs : List Value} (hP : wr.heap[P]? = some (.cells #[sv, nv] 27 (0, 0))) (ho : wr.ownsRow E 3 1 nv n ys) (hE : E ≤ P) (hb : Below E W wr)
    (hg : (wr.alloc (.cells #[.int .i64 x] t)).grownBy w' nv.ownBlock) (ho' : w'.ownsRow E 3 1 v' m zs) :
    w'.heap[P]? = some (.cells #[sv, nv] 27 (0, 0)) ∧ (w'.setCell ⟨P, 1, none⟩ v').heap[P]? = some (.cells #[sv, v'] 27 (0, 0)) ∧ (w'.setCell ⟨P, 1, none⟩ v').ownsRow E 3 1 v' m zs ∧ Below E W (w'.setCell ⟨P, 1, none⟩ v') := by
  have hlt : P < wr.heap.size := (Array.getElem?_eq_some_iff.1 hP).1
  have hE' : E ≤ wr.heap.size := by omega
  have h1 : w'.heap[P]? = some (.cells #[sv, nv] 27 (0, 0)) := by
    rw [hg.block P (by simp; omega) (fun e => own_ne ho hP (by decide) e.symm)]
    rw [Below.heap_alloc wr _ P hlt]
    exact hP
  have h2 := heap_setCell_same w' P 1 #[sv, nv] 27 v' h1
  refine ⟨h1, h2, ?_, ?_⟩
  · exact ho'.kept (grown_setCell w' P 1 v') (.inr (own_ne ho' h1 (by decide)))
  · refine Below.setCell ?_ hE _
    refine (hb.alloc hE' _).grown hg (by simp; omega) (fun k hk => (ho.lt k hk).1)

set_option maxRecDepth 100000 in
set_option maxHeartbeats 2000000 in
/-- spec.Each1 -/
theorem spec1_go (op : Int) (v0 : Value) (ao : Option Addr) (b off c1 : Nat) (sh da : List Int) (w : World) (hao : 0 < da.length → ao = some ⟨b, off, none⟩) (hl0 : sh.length ≤ 1048576) (hl1 : da.length ≤ 1048576) (h0 : Rd w.heap.size w v0 sh) (hb : 0 < da.length → b < w.heap.size)
    (h1 : Rd w.heap.size w (.slice ao da.length c1) da) (hc : ∀ i, i < da.length → w.cell? ⟨b, off + i, none⟩ = some (.int .i64 (da.getD i 0))) (hop : 1 ≤ op) (hop' : op < 5) (hok : Pl.okB sh da = true) :
    Calls Try.prog 16 #[.int .i64 op, .agg #[v0, .slice ao da.length c1]] w (FPost w (Pl.firstC (Pl.oneM op) da) (if Pl.firstC (Pl.oneM op) da = 0 then sh else []) (if Pl.firstC (Pl.oneM op) da = 0 then da.map (fun x => (Pl.oneM op x).1) else [])) := by
  have B : Hid (∀ o o', Below w.heap.size w ((w.alloc o).alloc o')) := fun o o' => ((Below.refl _ _).alloc (Nat.le_refl _) _).alloc (by simp) _
  have K : Hid (∀ o o', Calls Try.prog 12 #[.agg #[v0, .slice ao da.length c1]] ((w.alloc o).alloc o') fun e w' => e = .returned (.bool true) ∧ Below ((w.alloc o).alloc o').heap.size ((w.alloc o).alloc o') w') := fun o o' => by
    have := specOk_any v0 (.slice ao da.length c1) sh da ((w.alloc o).alloc o') hl0 hl1 ((h0.keep (B.out _ _)).up (by simp; omega)) ((h1.keep (B.out _ _)).up (by simp; omega))
    rw [hok] at this; exact this
  have OK := hideP (fun x (hx : x ∈ da) => Pl.ok_cell hok hx)
  have H0 := hideP h0
  have HC := hideP hc
  have HAO := hideP hao
  have HBB := hideP hb
  obtain ⟨a0, d0, e0⟩ := h0.form
  subst e0
  clear h0 h1 hok hc hao hb
  generalize hF : Pl.oneM op = F at *
  have HF := hideP hF
  clear hF
  generalize hC : Pl.firstC F da = C at *
  generalize hS : (if C = 0 then sh else []) = S at *
  generalize hD : (if C = 0 then da.map (fun x => (F x).1) else []) = D at *
  have PC := hideP hC
  have PS := hideP hS
  have PD := hideP hD
  clear hC hS hD
  generalize hn : da.length = n at *
  have Hn : Hid (da.length = n) := hn
  clear hn
  have g1 : ¬ op < 1 := by omega
  have g2 : ¬ 4 < op := by omega
  go_enter Try.func16, Try.ntmps16
  go_wp2_with fail
  refine (K.out _ _).mono ?_
  rintro e w1 ⟨rfl, hb1⟩
  have B1 := hideP ((B.out _ _).trans (hb1.mono (by simp; omega)))
  have hs := hb1.size
  simp at hs
  obtain ⟨hc, hf⟩ := bcell hb1
  have q0 : w1.cell? ⟨w.heap.size, 0, none⟩ = some (.slice a0 sh.length d0) := by rw [hc w.heap.size 0 (by simp; omega)]; simp [go_sem]
  have q1 : w1.cell? ⟨w.heap.size, 1, none⟩ = some (.slice ao n c1) := by rw [hc w.heap.size 1 (by simp; omega)]; simp [go_sem]
  have r0 : w1.cell? ⟨w.heap.size + 1, 0, none⟩ = some (.slice none 0 0) := by rw [hc (w.heap.size + 1) 0 (by simp)]; simp [go_sem]
  have r1 : w1.cell? ⟨w.heap.size + 1, 1, none⟩ = some (.slice none 0 0) := by rw [hc (w.heap.size + 1) 1 (by simp)]; simp [go_sem]
  have f3 : ∀ o, w1.frozen? ⟨w.heap.size + 1, o, none⟩ = false := fun o => by rw [hf (w.heap.size + 1) o (by simp)]; simp [go_sem]
  clear hc hf hb1
  go_wp2_with fail
  refine (l2Copy_any _ sh _ hl0 ((H0.out.keep B1.out).up (by omega))).mono ?_
  rintro e w2 ⟨v2, rfl, ho2, hb2⟩
  have B2 := hideP (B1.out.trans (hb2.mono (by omega)))
  have HO2 := hideP (own_of_any ho2)
  have hs2 := hb2.size
  obtain ⟨x2, y2, e2⟩ := owns_form ho2
  subst e2
  have C2 := hideP (And.intro ((hb2.cell (p := ⟨w.heap.size, 1, none⟩) (by show w.heap.size < _; omega)).trans q1) (And.intro ((hb2.cell (p := ⟨w.heap.size + 1, 0, none⟩) (by show w.heap.size + 1 < _; omega)).trans r0) (And.intro ((hb2.cell (p := ⟨w.heap.size + 1, 1, none⟩) (by show w.heap.size + 1 < _; omega)).trans r1) (fun o => (hb2.frozen (p := ⟨w.heap.size + 1, o, none⟩) (by show w.heap.size + 1 < _; omega)).trans (f3 o)))))
  clear ho2 hb2 q0 q1 r0 r1 f3
  go_wp2_with fail
  go_loopw [7, 8, 9] (fun i _ _ wr => ∃ k : Nat, k ≤ n ∧ i = .int .i64 k ∧ Hid (∀ x ∈ da.take k, (F x).2 = 0) ∧ ∃ nv, Hid (wr.heap[w2.heap.size + 1]? = some (.cells #[.slice x2 sh.length y2, nv] 27 (0, 0))) ∧
      Hid (wr.ownsRow w2.heap.size 3 1 nv k (((da.take k).map (fun x => (F x).1)).map (Value.int .i64))) ∧ Hid (Below w2.heap.size w2 wr)) (fun i _ _ _ => n - (intOf i).toNat)
  case atStart =>
    refine ⟨0, Nat.zero_le _, rfl, by intro x hx; simp at hx, .slice (some ⟨w2.heap.size, 0, none⟩) 0 0, ?_, ?_, ?_⟩
    · have := heap_alloc_new (w2.alloc (.cells #[] 3)) (.cells #[.slice x2 sh.length y2, .slice (some ⟨w2.heap.size, 0, none⟩) 0 0] 27)
      show _ = _
      simpa using this
    · exact (owns_empty w2 w2.heap.size (Nat.le_refl _)).alloc _
    · exact ((Below.refl _ _).alloc (Nat.le_refl _) _).alloc (by simp) _
  case round =>
    obtain ⟨k, hk, rfl, hz, nv, hP, ho, hbel⟩ := hrel
    have HBW : Hid (Below w.heap.size w wr) := B2.out.trans (hbel.out.mono (by omega))
    have hsz : w2.heap.size + 1 < wr.heap.size := (Array.getElem?_eq_some_iff.1 hP.out).1
    have q1 : wr.cell? ⟨w.heap.size, 1, none⟩ = some (.slice ao n c1) := (hbel.out.cell (p := ⟨w.heap.size, 1, none⟩) (by show w.heap.size < _; omega)).trans C2.out.1
    have r0 : wr.cell? ⟨w.heap.size + 1, 0, none⟩ = some (.slice none 0 0) := (hbel.out.cell (p := ⟨w.heap.size + 1, 0, none⟩) (by show w.heap.size + 1 < _; omega)).trans C2.out.2.1
    have r1 : wr.cell? ⟨w.heap.size + 1, 1, none⟩ = some (.slice none 0 0) := (hbel.out.cell (p := ⟨w.heap.size + 1, 1, none⟩) (by show w.heap.size + 1 < _; omega)).trans C2.out.2.2.1
    have f3 : ∀ o, wr.frozen? ⟨w.heap.size + 1, o, none⟩ = false := fun o => (hbel.out.frozen (p := ⟨w.heap.size + 1, o, none⟩) (by show w.heap.size + 1 < _; omega)).trans (C2.out.2.2.2 o)
    obtain ⟨xo, yo, eo⟩ := owns_form ho.out
    subst eo
    have p0 : wr.cell? ⟨w2.heap.size + 1, 0, none⟩ = some (.slice x2 sh.length y2) := cell_blk hP.out
    have p1 : wr.cell? ⟨w2.heap.size + 1, 1, none⟩ = some (.slice xo k yo) := cell_blk hP.out
    by_cases hlt : k < n
    · have hao := HAO.out (by omega)
      have hb := HBB.out (by omega)
      clear HAO HBB
      subst hao
      have hck : wr.cell? ⟨b, off + k, none⟩ = some (.int .i64 (da.getD k 0)) := (HBW.out.cell (p := ⟨b, off + k, none⟩) hb).trans (HC.out k hlt)
      have hlen : k < da.length := by rw [Hn.out]; exact hlt
      have hmem : da.getD k 0 ∈ da := by
        have : da.getD k 0 = da[k] := by simp [List.getD, hlen]
        rw [this]; exact List.getElem_mem hlen
      have X := OK.out _ hmem
      have T : Hid (da.take (k + 1) = da.take k ++ [da.getD k 0]) := Pl.take_snoc da k hlen
      have FA : Hid (¬ (F (da.getD k 0)).2 = 0 → Pl.firstC F da = (F (da.getD k 0)).2) := Pl.firstC_at F da k hlen hz.out
      clear hmem hlen
      generalize da.getD k 0 = x at *
      have L : Hid (∀ w, Calls Try.prog 41 #[.int .i64 op, .int .i64 x] w fun e w' => e = .returned (.tuple #[.int .i64 (F x).1, .int .i64 (F x).2]) ∧ w' = w) := fun w => by
        rw [← HF.out]; exact l2One_any op x w hop hop' X.1 X.2
      clear X
      by_cases hr : (F x).2 = 0
      · have Z : Hid (∀ y ∈ da.take (k + 1), (F y).2 = 0) := by
          intro y hy
          rw [T.out] at hy
          simp at hy
          rcases hy with hy | rfl
          · exact hz.out y hy
          · exact hr
        rw [hr] at L
        clear hr FA
        have Y : Hid ((da.take (k + 1)).map (fun x => (F x).1) = (da.take k).map (fun x => (F x).1) ++ [(F x).1]) := by show _ = _; rw [T.out]; simp
        generalize (F x).1 = r at *
        generalize (da.take k).map (fun x => (F x).1) = ys at *
        go_wp2_with (first
          | (go_at_call 41; refine (L.out _).mono ?_; rintro e w' ⟨rfl, rfl⟩)
          | (at_builtin; refine wpList_append_one (base := w2.heap.size) _ _ _ rfl _ _ rfl _ rfl rfl k _ ho.out (by omega) (by omega) ?_))
        intro v' w9 ho' hg
        have ho9 : w9.ownsRow w2.heap.size 3 1 v' (k + 1) ((ys ++ [r]).map (Value.int .i64)) := by
          rw [List.map_append]
          exact ho'
        have OS := hideP (out_step hP.out ho.out (Nat.le_succ _) hbel.out hg ho9)
        obtain ⟨x9, y9, e9⟩ := owns_form ho9
        subst e9
        have p9 : w9.cell? ⟨w2.heap.size + 1, 1, none⟩ = some (.slice xo k yo) := cell_blk OS.out.1
        have f9 : w9.frozen? ⟨w2.heap.size + 1, 1, none⟩ = false := frozen_blk OS.out.1
        clear ho' ho9 hg p0 p1 r0 r1 f3 q1 hck
        go_wp2_with fail
        go_roundw
        case rel => exact ⟨k + 1, by omega, by go_num, Z, _, OS.out.2.1, by show World.ownsRow _ _ _ _ _ _ _; rw [Y.out]; exact OS.out.2.2.1, OS.out.2.2.2⟩
        case measure => simp [intOf]; omega
      · have E := FA.out hr
        rw [PC.out] at E
        have HE := hideP E
        have HR := hideP hr
        have hne : ((F x).2 != 0) = true := by rw [bne_iff_ne]; exact hr
        clear E FA hr T
        generalize (F x).1 = r at *
        generalize (F x).2 = c at *
        go_wp2_with (go_at_call 41; refine (L.out _).mono ?_; rintro e w' ⟨rfl, rfl⟩)
        refine bodyPost_ret (v := .tuple #[.agg #[.slice none 0 0, .slice none 0 0], .int .i64 c]) (by simp [results, Try.results16, go_sem, r0, r1]) rfl ?_
        show FPost _ _ _ _ _ _
        rw [← PS.out, ← PD.out, HE.out, if_neg HR.out, if_neg HR.out]
        exact ⟨(HBW.out.setCell (by simp) _).setCell (by simp) _, _, _, rfl, Own.nil _ _, Own.nil _ _, .inl rfl⟩
    · have kn : k = n := by omega
      subst kn
      have E : Pl.firstC F da = 0 := Pl.firstC_zero F da (by
        have := hz.out
        rw [List.take_of_length_le (by rw [Hn.out]; exact Nat.le_refl _)] at this
        exact this)
      rw [PC.out] at E
      have HE := hideP E
      have OD : Hid (wr.ownsRow w2.heap.size 3 1 (.slice xo k yo) k ((da.map (fun x => (F x).1)).map (Value.int .i64))) := by
        have := ho.out
        rw [List.take_of_length_le (by rw [Hn.out]; exact Nat.le_refl _)] at this
        exact this
      clear E
      go_wp2_with fail
      refine bodyPost_ret (v := .tuple #[.agg #[.slice x2 sh.length y2, .slice xo k yo], .int .i64 0]) (by simp [results, Try.results16, go_sem, r0, r1]) rfl ?_
      show FPost _ _ _ _ _ _
      rw [← PS.out, ← PD.out, HE.out, if_pos rfl, if_pos rfl]
      refine ⟨(HBW.out.setCell (by simp) _).setCell (by simp) _, _, _, rfl, ?_, ?_, ?_⟩
      · have := HO2.out.base (show w.heap.size + 1 + 1 ≤ w1.heap.size by omega)
        have k2 : Own (w.heap.size + 1 + 1) wr (.slice x2 sh.length y2) sh := by
          obtain ⟨q, p, e, h⟩ := this
          refine ⟨q, p, e, ?_⟩
          rcases h with h | ⟨g, of, g1', g2', g3, g4⟩
          · exact .inl h
          · exact .inr ⟨g, of, g1', by omega, g3, fun i hi => ⟨(hbel.out.cell (p := ⟨g, of + i, none⟩) g2').trans (g4 i hi).1, (hbel.out.frozen (p := ⟨g, of + i, none⟩) g2').trans (g4 i hi).2⟩⟩
        exact Own.base (Own.store (Own.store k2 (by omega) _) (by omega) _) (by omega)
      · have := (own_of_any OD.out).base (show w.heap.size + 1 + 1 ≤ w2.heap.size by omega)
        exact Own.base (Own.store (Own.store this (by omega) _) (by omega) _) (by omega)
      · refine apart_right (B := w2.heap.size) (own_of_any OD.out) ?_
        exact HO2.out.lt

end Go.Proofs.Ytmobjomebmipdaa
