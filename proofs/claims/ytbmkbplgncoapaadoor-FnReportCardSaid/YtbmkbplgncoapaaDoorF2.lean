import Derived.Test.YtbmkbplgncoapaaDoorF1
import Derived.Deep.CutRange
namespace Go.Proofs.YtbmkbplgncoapaaDoor
open Go.RowKit
set_option linter.unusedVariables false

/-- a row of verdicts of one's own -/
abbrev OV (B : Nat) (w : World) (v : Value) (us : List Pl.Vt) : Prop := w.ownsRow B 78 2 v us.length (cellsV us)
/-- a row is no block of another kind -/
theorem own_blk_ne {w : World} {B n z P : Nat} {v : Value} {e t : TypeId} {xs : List Value} {c : Array Value} (h : w.ownsRow B e z v n xs) (hP : w.heap[P]? = some (.cells c t (0, 0))) (ht : ¬ t = e) : ¬ v.ownBlock = some P := by
  intro hv
  rcases h.2 with ⟨rfl, _⟩ | ⟨g, cap, cur, rfl, _, hg, _⟩
  · simp [Value.ownBlock] at hv
  · simp [Value.ownBlock] at hv
    subst hv
    rw [hg] at hP
    injection hP with hP
    injection hP with _ h2
    exact ht h2.symm
theorem Rdr.blk {B P : Nat} {w : World} (h : Rdr B P w) : ∃ c, w.heap[P]? = some (.cells c 132 (0, 0)) := by
  obtain ⟨_, ao, n, cap, pos, _, _, hk, _⟩ := h
  exact ⟨_, hk⟩

/-- append of a verdict -/
theorem wpList_appV {base : Nat} (w : World) {ops : Array Oper} {rest : List Oper} {o : Oper} {a : Act} {Q : Exit → Act → World → Prop} (hg : o.guard = none) (s x : Operand)
    (hop : o.op = Op.call { callee := Callee.builtin Builtin.append, args := #[s, x], argTypes := #[39, 39] }) (v : Value) (hs : a.eval s = v) (b : Nat) (hx : a.eval x = .slice (some ⟨b, 0, none⟩) 1 1) (us : List Pl.Vt) (tk tc : Int)
    (hM : OV base w v us) (hc0 : w.cell? ⟨b, 0, none⟩ = some (.int .i64 tk)) (hc1 : w.cell? ⟨b, 1, none⟩ = some (.int .i64 tc)) (hlen : us.length ≤ 100) (hbase : base ≤ w.heap.size)
    (hK : ∀ v' w', OV base w' v' (us ++ [(tk, tc)]) → w.grownBy w' v.ownBlock → wpList Tryd.prog ops Q rest (a.put o.dst v') w') : wpList Tryd.prog ops Q (o :: rest) a w := by
  obtain ⟨i0, hi, hz0, hz1, hz2⟩ := info_parts Tryd.info78
  refine wpList_append_lies w hg s x 39 hop base 78 i0 (.agg #[.int .i64 0, .int .i64 0]) 2 16 Tryd.underlying39 hi hz0 hz1 hz2 rfl (by decide) v us.length (cellsV us) hs hM ⟨b, 0, none⟩ 1 1 [.int .i64 tk, .int .i64 tc] hx rfl
    (fun j u hj => by
      rw [Addr.add_lit, Nat.zero_add]
      match j, hj with
      | 0, hj => simp at hj; subst hj; exact hc0
      | 1, hj => simp at hj; subst hj; exact hc1
      | j + 2, hj => simp at hj)
    (by intro u hu; simp at hu; rcases hu with rfl | rfl <;> rfl) (by decide) (by unfold maxLen; omega) (by omega) hbase w.heap.size rfl ?_
  intro g cap w' g1 g2 g3 g4
  refine hK _ _ ?_ g2
  show World.ownsRow _ _ _ _ _ _ _
  rw [cellsV_app, List.length_append]
  exact g1

/-- verdicts under way, and the reader -/
structure VsSt (B P : Nat) (w0 : World) (v : Value) (us : List Pl.Vt) (w : World) : Prop where
  o : OV B w v us
  r : Rdr B P w
  b : Below B w0 w
  s : B ≤ w.heap.size
theorem VsSt.keep {B P : Nat} {w0 w w' : World} {v : Value} {us : List Pl.Vt} (h : VsSt B P w0 v us w) (hb : Below w.heap.size w w') : VsSt B P w0 v us w' :=
  ⟨owns_keep h.o hb, h.r.keep hb, h.b.trans (hb.mono h.s), Nat.le_trans h.s hb.size⟩
theorem VsSt.next {B P : Nat} {w0 w w' : World} {v : Value} {us : List Pl.Vt} (h : VsSt B P w0 v us w) (hg : w.grownBy w' (some P)) (hr : Rdr B P w') : VsSt B P w0 v us w' := by
  obtain ⟨c, hc⟩ := h.r.blk
  exact ⟨h.o.kept hg (.inr (own_blk_ne h.o hc (by decide))), hr, h.b.trans (grown_below hg h.r.1 h.s), Nat.le_trans h.s hg.size⟩
theorem VsSt.app {B P : Nat} {w0 w w' : World} {v v' : Value} {us us' : List Pl.Vt} (h : VsSt B P w0 v us w) (hg : w.grownBy w' v.ownBlock) (ho : OV B w' v' us') : VsSt B P w0 v' us' w' := by
  obtain ⟨c, hc⟩ := h.r.blk
  refine ⟨ho, h.r.kept hg (fun k hk => ⟨(h.o.lt k hk).1, fun e => own_blk_ne h.o hc (by decide) (by rw [hk, e])⟩), h.b.grown hg h.s (fun k hk => (h.o.lt k hk).1), Nat.le_trans h.s hg.size⟩

/-- the length of a slice -/
def lenOf : Value → Nat
  | .slice _ n _ => n
  | _ => 0
/-- what l6Verdicts leaves -/
def VsPost (B P : Nat) (w : World) (e : Ending) (w' : World) : Prop := ∃ (v : Value) (vs : List Pl.Vt), e = .returned v ∧ vs.length ≤ 30 ∧ RdV w'.heap.size w' v vs ∧ Rdr B P w' ∧ Below B w w'
theorem VsSt.post {B P : Nat} {w0 w : World} {v : Value} {us : List Pl.Vt} (h : VsSt B P w0 v us w) (hl : us.length ≤ 30) : VsPost B P w0 (.returned v) w := ⟨v, us, rfl, hl, OwX.rd (.inr h.o), h.r, h.b⟩
theorem VsSt.new {B P : Nat} {w0 w : World} (hr : Rdr B P w) (hb : Below B w0 w) (hs : B ≤ w.heap.size) : VsSt B P w0 (.slice (some ⟨w.heap.size, 0, none⟩) 0 0) [] (w.alloc (.cells #[] 78)) :=
  ⟨World.ownsRow_lit w #[] 0 hs (by unfold maxLen; omega) rfl, hr.keep ((Below.refl _ _).alloc (Nat.le_refl _) _), hb.alloc hs _, by simp; omega⟩

set_option maxRecDepth 100000 in
set_option maxHeartbeats 4000000 in
/-- spec.l6Verdicts -/
theorem l6Verdicts_any (B P : Nat) (w : World) (hBw : B ≤ w.heap.size) (h : Rdr B P w) : Calls Tryd.prog 84 #[.pointer (some ⟨P, 0, none⟩)] w (VsPost B P w) := by
  have KN := hideP (next_any B P w h)
  have hB := h.1
  clear h
  go_enter Tryd.func84, Tryd.ntmps84
  go_wp2_with fail
  refine KN.out.mono ?_
  rintro e w1 ⟨x, rfl, hx, hr, hg⟩
  have S1 := hideP (VsSt.new hr (grown_below hg hB hBw) (Nat.le_trans hBw hg.size))
  clear hr hg KN
  obtain ⟨q, hq⟩ : ∃ q, x % 6 = q := ⟨_, rfl⟩
  have hq5 : q ≤ 5 := by omega
  go_wp2_with fail
  generalize (w1.alloc (.cells #[] 78)) = wa at *
  generalize w1.heap.size = N0 at *
  go_loopw [4, 5, 6, 7] (fun ov i _ _ wr => ∃ (j : Nat) (us : List Pl.Vt), j ≤ q ∧ i = .int .i64 (j : Int) ∧ us.length ≤ j ∧ Hid (VsSt B P w ov us wr)) (fun _ i _ _ _ => q - (intOf i).toNat)
  case atStart => exact ⟨0, [], Nat.zero_le _, rfl, Nat.le_refl _, S1⟩
  case round =>
    obtain ⟨j, us, hj, rfl, hul, ST⟩ := hrel
    clear S1
    obtain ⟨xo, yo, eo⟩ := owns_formz ST.out.o
    subst eo
    by_cases hlt : j < q
    · have hlt' : (j : Int) < (q : Int) := by omega
      have KN := hideP (next_any B P wr ST.out.r)
      go_wp2_with fail
      refine KN.out.mono ?_
      rintro e w2 ⟨m, rfl, hm, hr, hg⟩
      have S2 := hideP (ST.out.next hg hr)
      clear hr hg KN ST
      obtain ⟨tk, htk⟩ : ∃ tk, 1 + (m : Int) % 5 = tk := ⟨_, rfl⟩
      obtain ⟨tc, htc⟩ : ∃ tc, 1 + (m : Int) / 5 * 3 % 99 = tc := ⟨_, rfl⟩
      by_cases h2 : tk = 3
      · have h2' : (tk == 3) = true := by rw [beq_iff_eq]; exact h2
        have HUL : Hid (∀ z : Pl.Vt, (us ++ [z]).length ≤ j + 1) := fun z => by rw [List.length_append]; simp; omega
        have SW : Hid (VsSt B P w (.slice xo us.length yo) us (w2.alloc (.cells #[.int .i64 tk, .int .i64 tc] 78))) := S2.out.keep ((Below.refl _ _).alloc (Nat.le_refl _) _)
        clear h2 S2
        go_upto_region 10 with fail
        have AL5 : Hid (Below (w2.alloc (.cells #[.int .i64 tk, .int .i64 tc] 78)).heap.size (w2.alloc (.cells #[.int .i64 tk, .int .i64 tc] 78)) ((w2.alloc (.cells #[.int .i64 tk, .int .i64 tc] 78)).alloc (.cells #[.int .i64 tk, .int .i64 tc] 78))) := (Below.refl _ _).alloc (Nat.le_refl _) _
        have S5 := hideP (SW.out.keep AL5.out)
        have C50 : Hid (((w2.alloc (.cells #[.int .i64 tk, .int .i64 tc] 78)).alloc (.cells #[.int .i64 tk, .int .i64 tc] 78)).cell? ⟨w2.heap.size + 1, 0, none⟩ = some (.int .i64 tk)) := by show _ = _; simp [go_sem]
        have C51 : Hid (((w2.alloc (.cells #[.int .i64 tk, .int .i64 tc] 78)).alloc (.cells #[.int .i64 tk, .int .i64 tc] 78)).cell? ⟨w2.heap.size + 1, 1, none⟩ = some (.int .i64 tc)) := by show _ = _; simp [go_sem]
        clear AL5 SW
        go_wp2_with (at_builtin; refine wpList_appV (base := B) _ rfl (.tmp 32) (.tmp 34) rfl (.slice xo us.length yo) rfl (w2.heap.size + 1) rfl us tk tc S5.out.o C50.out C51.out (by omega) S5.out.s ?_)
        intro v' w6 ho hg
        have S6 := hideP (S5.out.app hg ho)
        clear ho hg S5 C50 C51
        go_wp2_with fail
        go_roundw
        case rel => exact ⟨j + 1, _, by omega, by go_num, HUL.out _, S6⟩
        case measure => simp [intOf]; omega
      · have h2' : (tk == 3) = false := by rw [beq_eq_false_iff_ne]; exact h2
        have HUL : Hid (∀ z : Pl.Vt, (us ++ [z]).length ≤ j + 1) := fun z => by rw [List.length_append]; simp; omega
        have SW : Hid (VsSt B P w (.slice xo us.length yo) us (w2.alloc (.cells #[.int .i64 tk, .int .i64 0] 78))) := S2.out.keep ((Below.refl _ _).alloc (Nat.le_refl _) _)
        clear h2 S2
        go_upto_region 10 with fail
        have AL5 : Hid (Below (w2.alloc (.cells #[.int .i64 tk, .int .i64 0] 78)).heap.size (w2.alloc (.cells #[.int .i64 tk, .int .i64 0] 78)) ((w2.alloc (.cells #[.int .i64 tk, .int .i64 0] 78)).alloc (.cells #[.int .i64 tk, .int .i64 0] 78))) := (Below.refl _ _).alloc (Nat.le_refl _) _
        have S5 := hideP (SW.out.keep AL5.out)
        have C50 : Hid (((w2.alloc (.cells #[.int .i64 tk, .int .i64 0] 78)).alloc (.cells #[.int .i64 tk, .int .i64 0] 78)).cell? ⟨w2.heap.size + 1, 0, none⟩ = some (.int .i64 tk)) := by show _ = _; simp [go_sem]
        have C51 : Hid (((w2.alloc (.cells #[.int .i64 tk, .int .i64 0] 78)).alloc (.cells #[.int .i64 tk, .int .i64 0] 78)).cell? ⟨w2.heap.size + 1, 1, none⟩ = some (.int .i64 0)) := by show _ = _; simp [go_sem]
        clear AL5 SW
        go_wp2_with (at_builtin; refine wpList_appV (base := B) _ rfl (.tmp 32) (.tmp 34) rfl (.slice xo us.length yo) rfl (w2.heap.size + 1) rfl us tk 0 S5.out.o C50.out C51.out (by omega) S5.out.s ?_)
        intro v' w6 ho hg
        have S6 := hideP (S5.out.app hg ho)
        clear ho hg S5 C50 C51
        go_wp2_with fail
        go_roundw
        case rel => exact ⟨j + 1, _, by omega, by go_num, HUL.out _, S6⟩
        case measure => simp [intOf]; omega
    · have hlt' : ¬ (j : Int) < (q : Int) := by omega
      have hul5 : us.length ≤ 5 := by omega
      by_cases h15 : (x : Int) % 16 = 15
      · have h15' : ((x : Int) % 16 == 15) = true := by rw [beq_iff_eq]; exact h15
        have h14' : ((x : Int) % 32 == 14) = false := by rw [beq_eq_false_iff_ne]; omega
        obtain ⟨tk, htk⟩ : ∃ tk, (x : Int) / 16 % 7 = tk := ⟨_, rfl⟩
        obtain ⟨tc, htc⟩ : ∃ tc, (x : Int) / 32 * 30 = tc := ⟨_, rfl⟩
        have SW := ST
        have HUL : Hid (∀ z : Pl.Vt, (us ++ [z]).length ≤ 30) := fun z => by rw [List.length_append]; simp; omega
        clear ST h15
        have AL5 : Hid (Below wr.heap.size wr (wr.alloc (.cells #[.int .i64 tk, .int .i64 tc] 78))) := (Below.refl _ _).alloc (Nat.le_refl _) _
        have S5 := hideP (SW.out.keep AL5.out)
        have C50 : Hid ((wr.alloc (.cells #[.int .i64 tk, .int .i64 tc] 78)).cell? ⟨wr.heap.size, 0, none⟩ = some (.int .i64 tk)) := by show _ = _; simp [go_sem]
        have C51 : Hid ((wr.alloc (.cells #[.int .i64 tk, .int .i64 tc] 78)).cell? ⟨wr.heap.size, 1, none⟩ = some (.int .i64 tc)) := by show _ = _; simp [go_sem]
        clear AL5 SW
        go_wp2_with (at_builtin; refine wpList_appV (base := B) _ rfl (.tmp 39) (.tmp 47) rfl (.slice xo us.length yo) rfl (wr.heap.size) rfl us tk tc S5.out.o C50.out C51.out (by omega) S5.out.s ?_)
        intro v' w6 ho hg
        have S6 := hideP (S5.out.app hg ho)
        clear ho hg S5 C50 C51
        go_wp2_with fail
        go_ret
        exact S6.out.post (HUL.out _)
      · have h15' : ((x : Int) % 16 == 15) = false := by rw [beq_eq_false_iff_ne]; exact h15
        by_cases h14 : (x : Int) % 32 = 14
        · have h14' : ((x : Int) % 32 == 14) = true := by rw [beq_iff_eq]; exact h14
          obtain ⟨y, hy⟩ : ∃ y, (x : Int) / 32 % 2 = y := ⟨_, rfl⟩
          have hy1 : y ≤ 1 := by omega
          have hy0 : 0 ≤ y := by omega
          clear h15 h14
          go_wp2_with fail
          go_loopw [4] (fun ov w3 => ∃ us : List Pl.Vt, us.length ≤ 21 ∧ Hid (VsSt B P w ov us w3)) (fun ov _ => 30 - lenOf ov)
          case atStart => exact ⟨us, by omega, ST⟩
          case round =>
            clear ST hul5 hul hlt' hlt
            obtain ⟨us, hul, ST⟩ := hrel
            obtain ⟨xo, yo, eo⟩ := owns_formz ST.out.o
            subst eo
            by_cases hlt : (us.length : Int) < 20 + y
            · have SW := ST
              have HUL : Hid (∀ z : Pl.Vt, (us ++ [z]).length ≤ 21) := fun z => by rw [List.length_append]; simp; omega
              have HLL : Hid (∀ z : Pl.Vt, (us ++ [z]).length = us.length + 1) := fun z => by rw [List.length_append]; rfl
              clear ST
              have AL5 : Hid (Below wr.heap.size wr (wr.alloc (.cells #[.int .i64 1, .int .i64 0] 78))) := (Below.refl _ _).alloc (Nat.le_refl _) _
              have S5 := hideP (SW.out.keep AL5.out)
              have C50 : Hid ((wr.alloc (.cells #[.int .i64 1, .int .i64 0] 78)).cell? ⟨wr.heap.size, 0, none⟩ = some (.int .i64 1)) := by show _ = _; simp [go_sem]
              have C51 : Hid ((wr.alloc (.cells #[.int .i64 1, .int .i64 0] 78)).cell? ⟨wr.heap.size, 1, none⟩ = some (.int .i64 0)) := by show _ = _; simp [go_sem]
              clear AL5 SW
              go_wp2_with (at_builtin; refine wpList_appV (base := B) _ rfl (.tmp 59) (.tmp 61) rfl (.slice xo us.length yo) rfl (wr.heap.size) rfl us 1 0 S5.out.o C50.out C51.out (by omega) S5.out.s ?_)
              intro v' w6 ho hg
              have S6 := hideP (S5.out.app hg ho)
              clear ho hg S5 C50 C51
              obtain ⟨x6, y6, e6⟩ := owns_formz S6.out.o
              subst e6
              go_wp2_with fail
              go_roundw
              case rel => exact ⟨_, HUL.out _, S6⟩
              case measure => simp only [lenOf]; rw [HLL.out]; omega
            · go_wp2_with fail
              go_ret
              exact ST.out.post (by omega)
        · have h14' : ((x : Int) % 32 == 14) = false := by rw [beq_eq_false_iff_ne]; exact h14
          go_wp2_with fail
          go_ret
          exact ST.out.post (by omega)

end Go.Proofs.YtbmkbplgncoapaaDoor
