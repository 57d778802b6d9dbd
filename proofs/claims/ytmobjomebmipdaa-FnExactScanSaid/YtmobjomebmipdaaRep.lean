import Derived.Test.YtmobjomebmipdaaFold
import Derived.Test.YtmobjomebmipdaaRed
import Derived.Laws.Bits64b
import Derived.Laws.CopyOwn
namespace Go.Proofs.Ytmobjomebmipdaa
open Go.RowKit
set_option linter.unusedVariables false

/-- Array{.., ..} of two rows that are made in the region: the literals so far, the rows so far -/
structure Rc (wb : World) (p0 p1 : Option (Nat × Value)) (r0 r1 : Option (Value × List Int)) (w : World) : Prop where
  bel : Below wb.heap.size wb w
  l0 : ∀ k v, p0 = some (k, v) → k < w.heap.size ∧ w.cell? ⟨k, 0, none⟩ = some v
  l1 : ∀ k v, p1 = some (k, v) → k < w.heap.size ∧ w.cell? ⟨k, 0, none⟩ = some v
  o0 : ∀ v zs, r0 = some (v, zs) → Own wb.heap.size w v zs
  o1 : ∀ v zs, r1 = some (v, zs) → Own wb.heap.size w v zs
  ap : ∀ v zs v' zs', r0 = some (v, zs) → r1 = some (v', zs') → Apart v v' zs zs'

theorem Rc.start (wb : World) : Rc wb none none none none wb.drew := ⟨(Below.refl _ _).drew, (by intro _ _ h; cases h), (by intro _ _ h; cases h), (by intro _ _ h; cases h), (by intro _ _ h; cases h), (by intro _ _ _ _ h; cases h)⟩

theorem Rc.keep {wb w w' : World} {p0 p1 : Option (Nat × Value)} {r0 r1 : Option (Value × List Int)} (h : Rc wb p0 p1 r0 r1 w) (hb : Below w.heap.size w w') : Rc wb p0 p1 r0 r1 w' :=
  ⟨h.bel.trans (hb.mono h.bel.size), fun k v e => ⟨Nat.lt_of_lt_of_le (h.l0 k v e).1 hb.size, (hb.cell (p := ⟨k, 0, none⟩) (h.l0 k v e).1).trans (h.l0 k v e).2⟩, fun k v e => ⟨Nat.lt_of_lt_of_le (h.l1 k v e).1 hb.size, (hb.cell (p := ⟨k, 0, none⟩) (h.l1 k v e).1).trans (h.l1 k v e).2⟩, fun v zs e => (h.o0 v zs e).keep hb, fun v zs e => (h.o1 v zs e).keep hb, h.ap⟩

theorem lit_cell (w : World) (v : Value) (t : TypeId) : w.heap.size < (w.alloc (.cells #[v] t)).heap.size ∧ (w.alloc (.cells #[v] t)).cell? ⟨w.heap.size, 0, none⟩ = some v := ⟨by simp, by simp [go_sem]⟩

theorem Rc.lit0 {wb w : World} {p1 : Option (Nat × Value)} {r0 r1 : Option (Value × List Int)} (h : Rc wb none p1 r0 r1 w) (v : Value) (t : TypeId) : Rc wb (some (w.heap.size, v)) p1 r0 r1 (w.alloc (.cells #[v] t)) := by
  have k := h.keep ((Below.refl w.heap.size w).alloc (Nat.le_refl _) (.cells #[v] t))
  refine ⟨k.bel, ?_, k.l1, k.o0, k.o1, k.ap⟩
  intro k' v' e
  simp only [Option.some.injEq, Prod.mk.injEq] at e
  obtain ⟨rfl, rfl⟩ := e
  exact lit_cell w v t

theorem Rc.lit1 {wb w : World} {p0 : Option (Nat × Value)} {r0 r1 : Option (Value × List Int)} (h : Rc wb p0 none r0 r1 w) (v : Value) (t : TypeId) : Rc wb p0 (some (w.heap.size, v)) r0 r1 (w.alloc (.cells #[v] t)) := by
  have k := h.keep ((Below.refl w.heap.size w).alloc (Nat.le_refl _) (.cells #[v] t))
  refine ⟨k.bel, k.l0, ?_, k.o0, k.o1, k.ap⟩
  intro k' v' e
  simp only [Option.some.injEq, Prod.mk.injEq] at e
  obtain ⟨rfl, rfl⟩ := e
  exact lit_cell w v t

theorem Rc.row0 {wb w w' : World} {p0 p1 : Option (Nat × Value)} (h : Rc wb p0 p1 none none w) {v : Value} {zs : List Int} (ho : Own w.heap.size w' v zs) (hb : Below w.heap.size w w') : Rc wb p0 p1 (some (v, zs)) none w' := by
  have k := h.keep hb
  refine ⟨k.bel, k.l0, k.l1, ?_, k.o1, ?_⟩
  · intro v' zs' e
    simp only [Option.some.injEq, Prod.mk.injEq] at e
    obtain ⟨rfl, rfl⟩ := e
    exact ho.base h.bel.size
  · intro _ _ _ _ _ e
    cases e

theorem Rc.row1 {wb w w' : World} {p0 p1 : Option (Nat × Value)} {u : Value} {ys : List Int} (h : Rc wb p0 p1 (some (u, ys)) none w) {v : Value} {zs : List Int} (ho : Own w.heap.size w' v zs) (hb : Below w.heap.size w w') : Rc wb p0 p1 (some (u, ys)) (some (v, zs)) w' := by
  have k := h.keep hb
  refine ⟨k.bel, k.l0, k.l1, k.o0, ?_, ?_⟩
  · intro v' zs' e
    simp only [Option.some.injEq, Prod.mk.injEq] at e
    obtain ⟨rfl, rfl⟩ := e
    exact ho.base h.bel.size
  · intro v1 zs1 v2 zs2 e e'
    simp only [Option.some.injEq, Prod.mk.injEq] at e e'
    obtain ⟨rfl, rfl⟩ := e
    obtain ⟨rfl, rfl⟩ := e'
    exact apart_right ho (h.o0 _ _ rfl).lt

theorem Rc.res {wb w : World} {p0 p1 : Option (Nat × Value)} {u v : Value} {ys zs : List Int} (h : Rc wb p0 p1 (some (u, ys)) (some (v, zs)) w) : Res wb.heap.size w u v ys zs := ⟨h.o0 _ _ rfl, h.o1 _ _ rfl, h.ap _ _ _ _ rfl rfl⟩

/-- impl.joined of one list -/
theorem joined1_own (b : Nat) (u : Value) (xs : List Int) (w : World) (hl : xs.length ≤ 1048576) (hb : b < w.heap.size) (c0 : w.cell? ⟨b, 0, none⟩ = some u) (h0 : Rd w.heap.size w u xs) :
    Calls Try.prog 84 #[.slice (some ⟨b, 0, none⟩) 1 1] w fun e w' => ∃ ao cap, e = .returned (.slice ao xs.length cap) ∧ Own w.heap.size w' (.slice ao xs.length cap) xs ∧ Below w.heap.size w w' := by
  refine (joined1_row b u xs w hl hb c0 h0).mono ?_
  rintro e w' ⟨v, rfl, ho, hb⟩
  obtain ⟨x, y, ev⟩ := owns_form ho
  subst ev
  exact ⟨x, y, rfl, own_of_any ho, hb⟩

end Go.Proofs.Ytmobjomebmipdaa

namespace Go.Proofs.Ytmobjomebmipdaa
open Go.RowKit
set_option linter.unusedVariables false

theorem mask_small (a : Nat) (h : a ≤ 1000) : bits .and .u64 (a : Int) 4294967295 = (a : Int) := by
  have h1 := bits_and_u64_nat a 4294967295 (by omega) (by omega)
  have e : a &&& 4294967295 = a % 4294967296 := Nat.and_two_pow_sub_one_eq_mod a 32
  rw [e] at h1
  rw [show ((4294967295 : Nat) : Int) = 4294967295 from rfl] at h1
  rw [h1]
  omega

set_option maxRecDepth 100000 in
/-- bits.Mul64 of 1 -/
theorem mul64_one (cp : Nat) (w : World) (h : cp ≤ 1000) : Calls Try.prog 155 #[.int .u64 1, .int .u64 (cp : Int)] w fun e w' => e = .returned (.tuple #[.int .u64 0, .int .u64 (cp : Int)]) ∧ w' = w := by
  have e1 : bits .and .u64 1 4294967295 = 1 := mask_small 1 (by omega)
  have e0 : bits .and .u64 0 4294967295 = 0 := mask_small 0 (by omega)
  have e2 := mask_small cp h
  have d0 : (cp : Int) / 4294967296 = 0 := by omega
  have wc : IntKind.u64.wrap (cp : Int) = (cp : Int) := by rw [IntKind.wrap_u64]; omega
  have w0 : IntKind.u64.wrap 0 = 0 := by rw [IntKind.wrap_u64]; omega
  go_enter Try.func155, Try.ntmps155
  go_wp2
  go_ret2
  exact ⟨rfl, rfl⟩

set_option maxRecDepth 100000 in
/-- bits.Mul of 1 -/
theorem mul_one (cp : Nat) (w : World) (h : cp ≤ 1000) : Calls Try.prog 150 #[.int .u64 1, .int .u64 (cp : Int)] w fun e w' => e = .returned (.tuple #[.int .u64 0, .int .u64 (cp : Int)]) ∧ w' = w := by
  have K := hideP (mul64_one cp w h)
  go_enter Try.func150, Try.ntmps150
  go_wp2_with (go_at_call 155; refine K.out.mono ?_; rintro e w' ⟨rfl, rfl⟩)
  go_ret2
  exact ⟨rfl, rfl⟩

end Go.Proofs.Ytmobjomebmipdaa

namespace Go.Proofs.Ytmobjomebmipdaa
open Go.RowKit
set_option linter.unusedVariables false

theorem sizeOf3 (w : World) : (sizeOf (Try.prog.elem 22)).run Try.prog w = .ok 1 w := by
  obtain ⟨i0, hi, hz0, hz1, hz2⟩ := info_parts Try.info3
  have e : Try.prog.elem 22 = 3 := by kernel_rfl
  rw [e]
  simp [sizeOf, typeInfo, hi, hz1]
theorem und22 : Try.prog.underlying 22 = some (.slice (Try.prog.elem 22)) := by
  have e : Try.prog.elem 22 = 3 := by kernel_rfl
  rw [e]
  exact Try.underlying22
/-- s[j:] -/
theorem cut_lo (g cp j : Nat) (w : World) (h : j < cp) : (Instr.sliceAt 22 (.slice (some ⟨g, 0, none⟩) cp cp) (some (.int .i64 (j : Int))) none none).run Try.prog w = .ok (.slice (some ⟨g, j, none⟩) (cp - j) (cp - j)) w := by
  rw [run_sliceAt_slice _ _ _ _ _ _ und22, run_slice_l _ _ _ _ _ und22 _ _ (by omega) (by omega), sizeOf3]
  have hne : ¬ cp = j := by omega
  simp [Result.andThen, sliced, hne, Addr.add]
  omega
/-- s[:j] -/
theorem cut_hi (g cp j : Nat) (w : World) (h : j ≤ cp) (h0 : 0 < cp) : (Instr.sliceAt 22 (.slice (some ⟨g, 0, none⟩) cp cp) none (some (.int .i64 (j : Int))) none).run Try.prog w = .ok (.slice (some ⟨g, 0, none⟩) j cp) w := by
  rw [run_sliceAt_slice _ _ _ _ _ _ und22, run_slice_h _ _ _ _ _ und22 _ _ (by omega) (by omega), sizeOf3]
  have hne : ¬ cp = 0 := by omega
  simp [Result.andThen, sliced, hne, Addr.add]
theorem exec_move {o : Oper} {a : Act} (x : Operand) (v : Value) (ho : o.op = Op.move x) (hx : a.eval x = v) (w : World) : (execOp a.eval o).run Try.prog w = .ok (.value v) w := by
  simp [execOp, ho, hx]
theorem exec_lo {o : Oper} {a : Act} (x y : Operand) (g cp j : Nat) (ho : o.op = Op.slice 22 x (some y) none none) (hx : a.eval x = .slice (some ⟨g, 0, none⟩) cp cp) (hy : a.eval y = .int .i64 (j : Int)) (h : j < cp) (w : World) :
    (execOp a.eval o).run Try.prog w = .ok (.value (.slice (some ⟨g, j, none⟩) (cp - j) (cp - j))) w := by
  simp [execOp, ho, hx, hy, cut_lo g cp j w h, Result.andThen]
theorem exec_hi {o : Oper} {a : Act} (x y : Operand) (g cp j : Nat) (ho : o.op = Op.slice 22 x none (some y) none) (hx : a.eval x = .slice (some ⟨g, 0, none⟩) cp cp) (hy : a.eval y = .int .i64 (j : Int)) (h : j ≤ cp) (h0 : 0 < cp) (w : World) :
    (execOp a.eval o).run Try.prog w = .ok (.value (.slice (some ⟨g, 0, none⟩) j cp)) w := by
  simp [execOp, ho, hx, hy, cut_hi g cp j w h h0, Result.andThen]
end Go.Proofs.Ytmobjomebmipdaa

namespace Go.Proofs.Ytmobjomebmipdaa
open Go.RowKit
set_option linter.unusedVariables false

/-- j values x, then zeros -/
def repL (x : Int) (cp j : Nat) : List Value := List.replicate j (Value.int .i64 x) ++ List.replicate (cp - j) (Value.int .i64 0)
theorem repL_len (x : Int) (cp j : Nat) (h : j ≤ cp) : (repL x cp j).length = cp := by simp [repL]; omega
theorem repL_splice (x : Int) (cp j m : Nat) (h : j + m ≤ cp) : splice (repL x cp j) j (List.replicate m (Value.int .i64 x)) = repL x cp (j + m) := by
  unfold splice repL
  rw [List.take_append_of_le_length (by simp), List.take_of_length_le (by simp), List.length_replicate, List.drop_append, List.drop_of_length_le (by simp), List.nil_append, List.length_replicate, Nat.add_sub_cancel_left, List.drop_replicate, ← List.replicate_append_replicate, List.append_assoc]
  congr 3
  omega
theorem repL_cell (x : Int) (cp j i : Nat) (h : i < j) : (repL x cp j)[i]? = some (.int .i64 x) := by
  unfold repL
  rw [List.getElem?_append_left (by simpa using h)]
  simp [h]

theorem own_rep (x : Int) (cp B g : Nat) (w : World) (hg : w.heap[g]? = some (.cells (repL x cp cp).toArray 3 (0, 0))) (hB : B ≤ g) : Own B w (.slice (some ⟨g, 0, none⟩) cp cp) (List.replicate cp x) := by
  refine ⟨some ⟨g, 0, none⟩, cp, by simp, .inr ⟨g, 0, hB, (Array.getElem?_eq_some_iff.1 hg).1, rfl, fun i hi => ⟨?_, ?_⟩⟩⟩
  · rw [Nat.zero_add]
    have hi' : i < cp := by simpa using hi
    have := cell_blk (j := i) hg
    rw [this]
    simp [repL_cell x cp cp i hi', List.getD, hi']
  · exact frozen_blk hg

theorem row_whole {w : World} {base g cp : Nat} {zs : List Value} (h : w.ownsRow base 3 1 (.slice (some ⟨g, 0, none⟩) cp cp) cp zs) : w.heap[g]? = some (.cells zs.toArray 3 (0, 0)) := by
  rcases h.2 with ⟨e, _⟩ | ⟨g', cap, cur, e, _, hg, _, _, hsz, htk⟩
  · cases e
  · simp only [Value.slice.injEq, Option.some.injEq, Addr.mk.injEq, and_true, true_and] at e
    obtain ⟨rfl, rfl⟩ := e
    rw [Nat.mul_one] at hsz htk
    have : cur.toList = zs := by rw [← htk, List.take_of_length_le (by simp [hsz])]
    rw [hg, ← this]

set_option maxRecDepth 100000 in
set_option maxHeartbeats 2000000 in
/-- slices.Repeat of one number -/
theorem repeat_any (b : Nat) (x : Int) (cp : Nat) (w : World) (hb : b < w.heap.size) (hc : w.cell? ⟨b, 0, none⟩ = some (.int .i64 x)) (hcp : cp ≤ 1000) :
    Calls Try.prog 132 #[.slice (some ⟨b, 0, none⟩) 1 1, .int .i64 (cp : Int)] w fun e w' => e = .returned (.slice (some ⟨w.heap.size, 0, none⟩) cp cp) ∧ Own w.heap.size w' (.slice (some ⟨w.heap.size, 0, none⟩) cp cp) (List.replicate cp x) ∧ Below w.heap.size w w' := by
  obtain ⟨i0, hi, hz0, hz1, hz2⟩ := info_parts Try.info3
  have HI := hideP (And.intro hi (And.intro hz0 (And.intro hz1 hz2)))
  have HSZ : Hid ((Try.prog.info? 3).map (·.size) = some 1) := by show _ = _; rw [hi]; simp [hz1]
  have KM := hideP (fun w => mul_one cp w hcp)
  have HC := hideP hc
  have hneg : ¬ ((cp : Int) < 0) := by omega
  have wc : IntKind.u64.wrap (cp : Int) = (cp : Int) := by rw [IntKind.wrap_u64]; omega
  have wi : IntKind.i64.wrap (cp : Int) = (cp : Int) := by rw [IntKind.wrap_i64]; omega
  have hbig : ¬ ((9223372036854775807 : Int) < (cp : Int)) := by omega
  clear hi hz0 hz1 hz2 hc
  go_enter Try.func132, Try.ntmps132
  go_wp2_with (first
    | (go_at_call 150; refine (KM.out _).mono ?_; rintro e w ⟨rfl, rfl⟩)
    | (at_make; refine wpList_make_full _ rfl _ _ 22 rfl w.heap.size 3 i0 (.int .i64 0) 1 Try.underlying22 HI.out.1 HI.out.2.1 HI.out.2.2.1 _ _ _ _ cp rfl rfl rfl rfl ?b2 ?b3 ?b4 ?_))
  case b2 => rw [HI.out.2.2.2]; omega
  case b3 => unfold maxLen; omega
  case b4 => exact Nat.le_refl _
  intro w1 hown hgrow
  rw [made_zeros] at hown
  have B1 : Hid (Below w.heap.size w w1) := (Below.refl _ _).grown hgrow (Nat.le_refl _) (by intro k h; cases h)
  have G1 : Hid (w1.heap[w.heap.size]? = some (.cells (repL x cp 0).toArray 3 (0, 0))) := by
    have := row_whole hown
    show _ = _
    rw [this]
    simp [repL]
  have hs1 := B1.out.size
  clear hown hgrow
  by_cases h0 : cp = 0
  · subst h0
    go_wp2_with (refine wpList_copy_splice rfl (.tmp 31) (.tmp 32) 22 22 rfl 3 Try.underlying22 HSZ.out _ _ _ _ _ _ rfl rfl w.heap.size 0 (repL x 0 0) 3 G1.out [] ?c1 ?c2 ?c3 ?c4 w.heap.size w B1.out (Nat.le_refl _) ?_)
    case c1 => rfl
    case c3 => simp
    case c4 => intro v hv; simp at hv
    intro w2 HG2 hB2
    have B2 := hideP hB2
    clear hB2
    go_wp2_with fail
    go_loopw [8] (fun i wr => i = .int .i64 0 ∧ Hid (Below w.heap.size w wr)) (fun _ _ => 0)
    case atStart => exact ⟨rfl, B2⟩
    case round =>
      obtain ⟨rfl, hB⟩ := hrel
      go_wp2_with fail
      go_ret
      exact ⟨rfl, ⟨_, _, rfl, .inl rfl⟩, hB.out⟩
  · have HC1 : Hid (w1.cell? ⟨b, 0, none⟩ = some (.int .i64 x)) := (B1.out.cell (p := ⟨b, 0, none⟩) hb).trans HC.out
    obtain ⟨X1, hX1⟩ : ∃ X1, X1 = List.replicate 1 (Value.int .i64 x) := ⟨_, rfl⟩
    have F1 : Hid (X1.length = Nat.min 1 cp) := by
      show _ = _
      rw [hX1]
      show 1 = min 1 cp
      omega
    have F2 : Hid (0 < X1.length → (some ⟨w.heap.size, 0, none⟩ : Option Addr) = some ⟨w.heap.size, 0, none⟩ ∧ ∃ ad : Addr, (some ⟨b, 0, none⟩ : Option Addr) = some ad ∧ ∀ j v, X1[j]? = some v → w1.cell? (ad.add j) = some v) := by
      intro _
      refine ⟨rfl, ⟨b, 0, none⟩, rfl, fun j v hj => ?_⟩
      rw [hX1] at hj
      have : j = 0 := by
        have := (List.getElem?_eq_some_iff.1 hj).1
        simpa using this
      subst this
      simp at hj
      subst hj
      rw [Addr.add_lit]
      exact HC1.out
    have F3 : Hid (0 + X1.length ≤ (repL x cp 0).length) := by show _ ≤ _; rw [repL_len x cp 0 (by omega), hX1]; simp; omega
    have F4 : Hid (∀ v ∈ X1, v.oneCell' = true) := by intro v hv; rw [hX1] at hv; rw [List.eq_of_mem_replicate hv]; rfl
    have F5 : Hid (splice (repL x cp 0) 0 X1 = repL x cp 1) := by show _ = _; rw [hX1]; exact repL_splice x cp 0 1 (by omega)
    have F6 : Hid (X1.length = 1) := by show _ = _; rw [hX1]; rfl
    clear hX1
    go_wp2_with (refine wpList_copy_splice rfl (.tmp 31) (.tmp 32) 22 22 rfl 3 Try.underlying22 HSZ.out _ _ _ _ _ _ rfl rfl w.heap.size 0 (repL x cp 0) 3 G1.out X1 F1.out F2.out F3.out F4.out w.heap.size w B1.out (Nat.le_refl _) ?_)
    intro w2 HG2 hB2
    have B2 := hideP hB2
    have G2 : Hid (w2.heap[w.heap.size]? = some (.cells (repL x cp 1).toArray 3 (0, 0))) := by
      have := HG2.out
      rw [F5.out] at this
      exact this
    clear hB2 HG2
    rw [F6.out]
    go_wp2_with fail
    go_loopw [8] (fun i wr => ∃ j : Nat, 1 ≤ j ∧ j ≤ cp ∧ i = .int .i64 j ∧ Hid (wr.heap[w.heap.size]? = some (.cells (repL x cp j).toArray 3 (0, 0))) ∧ Hid (Below w.heap.size w wr)) (fun i _ => cp - (intOf i).toNat)
    case atStart => exact ⟨1, by omega, by omega, rfl, G2, B2⟩
    case round =>
      obtain ⟨j, hj1, hj2, rfl, hG, hB⟩ := hrel
      by_cases hlt : j < cp
      · have hlt' : (j : Int) < (cp : Int) := by omega
        obtain ⟨m, hm⟩ : ∃ m, m = min j (cp - j) := ⟨_, rfl⟩
        have hm1 : m ≤ j := by omega
        have hm2 : j + m ≤ cp := by omega
        have hm3 : 1 ≤ m := by omega
        have SP : Hid (splice (repL x cp j) j (List.replicate m (Value.int .i64 x)) = repL x cp (j + m)) := repL_splice x cp j m hm2
        have D0 : Hid (Below w.heap.size w wr.drew) := hB.out.drew
        have GD : Hid (wr.drew.heap[w.heap.size]? = some (.cells (repL x cp j).toArray 3 (0, 0))) := hG.out
        obtain ⟨X2, hX2⟩ : ∃ X2, X2 = List.replicate m (Value.int .i64 x) := ⟨_, rfl⟩
        have E1 : Hid (X2.length = Nat.min j (cp - j)) := by
          show _ = _
          rw [hX2, List.length_replicate]
          exact hm
        have E2 : Hid (0 < X2.length → (some ⟨w.heap.size, j, none⟩ : Option Addr) = some ⟨w.heap.size, j, none⟩ ∧ ∃ ad : Addr, (some ⟨w.heap.size, 0, none⟩ : Option Addr) = some ad ∧ ∀ q v, X2[q]? = some v → wr.drew.cell? (ad.add q) = some v) := by
          intro _
          refine ⟨rfl, ⟨w.heap.size, 0, none⟩, rfl, fun q v hq => ?_⟩
          rw [hX2] at hq
          have hqm : q < m := by simpa using (List.getElem?_eq_some_iff.1 hq).1
          have ev : v = .int .i64 x := by
            rw [List.getElem?_replicate, if_pos hqm] at hq
            simpa using hq.symm
          subst ev
          rw [Addr.add_lit, Nat.zero_add, cell_blk (j := q) GD.out]
          have := repL_cell x cp j q (by omega)
          simpa using this
        have E3 : Hid (j + X2.length ≤ (repL x cp j).length) := by show _ ≤ _; rw [repL_len x cp j hj2, hX2, List.length_replicate]; exact hm2
        have E4 : Hid (∀ v ∈ X2, v.oneCell' = true) := by intro v hv; rw [hX2] at hv; rw [List.eq_of_mem_replicate hv]; rfl
        have E6 : Hid (X2.length = m) := by show _ = _; rw [hX2, List.length_replicate]
        rw [← hX2] at SP
        clear hm hX2 HC1 F1 F2 F3 F4 F5 F6 G2 B2 G1 HC KM HI
        have wj : IntKind.i64.wrap ((j : Int) + (m : Int)) = (j : Int) + (m : Int) := by rw [IntKind.wrap_i64]; omega
        have hne : ¬ cp = j := by omega
        have hcp0 : 0 < cp := by omega
        go_upto_region 9 with fail
        refine wp_region_held (S := fun w' => Below w.heap.size w w') (by kernel_rfl) ?_
        change wpAnyH _ _ _ _ _ _ _ _ (World.drew _)
        refine wpAnyH_take (i := 0) (v := .int .i64 (j : Int)) rfl (by kernel_rfl) (by kernel_rfl) (by kernel_rfl) (fun _ _ _ h => h) (Or.inl ⟨by rfl, fun w' _ => exec_move (.tmp 8) _ (by kernel_rfl) (by kernel_rfl) w'⟩) D0.out ?_
        refine wpAnyH_take (i := 1) (v := .slice (some ⟨w.heap.size, 0, none⟩) cp cp) rfl (by kernel_rfl) (by kernel_rfl) (by kernel_rfl) (fun _ _ _ h => h) (Or.inl ⟨by rfl, fun w' _ => exec_move (.tmp 7) _ (by kernel_rfl) (by kernel_rfl) w'⟩) D0.out ?_
        refine wpAnyH_take (i := 2) (v := .int .i64 (j : Int)) rfl (by kernel_rfl) (by kernel_rfl) (by kernel_rfl) (fun _ _ _ h => h) (Or.inl ⟨by rfl, fun w' _ => exec_move (.tmp 8) _ (by kernel_rfl) (by kernel_rfl) w'⟩) D0.out ?_
        refine wpAnyH_take (i := 3) (v := .slice (some ⟨w.heap.size, j, none⟩) (cp - j) (cp - j)) rfl (by kernel_rfl) (by kernel_rfl) (by kernel_rfl) (fun _ _ _ h => h) (Or.inl ⟨by rfl, fun w' _ => exec_lo (.tmp 39) (.tmp 40) w.heap.size cp j (by kernel_rfl) (by kernel_rfl) (by kernel_rfl) hlt w'⟩) D0.out ?_
        refine wpAnyH_take (i := 4) (v := .slice (some ⟨w.heap.size, 0, none⟩) cp cp) rfl (by kernel_rfl) (by kernel_rfl) (by kernel_rfl) (fun _ _ _ h => h) (Or.inl ⟨by rfl, fun w' _ => exec_move (.tmp 7) _ (by kernel_rfl) (by kernel_rfl) w'⟩) D0.out ?_
        refine wpAnyH_take (i := 5) (v := .int .i64 (j : Int)) rfl (by kernel_rfl) (by kernel_rfl) (by kernel_rfl) (fun _ _ _ h => h) (Or.inl ⟨by rfl, fun w' _ => exec_move (.tmp 8) _ (by kernel_rfl) (by kernel_rfl) w'⟩) D0.out ?_
        refine wpAnyH_take (i := 6) (v := .slice (some ⟨w.heap.size, 0, none⟩) j cp) rfl (by kernel_rfl) (by kernel_rfl) (by kernel_rfl) (fun _ _ _ h => h) (Or.inl ⟨by rfl, fun w' _ => exec_hi (.tmp 42) (.tmp 43) w.heap.size cp j (by kernel_rfl) (by kernel_rfl) (by kernel_rfl) hj2 hcp0 w'⟩) D0.out ?_
        refine wpAnyH_ready (rs := [7]) (by kernel_rfl) (by simp) ?_
        refine AllReadyH.cons rfl (fun K hK => ?_) AllReadyH.nil
        refine step_copy_splice (by kernel_rfl) (.tmp 41) (.tmp 44) 22 22 (by kernel_rfl) 3 Try.underlying22 HSZ.out (some ⟨w.heap.size, j, none⟩) (some ⟨w.heap.size, 0, none⟩) (cp - j) (cp - j) j cp (by kernel_rfl) (by kernel_rfl) w.heap.size j (repL x cp j) 3 GD.out X2 E1.out E2.out E3.out E4.out w.heap.size w D0.out (Nat.le_refl _) ?_
        intro w5 HG5 hB5
        have B5 := hideP hB5
        have G5 : Hid (w5.heap[w.heap.size]? = some (.cells (repL x cp (j + m)).toArray 3 (0, 0))) := by
          have := HG5.out
          rw [SP.out] at this
          exact this
        clear HG5 hB5
        refine hK.out _ _ B5.out (fun _ => ?_)
        clear hK
        rw [E6.out]
        refine wpAnyH_take (i := 8) (v := .int .i64 ((j : Int) + (m : Int))) rfl (by kernel_rfl) (by kernel_rfl) (by kernel_rfl) (fun _ _ _ h => h) (Or.inl ⟨by rfl, ?_⟩) B5.out ?_
        · intro w' hS
          clear hS
          go_simp
        refine wpAnyH_ready (rs := [9]) (by kernel_rfl) (by simp) ?_
        refine AllReadyH.cons rfl (fun K hK => ?_) AllReadyH.nil
        go_simp
        refine hK.out _ _ B5.out (fun _ => ?_)
        clear hK
        refine wpAnyH_done (by kernel_rfl) ?_ _
        go_wp2_with fail
        go_roundw
        case rel => exact ⟨j + m, by omega, by omega, by go_num, by first | exact G5 | exact trivial, by first | exact B5 | exact trivial⟩
        case measure => simp [intOf]; omega
      · have jn : j = cp := by omega
        subst jn
        go_wp2_with fail
        go_ret
        exact ⟨rfl, own_rep x _ _ _ _ hG.out (Nat.le_refl _), hB.out⟩

end Go.Proofs.Ytmobjomebmipdaa

