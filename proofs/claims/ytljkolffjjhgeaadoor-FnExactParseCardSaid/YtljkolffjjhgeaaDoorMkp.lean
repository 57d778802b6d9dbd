import Derived.Test.YtljkolffjjhgeaaDoorMm
import Derived.Maps.AppendAt
import Derived.OwnWalk
import Derived.Test.YtljkolffjjhgeaaDoorEcd
import Derived.Laws.BytesArg
import Derived.Laws.Concat
import Derived.Deep.RegionWith
import Derived.Deep.RegionHeld3
namespace Go.Proofs.YtljkolffjjhgeaaDoor
open Go.RowKit
set_option linter.unusedVariables false
set_option maxRecDepth 100000
/-- what append wants to know of a type of elements -/
structure El (st et z : Nat) : Prop where
  und : Tryd.prog.underlying st = some (.slice et)
  ex : ∃ i zr bs, Tryd.prog.info? et = some i ∧ i.zero = some zr ∧ i.size = z ∧ i.bytes = bs ∧ zr.cells.size = z ∧ bs ≤ 1000 ∧ 0 < z
theorem El.mk' {st et z bs : Nat} {zr : Value} (hu : Tryd.prog.underlying st = some (.slice et)) (hi : (Tryd.prog.info? et).map (fun i => (i.zero, i.size, i.bytes)) = some (some zr, z, bs)) (hz : zr.cells.size = z) (hb : bs ≤ 1000) (h0 : 0 < z) : El st et z := by
  obtain ⟨i0, h1, h2, h3, h4⟩ := info_parts hi
  exact ⟨hu, i0, zr, bs, h1, h2, h3, h4, hz, hb, h0⟩
theorem append_g {st et z : Nat} (E : El st et z) {base : Nat} (w : World) (v : Value) (n : Nat) (xs : List Value) (hown : w.ownsRow base et z v n xs) (b off m cap : Nat) (news : List Value) (hl : news.length = m * z)
    (hc : ∀ j u, news[j]? = some u → w.cell? ⟨b, off + j, none⟩ = some u) (h1 : ∀ u ∈ news, u.oneCell' = true) (hbd : n + m ≤ 16777216) (hbase : base ≤ w.heap.size) (ty : TypeId) :
    ∃ v' w', (Builtin.append_ #[st, st] ty #[v, .slice (some ⟨b, off, none⟩) m cap]).run Tryd.prog w = .ok v' w' ∧ w'.ownsRow base et z v' (n + m) (xs ++ news) ∧ w.grownBy w' v.ownBlock ∧ (v'.ownBlock = v.ownBlock ∨ v'.ownBlock = some w.heap.size) := by
  obtain ⟨und, i0, zr, bs, hi, hz0, hz1, hz2, hzs, hbs, h0z⟩ := E
  obtain ⟨v', w', hr, ho, hg, _, hat⟩ := run_append_own_at (P := Tryd.prog) w base st ty et i0 zr z bs und hi hz0 hz1 hz2 hzs h0z v n xs hown ⟨b, off, none⟩ m cap news hl
    (by
      intro j x hj
      rw [Addr.add_lit]
      exact hc j x hj)
    h1 (by unfold maxLen; omega) (by have := Nat.mul_le_mul hbd hbs; omega) hbase
  exact ⟨v', w', hr, ho, hg, hat⟩
/-- an append whose run is known -/
theorem wpList_append_eq {P : Program} (w w' : World) {ops : Array Oper} {rest : List Oper} {o : Oper} {a : Act} {Q : Exit → Act → World → Prop} (hg : o.guard = none) (s x : Operand) (ts : Array TypeId)
    (hop : o.op = Op.call { callee := Callee.builtin Builtin.append, args := #[s, x], argTypes := ts }) (vs vx v : Value) (hs : a.eval s = vs) (hx : a.eval x = vx) (hrun : (Builtin.append_ ts o.type #[vs, vx]).run P w = .ok v w')
    (hK : wpList P ops Q rest (a.put o.dst v) w') : wpList P ops Q (o :: rest) a w := by
  refine wpList_plain hg fun K hK' => ?_
  unfold Oper.wp
  simp [execOp, hop, resolve, invoke, builtin, hs, hx, hrun, Result.andThen]
  exact hK' _ _ hK
theorem wpList_append_g {st et z : Nat} (E : El st et z) {base : Nat} (w : World) {ops : Array Oper} {rest : List Oper} {o : Oper} {a : Act} {Q : Exit → Act → World → Prop} (hg : o.guard = none) (s x : Operand)
    (hop : o.op = Op.call { callee := Callee.builtin Builtin.append, args := #[s, x], argTypes := #[st, st] }) (v : Value) (b off m cap : Nat) (hs : a.eval s = v) (hx : a.eval x = .slice (some ⟨b, off, none⟩) m cap) (n : Nat) (xs news : List Value)
    (hown : w.ownsRow base et z v n xs) (hl : news.length = m * z) (hc : ∀ j u, news[j]? = some u → w.cell? ⟨b, off + j, none⟩ = some u) (h1 : ∀ u ∈ news, u.oneCell' = true) (hbd : n + m ≤ 16777216) (hbase : base ≤ w.heap.size)
    (hK : ∀ v' w', w'.ownsRow base et z v' (n + m) (xs ++ news) → w.grownBy w' v.ownBlock → (v'.ownBlock = v.ownBlock ∨ v'.ownBlock = some w.heap.size) → wpList Tryd.prog ops Q rest (a.put o.dst v') w') : wpList Tryd.prog ops Q (o :: rest) a w := by
  obtain ⟨v', w', hr, ho, hb, hat⟩ := append_g E w v n xs hown b off m cap news hl hc h1 hbd hbase o.type
  exact wpList_append_eq w w' hg s x _ hop v _ v' hs hx hr (hK v' w' ho hb hat)
theorem own_form {w : World} {base et z n : Nat} {v : Value} {xs : List Value} (h : w.ownsRow base et z v n xs) : ∃ ao cap, v = .slice ao n cap := by
  rcases h.2 with ⟨rfl, rfl⟩ | ⟨g, cap, _, rfl, _⟩
  · exact ⟨none, 0, rfl⟩
  · exact ⟨_, cap, rfl⟩
theorem grown_of_below {w w' : World} (hb : Below w.heap.size w w') : w.grownBy w' none := ⟨hb.os, hb.tape, hb.output, hb.size, fun k hk _ => hb.block k hk⟩
theorem owns_keep {w w' : World} {base : Nat} {e : TypeId} {size : Nat} {v : Value} {n : Nat} {xs : List Value} (h : w.ownsRow base e size v n xs) (hb : Below w.heap.size w w') : w'.ownsRow base e size v n xs :=
  h.kept (grown_of_below hb) (by cases v.ownBlock <;> simp)
theorem owns_block {w : World} {base : Nat} {e : TypeId} {size : Nat} {v : Value} {n : Nat} {xs : List Value} (h : w.ownsRow base e size v n xs) : ∀ k, v.ownBlock = some k → base ≤ k ∧ k < w.heap.size := h.lt
/-- behind an append of an own list: what lies below the base is as it was -/
theorem grown_below {w w' : World} {base : Nat} {e : TypeId} {size : Nat} {v : Value} {n : Nat} {xs : List Value} (h : w.ownsRow base e size v n xs) (hg : w.grownBy w' v.ownBlock) (hB : base ≤ w.heap.size) : Below base w w' :=
  (Below.refl _ _).grown hg hB (fun k hk => (h.lt k hk).1)
/-- the cells of an own list -/
theorem owns_cell {w : World} {base et z n : Nat} {ao : Option Addr} {cap : Nat} {xs : List Value} (h : w.ownsRow base et z (.slice ao n cap) n xs) (hn : 0 < n) : ∃ g, ao = some ⟨g, 0, none⟩ ∧ base ≤ g ∧ g < w.heap.size ∧ ∀ j, j < n * z → w.cell? ⟨g, j, none⟩ = xs[j]? := by
  rcases h.2 with ⟨_, rfl⟩ | ⟨g, cp, cur, e, hb, hg, _⟩
  · omega
  · cases e
    exact ⟨g, rfl, hb, (h.lt g rfl).2, fun j hj => h.cellAt j hj⟩
/-- records in a row of cells, with the blocks that they hold -/
def RowQ {α : Type} (Q : World → List Value → α → List Nat → Prop) (w : World) : List Value → List α → List Nat → Prop
  | xs, [], F => xs = [] ∧ F = []
  | xs, a :: c, F => ∃ x xs' f F', xs = x ++ xs' ∧ F = f ++ F' ∧ Q w x a f ∧ RowQ Q w xs' c F'
theorem RowQ.app {α : Type} {Q : World → List Value → α → List Nat → Prop} {w : World} : ∀ {xs ys : List Value} {c d : List α} {F G : List Nat}, RowQ Q w xs c F → RowQ Q w ys d G → RowQ Q w (xs ++ ys) (c ++ d) (F ++ G)
  | xs, ys, [], d, F, G, h, k => by
    obtain ⟨rfl, rfl⟩ := h
    exact k
  | xs, ys, a :: c, d, F, G, h, k => by
    obtain ⟨x, xs', f, F', rfl, rfl, h1, h2⟩ := h
    exact ⟨x, xs' ++ ys, f, F' ++ G, by simp, by simp, h1, h2.app k⟩
theorem RowQ.one {α : Type} {Q : World → List Value → α → List Nat → Prop} {w : World} {x : List Value} {a : α} {f : List Nat} (h : Q w x a f) : RowQ Q w x [a] f := ⟨x, [], f, [], by simp, by simp, h, rfl, rfl⟩
/-- a record lives as long as its blocks are as they were -/
structure Lives {α : Type} (Q : World → List Value → α → List Nat → Prop) : Prop where
  go : ∀ (w w' : World) (x : List Value) (a : α) (f : List Nat), Q w x a f → (∀ b ∈ f, w'.heap[b]? = w.heap[b]?) → Q w' x a f
theorem RowQ.keep {α : Type} {Q : World → List Value → α → List Nat → Prop} (L : Lives Q) {w w' : World} : ∀ {xs : List Value} {c : List α} {F : List Nat}, RowQ Q w xs c F → (∀ b ∈ F, w'.heap[b]? = w.heap[b]?) → RowQ Q w' xs c F
  | xs, [], F, h, k => h
  | xs, a :: c, F, h, k => by
    obtain ⟨x, xs', f, F', rfl, rfl, h1, h2⟩ := h
    exact ⟨x, xs', f, F', rfl, rfl, L.go _ _ _ _ _ h1 (fun b hb => k b (List.mem_append_left _ hb)), h2.keep L (fun b hb => k b (List.mem_append_right _ hb))⟩
/-- a list with its own memory: the blocks F, no two of them the same -/
def Own {α : Type} (et z : Nat) (Q : World → List Value → α → List Nat → Prop) (w : World) (v : Value) (c : List α) (F : List Nat) : Prop :=
  ∃ xs fp, F = v.ownBlock.toList ++ fp ∧ w.ownsRow 0 et z v c.length xs ∧ RowQ Q w xs c fp ∧ F.Nodup
theorem Own.keep {α : Type} {et z : Nat} {Q : World → List Value → α → List Nat → Prop} (L : Lives Q) {w w' : World} {v : Value} {c : List α} {F : List Nat} (h : Own et z Q w v c F) (k : ∀ b ∈ F, w'.heap[b]? = w.heap[b]?) : Own et z Q w' v c F := by
  obtain ⟨xs, fp, rfl, h1, h2, h3⟩ := h
  refine ⟨xs, fp, rfl, ⟨h1.1, ?_⟩, h2.keep L (fun b hb => k b (List.mem_append_right _ hb)), h3⟩
  rcases h1.2 with h | ⟨g, cap, cur, rfl, hb, hg, rest⟩
  · exact .inl h
  · exact .inr ⟨g, cap, cur, rfl, hb, (k g (by simp [Value.ownBlock])).trans hg, rest⟩
theorem Own.nil {α : Type} {et z : Nat} {Q : World → List Value → α → List Nat → Prop} (w : World) : Own et z Q w (.slice none 0 0) ([] : List α) [] :=
  ⟨[], [], rfl, World.ownsRow_nil _ _ _ _, ⟨rfl, rfl⟩, List.nodup_nil⟩
theorem Own.empty {α : Type} {et z : Nat} {Q : World → List Value → α → List Nat → Prop} (w : World) : Own et z Q (w.alloc (.cells #[] et)) (.slice (some ⟨w.heap.size, 0, none⟩) 0 0) ([] : List α) [w.heap.size] :=
  ⟨[], [], rfl, World.ownsRow_made w #[] 0 (Nat.zero_le _) (by simp [maxLen]) (by simp), ⟨rfl, rfl⟩, by simp⟩
theorem Own.slice {α : Type} {et z : Nat} {Q : World → List Value → α → List Nat → Prop} {w : World} {v : Value} {c : List α} {F : List Nat} (h : Own et z Q w v c F) : ∃ ao cap, v = .slice ao c.length cap := by
  obtain ⟨xs, fp, _, h1, _⟩ := h
  exact own_form h1
theorem Own.lt {α : Type} {et z : Nat} {Q : World → List Value → α → List Nat → Prop} {w : World} {v : Value} {c : List α} {F : List Nat} (h : Own et z Q w v c F) : ∀ b, v.ownBlock = some b → b ∈ F ∧ b < w.heap.size := by
  obtain ⟨xs, fp, rfl, h1, _⟩ := h
  intro b hb
  exact ⟨by simp [hb], (h1.lt b hb).2⟩
/-- blocks from B on, that are there -/
def Inb (B : Nat) (w : World) (F : List Nat) : Prop := ∀ b ∈ F, B ≤ b ∧ b < w.heap.size
theorem Inb.nil (B : Nat) (w : World) : Inb B w [] := fun b hb => absurd hb (by simp)
theorem Inb.up {B B' : Nat} {w w' : World} {F : List Nat} (h : Inb B w F) (hB : B' ≤ B) (hw : w.heap.size ≤ w'.heap.size) : Inb B' w' F := fun b hb => ⟨Nat.le_trans hB (h b hb).1, Nat.lt_of_lt_of_le (h b hb).2 hw⟩
theorem Inb.app {B : Nat} {w : World} {F G : List Nat} (h : Inb B w F) (k : Inb B w G) : Inb B w (F ++ G) := fun b hb => by
  rcases List.mem_append.1 hb with x | x
  · exact h b x
  · exact k b x
/-- what grows outside of a block keeps a list that has no such block -/
theorem Own.grown {α : Type} {et z : Nat} {Q : World → List Value → α → List Nat → Prop} (L : Lives Q) {w w' : World} {v : Value} {c : List α} {F : List Nat} {r : Option Nat} {B : Nat} (h : Own et z Q w v c F) (hi : Inb B w F) (hg : w.grownBy w' r) (hr : ∀ b, r = some b → b ∉ F) : Own et z Q w' v c F :=
  h.keep L (fun b hb => hg.block b (hi b hb).2 (fun e => hr b e.symm hb))
theorem Own.below {α : Type} {et z : Nat} {Q : World → List Value → α → List Nat → Prop} (L : Lives Q) {w w' : World} {v : Value} {c : List α} {F : List Nat} {B C : Nat} (h : Own et z Q w v c F) (hi : Inb B w F) (hb : Below C w w') (hC : w.heap.size ≤ C) : Own et z Q w' v c F :=
  h.keep L (fun b hb' => hb.block b (by have := (hi b hb').2; omega))
/-- behind an append of a list -/
theorem Own.append {α : Type} {st et z : Nat} (E : El st et z) {Q : World → List Value → α → List Nat → Prop} (L : Lives Q) {w : World} {v : Value} {c d : List α} {F G : List Nat} {ys : List Value} {b off cap B : Nat} (h : Own et z Q w v c F) (hi : Inb B w F)
    (hy : RowQ Q w ys d G) (hG : Inb B w G) (hn : G.Nodup) (hd : ∀ x ∈ G, x ∉ F) (hl : ys.length = d.length * z) (hc : ∀ j u, ys[j]? = some u → w.cell? ⟨b, off + j, none⟩ = some u) (h1 : ∀ u ∈ ys, u.oneCell' = true) (hbd : c.length + d.length ≤ 16777216) (hB : B ≤ w.heap.size) (ty : TypeId) :
    ∃ v' w' F', (Builtin.append_ #[st, st] ty #[v, .slice (some ⟨b, off, none⟩) d.length cap]).run Tryd.prog w = .ok v' w' ∧ Own et z Q w' v' (c ++ d) F' ∧ Inb B w' F' ∧ w.grownBy w' v.ownBlock ∧ (v'.ownBlock = v.ownBlock ∨ v'.ownBlock = some w.heap.size) ∧ ∀ x ∈ F', x ∈ F ∨ x ∈ G ∨ x = w.heap.size := by
  obtain ⟨xs, fp, rfl, ho, hq, hnd⟩ := h
  obtain ⟨v', w', hr, ho', hg, hat⟩ := append_g E w v c.length xs ho b off d.length cap ys hl hc h1 hbd (Nat.zero_le _) ty
  have hop : ∀ x ∈ fp, v.ownBlock ≠ some x := fun x hx e => by
    rw [e] at hnd
    simp at hnd
    exact hnd.1 hx
  have hoG : ∀ x ∈ G, v.ownBlock ≠ some x := fun x hx e => hd x hx (by simp [e])
  have kf : ∀ x ∈ fp, w'.heap[x]? = w.heap[x]? := fun x hx => hg.block x (hi x (by simp [hx])).2 (fun e => hop x hx e.symm)
  have kG : ∀ x ∈ G, w'.heap[x]? = w.heap[x]? := fun x hx => hg.block x (hG x hx).2 (fun e => hoG x hx e.symm)
  have hs : ∀ x ∈ fp ++ G, x < w.heap.size := fun x hx => by
    rcases List.mem_append.1 hx with y | y
    · exact (hi x (by simp [y])).2
    · exact (hG x y).2
  have hlt' := ho'.lt
  refine ⟨v', w', v'.ownBlock.toList ++ (fp ++ G), hr, ⟨xs ++ ys, fp ++ G, rfl, by rw [List.length_append]; exact ho', (hq.keep L kf).app (hy.keep L kG), ?_⟩, ?_, hg, hat, ?_⟩
  · have hfG : (fp ++ G).Nodup := by
      rw [List.nodup_append]
      refine ⟨(List.nodup_append.1 hnd).2.1, hn, fun x hx y hy e => hd y hy (by subst e; simp [hx])⟩
    rw [List.nodup_append]
    refine ⟨by cases v'.ownBlock <;> simp, hfG, fun x hx y hy e => ?_⟩
    subst e
    have hx' : v'.ownBlock = some x := by simpa using hx
    rcases hat with e | e
    · rw [e] at hx'
      rcases List.mem_append.1 hy with q | q
      · exact hop x q hx'
      · exact hoG x q hx'
    · have := hs x hy
      rw [e] at hx'
      simp at hx'
      omega
  · intro x hx
    rcases List.mem_append.1 hx with q | q
    · have hx' : v'.ownBlock = some x := by simpa using q
      refine ⟨?_, (hlt' x hx').2⟩
      rcases hat with e | e
      · rw [e] at hx'
        exact (hi x (by simp [hx'])).1
      · rw [e] at hx'
        simp at hx'
        omega
    · refine ⟨?_, Nat.lt_of_lt_of_le (hs x q) hg.size⟩
      rcases List.mem_append.1 q with y | y
      · exact (hi x (by simp [y])).1
      · exact (hG x y).1
  · intro x hx
    rcases List.mem_append.1 hx with q | q
    · have hx' : v'.ownBlock = some x := by simpa using q
      rcases hat with e | e
      · rw [e] at hx'
        exact .inl (by simp [hx'])
      · rw [e] at hx'
        simp at hx'
        exact .inr (.inr hx'.symm)
    · rcases List.mem_append.1 q with y | y
      · exact .inl (by simp [y])
      · exact .inr (.inl y)
/-- in a walk: an append of a list -/
theorem wpList_append_o {α : Type} {st et z : Nat} (E : El st et z) {Q : World → List Value → α → List Nat → Prop} (L : Lives Q) (w : World) {ops : Array Oper} {rest : List Oper} {o : Oper} {a : Act} {R : Exit → Act → World → Prop} (hg : o.guard = none) (s x : Operand)
    (hop : o.op = Op.call { callee := Callee.builtin Builtin.append, args := #[s, x], argTypes := #[st, st] }) (v : Value) (b off m cap : Nat) (hs : a.eval s = v) (hx : a.eval x = .slice (some ⟨b, off, none⟩) m cap) (c d : List α) (F G : List Nat) (ys : List Value) (B : Nat)
    (h : Own et z Q w v c F) (hi : Inb B w F) (hy : RowQ Q w ys d G) (hG : Inb B w G) (hn : G.Nodup) (hd : ∀ x ∈ G, x ∉ F) (hm : d.length = m) (hl : ys.length = d.length * z) (hc : ∀ j u, ys[j]? = some u → w.cell? ⟨b, off + j, none⟩ = some u) (h1 : ∀ u ∈ ys, u.oneCell' = true) (hbd : c.length + d.length ≤ 16777216) (hB : B ≤ w.heap.size)
    (hK : ∀ v' w' F', Own et z Q w' v' (c ++ d) F' → Inb B w' F' → w.grownBy w' v.ownBlock → (v'.ownBlock = v.ownBlock ∨ v'.ownBlock = some w.heap.size) → (∀ x ∈ F', x ∈ F ∨ x ∈ G ∨ x = w.heap.size) → wpList Tryd.prog ops R rest (a.put o.dst v') w') : wpList Tryd.prog ops R (o :: rest) a w := by
  subst hm
  obtain ⟨v', w', F', hr, h1, h2, h3, h4, h5⟩ := h.append E L hi hy hG hn hd hl hc h1 hbd hB (b := b) (off := off) (cap := cap) o.type
  exact wpList_append_eq w w' hg s x _ hop v _ v' hs hx hr (hK v' w' F' h1 h2 h3 h4 h5)
/-- a list that is just laid, of one record -/
theorem Own.lit {α : Type} {et z : Nat} {Q : World → List Value → α → List Nat → Prop} (L : Lives Q) {w : World} {a : α} {ys : List Value} {G : List Nat} {B : Nat} (hq : Q w ys a G) (hG : Inb B w G) (hn : G.Nodup) (hl : ys.length = z) : Own et z Q (w.alloc (.cells ys.toArray et)) (.slice (some ⟨w.heap.size, 0, none⟩) 1 1) [a] (w.heap.size :: G) := by
  refine ⟨ys, G, rfl, ⟨by simpa using hl, .inr ⟨w.heap.size, 1, ys.toArray, rfl, Nat.zero_le _, heap_alloc_new w _, Nat.le_refl _, by simp [maxLen], by simpa using hl, by simp [← hl]⟩⟩, (RowQ.one hq).keep L (fun b hb => Below.heap_alloc _ _ _ (hG b hb).2), ?_⟩
  rw [List.nodup_cons]
  exact ⟨fun hm => by have := (hG _ hm).2; omega, hn⟩
/-- the cells of such a list -/
theorem Own.cells {α : Type} {et z : Nat} {Q : World → List Value → α → List Nat → Prop} {w : World} {v : Value} {c : List α} {F : List Nat} (h : Own et z Q w v c F) (hc : c ≠ []) : ∃ g cap xs fp, v = .slice (some ⟨g, 0, none⟩) c.length cap ∧ F = g :: fp ∧ xs.length = c.length * z ∧ RowQ Q w xs c fp ∧ (g :: fp).Nodup ∧ g < w.heap.size ∧ (∀ j u, xs[j]? = some u → w.cell? ⟨g, j, none⟩ = some u) ∧ ∀ j, w.frozen? ⟨g, j, none⟩ = false := by
  obtain ⟨xs, fp, rfl, ho, hq, hnd⟩ := h
  obtain ⟨ao, cap, rfl⟩ := own_form ho
  have hl : 0 < c.length := List.length_pos_iff.2 hc
  obtain ⟨g, rfl, _, hlt, hcell⟩ := owns_cell ho hl
  refine ⟨g, cap, xs, fp, rfl, rfl, ho.1, hq, hnd, hlt, fun j u hu => ?_, fun j => ho.frozenAt j⟩
  have hj : j < xs.length := (List.getElem?_eq_some_iff.1 hu).1
  rw [hcell j (by rw [← ho.1]; exact hj), hu]
/-- a number in its cell -/
def Qi (w : World) (x : List Value) (n : Int) (f : List Nat) : Prop := x = [.int .i64 n] ∧ f = []
theorem Qi.lives : Lives Qi := ⟨fun _ _ _ _ _ h _ => h⟩
/-- a step in its seven cells -/
def Qs (w : World) (x : List Value) (s : Pl.Sv) (f : List Nat) : Prop := ∃ v, x = [.int .i64 s.k, v, .string (Pl.ba s.nm), .int .i64 s.fn.k, .int .i64 s.fn.a, .int .i64 s.fn.b, .string (Pl.ba s.fn.nm)] ∧ Own 3 1 Qi w v s.nums f
theorem Qs.lives : Lives Qs := ⟨fun _ _ _ _ _ ⟨v, h1, h2⟩ k => ⟨v, h1, h2.keep Qi.lives k⟩⟩
abbrev OwS := Own 81 7 Qs
def Qg (w : World) (x : List Value) (g : Pl.Gv) (f : List Nat) : Prop := ∃ v1 v2 f1 f2, x = [v1, v2] ∧ f = f1 ++ f2 ∧ OwS w v1 g.test f1 ∧ OwS w v2 g.thn f2
theorem Qg.lives : Lives Qg := ⟨fun _ _ _ _ _ ⟨v1, v2, f1, f2, h1, h2, h3, h4⟩ k => ⟨v1, v2, f1, f2, h1, h2, h3.keep Qs.lives (fun b hb => k b (h2 ▸ List.mem_append_left _ hb)), h4.keep Qs.lives (fun b hb => k b (h2 ▸ List.mem_append_right _ hb))⟩⟩
abbrev OwG := Own 84 2 Qg
def Qt (w : World) (x : List Value) (s : Pl.Tv) (f : List Nat) : Prop := ∃ v1 v2 f1 f2, x = [.int .i64 s.k, .string (Pl.ba s.nm), v1, v2] ∧ f = f1 ++ f2 ∧ OwS w v1 s.code f1 ∧ OwG w v2 s.gs f2
theorem Qt.lives : Lives Qt := ⟨fun _ _ _ _ _ ⟨v1, v2, f1, f2, h1, h2, h3, h4⟩ k => ⟨v1, v2, f1, f2, h1, h2, h3.keep Qs.lives (fun b hb => k b (h2 ▸ List.mem_append_left _ hb)), h4.keep Qg.lives (fun b hb => k b (h2 ▸ List.mem_append_right _ hb))⟩⟩
abbrev OwP := Own 37 4 Qt
theorem Own.one {α : Type} {et z : Nat} {Q : World → List Value → α → List Nat → Prop} {w : World} {v : Value} {c : List α} {F : List Nat} (h : Own et z Q w v c F) : v.oneCell' = true := by
  obtain ⟨ao, cap, rfl⟩ := h.slice
  rfl
theorem Qs.len {w : World} {x : List Value} {s : Pl.Sv} {f : List Nat} (h : Qs w x s f) : x.length = 7 ∧ ∀ u ∈ x, u.oneCell' = true := by
  obtain ⟨v, rfl, ho⟩ := h
  have := ho.one
  refine ⟨rfl, fun u hu => ?_⟩
  simp only [List.mem_cons, List.not_mem_nil, or_false] at hu
  rcases hu with rfl | rfl | rfl | rfl | rfl | rfl | rfl <;> first | rfl | exact this
theorem Qg.len {w : World} {x : List Value} {s : Pl.Gv} {f : List Nat} (h : Qg w x s f) : x.length = 2 ∧ ∀ u ∈ x, u.oneCell' = true := by
  obtain ⟨v1, v2, f1, f2, rfl, _, h1, h2⟩ := h
  have := h1.one
  have := h2.one
  refine ⟨rfl, fun u hu => ?_⟩
  simp only [List.mem_cons, List.not_mem_nil, or_false] at hu
  rcases hu with rfl | rfl <;> assumption
theorem Qt.len {w : World} {x : List Value} {s : Pl.Tv} {f : List Nat} (h : Qt w x s f) : x.length = 4 ∧ ∀ u ∈ x, u.oneCell' = true := by
  obtain ⟨v1, v2, f1, f2, rfl, _, h1, h2⟩ := h
  have := h1.one
  have := h2.one
  refine ⟨rfl, fun u hu => ?_⟩
  simp only [List.mem_cons, List.not_mem_nil, or_false] at hu
  rcases hu with rfl | rfl | rfl | rfl <;> first | rfl | assumption
theorem RowQ.len {α : Type} {Q : World → List Value → α → List Nat → Prop} {z : Nat} (hq : ∀ {w x a f}, Q w x a f → x.length = z ∧ ∀ u ∈ x, u.oneCell' = true) {w : World} : ∀ {xs : List Value} {c : List α} {F : List Nat}, RowQ Q w xs c F → xs.length = c.length * z ∧ ∀ u ∈ xs, u.oneCell' = true
  | xs, [], F, h => by obtain ⟨rfl, rfl⟩ := h; simp
  | xs, a :: c, F, h => by
    obtain ⟨x, xs', f, F', rfl, rfl, h1, h2⟩ := h
    have k1 := hq h1
    have k2 := h2.len hq
    refine ⟨by rw [List.length_append, k1.1, k2.1, List.length_cons, Nat.succ_mul]; omega, fun u hu => ?_⟩
    rcases List.mem_append.1 hu with y | y
    · exact k1.2 u y
    · exact k2.2 u y
namespace Pl
/-- the loop of markText -/
def mkD (k : Nat) (out : ByteArray) : ByteArray :=
  if h : k = 0 then out else mkD (k / 10) (⟨#[UInt8.ofNat (48 + k % 10)]⟩ ++ out)
termination_by k
decreasing_by omega
def mkX (k : Nat) : ByteArray := ⟨#[109]⟩ ++ mkD k ByteArray.empty
theorem mkD_step (k : Nat) (out : ByteArray) (h : ¬ k = 0) : mkD k out = mkD (k / 10) (⟨#[UInt8.ofNat (48 + k % 10)]⟩ ++ out) := by
  rw [mkD, dif_neg h]
theorem mkD_zero (out : ByteArray) : mkD 0 out = out := by rw [mkD]; simp
/-- a list is marked, record by record -/
def mkL {α : Type} (f : Nat → α → α × Nat) : Nat → List α → List α × Nat
  | m, [] => ([], m)
  | m, a :: c => ((f m a).1 :: (mkL f (f m a).2 c).1, (mkL f (f m a).2 c).2)
theorem mkL_app {α : Type} (f : Nat → α → α × Nat) : ∀ (c d : List α) (m : Nat), mkL f m (c ++ d) = ((mkL f m c).1 ++ (mkL f (mkL f m c).2 d).1, (mkL f (mkL f m c).2 d).2)
  | [], d, m => rfl
  | a :: c, d, m => by
    show ((f m a).1 :: (mkL f (f m a).2 (c ++ d)).1, (mkL f (f m a).2 (c ++ d)).2) = _
    rw [mkL_app f c d]
    rfl
theorem mkL_len {α : Type} (f : Nat → α → α × Nat) : ∀ (c : List α) (m : Nat), (mkL f m c).1.length = c.length
  | [], m => rfl
  | a :: c, m => by
    show (_ :: (mkL f (f m a).2 c).1).length = _
    rw [List.length_cons, mkL_len f c, List.length_cons]
theorem mkL_ge {α : Type} {f : Nat → α → α × Nat} (hf : ∀ m a, m ≤ (f m a).2) : ∀ (c : List α) (m : Nat), m ≤ (mkL f m c).2
  | [], m => Nat.le_refl _
  | a :: c, m => Nat.le_trans (hf m a) (mkL_ge hf c _)
theorem mkL_at {α : Type} (f : Nat → α → α × Nat) {c : List α} {i : Nat} (h : i < c.length) (m : Nat) : mkL f m c = ((mkL f m (c.take i)).1 ++ (f (mkL f m (c.take i)).2 c[i]).1 :: (mkL f (f (mkL f m (c.take i)).2 c[i]).2 (c.drop (i + 1))).1, (mkL f (f (mkL f m (c.take i)).2 c[i]).2 (c.drop (i + 1))).2) := by
  have e : c = c.take i ++ (c[i] :: c.drop (i + 1)) := by rw [← List.drop_eq_getElem_cons h, List.take_append_drop]
  have h2 := mkL_app f (c.take i) (c[i] :: c.drop (i + 1)) m
  rw [← e] at h2
  rw [h2]
  rfl
theorem mkL_take {α : Type} (f : Nat → α → α × Nat) {c : List α} {i : Nat} (h : i < c.length) (m : Nat) : mkL f m (c.take (i + 1)) = ((mkL f m (c.take i)).1 ++ [(f (mkL f m (c.take i)).2 c[i]).1], (f (mkL f m (c.take i)).2 c[i]).2) := by
  rw [List.take_add_one, List.getElem?_eq_getElem h]
  show mkL f m (c.take i ++ [c[i]]) = _
  rw [mkL_app]
  rfl
def mk1 (m : Nat) (_ : Int) : Int × Nat := ((m : Int), m + 1)
abbrev mkI := mkL mk1
def mkSv (m : Nat) (s : Sv) : Sv × Nat := (⟨m, (mkI (m + 1) s.nums).1, (mkX (mkI (m + 1) s.nums).2).data.toList, ⟨((mkI (m + 1) s.nums).2 + 1 : Nat), ((mkI (m + 1) s.nums).2 + 2 : Nat), ((mkI (m + 1) s.nums).2 + 3 : Nat), (mkX ((mkI (m + 1) s.nums).2 + 4)).data.toList⟩⟩, (mkI (m + 1) s.nums).2 + 5)
abbrev mkS := mkL mkSv
def mkGv (m : Nat) (g : Gv) : Gv × Nat := (⟨(mkS m g.test).1, (mkS (mkS m g.test).2 g.thn).1⟩, (mkS (mkS m g.test).2 g.thn).2)
abbrev mkG := mkL mkGv
def mkTv (m : Nat) (t : Tv) : Tv × Nat := (⟨m, (mkX (m + 1)).data.toList, (mkS (m + 2) t.code).1, (mkG (mkS (m + 2) t.code).2 t.gs).1⟩, (mkG (mkS (m + 2) t.code).2 t.gs).2)
abbrev mkP := mkL mkTv
theorem mk1_ge (m : Nat) (a : Int) : m ≤ (mk1 m a).2 := Nat.le_succ m
theorem mkSv_ge (m : Nat) (s : Sv) : m ≤ (mkSv m s).2 := by
  have : m + 1 ≤ (mkI (m + 1) s.nums).2 := mkL_ge mk1_ge s.nums (m + 1)
  show m ≤ (mkI (m + 1) s.nums).2 + 5
  omega
theorem mkGv_ge (m : Nat) (g : Gv) : m ≤ (mkGv m g).2 := Nat.le_trans (mkL_ge mkSv_ge g.test m) (mkL_ge mkSv_ge g.thn _)
theorem mkTv_ge (m : Nat) (t : Tv) : m ≤ (mkTv m t).2 := by
  have h1 : m + 2 ≤ (mkS (m + 2) t.code).2 := mkL_ge mkSv_ge t.code (m + 2)
  have h2 : (mkS (m + 2) t.code).2 ≤ (mkG (mkS (m + 2) t.code).2 t.gs).2 := mkL_ge mkGv_ge t.gs (mkS (m + 2) t.code).2
  show m ≤ (mkG (mkS (m + 2) t.code).2 t.gs).2
  omega
end Pl
theorem conv_one (p : Nat) (x : Int) (b : UInt8) (W : World) (hb : UInt8.ofNat x.toNat = b) (h : W.cell? ⟨p, 0, none⟩ = some (.int .u8 x)) : (convert 76 9 (.slice (some ⟨p, 0, none⟩) 1 1)).run Tryd.prog W = .ok (.string ⟨#[b]⟩) W := by
  have := run_convert_bytes_arg (P := Tryd.prog) W 76 5 (by kernel_rfl) (by kernel_rfl) p 0 1 1 [x] rfl (fun i hi => by
    have : i = 0 := by omega
    subst this
    simpa using h) 9 (by kernel_rfl)
  rw [this, ← hb]
  simp [strOfNums]
set_option maxHeartbeats 1000000 in
/-- laws.markText -/
theorem markText_any (k0 : Nat) (w : World) (h0 : 1 ≤ k0) (h1 : k0 ≤ 1099511627776) :
    Calls Tryd.prog 15 #[.int .i64 (k0 : Int)] w fun e w' => e = .returned (.string (Pl.mkX k0)) ∧ Below w.heap.size w w' := by
  have g0 : ¬ (k0 : Int) ≤ 0 := by omega
  go_enter Tryd.func15, Tryd.ntmps15
  go_wp2
  go_loopw [0, 3] (fun i o wr => ∃ (k : Nat) (out : ByteArray), i = .int .i64 k ∧ o = .string out ∧ out.size + k ≤ k0 ∧ Hid (Pl.mkD k out = Pl.mkD k0 ByteArray.empty) ∧ Hid (Below w.heap.size w wr)) (fun i _ _ => (intOf i).toNat)
  case atStart => exact ⟨k0, ByteArray.empty, rfl, rfl, by simp, rfl, Below.refl _ _⟩
  case round =>
    obtain ⟨k, out, rfl, rfl, hsz, heq, hbel⟩ := hrel
    by_cases hk : k = 0
    · subst hk
      have HE : Hid (Pl.mkX k0 = ⟨#[109]⟩ ++ out) := by show _ = _; unfold Pl.mkX; rw [← heq.out, Pl.mkD_zero]
      have hz : ¬ (9223372036854775807 < 1 + out.size) := by omega
      clear heq
      go_wp2
      go_ret
      exact ⟨by rw [HE.out]; rfl, hbel.out⟩
    · have hk' : (0 : Int) < k := by omega
      have HS := hideP ((Pl.mkD_step k out hk).symm.trans heq.out)
      generalize hq : k / 10 = q at *
      generalize hr : k % 10 = r at *
      have eq1 : Int.tdiv (k : Int) 10 = (q : Int) := by rw [Int.tdiv_eq_ediv_of_nonneg (by omega)]; omega
      have er1 : Int.tmod (k : Int) 10 = (r : Int) := by rw [Int.tmod_eq_emod_of_nonneg (by omega)]; omega
      have hr9 : r < 10 := by omega
      obtain ⟨bu, hbu⟩ : ∃ bu, UInt8.ofNat (48 + r) = bu := ⟨_, rfl⟩
      rw [hbu] at HS
      have kc : (convert 76 9 (.slice (some ⟨wr.heap.size, 0, none⟩) 1 1)).run Tryd.prog (wr.alloc (.cells #[.int .u8 (48 + (r : Int))] 5)) = .ok (.string ⟨#[bu]⟩) (wr.alloc (.cells #[.int .u8 (48 + (r : Int))] 5)) := conv_one wr.heap.size (48 + (r : Int)) bu _ (by rw [← hbu]; congr 1) (by simp [go_sem])
      have hz : ¬ (9223372036854775807 < 1 + out.size) := by omega
      have hqk : q < k := by omega
      clear hbu heq
      go_wp2
      go_roundw
      case rel => exact ⟨q, _, rfl, rfl, by rw [ByteArray.size_append]; show 1 + out.size + q ≤ k0; omega, HS, hbel.out.alloc hbel.out.size _⟩
      case measure => simp [intOf]; omega
end Go.Proofs.YtljkolffjjhgeaaDoor
