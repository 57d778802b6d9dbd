import Derived.Test.YthhfpcdbgndioaaGreatDoorOpn2
import Derived.Test.YthhfpcdbgndioaaGreatDoorNxt
namespace Go.Proofs.YthhfpcdbgndioaaGreatDoor
open Go.RowKit
set_option linter.unusedVariables false
set_option maxRecDepth 100000
/-- records in a row of cells, with the blocks that they hold -/
def RowQ {α : Type} (Q : World → List Value → α → List Nat → Prop) (w : World) : List Value → List α → List Nat → Prop
  | xs, [], F => xs = [] ∧ F = []
  | xs, a :: c, F => ∃ x xs' f F', xs = x ++ xs' ∧ F = f ++ F' ∧ Q w x a f ∧ RowQ Q w xs' c F'
theorem RowQ.app {α : Type} {Q : World → List Value → α → List Nat → Prop} {w : World} : ∀ {xs ys : List Value} {c d : List α} {F G : List Nat}, RowQ Q w xs c F → RowQ Q w ys d G → RowQ Q w (xs ++ ys) (c ++ d) (F ++ G)
  | xs, ys, [], d, F, G, h, k => by
    obtain ⟨rfl, rfl⟩ := h
    exact k
  | xs, ys, a :: c, d, F, G, h, k => by
    obtain ⟨x, xs', f, F', rfl, rfl, h1, h2⟩ := h
    exact ⟨x, xs' ++ ys, f, F' ++ G, by simp, by simp, h1, h2.app k⟩
theorem RowQ.one {α : Type} {Q : World → List Value → α → List Nat → Prop} {w : World} {x : List Value} {a : α} {f : List Nat} (h : Q w x a f) : RowQ Q w x [a] f := ⟨x, [], f, [], by simp, by simp, h, rfl, rfl⟩
/-- a record lives as long as its blocks are as they were -/
structure Lives {α : Type} (Q : World → List Value → α → List Nat → Prop) : Prop where
  go : ∀ (w w' : World) (x : List Value) (a : α) (f : List Nat), Q w x a f → (∀ b ∈ f, w'.heap[b]? = w.heap[b]?) → Q w' x a f
theorem RowQ.keep {α : Type} {Q : World → List Value → α → List Nat → Prop} (L : Lives Q) {w w' : World} : ∀ {xs : List Value} {c : List α} {F : List Nat}, RowQ Q w xs c F → (∀ b ∈ F, w'.heap[b]? = w.heap[b]?) → RowQ Q w' xs c F
  | xs, [], F, h, k => h
  | xs, a :: c, F, h, k => by
    obtain ⟨x, xs', f, F', rfl, rfl, h1, h2⟩ := h
    exact ⟨x, xs', f, F', rfl, rfl, L.go _ _ _ _ _ h1 (fun b hb => k b (List.mem_append_left _ hb)), h2.keep L (fun b hb => k b (List.mem_append_right _ hb))⟩
/-- a list with its own memory: the blocks F, no two of them the same -/
def Own {α : Type} (et z : Nat) (Q : World → List Value → α → List Nat → Prop) (w : World) (v : Value) (c : List α) (F : List Nat) : Prop :=
  ∃ xs fp, F = v.ownBlock.toList ++ fp ∧ w.ownsRow 0 et z v c.length xs ∧ RowQ Q w xs c fp ∧ F.Nodup
theorem Own.keep {α : Type} {et z : Nat} {Q : World → List Value → α → List Nat → Prop} (L : Lives Q) {w w' : World} {v : Value} {c : List α} {F : List Nat} (h : Own et z Q w v c F) (k : ∀ b ∈ F, w'.heap[b]? = w.heap[b]?) : Own et z Q w' v c F := by
  obtain ⟨xs, fp, rfl, h1, h2, h3⟩ := h
  refine ⟨xs, fp, rfl, ⟨h1.1, ?_⟩, h2.keep L (fun b hb => k b (List.mem_append_right _ hb)), h3⟩
  rcases h1.2 with h | ⟨g, cap, cur, rfl, hb, hg, rest⟩
  · exact .inl h
  · exact .inr ⟨g, cap, cur, rfl, hb, (k g (by simp [Value.ownBlock])).trans hg, rest⟩
theorem Own.nil {α : Type} {et z : Nat} {Q : World → List Value → α → List Nat → Prop} (w : World) : Own et z Q w (.slice none 0 0) ([] : List α) [] :=
  ⟨[], [], rfl, World.ownsRow_nil _ _ _ _, ⟨rfl, rfl⟩, List.nodup_nil⟩
theorem Own.slice {α : Type} {et z : Nat} {Q : World → List Value → α → List Nat → Prop} {w : World} {v : Value} {c : List α} {F : List Nat} (h : Own et z Q w v c F) : ∃ ao cap, v = .slice ao c.length cap := by
  obtain ⟨xs, fp, _, h1, _⟩ := h
  exact own_form h1
theorem Own.lt {α : Type} {et z : Nat} {Q : World → List Value → α → List Nat → Prop} {w : World} {v : Value} {c : List α} {F : List Nat} (h : Own et z Q w v c F) : ∀ b, v.ownBlock = some b → b ∈ F ∧ b < w.heap.size := by
  obtain ⟨xs, fp, rfl, h1, _⟩ := h
  intro b hb
  exact ⟨by simp [hb], (h1.lt b hb).2⟩
/-- blocks from B on, that are there -/
def Inb (B : Nat) (w : World) (F : List Nat) : Prop := ∀ b ∈ F, B ≤ b ∧ b < w.heap.size
theorem Inb.nil (B : Nat) (w : World) : Inb B w [] := fun b hb => absurd hb (by simp)
theorem Inb.up {B B' : Nat} {w w' : World} {F : List Nat} (h : Inb B w F) (hB : B' ≤ B) (hw : w.heap.size ≤ w'.heap.size) : Inb B' w' F := fun b hb => ⟨Nat.le_trans hB (h b hb).1, Nat.lt_of_lt_of_le (h b hb).2 hw⟩
theorem Inb.app {B : Nat} {w : World} {F G : List Nat} (h : Inb B w F) (k : Inb B w G) : Inb B w (F ++ G) := fun b hb => by
  rcases List.mem_append.1 hb with x | x
  · exact h b x
  · exact k b x
/-- what grows outside of a block keeps a list that has no such block -/
theorem Own.grown {α : Type} {et z : Nat} {Q : World → List Value → α → List Nat → Prop} (L : Lives Q) {w w' : World} {v : Value} {c : List α} {F : List Nat} {r : Option Nat} {B : Nat} (h : Own et z Q w v c F) (hi : Inb B w F) (hg : w.grownBy w' r) (hr : ∀ b, r = some b → b ∉ F) : Own et z Q w' v c F :=
  h.keep L (fun b hb => hg.block b (hi b hb).2 (fun e => hr b e.symm hb))
theorem Own.below {α : Type} {et z : Nat} {Q : World → List Value → α → List Nat → Prop} (L : Lives Q) {w w' : World} {v : Value} {c : List α} {F : List Nat} {B C : Nat} (h : Own et z Q w v c F) (hi : Inb B w F) (hb : Below C w w') (hC : w.heap.size ≤ C) : Own et z Q w' v c F :=
  h.keep L (fun b hb' => hb.block b (by have := (hi b hb').2; omega))
/-- behind an append of a list -/
theorem Own.append {α : Type} {st et z : Nat} (E : El st et z) {Q : World → List Value → α → List Nat → Prop} (L : Lives Q) {w : World} {v : Value} {c d : List α} {F G : List Nat} {ys : List Value} {b off cap B : Nat} (h : Own et z Q w v c F) (hi : Inb B w F)
    (hy : RowQ Q w ys d G) (hG : Inb B w G) (hn : G.Nodup) (hd : ∀ x ∈ G, x ∉ F) (hl : ys.length = d.length * z) (hc : ∀ j u, ys[j]? = some u → w.cell? ⟨b, off + j, none⟩ = some u) (h1 : ∀ u ∈ ys, u.oneCell' = true) (hbd : c.length + d.length ≤ 16777216) (hB : B ≤ w.heap.size) (ty : TypeId) :
    ∃ v' w' F', (Builtin.append_ #[st, st] ty #[v, .slice (some ⟨b, off, none⟩) d.length cap]).run Tryz.prog w = .ok v' w' ∧ Own et z Q w' v' (c ++ d) F' ∧ Inb B w' F' ∧ w.grownBy w' v.ownBlock ∧ (v'.ownBlock = v.ownBlock ∨ v'.ownBlock = some w.heap.size) ∧ ∀ x ∈ F', x ∈ F ∨ x ∈ G ∨ x = w.heap.size := by
  obtain ⟨xs, fp, rfl, ho, hq, hnd⟩ := h
  obtain ⟨v', w', hr, ho', hg, hat⟩ := append_g E w v c.length xs ho b off d.length cap ys hl hc h1 hbd (Nat.zero_le _) ty
  have hop : ∀ x ∈ fp, v.ownBlock ≠ some x := fun x hx e => by
    rw [e] at hnd
    simp at hnd
    exact hnd.1 hx
  have hoG : ∀ x ∈ G, v.ownBlock ≠ some x := fun x hx e => hd x hx (by simp [e])
  have kf : ∀ x ∈ fp, w'.heap[x]? = w.heap[x]? := fun x hx => hg.block x (hi x (by simp [hx])).2 (fun e => hop x hx e.symm)
  have kG : ∀ x ∈ G, w'.heap[x]? = w.heap[x]? := fun x hx => hg.block x (hG x hx).2 (fun e => hoG x hx e.symm)
  have hs : ∀ x ∈ fp ++ G, x < w.heap.size := fun x hx => by
    rcases List.mem_append.1 hx with y | y
    · exact (hi x (by simp [y])).2
    · exact (hG x y).2
  have hlt' := ho'.lt
  refine ⟨v', w', v'.ownBlock.toList ++ (fp ++ G), hr, ⟨xs ++ ys, fp ++ G, rfl, by rw [List.length_append]; exact ho', (hq.keep L kf).app (hy.keep L kG), ?_⟩, ?_, hg, hat, ?_⟩
  · have hfG : (fp ++ G).Nodup := by
      rw [List.nodup_append]
      refine ⟨(List.nodup_append.1 hnd).2.1, hn, fun x hx y hy e => hd y hy (by subst e; simp [hx])⟩
    rw [List.nodup_append]
    refine ⟨by cases v'.ownBlock <;> simp, hfG, fun x hx y hy e => ?_⟩
    subst e
    have hx' : v'.ownBlock = some x := by simpa using hx
    rcases hat with e | e
    · rw [e] at hx'
      rcases List.mem_append.1 hy with q | q
      · exact hop x q hx'
      · exact hoG x q hx'
    · have := hs x hy
      rw [e] at hx'
      simp at hx'
      omega
  · intro x hx
    rcases List.mem_append.1 hx with q | q
    · have hx' : v'.ownBlock = some x := by simpa using q
      refine ⟨?_, (hlt' x hx').2⟩
      rcases hat with e | e
      · rw [e] at hx'
        exact (hi x (by simp [hx'])).1
      · rw [e] at hx'
        simp at hx'
        omega
    · refine ⟨?_, Nat.lt_of_lt_of_le (hs x q) hg.size⟩
      rcases List.mem_append.1 q with y | y
      · exact (hi x (by simp [y])).1
      · exact (hG x y).1
  · intro x hx
    rcases List.mem_append.1 hx with q | q
    · have hx' : v'.ownBlock = some x := by simpa using q
      rcases hat with e | e
      · rw [e] at hx'
        exact .inl (by simp [hx'])
      · rw [e] at hx'
        simp at hx'
        exact .inr (.inr hx'.symm)
    · rcases List.mem_append.1 q with y | y
      · exact .inl (by simp [y])
      · exact .inr (.inl y)
/-- in a walk: an append of a list -/
theorem wpList_append_o {α : Type} {st et z : Nat} (E : El st et z) {Q : World → List Value → α → List Nat → Prop} (L : Lives Q) (w : World) {ops : Array Oper} {rest : List Oper} {o : Oper} {a : Act} {R : Exit → Act → World → Prop} (hg : o.guard = none) (s x : Operand)
    (hop : o.op = Op.call { callee := Callee.builtin Builtin.append, args := #[s, x], argTypes := #[st, st] }) (v : Value) (b off m cap : Nat) (hs : a.eval s = v) (hx : a.eval x = .slice (some ⟨b, off, none⟩) m cap) (c d : List α) (F G : List Nat) (ys : List Value) (B : Nat)
    (h : Own et z Q w v c F) (hi : Inb B w F) (hy : RowQ Q w ys d G) (hG : Inb B w G) (hn : G.Nodup) (hd : ∀ x ∈ G, x ∉ F) (hm : d.length = m) (hl : ys.length = d.length * z) (hc : ∀ j u, ys[j]? = some u → w.cell? ⟨b, off + j, none⟩ = some u) (h1 : ∀ u ∈ ys, u.oneCell' = true) (hbd : c.length + d.length ≤ 16777216) (hB : B ≤ w.heap.size)
    (hK : ∀ v' w' F', Own et z Q w' v' (c ++ d) F' → Inb B w' F' → w.grownBy w' v.ownBlock → (v'.ownBlock = v.ownBlock ∨ v'.ownBlock = some w.heap.size) → (∀ x ∈ F', x ∈ F ∨ x ∈ G ∨ x = w.heap.size) → wpList Tryz.prog ops R rest (a.put o.dst v') w') : wpList Tryz.prog ops R (o :: rest) a w := by
  subst hm
  obtain ⟨v', w', F', hr, h1, h2, h3, h4, h5⟩ := h.append E L hi hy hG hn hd hl hc h1 hbd hB (b := b) (off := off) (cap := cap) o.type
  exact wpList_append_eq w w' hg s x _ hop v _ v' hs hx hr (hK v' w' F' h1 h2 h3 h4 h5)
/-- the cells of such a list -/
theorem Own.cells {α : Type} {et z : Nat} {Q : World → List Value → α → List Nat → Prop} {w : World} {v : Value} {c : List α} {F : List Nat} (h : Own et z Q w v c F) (hc : c ≠ []) : ∃ g cap xs fp, v = .slice (some ⟨g, 0, none⟩) c.length cap ∧ F = g :: fp ∧ xs.length = c.length * z ∧ RowQ Q w xs c fp ∧ (g :: fp).Nodup ∧ g < w.heap.size ∧ (∀ j u, xs[j]? = some u → w.cell? ⟨g, j, none⟩ = some u) ∧ ∀ j, w.frozen? ⟨g, j, none⟩ = false := by
  obtain ⟨xs, fp, rfl, ho, hq, hnd⟩ := h
  obtain ⟨ao, cap, rfl⟩ := own_form ho
  have hl : 0 < c.length := List.length_pos_iff.2 hc
  obtain ⟨g, rfl, _, hlt, hcell⟩ := owns_cell ho hl
  refine ⟨g, cap, xs, fp, rfl, rfl, ho.1, hq, hnd, hlt, fun j u hu => ?_, fun j => ho.frozenAt j⟩
  have hj : j < xs.length := (List.getElem?_eq_some_iff.1 hu).1
  rw [hcell j (by rw [← ho.1]; exact hj), hu]
/-- a number in its cell -/
def Qi (w : World) (x : List Value) (n : Int) (f : List Nat) : Prop := x = [.int .i64 n] ∧ f = []
theorem Qi.lives : Lives Qi := ⟨fun _ _ _ _ _ h _ => h⟩
/-- a step in its seven cells -/
def Qs (w : World) (x : List Value) (s : Pl.Sv) (f : List Nat) : Prop := ∃ v, x = [.int .i64 s.k, v, .string (Pl.ba s.nm), .int .i64 s.fn.k, .int .i64 s.fn.a, .int .i64 s.fn.b, .string (Pl.ba s.fn.nm)] ∧ Own 3 1 Qi w v s.nums f
theorem Qs.lives : Lives Qs := ⟨fun _ _ _ _ _ ⟨v, h1, h2⟩ k => ⟨v, h1, h2.keep Qi.lives k⟩⟩
abbrev OwS := Own 40 7 Qs
def Qg (w : World) (x : List Value) (g : Pl.Gv) (f : List Nat) : Prop := ∃ v1 v2 f1 f2, x = [v1, v2] ∧ f = f1 ++ f2 ∧ OwS w v1 g.test f1 ∧ OwS w v2 g.thn f2
theorem Qg.lives : Lives Qg := ⟨fun _ _ _ _ _ ⟨v1, v2, f1, f2, h1, h2, h3, h4⟩ k => ⟨v1, v2, f1, f2, h1, h2, h3.keep Qs.lives (fun b hb => k b (h2 ▸ List.mem_append_left _ hb)), h4.keep Qs.lives (fun b hb => k b (h2 ▸ List.mem_append_right _ hb))⟩⟩
abbrev OwG := Own 48 2 Qg
def Qt (w : World) (x : List Value) (s : Pl.Tv) (f : List Nat) : Prop := ∃ v1 v2 f1 f2, x = [.int .i64 s.k, .string (Pl.ba s.nm), v1, v2] ∧ f = f1 ++ f2 ∧ OwS w v1 s.code f1 ∧ OwG w v2 s.gs f2
theorem Qt.lives : Lives Qt := ⟨fun _ _ _ _ _ ⟨v1, v2, f1, f2, h1, h2, h3, h4⟩ k => ⟨v1, v2, f1, f2, h1, h2, h3.keep Qs.lives (fun b hb => k b (h2 ▸ List.mem_append_left _ hb)), h4.keep Qg.lives (fun b hb => k b (h2 ▸ List.mem_append_right _ hb))⟩⟩
abbrev OwP := Own 44 4 Qt
theorem Own.one {α : Type} {et z : Nat} {Q : World → List Value → α → List Nat → Prop} {w : World} {v : Value} {c : List α} {F : List Nat} (h : Own et z Q w v c F) : v.oneCell' = true := by
  obtain ⟨ao, cap, rfl⟩ := h.slice
  rfl
theorem Qs.len {w : World} {x : List Value} {s : Pl.Sv} {f : List Nat} (h : Qs w x s f) : x.length = 7 ∧ ∀ u ∈ x, u.oneCell' = true := by
  obtain ⟨v, rfl, ho⟩ := h
  have := ho.one
  refine ⟨rfl, fun u hu => ?_⟩
  simp only [List.mem_cons, List.not_mem_nil, or_false] at hu
  rcases hu with rfl | rfl | rfl | rfl | rfl | rfl | rfl <;> first | rfl | exact this
namespace Pl
abbrev Fq := Int × Int × Int × ByteArray
def fq (f : Fnv) : Fq := (f.k, f.a, f.b, ba f.nm)
end Pl
theorem grown_one {w : World} (p j : Nat) (v : Value) {w0 : World} (h : w0.grownBy w (some p)) : w0.grownBy (w.setCell ⟨p, j, none⟩ v) (some p) :=
  ⟨h.os, h.tape, h.output, by simpa using h.size, fun k hk hn => (Below.heap_setCell _ _ _ k (fun e => hn (by rw [e]))).trans (h.block k hk hn)⟩
theorem grown_alloc {w w1 : World} {r : Option Nat} (h : w.grownBy w1 r) (o : Obj) : w.grownBy (w1.alloc o) r := grown_then h ((Below.refl w1.heap.size _).alloc (Nat.le_refl _) o) h.size
end Go.Proofs.YthhfpcdbgndioaaGreatDoor
