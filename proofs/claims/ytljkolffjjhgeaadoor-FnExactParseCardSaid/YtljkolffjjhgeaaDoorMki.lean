import Derived.Test.YtljkolffjjhgeaaDoorPlc
namespace Go.Proofs.YtljkolffjjhgeaaDoor
open Go.RowKit
set_option linter.unusedVariables false
set_option maxRecDepth 100000
/-- what is written lies in F -/
structure Wt (w w' : World) (F : List Nat) : Prop where
  os : w'.os = w.os
  tape : w'.tape = w.tape
  output : w'.output = w.output
  size : w.heap.size ≤ w'.heap.size
  block : ∀ b, b < w.heap.size → b ∉ F → w'.heap[b]? = w.heap[b]?
theorem Wt.refl (w : World) (F : List Nat) : Wt w w F := ⟨rfl, rfl, rfl, Nat.le_refl _, fun _ _ _ => rfl⟩
theorem Wt.trans {w X Y : World} {F : List Nat} (h : Wt w X F) (k : Wt X Y F) : Wt w Y F := ⟨k.os.trans h.os, k.tape.trans h.tape, k.output.trans h.output, Nat.le_trans h.size k.size, fun b hb hn => (k.block b (Nat.lt_of_lt_of_le hb h.size) hn).trans (h.block b hb hn)⟩
theorem Wt.mono {w X : World} {F G : List Nat} (h : Wt w X F) (hF : ∀ b ∈ F, b ∈ G) : Wt w X G := ⟨h.os, h.tape, h.output, h.size, fun b hb hn => h.block b hb (fun hm => hn (hF b hm))⟩
theorem Wt.below {w X : World} (h : Below w.heap.size w X) (F : List Nat) : Wt w X F := ⟨h.os, h.tape, h.output, h.size, fun b hb _ => h.block b hb⟩
theorem Wt.toBelow {w X : World} {F : List Nat} {B : Nat} (h : Wt w X F) (hF : ∀ b ∈ F, B ≤ b) (hB : B ≤ w.heap.size) : Below B w X := ⟨h.os, h.tape, h.output, h.size, fun k hk => h.block k (by omega) (fun hm => by have := hF k hm; omega)⟩
/-- a list in memory that can be written -/
def Hd {α : Type} (z : Nat) (Q : World → List Value → α → List Nat → Prop) (w : World) (v : Value) (c : List α) (F : List Nat) : Prop :=
  ∃ ao cap, v = .slice ao c.length cap ∧ (c = [] ∨ ∃ g xs fp, ao = some ⟨g, 0, none⟩ ∧ F = g :: fp ∧ RowQ Q w xs c fp ∧ F.Nodup ∧ (∀ b ∈ F, b < w.heap.size) ∧ (∀ j u, xs[j]? = some u → w.cell? ⟨g, j, none⟩ = some u) ∧ ∀ j, w.frozen? ⟨g, j, none⟩ = false)
theorem lt_of_same {w w' : World} {b : Nat} (h : w'.heap[b]? = w.heap[b]?) (hb : b < w.heap.size) : b < w'.heap.size := by
  rw [Array.getElem?_eq_getElem hb] at h
  exact (Array.getElem?_eq_some_iff.1 h).1
theorem Hd.keep {α : Type} {z : Nat} {Q : World → List Value → α → List Nat → Prop} (L : Lives Q) {w w' : World} {v : Value} {c : List α} {F : List Nat} (h : Hd z Q w v c F) (k : ∀ b ∈ F, w'.heap[b]? = w.heap[b]?) : Hd z Q w' v c F := by
  obtain ⟨ao, cap, rfl, h⟩ := h
  refine ⟨ao, cap, rfl, ?_⟩
  rcases h with h | ⟨g, xs, fp, rfl, rfl, h1, h2, h3, h4, h5⟩
  · exact .inl h
  · refine .inr ⟨g, xs, fp, rfl, rfl, h1.keep L (fun b hb => k b (List.mem_cons_of_mem _ hb)), h2, fun b hb => lt_of_same (k b hb) (h3 b hb), fun j u hu => ?_, fun j => ?_⟩
    · exact (World.cell?_of_block (a := ⟨g, j, none⟩) (k g (by simp))).trans (h4 j u hu)
    · exact (World.frozen?_of_block (a := ⟨g, j, none⟩) (k g (by simp))).trans (h5 j)
theorem RowQ.map {α : Type} {Q R : World → List Value → α → List Nat → Prop} (hQ : ∀ w x a f, Q w x a f → (∀ b ∈ f, b < w.heap.size) → R w x a f) {w : World} : ∀ {xs : List Value} {c : List α} {F : List Nat}, RowQ Q w xs c F → (∀ b ∈ F, b < w.heap.size) → RowQ R w xs c F
  | xs, [], F, h, _ => h
  | xs, a :: c, F, h, k => by
    obtain ⟨x, xs', f, F', rfl, rfl, h1, h2⟩ := h
    exact ⟨x, xs', f, F', rfl, rfl, hQ _ _ _ _ h1 (fun b hb => k b (List.mem_append_left _ hb)), h2.map hQ (fun b hb => k b (List.mem_append_right _ hb))⟩
theorem Own.hd {α : Type} {et z : Nat} {Q R : World → List Value → α → List Nat → Prop} (hQ : ∀ w x a f, Q w x a f → (∀ b ∈ f, b < w.heap.size) → R w x a f) {w : World} {v : Value} {c : List α} {F : List Nat} (h : Own et z Q w v c F) (hF : ∀ b ∈ F, b < w.heap.size) : Hd z R w v c F := by
  by_cases hc : c = []
  · obtain ⟨ao, cap, rfl⟩ := h.slice
    exact ⟨ao, cap, rfl, .inl hc⟩
  · obtain ⟨g, cap, xs, fp, rfl, rfl, h1, h2, h3, h4, h5, h6⟩ := h.cells hc
    exact ⟨_, cap, rfl, .inr ⟨g, xs, fp, rfl, rfl, h2.map hQ (fun b hb => hF b (List.mem_cons_of_mem _ hb)), h3, hF, h5, h6⟩⟩
abbrev HdI := Hd 1 Qi
def Qs' (w : World) (x : List Value) (s : Pl.Sv) (f : List Nat) : Prop := ∃ v, x = [.int .i64 s.k, v, .string (Pl.ba s.nm), .int .i64 s.fn.k, .int .i64 s.fn.a, .int .i64 s.fn.b, .string (Pl.ba s.fn.nm)] ∧ HdI w v s.nums f
theorem Qs'.lives : Lives Qs' := ⟨fun _ _ _ _ _ ⟨v, h1, h2⟩ k => ⟨v, h1, h2.keep Qi.lives k⟩⟩
abbrev HdS := Hd 7 Qs'
def Qg' (w : World) (x : List Value) (g : Pl.Gv) (f : List Nat) : Prop := ∃ v1 v2 f1 f2, x = [v1, v2] ∧ f = f1 ++ f2 ∧ HdS w v1 g.test f1 ∧ HdS w v2 g.thn f2
theorem Qg'.lives : Lives Qg' := ⟨fun _ _ _ _ _ ⟨v1, v2, f1, f2, h1, h2, h3, h4⟩ k => ⟨v1, v2, f1, f2, h1, h2, h3.keep Qs'.lives (fun b hb => k b (h2 ▸ List.mem_append_left _ hb)), h4.keep Qs'.lives (fun b hb => k b (h2 ▸ List.mem_append_right _ hb))⟩⟩
abbrev HdG := Hd 2 Qg'
def Qt' (w : World) (x : List Value) (s : Pl.Tv) (f : List Nat) : Prop := ∃ v1 v2 f1 f2, x = [.int .i64 s.k, .string (Pl.ba s.nm), v1, v2] ∧ f = f1 ++ f2 ∧ HdS w v1 s.code f1 ∧ HdG w v2 s.gs f2
theorem Qt'.lives : Lives Qt' := ⟨fun _ _ _ _ _ ⟨v1, v2, f1, f2, h1, h2, h3, h4⟩ k => ⟨v1, v2, f1, f2, h1, h2, h3.keep Qs'.lives (fun b hb => k b (h2 ▸ List.mem_append_left _ hb)), h4.keep Qg'.lives (fun b hb => k b (h2 ▸ List.mem_append_right _ hb))⟩⟩
abbrev HdP := Hd 4 Qt'
theorem Qs.to (w : World) (x : List Value) (s : Pl.Sv) (f : List Nat) (h : Qs w x s f) (hf : ∀ b ∈ f, b < w.heap.size) : Qs' w x s f := by
  obtain ⟨v, h1, h2⟩ := h
  exact ⟨v, h1, h2.hd (fun _ _ _ _ h _ => h) hf⟩
theorem Qg.to (w : World) (x : List Value) (s : Pl.Gv) (f : List Nat) (h : Qg w x s f) (hf : ∀ b ∈ f, b < w.heap.size) : Qg' w x s f := by
  obtain ⟨v1, v2, f1, f2, h1, rfl, h3, h4⟩ := h
  exact ⟨v1, v2, f1, f2, h1, rfl, h3.hd Qs.to (fun b hb => hf b (List.mem_append_left _ hb)), h4.hd Qs.to (fun b hb => hf b (List.mem_append_right _ hb))⟩
theorem Qt.to (w : World) (x : List Value) (s : Pl.Tv) (f : List Nat) (h : Qt w x s f) (hf : ∀ b ∈ f, b < w.heap.size) : Qt' w x s f := by
  obtain ⟨v1, v2, f1, f2, h1, rfl, h3, h4⟩ := h
  exact ⟨v1, v2, f1, f2, h1, rfl, h3.hd Qs.to (fun b hb => hf b (List.mem_append_left _ hb)), h4.hd Qg.to (fun b hb => hf b (List.mem_append_right _ hb))⟩
theorem OwP.hd {w : World} {v : Value} {c : List Pl.Tv} {F : List Nat} {B : Nat} (h : OwP w v c F) (hi : Inb B w F) : HdP w v c F := Own.hd Qt.to h (fun b hb => (hi b hb).2)
/-- a record is being written -/
structure Sd (z : Nat) (wr W : World) (g i : Nat) (f : List Nat) (y : List Value) : Prop where
  os : W.os = wr.os
  tape : W.tape = wr.tape
  output : W.output = wr.output
  sz : wr.heap.size ≤ W.heap.size
  blk : ∀ b, b < wr.heap.size → b ≠ g → b ∉ f → W.heap[b]? = wr.heap[b]?
  cel : ∀ j, (j < i * z ∨ i * z + z ≤ j) → W.cell? ⟨g, j, none⟩ = wr.cell? ⟨g, j, none⟩
  fro : ∀ j, W.frozen? ⟨g, j, none⟩ = false
  cur : ∀ j u, y[j]? = some u → W.cell? ⟨g, i * z + j, none⟩ = some u
  len : y.length = z
  glt : g < wr.heap.size
  gf : g ∉ f
section
variable {z : Nat} {wr W W' : World} {g i : Nat} {f : List Nat} {y : List Value}
theorem Sd.set (h : Sd z wr W g i f y) {j : Nat} (hj : j < z) (v : Value) : Sd z wr (W.setCell ⟨g, i * z + j, none⟩ v) g i f (y.set j v) := by
  have hy : j < y.length := by rw [h.len]; exact hj
  refine ⟨h.os, h.tape, h.output, by simpa using h.sz, fun b hb hg hf => (Below.heap_setCell _ _ _ b hg).trans (h.blk b hb hg hf), fun k hk => ?_, fun k => by rw [World.frozen?_setCell]; exact h.fro k, fun k u hu => ?_, by rw [List.length_set]; exact h.len, h.glt, h.gf⟩
  · rw [World.cell?_setCell_other _ _ _ _ (by intro e; injection e with _ e2 _; omega)]
    exact h.cel k hk
  · by_cases e : k = j
    · subst e
      rw [List.getElem?_set_self hy] at hu
      have hu : v = u := Option.some.inj hu
      subst hu
      exact World.cell?_setCell_same _ _ _ (h.cur k _ (List.getElem?_eq_getElem hy))
    · rw [List.getElem?_set_ne (fun h => e h.symm)] at hu
      rw [World.cell?_setCell_other _ _ _ _ (by intro e2; injection e2 with _ e3 _; omega)]
      exact h.cur k u hu
theorem Sd.inner (h : Sd z wr W g i f y) {f' : List Nat} (hw : Wt W W' f') (hf : ∀ b ∈ f', b ∈ f) : Sd z wr W' g i f y := by
  have hs := h.sz
  have e : W'.heap[g]? = W.heap[g]? := hw.block g (by have := h.glt; omega) (fun hm => h.gf (hf g hm))
  have c (j : Nat) : W'.cell? ⟨g, j, none⟩ = W.cell? ⟨g, j, none⟩ := World.cell?_of_block e
  exact ⟨hw.os.trans h.os, hw.tape.trans h.tape, hw.output.trans h.output, Nat.le_trans hs hw.size, fun b hb hg hn => (hw.block b (by omega) (fun hm => hn (hf b hm))).trans (h.blk b hb hg hn), fun j hj => (c j).trans (h.cel j hj), fun j => (World.frozen?_of_block (a := ⟨g, j, none⟩) e).trans (h.fro j), fun j u hu => (c _).trans (h.cur j u hu), h.len, h.glt, h.gf⟩
theorem Sd.text (h : Sd z wr W g i f y) (hb : Below W.heap.size W W') : Sd z wr W' g i f y := h.inner (f' := []) (Wt.below hb _) (by simp)
theorem Sd.wt (h : Sd z wr W g i f y) {F : List Nat} (hg : g ∈ F) (hf : ∀ b ∈ f, b ∈ F) : Wt wr W F := ⟨h.os, h.tape, h.output, h.sz, fun b hb hn => h.blk b hb (fun e => hn (e ▸ hg)) (fun hm => hn (hf b hm))⟩
end
/-- one record of a list: what it is, and how another is put in its place -/
theorem Hd.focus {α : Type} {z : Nat} {Q : World → List Value → α → List Nat → Prop} (L : Lives Q) (hz : ∀ {w : World} {x : List Value} {a : α} {f : List Nat}, Q w x a f → x.length = z) {w : World} {v : Value} {c1 : List α} {a : α} {c2 : List α} {F : List Nat} (h : Hd z Q w v (c1 ++ a :: c2) F) :
    ∃ g cap x f, v = .slice (some ⟨g, 0, none⟩) (c1 ++ a :: c2).length cap ∧ Q w x a f ∧ Sd z w w g c1.length f x ∧ g ∈ F ∧ (∀ b ∈ f, b ∈ F) ∧ f.Nodup ∧ (∀ b ∈ f, b < w.heap.size) ∧
      ∀ (w' : World) (x' : List Value) (a' : α), Sd z w w' g c1.length f x' → Q w' x' a' f → Hd z Q w' v (c1 ++ a' :: c2) F := by
  obtain ⟨ao, cap, rfl, h⟩ := h
  rcases h with h | ⟨g, xs, fp, rfl, rfl, h1, h2, h3, h4, h5⟩
  · simp at h
  · have sp : ∀ {c1 : List α} {xs : List Value} {fp : List Nat}, RowQ Q w xs (c1 ++ a :: c2) fp → ∃ x1 x x2 f1 f f2, xs = x1 ++ (x ++ x2) ∧ fp = f1 ++ (f ++ f2) ∧ RowQ Q w x1 c1 f1 ∧ Q w x a f ∧ RowQ Q w x2 c2 f2 ∧ x1.length = c1.length * z := by
      intro c1
      induction c1 with
      | nil =>
        intro xs fp h
        obtain ⟨x, xs', f, F', rfl, rfl, q1, q2⟩ := h
        exact ⟨[], x, xs', [], f, F', rfl, rfl, ⟨rfl, rfl⟩, q1, q2, by simp⟩
      | cons b c1 ih =>
        intro xs fp h
        obtain ⟨x, xs', f, F', rfl, rfl, q1, q2⟩ := h
        obtain ⟨x1, y, x2, f1, f', f2, rfl, rfl, r1, r2, r3, r4⟩ := ih q2
        refine ⟨x ++ x1, y, x2, f ++ f1, f', f2, by simp, by simp, ⟨x, x1, f, f1, rfl, rfl, q1, r1⟩, r2, r3, ?_⟩
        rw [List.length_append, r4, hz q1, List.length_cons, Nat.succ_mul]
        omega
    obtain ⟨x1, x, x2, f1, f, f2, rfl, rfl, r1, r2, r3, r4⟩ := sp h1
    have hx := hz r2
    have hnd := h2
    rw [List.nodup_cons, List.nodup_append, List.nodup_append] at hnd
    obtain ⟨hg, n1, ⟨n2, n3, n23⟩, n123⟩ := hnd
    have hgf : g ∉ f := fun hm => hg (by simp [hm])
    refine ⟨g, cap, x, f, rfl, r2, ⟨rfl, rfl, rfl, Nat.le_refl _, fun _ _ _ _ => rfl, fun _ _ => rfl, h5, fun j u hu => ?_, hx, h3 g (by simp), hgf⟩, by simp, fun b hb => by simp [hb], n2, fun b hb => h3 b (by simp [hb]), fun w' x' a' hS hQ => ?_⟩
    · refine h4 _ u ?_
      have hj : j < x.length := (List.getElem?_eq_some_iff.1 hu).1
      rw [List.getElem?_append_right (by omega), List.getElem?_append_left (by omega)]
      rw [← hu]
      congr 1
      omega
    · have k1 : ∀ b ∈ f1, w'.heap[b]? = w.heap[b]? := fun b hb => hS.blk b (h3 b (by simp [hb])) (fun e => hg (by rw [← e]; simp [hb])) (fun hm => n123 b hb b (by simp [hm]) rfl)
      have k2 : ∀ b ∈ f2, w'.heap[b]? = w.heap[b]? := fun b hb => hS.blk b (h3 b (by simp [hb])) (fun e => hg (by rw [← e]; simp [hb])) (fun hm => n23 b hm b hb rfl)
      have hx' := hz hQ
      refine ⟨_, cap, by simp, .inr ⟨g, x1 ++ (x' ++ x2), f1 ++ (f ++ f2), rfl, rfl, (r1.keep L k1).app (c := c1) (d := a' :: c2) ⟨x', x2, f, f2, rfl, rfl, hQ, r3.keep L k2⟩, h2, fun b hb => Nat.lt_of_lt_of_le (h3 b hb) hS.sz, fun j u hu => ?_, hS.fro⟩⟩
      by_cases hj1 : j < c1.length * z
      · rw [hS.cel j (.inl hj1)]
        refine h4 j u ?_
        rw [List.getElem?_append_left (by omega)] at hu ⊢
        exact hu
      · by_cases hj2 : j < c1.length * z + z
        · have := hS.cur (j - c1.length * z) u (by
            rw [List.getElem?_append_right (by omega), List.getElem?_append_left (by omega)] at hu
            rw [← hu]
            congr 1
            omega)
          rw [show c1.length * z + (j - c1.length * z) = j by omega] at this
          exact this
        · rw [hS.cel j (.inr (by omega))]
          refine h4 j u ?_
          rw [List.getElem?_append_right (by omega), List.getElem?_append_right (by omega)] at hu ⊢
          rw [hx'] at hu
          rw [hx]
          exact hu
theorem Hd.form {α : Type} {z : Nat} {Q : World → List Value → α → List Nat → Prop} {w : World} {v : Value} {c : List α} {F : List Nat} (h : Hd z Q w v c F) : ∃ ao cap, v = .slice ao c.length cap := by
  obtain ⟨ao, cap, rfl, _⟩ := h
  exact ⟨ao, cap, rfl⟩
theorem Qi.len' {w : World} {x : List Value} {a : Int} {f : List Nat} (h : Qi w x a f) : x.length = 1 := by rw [h.1]; rfl
theorem Qs'.len {w : World} {x : List Value} {a : Pl.Sv} {f : List Nat} (h : Qs' w x a f) : x.length = 7 := by obtain ⟨v, rfl, _⟩ := h; rfl
theorem Qg'.len {w : World} {x : List Value} {a : Pl.Gv} {f : List Nat} (h : Qg' w x a f) : x.length = 2 := by obtain ⟨v1, v2, f1, f2, rfl, _⟩ := h; rfl
theorem Qt'.len {w : World} {x : List Value} {a : Pl.Tv} {f : List Nat} (h : Qt' w x a f) : x.length = 4 := by obtain ⟨v1, v2, f1, f2, rfl, _⟩ := h; rfl
/-- the list behind i records: the marked ones, then the others -/
theorem split_at {α : Type} {c : List α} {i : Nat} (h : i < c.length) (m : List α) : m ++ c.drop i = m ++ c[i] :: c.drop (i + 1) := by rw [List.drop_eq_getElem_cons h]
theorem join_at {α : Type} (m : List α) (a : α) (c : List α) : m ++ a :: c = (m ++ [a]) ++ c := by simp
namespace Pl
theorem mk_le {α : Type} {f : Nat → α → α × Nat} (hf : ∀ m a, m ≤ (f m a).2) {c : List α} {i : Nat} (h : i < c.length) (m : Nat) : (f (mkL f m (c.take i)).2 c[i]).2 ≤ (mkL f m c).2 := by
  rw [mkL_at f h m]
  exact mkL_ge hf _ _
theorem mk_tk {α : Type} {f : Nat → α → α × Nat} (hf : ∀ m a, m ≤ (f m a).2) (c : List α) (i m : Nat) : m ≤ (mkL f m (c.take i)).2 := mkL_ge hf _ _
theorem mk_whole {α : Type} (f : Nat → α → α × Nat) {c : List α} {i : Nat} (h : c.length ≤ i) (m : Nat) : mkL f m (c.take i) = mkL f m c := by rw [List.take_of_length_le h]
/-- the list behind one record more -/
theorem mk_next {α : Type} (f : Nat → α → α × Nat) {c : List α} {i : Nat} (h : i < c.length) (m : Nat) : (mkL f m (c.take i)).1 ++ (f (mkL f m (c.take i)).2 c[i]).1 :: c.drop (i + 1) = (mkL f m (c.take (i + 1))).1 ++ c.drop (i + 1) := by
  rw [mkL_take f h, join_at]
theorem mk_tlen {α : Type} (f : Nat → α → α × Nat) {c : List α} {i : Nat} (h : i ≤ c.length) (m : Nat) : (mkL f m (c.take i)).1.length = i := by
  rw [mkL_len, List.length_take]
  omega
end Pl
set_option maxHeartbeats 1000000 in
/-- laws.markIntS -/
theorem markIntS_any (v : Value) (m : Nat) (ns : List Int) (F : List Nat) (w : World) (hb : (Pl.mkI m ns).2 ≤ 1099511627776) (h : HdI w v ns F) :
    Calls Tryd.prog 37 #[v, .int .i64 (m : Int)] w fun e w' => e = .returned (.int .i64 ((Pl.mkI m ns).2 : Nat)) ∧ HdI w' v (Pl.mkI m ns).1 F ∧ Wt w w' F := by
  obtain ⟨ao, cap, rfl⟩ := h.form
  have hln : ns.length ≤ 1099511627776 := by
    have e : ∀ (c : List Int) (m : Nat), (Pl.mkI m c).2 = m + c.length := by
      intro c
      induction c with
      | nil => intro m; rfl
      | cons a c ih => intro m; show (Pl.mkI (m + 1) c).2 = _; rw [ih, List.length_cons]; omega
    have := e ns m
    omega
  generalize hn : ns.length = n at h hln ⊢
  have HN := hideP hn
  have HLE : Hid (∀ i (h : i < ns.length), (Pl.mk1 (Pl.mkI m (ns.take i)).2 ns[i]).2 ≤ 1099511627776) := fun i h => Nat.le_trans (Pl.mk_le Pl.mk1_ge h m) hb
  have H0 : Hid (HdI w (.slice ao n cap) ((Pl.mkI m (ns.take 0)).1 ++ ns.drop 0) F) := h
  clear h hn hb
  go_enter Tryd.func37, Tryd.ntmps37
  go_wp2_with fail
  go_loopw [1, 5] (fun k i wr => ∃ j : Nat, j ≤ n ∧ i = .int .i64 j ∧ k = .int .i64 ((Pl.mkI m (ns.take j)).2 : Nat) ∧ Hid (HdI wr (.slice ao n cap) ((Pl.mkI m (ns.take j)).1 ++ ns.drop j) F) ∧ Hid (Wt w wr F)) (fun _ i _ => n - (intOf i).toNat)
  case atStart => exact ⟨0, Nat.zero_le _, rfl, rfl, H0, Wt.refl _ _⟩
  case round =>
    obtain ⟨j, hj, rfl, rfl, HH, HW⟩ := hrel
    by_cases hlt : j < n
    · have hjn : j < ns.length := by rw [HN.out]; exact hlt
      have hlt' : (j : Int) < (n : Int) := by omega
      have hle := HLE.out j hjn
      have hh := HH.out
      rw [split_at hjn] at hh
      obtain ⟨g, cap', x, f, hv, hQ, hS, hg, hf, _, _, put⟩ := hh.focus Qi.lives Qi.len'
      have hml : (Pl.mkI m (ns.take j)).1.length = j := Pl.mk_tlen _ (by omega) m
      rw [hml] at hS put
      have hao : ao = some ⟨g, 0, none⟩ := (Value.slice.inj hv).1
      subst hao
      obtain ⟨rfl, rfl⟩ := hQ
      have c0 := hS.cur 0 _ rfl
      have f0 := hS.fro j
      have hT : Pl.mkI m (ns.take (j + 1)) = ((Pl.mkI m (ns.take j)).1 ++ [(Pl.mk1 (Pl.mkI m (ns.take j)).2 ns[j]).1], (Pl.mk1 (Pl.mkI m (ns.take j)).2 ns[j]).2) := Pl.mkL_take Pl.mk1 hjn m
      have hP := put _ _ (Pl.mk1 (Pl.mkI m (ns.take j)).2 ns[j]).1 (hS.set (j := 0) (by omega) (.int .i64 ((Pl.mkI m (ns.take j)).2 : Nat))) ⟨rfl, rfl⟩
      have hW := HW.out.trans ((hS.set (j := 0) (by omega) (.int .i64 ((Pl.mkI m (ns.take j)).2 : Nat))).wt hg hf)
      rw [Pl.mk_next Pl.mk1 hjn] at hP
      have hT2 : (Pl.mkI m (ns.take (j + 1))).2 = (Pl.mkI m (ns.take j)).2 + 1 := by rw [hT]; rfl
      have hle2 : (Pl.mkI m (ns.take j)).2 + 1 ≤ 1099511627776 := hle
      simp only [Nat.mul_one, Nat.add_zero] at c0 hP hW
      have HP := hideP hP
      have HW2 := hideP hW
      have HT2 := hideP hT2
      clear hT hT2 hP hW hle hS put hh HH HW H0 HLE hv
      generalize (Pl.mkI m (ns.take j)).2 = t at *
      go_wp2_with fail
      go_roundw
      case rel => exact ⟨j + 1, by omega, by go_num, by rw [HT2.out]; go_num, HP, HW2⟩
      case measure => simp [intOf]; omega
    · obtain rfl : j = n := by omega
      have e : Pl.mkI m (ns.take j) = Pl.mkI m ns := Pl.mk_whole Pl.mk1 (c := ns) (i := j) (by rw [HN.out]; exact Nat.le_refl _) m
      have HF : Hid (HdI wr (.slice ao j cap) (Pl.mkI m ns).1 F) := by
        have := HH.out
        rw [e, List.drop_of_length_le (by rw [HN.out]; exact Nat.le_refl _), List.append_nil] at this
        exact this
      rw [e]
      clear HH H0 HLE e
      go_wp2_with fail
      go_ret
      exact ⟨rfl, HF.out, HW.out⟩
end Go.Proofs.YtljkolffjjhgeaaDoor
