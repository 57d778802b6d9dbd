import Derived.Test.YtbmkbplgncoapaaDoorT5
import Derived.Deep.AppendLies
namespace Go.Proofs.YtbmkbplgncoapaaDoor
open Go.RowKit
set_option linter.unusedVariables false

theorem Tryd.info104 : (Tryd.prog.info? 104).map (fun i => (i.zero, i.size, i.bytes)) = some (some (.agg #[.slice none 0 0, .slice none 0 0, .slice none 0 0, .slice none 0 0]), 4, 96) := by kernel_rfl

/-- rows of two kinds lie in two blocks -/
theorem owns_tag2 {base base' n n' z z' : Nat} {e e' : TypeId} {w : World} {v v' : Value} {xs xs' : List Value} (h : w.ownsRow base e z v n xs) (h' : w.ownsRow base' e' z' v' n' xs') (hne : ¬ e = e') : v'.ownBlock = none ∨ v'.ownBlock ≠ v.ownBlock := by
  rcases h'.2 with ⟨e1, _⟩ | ⟨g', cp', cur', e1, _, hg', _⟩
  · left; rw [e1]; rfl
  · right
    rcases h.2 with ⟨e2, _⟩ | ⟨g, cp, cur, e2, _, hg, _⟩
    · rw [e1, e2]; simp [Value.ownBlock]
    · rw [e1, e2]
      intro hh
      simp [Value.ownBlock] at hh
      subst hh
      rw [hg] at hg'
      simp at hg'
      exact hne hg'.2

/-- a slice of tests under way, and further rows -/
def Md (B : Nat) (w : World) (v : Value) (ts : List Pl.TT) (M : List (Value × List Int)) : Prop :=
  ∃ L : List (Value × List Int), L.map (·.2) = Pl.flat ts ∧ w.ownsRow B 104 4 v ts.length (L.map (·.1)) ∧ Fl B w (L ++ M) ∧ ∀ p ∈ L ++ M, ∀ k, rowOf p.1 p.2 = some k → v.ownBlock ≠ some k
abbrev Rw (B : Nat) (w : World) (v : Value) (ts : List Pl.TT) : Prop := Md B w v ts []
theorem Md.keep {B : Nat} {w w' : World} {v : Value} {ts : List Pl.TT} {M : List (Value × List Int)} (h : Md B w v ts M) (hb : Below w.heap.size w w') : Md B w' v ts M := by
  obtain ⟨L, h1, h2, h3, h4⟩ := h
  exact ⟨L, h1, owns_keep h2 hb, h3.keep hb, h4⟩
theorem Md.form {B : Nat} {w : World} {v : Value} {ts : List Pl.TT} {M : List (Value × List Int)} (h : Md B w v ts M) : ∃ ao cap, v = .slice ao ts.length cap := by
  obtain ⟨L, h1, h2, h3, h4⟩ := h
  rcases h2.2 with ⟨e, h0⟩ | ⟨g, cp, cur, e, _⟩
  · exact ⟨none, 0, by rw [h0]; exact e⟩
  · exact ⟨_, _, e⟩
theorem Md.more {B : Nat} {w w' : World} {v : Value} {ts : List Pl.TT} {M : List (Value × List Int)} (h : Rw B w v ts) (hb : Below w.heap.size w w') (hm : Fl w.heap.size w' M) (hB : B ≤ w.heap.size) : Md B w' v ts M := by
  obtain ⟨L, h1, h2, h3, h4⟩ := h
  rw [List.append_nil] at h3 h4
  refine ⟨L, h1, owns_keep h2 hb, h3.app hb hm hB, fun p hp k hk => ?_⟩
  rcases List.mem_append.1 hp with hp | hp
  · exact h4 p hp k hk
  · intro hv
    have a := (rowOf_ge (hm.1 p hp) k hk).1
    have b := (h2.lt k hv).2
    omega
theorem Md.lt {B : Nat} {w : World} {v : Value} {ts : List Pl.TT} {M : List (Value × List Int)} (h : Md B w v ts M) : ∀ k, v.ownBlock = some k → B ≤ k := by
  obtain ⟨L, h1, h2, h3, h4⟩ := h
  exact fun k hk => (h2.lt k hk).1
theorem Md.row {B : Nat} {w : World} {v : Value} {ts : List Pl.TT} {M : List (Value × List Int)} (h : Md B w v ts M) : ∃ xs, w.ownsRow B 104 4 v ts.length xs := by
  obtain ⟨L, h1, h2, h3, h4⟩ := h
  exact ⟨_, h2⟩
theorem Rw.nilv (B : Nat) (w : World) : Rw B w (.slice none 0 0) [] :=
  ⟨[], rfl, World.ownsRow_nil w _ _ _, Fl.nil _ _, fun p hp => by cases hp⟩
theorem Rw.lit (w : World) (B : Nat) (hB : B ≤ w.heap.size) : Rw B (w.alloc (.cells #[] 104)) (.slice (some ⟨w.heap.size, 0, none⟩) 0 0) [] :=
  ⟨[], rfl, World.ownsRow_lit w #[] 0 hB (by unfold maxLen; omega) rfl, Fl.nil _ _, fun p hp => by cases hp⟩

/-- append of a test -/
theorem wpList_appT {base : Nat} (w : World) {ops : Array Oper} {rest : List Oper} {o : Oper} {a : Act} {Q : Exit → Act → World → Prop} (hg : o.guard = none) (s x : Operand)
    (hop : o.op = Op.call { callee := Callee.builtin Builtin.append, args := #[s, x], argTypes := #[53, 53] }) (v : Value) (hs : a.eval s = v) (b : Nat) (hx : a.eval x = .slice (some ⟨b, 0, none⟩) 1 1) (ts : List Pl.TT) (t : Pl.TT) (u0 u1 u2 u3 : Value)
    (hM : Md base w v ts [(u0, t.1), (u1, t.2.1), (u2, t.2.2.1), (u3, t.2.2.2)]) (hc : ∀ j u, [u0, u1, u2, u3][j]? = some u → w.cell? ⟨b, j, none⟩ = some u) (hlen : ts.length ≤ 20) (hbase : base ≤ w.heap.size)
    (hK : ∀ v' w', Rw base w' v' (ts ++ [t]) → w.grownBy w' v.ownBlock → wpList Tryd.prog ops Q rest (a.put o.dst v') w') : wpList Tryd.prog ops Q (o :: rest) a w := by
  obtain ⟨i0, hi, hz0, hz1, hz2⟩ := info_parts Tryd.info104
  obtain ⟨L, h1, h2, h3, h4⟩ := hM
  refine wpList_append_lies w hg s x 53 hop base 104 i0 _ 4 96 Tryd.underlying53 hi hz0 hz1 hz2 rfl (by decide) v ts.length (L.map (·.1)) hs h2 ⟨b, 0, none⟩ 1 1 [u0, u1, u2, u3] hx rfl
    (fun j u hj => by rw [Addr.add_lit, Nat.zero_add]; exact hc j u hj)
    (fun u hu => by
      have key : ∀ p ∈ L ++ [(u0, t.1), (u1, t.2.1), (u2, t.2.2.1), (u3, t.2.2.2)], p.1.oneCell' = true := fun p hp => by
        obtain ⟨ao, cap, e, _⟩ := h3.1 p hp
        rw [e]; rfl
      simp only [List.mem_cons, List.not_mem_nil, or_false] at hu
      rcases hu with rfl | rfl | rfl | rfl
      · exact key (u, t.1) (by simp)
      · exact key (u, t.2.1) (by simp)
      · exact key (u, t.2.2.1) (by simp)
      · exact key (u, t.2.2.2) (by simp))
    (by decide) (by unfold maxLen; omega) (by omega) hbase w.heap.size rfl ?_
  intro g cap w' g1 g2 g3 g4
  refine hK _ _ ⟨L ++ [(u0, t.1), (u1, t.2.1), (u2, t.2.2.1), (u3, t.2.2.2)], ?_, ?_, ?_, ?_⟩ g2
  · rw [List.map_append, h1, Pl.flat_snoc]; rfl
  · rw [List.map_append, List.length_append]
    exact g1
  · rw [List.append_nil]
    exact ⟨fun p hp => (h3.1 p hp).grown g2 (fun k hk e => h4 p hp k e hk), h3.2⟩
  · rw [List.append_nil]
    intro p hp k hk hv
    have hv' : g = k := by simpa [Value.ownBlock] using hv
    rcases g3 with g3 | g3
    · exact h4 p hp k hk (by rw [g3, hv'])
    · have := (rowOf_ge (h3.1 p hp) k hk).2
      omega

/-- a slice of tests -/
def OwT (B : Nat) (w : World) (v : Value) (ts : List Pl.TT) : Prop := (ts = [] ∧ ∃ ao cap, v = .slice ao 0 cap) ∨ Rw B w v ts
/-- what ParseTests says -/
def PtPost (w : World) (r : List Pl.TT × Int × Int) (e : Ending) (w' : World) : Prop :=
  Below w.heap.size w w' ∧ ∃ v, e = .returned (.tuple #[v, .int .i64 r.2.1, .int .i64 r.2.2]) ∧ OwT w.heap.size w' v r.1
theorem pt_none {w w' : World} {r : List Pl.TT × Int × Int} {ao : Option Addr} {cap : Nat} {c l : Int} (hb : Below w.heap.size w w') (h : r = ([], c, l)) : PtPost w r (.returned (.tuple #[.slice ao 0 cap, .int .i64 c, .int .i64 l])) w' := by
  subst h
  exact ⟨hb, _, rfl, .inl ⟨rfl, _, _, rfl⟩⟩
theorem pt_some {w w' : World} {r : List Pl.TT × Int × Int} {v : Value} {ts : List Pl.TT} {c l : Int} (hb : Below w.heap.size w w') (h : r = (ts, c, l)) (ho : Rw w.heap.size w' v ts) : PtPost w r (.returned (.tuple #[v, .int .i64 c, .int .i64 l])) w' := by
  subst h
  exact ⟨hb, _, rfl, .inr ho⟩

theorem drop_done {done : List ByteArray} {k : Nat} {x : ByteArray} (hx : done[k]? = some x) : (done.map bl).drop k = bl x :: (done.map bl).drop (k + 1) := by
  have h := (List.getElem?_eq_some_iff.1 hx)
  obtain ⟨hlt, e⟩ := h
  rw [List.drop_eq_getElem_cons (by rw [List.length_map]; exact hlt), List.getElem_map, e]

theorem tests_long {t : List UInt8} (h : 50000 < t.length) : Pl.tests t = ([], 1, 0) := by unfold Pl.tests; rw [if_neg (by omega)]
theorem tests_run {t : List UInt8} (h : t.length ≤ 50000) : Pl.tests t = Pl.run 0 [] (Pl.cuts 10 t) := by unfold Pl.tests; rw [if_pos h]

end Go.Proofs.YtbmkbplgncoapaaDoor
