import Derived.Test.YtbmkbplgncoapaaDoorLp
namespace Go.Proofs.YtbmkbplgncoapaaDoor
open Go.RowKit
set_option linter.unusedVariables false
namespace Pl
/-- a test: the numbers of its four rows -/
abbrev TT := List Int × List Int × List Int × List Int
/-- the arrow between two arrays -/
def arw : List UInt8 := [32, 61, 62, 32]
noncomputable def tst2 (b a : List UInt8) : Option TT := if parC b = 0 ∧ parC a = 0 then some (parS b, parD b, parS a, parD a) else none
noncomputable def tst (l : List UInt8) : Option TT := if 0 ≤ Lib.index l arw then tst2 (l.take (Lib.index l arw).toNat) (l.drop ((Lib.index l arw).toNat + 4)) else none
theorem parC_nil : parC [] = 1 := (par_no (t := []) (fun _ sh da h => by have := h.2; simp at this)).1
theorem tst_cut (l : List UInt8) : tst2 (Lib.cut l arw).1 (Lib.cut l arw).2.1 = tst l := by
  unfold Lib.cut tst
  split
  · rfl
  · unfold tst2
    rw [if_neg]
    intro h
    have h2 : parC [] = 0 := h.2
    rw [parC_nil] at h2
    exact absurd h2 (by decide)
theorem tst_hit {l : List UInt8} {k : Nat} (hk : k ≤ l.length) (h : Lib.occAt l arw k = true) (hn : ∀ j, j < k → Lib.occAt l arw j = false) : tst l = tst2 (l.take k) (l.drop (k + 4)) := by
  have e := Lib.index_first hk h hn
  unfold tst
  rw [if_pos (by omega), e]
  rfl
theorem tst_miss {l : List UInt8} {k : Nat} (hk : l.length < k + 4) (hn : ∀ j, j < k → Lib.occAt l arw j = false) : tst l = none := by
  have e : Lib.index l arw = -1 := by
    apply Lib.index_none
    intro j hj
    by_cases h : j < k
    · exact hn j h
    · by_cases hb : Lib.occAt l arw j = true
      · rcases Lib.occAt_room hb with h1 | h1
        · have : arw.length = 4 := rfl
          omega
        · cases h1
      · simpa using hb
  unfold tst
  rw [if_neg (by omega)]
theorem occ_iff (l : List UInt8) (k : Nat) (hk : k + 4 ≤ l.length) : Lib.occAt l arw k = true ↔ (l.drop k).take 4 = arw := by
  rw [Lib.occAt_iff_take l arw k hk]
  exact beq_iff_eq

/-- the rows of tests, one after the other -/
def flat (ts : List TT) : List (List Int) := ts.flatMap fun t => [t.1, t.2.1, t.2.2.1, t.2.2.2]
theorem flat_snoc (ts : List TT) (t : TT) : flat (ts ++ [t]) = flat ts ++ [t.1, t.2.1, t.2.2.1, t.2.2.2] := by unfold flat; simp
theorem flat_len (ts : List TT) : (flat ts).length = 4 * ts.length := by
  unfold flat
  induction ts with
  | nil => rfl
  | cons t ts ih => simp only [List.flatMap_cons, List.length_append, List.length_cons, List.length_nil, ih]; omega

/-- lines read as tests -/
noncomputable def run : Nat → List TT → List (List UInt8) → List TT × Int × Int
  | _, out, [] => (out, 0, 0)
  | i, out, l :: r =>
    if l = [] then run (i + 1) out r
    else match tst l with
      | none => ([], 2, (i : Int) + 1)
      | some t => if out.length = 20 then ([], 3, (i : Int) + 1) else run (i + 1) (out ++ [t]) r
noncomputable def tests (t : List UInt8) : List TT × Int × Int := if t.length ≤ 50000 then run 0 [] (cuts 10 t) else ([], 1, 0)
theorem run_blank {i : Nat} {out : List TT} {l : List UInt8} {r : List (List UInt8)} (h : l = []) : run i out (l :: r) = run (i + 1) out r := by rw [run, if_pos h]
theorem run_bad {i : Nat} {out : List TT} {l : List UInt8} {r : List (List UInt8)} (h : ¬ l = []) (ht : tst l = none) : run i out (l :: r) = ([], 2, (i : Int) + 1) := by rw [run, if_neg h, ht]
theorem run_many {i : Nat} {out : List TT} {l : List UInt8} {r : List (List UInt8)} {t : TT} (h : ¬ l = []) (ht : tst l = some t) (hn : out.length = 20) : run i out (l :: r) = ([], 3, (i : Int) + 1) := by
  rw [run, if_neg h, ht]
  simp only
  rw [if_pos hn]
theorem run_one {i : Nat} {out : List TT} {l : List UInt8} {r : List (List UInt8)} {t : TT} (h : ¬ l = []) (ht : tst l = some t) (hn : ¬ out.length = 20) : run i out (l :: r) = run (i + 1) (out ++ [t]) r := by
  rw [run, if_neg h, ht]
  simp only
  rw [if_neg hn]
end Pl

/-- rows of the call's own, in blocks of their own -/
def Fl (B : Nat) (w : World) (L : List (Value × List Int)) : Prop := (∀ p ∈ L, Own B w p.1 p.2) ∧ L.Pairwise fun p q => Apart p.1 q.1 p.2 q.2

theorem Fl.keep {B : Nat} {w w' : World} {L : List (Value × List Int)} (h : Fl B w L) (hb : Below w.heap.size w w') : Fl B w' L := ⟨fun p hp => (h.1 p hp).keep hb, h.2⟩
theorem Fl.base {B B' : Nat} {w : World} {L : List (Value × List Int)} (h : Fl B w L) (hb : B' ≤ B) : Fl B' w L := ⟨fun p hp => (h.1 p hp).base hb, h.2⟩
theorem Fl.nil (B : Nat) (w : World) : Fl B w [] := ⟨(fun p hp => by cases hp), List.Pairwise.nil⟩
theorem Fl.store {B : Nat} {w : World} {L : List (Value × List Int)} (h : Fl B w L) {b o : Nat} (hb : b < B) (v : Value) : Fl B (w.setCell ⟨b, o, none⟩ v) L := ⟨fun p hp => (h.1 p hp).store hb v, h.2⟩
theorem Fl.app {B : Nat} {w w' : World} {L M : List (Value × List Int)} (h : Fl B w L) (hb : Below w.heap.size w w') (hm : Fl w.heap.size w' M) (hB : B ≤ w.heap.size) : Fl B w' (L ++ M) := by
  refine ⟨fun p hp => ?_, ?_⟩
  · rcases List.mem_append.1 hp with hp | hp
    · exact (h.1 p hp).keep hb
    · exact (hm.1 p hp).base hB
  · rw [List.pairwise_append]
    exact ⟨h.2, hm.2, fun p hp q hq => apart_of (h.1 p hp) (hm.1 q hq)⟩
theorem Res.fl {B : Nat} {w : World} {u0 u1 : Value} {sh da : List Int} (h : Res B w u0 u1 sh da) : Fl B w [(u0, sh), (u1, da)] := by
  refine ⟨fun p hp => ?_, ?_⟩
  · rcases List.mem_cons.1 hp with rfl | hp
    · exact h.1
    · rw [List.mem_singleton.1 hp]; exact h.2.1
  · exact List.Pairwise.cons (fun q hq => by rw [List.mem_singleton.1 hq]; exact h.2.2) (List.pairwise_singleton _ _)

/-- what the reading of one test says -/
def TPost (w : World) (l : List UInt8) (e : Ending) (w' : World) : Prop :=
  Below w.heap.size w w' ∧ ∃ (u0 u1 u2 u3 : Value) (a b c d : List Int) (ok : Bool), e = .returned (.tuple #[.agg #[u0, u1, u2, u3], .bool ok]) ∧ Fl w.heap.size w' [(u0, a), (u1, b), (u2, c), (u3, d)] ∧ ((ok = true ∧ Pl.tst l = some (a, b, c, d)) ∨ (ok = false ∧ Pl.tst l = none))

theorem tp_yes {w w' : World} {l : List UInt8} {u0 u1 u2 u3 : Value} {a b c d : List Int} (hb : Below w.heap.size w w') (hf : Fl w.heap.size w' [(u0, a), (u1, b), (u2, c), (u3, d)]) (h : Pl.tst l = some (a, b, c, d)) : TPost w l (.returned (.tuple #[.agg #[u0, u1, u2, u3], .bool true])) w' :=
  ⟨hb, u0, u1, u2, u3, a, b, c, d, true, rfl, hf, .inl ⟨rfl, h⟩⟩
theorem tp_no {w w' : World} {l : List UInt8} {u0 u1 u2 u3 : Value} {a b c d : List Int} (hb : Below w.heap.size w w') (hf : Fl w.heap.size w' [(u0, a), (u1, b), (u2, c), (u3, d)]) (h : Pl.tst l = none) : TPost w l (.returned (.tuple #[.agg #[u0, u1, u2, u3], .bool false])) w' :=
  ⟨hb, u0, u1, u2, u3, a, b, c, d, false, rfl, hf, .inr ⟨rfl, h⟩⟩

/-- the answer's variable of a test, not yet filled -/
def Sl4 (N : Nat) (w : World) : Prop := N < w.heap.size ∧ (∀ o, o < 4 → w.cell? ⟨N, o, none⟩ = some (.slice none 0 0)) ∧ ∀ o, w.frozen? ⟨N, o, none⟩ = false
theorem Sl4.keep {N : Nat} {w w' : World} (h : Sl4 N w) (hb : Below w.heap.size w w') : Sl4 N w' :=
  ⟨Nat.lt_of_lt_of_le h.1 hb.size, fun o ho => (hb.cell (p := ⟨N, o, none⟩) h.1).trans (h.2.1 o ho), fun o => (hb.frozen (p := ⟨N, o, none⟩) h.1).trans (h.2.2 o)⟩
theorem Sl4.new (w : World) (t : TypeId) : Sl4 w.heap.size (w.alloc (.cells #[.slice none 0 0, .slice none 0 0, .slice none 0 0, .slice none 0 0] t)) :=
  ⟨by simp, fun o ho => by
    match o, ho with
    | 0, _ => simp [go_sem]
    | 1, _ => simp [go_sem]
    | 2, _ => simp [go_sem]
    | 3, _ => simp [go_sem], fun o => by simp [go_sem]⟩

end Go.Proofs.YtbmkbplgncoapaaDoor
