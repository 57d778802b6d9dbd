import Derived.Test.YtfangdhbadmolaaGreatDoorFiles
namespace Go.Proofs.YtfangdhbadmolaaGreatDoor
open Go.RowKit
set_option linter.unusedVariables false

/-- the cells of files -/
def cellsF (fs : List Pl.Fl) : List Value := fs.flatMap fun f => [Value.string f.1, Value.string f.2]

theorem cellsF_nil : cellsF [] = [] := rfl
theorem cellsF_cons (f : Pl.Fl) (fs : List Pl.Fl) : cellsF (f :: fs) = .string f.1 :: .string f.2 :: cellsF fs := rfl
theorem cellsF_app (a b : List Pl.Fl) : cellsF (a ++ b) = cellsF a ++ cellsF b := by simp [cellsF]
theorem cellsF_len (fs : List Pl.Fl) : (cellsF fs).length = fs.length * 2 := by
  induction fs with
  | nil => rfl
  | cons f fs ih => rw [cellsF_cons, List.length_cons, List.length_cons, List.length_cons, ih]; omega

theorem cellsF_get (fs : List Pl.Fl) (i : Nat) (h : i < fs.length) : (cellsF fs)[i * 2]? = some (.string (Pl.at' fs i).1) ∧ (cellsF fs)[i * 2 + 1]? = some (.string (Pl.at' fs i).2) := by
  induction fs generalizing i with
  | nil => simp at h
  | cons f fs ih =>
    cases i with
    | zero => simp [cellsF_cons, Pl.at']
    | succ i =>
      have := ih i (by simpa using h)
      have e : (i + 1) * 2 = i * 2 + 1 + 1 := by omega
      rw [e]
      simp only [cellsF_cons, List.getElem?_cons_succ]
      simpa [Pl.at'] using this

theorem cellsF_set (fs : List Pl.Fl) (k : Nat) (f : Pl.Fl) : ((cellsF fs).set (k * 2) (.string f.1)).set (k * 2 + 1) (.string f.2) = cellsF (fs.set k f) := by
  induction fs generalizing k with
  | nil => simp [cellsF]
  | cons g fs ih =>
    cases k with
    | zero => simp [cellsF_cons]
    | succ k =>
      have e : (k + 1) * 2 = k * 2 + 1 + 1 := by omega
      rw [e]
      simp only [cellsF_cons, List.set_cons_succ]
      rw [ih k]

theorem made_files (n : Nat) : (madeCells #[.string ByteArray.empty, .string ByteArray.empty] (n * 2)).toList = cellsF (List.replicate n Pl.none2) := by
  apply List.ext_getElem?
  intro j
  by_cases hj : j < n * 2
  · have h1 : (madeCells #[.string ByteArray.empty, .string ByteArray.empty] (n * 2)).toList[j]? = some (.string ByteArray.empty) := by
      simp only [madeCells, Array.getElem?_toList, Array.getElem?_map]
      have : (Array.range (n * 2))[j]? = some j := by simp [hj]
      rw [this]
      have h2 : j % 2 = 0 ∨ j % 2 = 1 := by omega
      rcases h2 with h2 | h2 <;> simp [h2]
    rw [h1]
    have h3 := cellsF_get (List.replicate n Pl.none2) (j / 2) (by simp; omega)
    have h4 : Pl.at' (List.replicate n Pl.none2) (j / 2) = Pl.none2 := by
      unfold Pl.at'
      rw [List.getD_eq_getElem?_getD, List.getElem?_replicate]
      split <;> rfl
    rw [h4] at h3
    have h2 : j = j / 2 * 2 ∨ j = j / 2 * 2 + 1 := by omega
    rcases h2 with h2 | h2
    · rw [h2]; exact h3.1.symm
    · rw [h2]; exact h3.2.symm
  · rw [List.getElem?_eq_none (by rw [Array.length_toList, size_madeCells]; omega), List.getElem?_eq_none (by rw [cellsF_len]; simp; omega)]

/-- files of one's own, at the head of a block -/
abbrev OwnF (base : Nat) (w : World) (v : Value) (fs : List Pl.Fl) : Prop := w.ownsRow base 59 2 v fs.length (cellsF fs)
/-- The slice value at the head of block g. -/
abbrev sl (g n : Nat) : Value := .slice (some ⟨g, 0, none⟩) n n

theorem rdF_of_own {base g c : Nat} {w : World} {fs : List Pl.Fl} (h : OwnF base w (.slice (some ⟨g, 0, none⟩) fs.length c) fs) : RdF w.heap.size w (.slice (some ⟨g, 0, none⟩) fs.length c) fs := by
  refine ⟨_, _, rfl, .inr ⟨g, 0, (h.lt g rfl).2, rfl, fun i hi => ?_⟩⟩
  have := cellsF_get fs i hi
  rw [Nat.zero_add, h.cellAt (i * 2) (by omega), h.cellAt (i * 2 + 1) (by omega)]
  exact this

/-- the first k are there, the rest are still empty -/
def upF (fs : List Pl.Fl) (k : Nat) : List Pl.Fl := fs.take k ++ List.replicate (fs.length - k) Pl.none2
theorem upF_zero (fs : List Pl.Fl) : upF fs 0 = List.replicate fs.length Pl.none2 := by simp [upF]
theorem upF_len (fs : List Pl.Fl) (k : Nat) (h : k ≤ fs.length) : (upF fs k).length = fs.length := by simp [upF]; omega
theorem upF_all (fs : List Pl.Fl) (k : Nat) (h : fs.length ≤ k) : upF fs k = fs := by
  simp [upF, List.take_of_length_le h, Nat.sub_eq_zero_of_le h]
theorem upF_step (fs : List Pl.Fl) (k : Nat) (h : k < fs.length) : (upF fs k).set k (Pl.at' fs k) = upF fs (k + 1) := by
  unfold upF
  rw [Pl.take_snoc fs k h, List.set_append_right k (Pl.at' fs k) (by simp; omega)]
  have e : fs.length - k = (fs.length - (k + 1)) + 1 := by omega
  have e2 : k - (fs.take k).length = 0 := by simp; omega
  rw [e2, e, List.replicate_succ]
  simp

theorem bcell {W w1 : World} (hb : Below W.heap.size W w1) : (∀ b o, b < W.heap.size → w1.cell? ⟨b, o, none⟩ = W.cell? ⟨b, o, none⟩) ∧ (∀ b o, b < W.heap.size → w1.frozen? ⟨b, o, none⟩ = W.frozen? ⟨b, o, none⟩) :=
  ⟨fun b o h => hb.cell (p := ⟨b, o, none⟩) h, fun b o h => hb.frozen (p := ⟨b, o, none⟩) h⟩

theorem grown_of_below {w w' : World} (hb : Below w.heap.size w w') : w.grownBy w' none := ⟨hb.os, hb.tape, hb.output, hb.size, fun k hk _ => hb.block k hk⟩

theorem owns_keep {w w' : World} {base : Nat} {e : TypeId} {size : Nat} {v : Value} {n : Nat} {xs : List Value} (h : w.ownsRow base e size v n xs) (hb : Below w.heap.size w w') : w'.ownsRow base e size v n xs :=
  h.kept (grown_of_below hb) (by cases v.ownBlock <;> simp)

theorem owns_base {w : World} {base base' : Nat} {e : TypeId} {size : Nat} {v : Value} {n : Nat} {xs : List Value} (h : w.ownsRow base e size v n xs) (hb : base' ≤ base) : w.ownsRow base' e size v n xs := by
  obtain ⟨h1, h2⟩ := h
  refine ⟨h1, ?_⟩
  rcases h2 with h2 | ⟨g, cap, cur, hv, hg, r⟩
  · exact .inl h2
  · exact .inr ⟨g, cap, cur, hv, Nat.le_trans hb hg, r⟩

theorem below3 (w : World) (o1 o2 o3 : Obj) : Below w.heap.size w (((w.alloc o1).alloc o2).alloc o3) :=
  (((Below.refl _ _).alloc (Nat.le_refl _) _).alloc (by simp) _).alloc (by simp; omega) _

/-- laws.toFile -/
theorem toFile_any (a b : ByteArray) (w : World) :
    Calls Tryz.prog 32 #[.agg #[.string a, .string b]] w fun e w' => e = .returned (.agg #[.string a, .string b]) ∧ Below w.heap.size w w' := by
  have HB := hideP (below3 w)
  go_enter Tryz.func32, Tryz.ntmps32
  go_wp2
  refine bodyPost_ret (v := .agg #[.string a, .string b]) (by simp [results, Tryz.results32, go_sem]) rfl ⟨rfl, ?_⟩
  repeat (refine Below.setCell ?_ (by simp) _)
  exact HB.out _ _ _

end Go.Proofs.YtfangdhbadmolaaGreatDoor
