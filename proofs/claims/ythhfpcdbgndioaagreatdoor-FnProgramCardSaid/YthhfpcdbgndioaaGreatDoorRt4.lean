import Derived.Test.YthhfpcdbgndioaaGreatDoorCod
namespace Go.Proofs.YthhfpcdbgndioaaGreatDoor
open Go.RowKit
set_option linter.unusedVariables false
set_option maxRecDepth 100000
namespace Pl
/-- a token as the lexer makes it -/
def tOk (t : Tok) : Prop := kOk t.k ∧ (isSep (tkT t) = true ↔ t.k = 59)
end Pl
namespace Pl
def gv (g : E × E) : Gv := ⟨g.1.code, g.2.code⟩
end Pl
section
variable {w : World} {p : Nat} {wr wr' : World} {kd : Int} {nm : ByteArray} {ac : Option Addr} {nc cc : Nat} {ag : Option Addr} {ng cg : Nat} {ok fi : Bool}
end
namespace Pl
theorem tx_col : ∀ t, sgTx t = [58] ↔ t = .col := by intro t; cases t <;> simp [sgTx]
theorem tx_rb : ∀ t, sgTx t = [125] ↔ t = .rb := by intro t; cases t <;> simp [sgTx]
theorem tx_lb : ∀ t, sgTx t = [123] ↔ t = .lb := by intro t; cases t <;> simp [sgTx]
theorem tx_asg : ∀ t, sgTx t = [58, 61] ↔ t = .asg := by intro t; cases t <;> simp [sgTx]
/-- a sign that is next -/
theorem sgn_at {l : List Itk} (hl : ∀ t ∈ l, iOk t) (a : Nat) {c : List UInt8} (hc : c ∈ ten) {T0 : T} (h : ∀ t, sgTx t = c ↔ t = T0) : (tkAt l a).tx = ba c ↔ ∃ r, rI l a = T0 :: r := by
  have hs := sign_T hl a hc
  cases hr : rI l a with
  | nil =>
    rw [hr] at hs
    simpa using hs
  | cons t r =>
    rw [hr] at hs
    have e : (tkAt l a).tx = ba c ↔ sgTx t = c := by simpa using hs
    rw [e, h t]
    simp
theorem rI_next {l : List Itk} {a : Nat} {t : T} {r : List T} (h : rI l a = t :: r) : a < l.length ∧ rI l (a + 1) = r := by
  have ha : a < l.length := by
    have := rI_len l a
    rw [h] at this
    simp at this
    omega
  rw [rI_cons ha] at h
  exact ⟨ha, (List.cons.inj h).2⟩
section
variable {N k : Nat} {ts r r2 : List T} {x y : E}
theorem pb_none (h : pexpr N ts = none) : pbody N (k + 1) ts = none := by rw [pbody, h]
theorem pb_end (h : pexpr N ts = some (x, r)) (hc : ∀ r', r ≠ .col :: r') : pbody N (k + 1) ts = match seps r with | .rb :: r2 => some ([], x, r2) | _ => none := by
  rw [pbody, h]
  split
  · rename_i h1; cases h1
  · rename_i h1; cases h1; exact absurd rfl (hc _)
  · rename_i h1; cases h1; rfl
theorem pb_col_none (h : pexpr N ts = some (x, .col :: r)) (h2 : pexpr N r = none) : pbody N (k + 1) ts = none := by
  rw [pbody, h]
  simp only
  rw [h2]
theorem pb_col_no (h : pexpr N ts = some (x, .col :: r)) (h2 : pexpr N r = some (y, r2)) (hc : ∀ r', r2 ≠ .sep :: r') : pbody N (k + 1) ts = none := by
  rw [pbody, h]
  simp only
  rw [h2]
  split
  · rename_i h1; cases h1; exact absurd rfl (hc _)
  · rfl
theorem pb_col (h : pexpr N ts = some (x, .col :: r)) (h2 : pexpr N r = some (y, .sep :: r2)) : pbody N (k + 1) ts = (pbody N k (seps r2)).map (fun q => ((x, y) :: q.1, q.2)) := by
  rw [pbody, h]
  simp only
  rw [h2]
  simp only
  cases pbody N k (seps r2) with
  | none => rfl
  | some q => rfl
end
/-- what is before -/
def pbA (gs : List (E × E)) (X : Option (List (E × E) × E × List T)) : Option (List (E × E) × E × List T) := X.map fun q => (gs ++ q.1, q.2)
theorem pbA_nil (X : Option (List (E × E) × E × List T)) : pbA [] X = X := by cases X <;> rfl
theorem pbA_cons (gs : List (E × E)) (g : E × E) (X : Option (List (E × E) × E × List T)) : pbA gs (X.map fun q => (g :: q.1, q.2)) = pbA (gs ++ [g]) X := by cases X <;> simp [pbA]
theorem gsB_app (gs : List (E × E)) (g : E × E) : gsB (gs ++ [g]) = (gsB gs || (g.1.bey 0 || g.2.bey 0)) := by simp [gsB]
section
variable {n k : Nat} {ts r : List T}
/-- statements -/
theorem ps_val (h : ∀ t r, ts ≠ t :: .asg :: r) : pstmt n k ts = (pexpr n ts).map fun q => (.val q.1, q.2) := by
  unfold pstmt
  split
  · exact absurd rfl (h _ _)
  · exact absurd rfl (h _ _)
  · exact absurd rfl (h _ _)
  · cases pexpr n ts <;> rfl
theorem ps_asg (nm : List UInt8) : pstmt n k (.arr nm :: .asg :: r) = (pexpr n r).map fun q => (.asg nm q.1, q.2) := by
  unfold pstmt
  simp only
  cases pexpr n r <;> rfl
theorem ps_fn {nm : List UInt8} (h : nm ≠ selfW) : pstmt n k (.fn nm :: .asg :: .lb :: r) = (pbody n k (seps r)).map fun q => (.fn nm q.1 q.2.1, q.2.2) := by
  unfold pstmt
  simp only
  rw [if_neg h]
  cases pbody n k (seps r) <;> rfl
theorem ps_self : pstmt n k (.fn selfW :: .asg :: r) = none := by
  unfold pstmt
  split
  · rename_i h; cases h
  · rename_i h; cases h; simp
  · rfl
  · rename_i h1 h2 h3; exact absurd rfl (h3 _ _)
theorem ps_fn_no {nm : List UInt8} (h : ∀ r', r ≠ .lb :: r') : pstmt n k (.fn nm :: .asg :: r) = none := by
  unfold pstmt
  split
  · rename_i h; cases h
  · rename_i h1; cases h1; exact absurd rfl (h _)
  · rfl
  · rename_i h1 h2 h3; exact absurd rfl (h3 _ _)
theorem ps_no {t : T} (h1 : ∀ nm, t ≠ .arr nm) (h2 : ∀ nm, t ≠ .fn nm) : pstmt n k (t :: .asg :: r) = none := by
  unfold pstmt
  split
  · rename_i h; cases h; exact absurd rfl (h1 _)
  · rename_i h; cases h; exact absurd rfl (h2 _)
  · rfl
  · rename_i h3 h4 h5; exact absurd rfl (h5 _ _)
/-- programs -/
theorem pp_nil : pprog n k [] = some [] := by cases k <;> rfl
theorem pp_none {t : T} (h : pstmt n n (t :: ts) = none) : pprog n (k + 1) (t :: ts) = none := by
  rw [pprog, h]
  simp
theorem pp_last {t : T} {s : S} (h : pstmt n n (t :: ts) = some (s, [])) : pprog n (k + 1) (t :: ts) = some [s] := by
  rw [pprog, h]
  simp
theorem pp_sep {t : T} {s : S} (h : pstmt n n (t :: ts) = some (s, .sep :: r)) : pprog n (k + 1) (t :: ts) = (pprog n k (seps r)).map (s :: ·) := by
  rw [pprog, h]
  · simp only
    cases pprog n k (seps r) <;> rfl
  · simp
theorem pp_no {t u : T} {s : S} (hu : u ≠ .sep) (h : pstmt n n (t :: ts) = some (s, u :: r)) : pprog n (k + 1) (t :: ts) = none := by
  rw [pprog, h]
  · cases u <;> first | rfl | exact absurd rfl hu
  · simp
end
end Pl
/-- the box of a statement, inside a method of the parser -/
structure Bs (w X : World) (l : List Pl.Itk) (p cap : Nat) (ao : Option Addr) (mb mo cp a : Nat) (be : Bool) : Prop where
  e : Ej X l p ao mb mo cp
  ps : Ps X p ao l.length cap a 0 be
  g : w.grownBy X (some p)
  pw : p < w.heap.size
  lt : w.heap.size < X.heap.size
  z0 : X.cell? ⟨w.heap.size, 0, none⟩ = some (.int .i64 0)
  z1 : X.cell? ⟨w.heap.size, 1, none⟩ = some (.string ⟨#[]⟩)
  z2 : X.cell? ⟨w.heap.size, 2, none⟩ = some (.slice none 0 0)
  z3 : X.cell? ⟨w.heap.size, 3, none⟩ = some (.slice none 0 0)
  zf : ∀ j, X.frozen? ⟨w.heap.size, j, none⟩ = false
section
variable {w X X' : World} {l : List Pl.Itk} {p cap : Nat} {ao : Option Addr} {mb mo cp a a' : Nat} {be be' : Bool}
theorem Bs.step (h : Bs w X l p cap ao mb mo cp a be) (hg : X.grownBy X' (some p)) (hP : Ps X' p ao l.length cap a' 0 be') : Bs w X' l p cap ao mb mo cp a' be' := by
  have e := hg.block w.heap.size h.lt (fun e => by cases e; have := h.pw; omega)
  have g (j : Nat) : X'.cell? ⟨w.heap.size, j, none⟩ = X.cell? ⟨w.heap.size, j, none⟩ := World.cell?_of_block e
  exact ⟨h.e.grown (Nat.le_of_lt h.ps.lt) hg, hP, h.g.trans hg, h.pw, Nat.lt_of_lt_of_le h.lt hg.size, (g 0).trans h.z0, (g 1).trans h.z1, (g 2).trans h.z2, (g 3).trans h.z3, fun j => (World.frozen?_of_block (a := ⟨w.heap.size, j, none⟩) e).trans (h.zf j)⟩
theorem Bs.keep (h : Bs w X l p cap ao mb mo cp a be) (hb : Below X.heap.size X X') : Bs w X' l p cap ao mb mo cp a be := h.step (grown_none hb _) (h.ps.keep hb)
theorem Bs.new (hE : Ej w l p ao mb mo cp) (hP : Ps w p ao l.length cap a 0 be) : Bs w (w.alloc (.cells #[.int .i64 0, .string ⟨#[]⟩, .slice none 0 0, .slice none 0 0] 44)) l p cap ao mb mo cp a be := by
  have hb : Below w.heap.size w (w.alloc (.cells #[.int .i64 0, .string ⟨#[]⟩, .slice none 0 0, .slice none 0 0] 44)) := (Below.refl _ _).alloc (Nat.le_refl _) _
  exact ⟨hE.low (hb.mono (Nat.le_of_lt hP.lt)), hP.keep hb, grown_none hb _, hP.lt, by simp, by simp [go_sem], by simp [go_sem], by simp [go_sem], by simp [go_sem], fun j => by simp [go_sem]⟩
/-- the answer is laid into the box -/
theorem Bs.end_ (h : Bs w X l p cap ao mb mo cp a be) (v0 v1 v2 v3 : Value) : Ps (X.setCells w.heap.size 0 [v0, v1, v2, v3]) p ao l.length cap a 0 be ∧ w.grownBy (X.setCells w.heap.size 0 [v0, v1, v2, v3]) (some p) := by
  have hn : ¬ p = w.heap.size := by have := h.pw; omega
  exact ⟨h.ps.far hn 0 _, grown_then h.g (setCells_below (B := w.heap.size) _ (Nat.le_refl _) _ 0 _ (Below.refl _ _)) (Nat.le_refl _)⟩
theorem Bs.end_x (h : Bs w X l p cap ao mb mo cp a be) (ha : a ≤ 1048590) (v0 v1 v2 v3 : Value) : IxP l p cap ao 0 be w a (X.setCells w.heap.size 0 [v0, v1, v2, v3]) := ⟨(h.end_ v0 v1 v2 v3).1, (h.end_ v0 v1 v2 v3).2, ha⟩
end
/-- a statement's value -/
def StV (k : Int) (nm : ByteArray) (c g : Value) : Value := .agg #[.int .i64 k, .string nm, c, g]
def IsS (v : Value) : Prop := ∃ ao n cap, v = .slice ao n cap
/-- what body gives -/
def PoB (l : List Pl.Itk) (p cap a : Nat) (ao : Option Addr) (be : Bool) (nm : ByteArray) (w : World) (X : Option (List (Pl.E × Pl.E) × Pl.E × List Pl.T)) (e : Ending) (w' : World) : Prop := match X with
  | none => ∃ k nm' c g a' be', e = .returned (.tuple #[StV k nm' c g, .bool false]) ∧ IsS c ∧ IsS g ∧ IxP l p cap ao 0 be' w a' w'
  | some (gs, x, r) => ∃ c g F1 F2 a', e = .returned (.tuple #[StV 3 nm c g, .bool true]) ∧ OwS w' c x.code F1 ∧ OwG w' g (gs.map Pl.gv) F2 ∧ Inb w.heap.size w' F1 ∧ Inb w.heap.size w' F2 ∧ (∀ x ∈ F1, x ∉ F2) ∧ IxP l p cap ao 0 (be || Pl.gsB gs || x.bey 0) w a' w' ∧ a' ≤ l.length ∧ a < a' ∧ Pl.rI l a' = r
/-- what stmt gives -/
def PoS (l : List Pl.Itk) (p cap a : Nat) (ao : Option Addr) (be : Bool) (w : World) (X : Option (Pl.S × List Pl.T)) (e : Ending) (w' : World) : Prop := match X with
  | none => ∃ k nm' c g a' be', e = .returned (.tuple #[StV k nm' c g, .bool false]) ∧ IsS c ∧ IsS g ∧ IxP l p cap ao 0 be' w a' w'
  | some (s, r) => ∃ c g F1 F2 a', e = .returned (.tuple #[StV s.tv.k (Pl.ba s.tv.nm) c g, .bool true]) ∧ OwS w' c s.tv.code F1 ∧ OwG w' g s.tv.gs F2 ∧ Inb w.heap.size w' F1 ∧ Inb w.heap.size w' F2 ∧ (∀ x ∈ F1, x ∉ F2) ∧ IxP l p cap ao 0 (be || s.bey) w a' w' ∧ a' ≤ l.length ∧ a < a' ∧ Pl.rI l a' = r
namespace Pl
theorem hasB_mem {L : List ByteArray} {s : ByteArray} {k : Nat} (h : hasB L s k = true) : s ∈ L := by
  unfold hasB at h
  obtain ⟨x, hx, e⟩ := List.any_eq_true.1 h
  rw [decide_eq_true_eq] at e
  subst e
  exact List.mem_of_mem_take hx
theorem words_op : ∀ x ∈ words, x = ⟨#[115, 101, 108, 102]⟩ ∨ isSep (sgT x.data.toList) = false := by decide
theorem signs_op : ∀ x ∈ sg18, isSep (sgT x.data.toList) = false := by decide
theorem tok_ok (s : ByteArray) (i : Nat) (h : ¬ (tokAt s i).k = 120) : tOk (tokAt s i) := by
  unfold tokAt at h ⊢
  split
  · rename_i h1
    rw [if_pos h1] at h
    simp only at h
    by_cases hn : (numS (st1 s i)).2 = true
    · simp only [if_pos hn]
      exact ⟨.inl rfl, by unfold tkT; simp [isSep]⟩
    · rw [if_neg hn] at h; exact absurd rfl h
  · rename_i h1
    rw [if_neg h1] at h
    split
    · rename_i h2
      rw [if_pos h2] at h
      simp only at h
      unfold wkS at h ⊢
      by_cases a1 : 20 < (st0 s i).size
      · rw [if_pos a1] at h; exact absurd rfl h
      · rw [if_neg a1] at h ⊢
        by_cases a2 : st0 s i = ⟨#[115, 101, 108, 102]⟩ ∨ (65 ≤ bt (st0 s i) 0 ∧ bt (st0 s i) 0 ≤ 90)
        · rw [if_pos a2]
          exact ⟨.inr (.inr (.inl rfl)), by unfold tkT; simp [isSep]⟩
        · rw [if_neg a2]
          by_cases a3 : hasB words (st0 s i) 17 = true
          · rw [if_pos a3]
            have hm := hasB_mem a3
            refine ⟨.inr (.inr (.inr (.inr rfl))), ?_⟩
            have := (words_op _ hm).resolve_left (fun e => a2 (.inl e))
            unfold tkT
            simp only
            rw [if_neg (by decide), if_neg (by decide), if_neg (by decide), if_neg (by decide), this]
            simp
          · rw [if_neg a3]
            exact ⟨.inr (.inl rfl), by unfold tkT; simp [isSep]⟩
    · rename_i h2
      rw [if_neg h2] at h
      split
      · exact ⟨.inr (.inr (.inr (.inl rfl))), by unfold tkT; simp [isSep]⟩
      · rename_i h3
        rw [if_neg h3] at h
        split
        · refine ⟨.inr (.inr (.inr (.inr rfl))), ?_⟩
          unfold tkT
          simp only
          rw [if_neg (by decide), if_neg (by decide), if_neg (by decide), if_neg (by decide)]
          decide
        · rename_i h4
          rw [if_neg h4] at h
          simp only at h
          by_cases a3 : hasB sg18 (s.extract i (i + 1)) 18 = true
          · simp only [if_pos a3]
            have := signs_op _ (hasB_mem a3)
            refine ⟨.inr (.inr (.inr (.inr rfl))), ?_⟩
            unfold tkT
            simp only
            rw [if_neg (by decide), if_neg (by decide), if_neg (by decide), if_neg (by decide), this]
            simp
          · rw [if_neg a3] at h; exact absurd rfl h
theorem lex_mem (s : ByteArray) : ∀ (n i : Nat) (t : Tok), t ∈ lexS s n i → ∃ j, t = tokAt s j
  | 0, i, t, h => by simp [lexS] at h
  | n + 1, i, t, h => by
    rw [lexS] at h
    split at h
    · simp at h
    · split at h
      · exact lex_mem s n _ t h
      · split at h
        · exact lex_mem s n _ t h
        · rcases List.mem_cons.1 h with rfl | h
          · exact ⟨i, rfl⟩
          · exact lex_mem s n _ t h
/-- the place of the first bad token -/
def fb : List Tok → Option Nat
  | [] => none
  | t :: l => if t.k = 120 then some t.pos else fb l
theorem fb_none : ∀ (l : List Tok), fb l = none → ∀ t ∈ l, ¬ t.k = 120
  | [], _, t, ht => by simp at ht
  | x :: l, h, t, ht => by
    rw [fb] at h
    split at h
    · cases h
    · rename_i hx
      rcases List.mem_cons.1 ht with rfl | ht
      · exact hx
      · exact fb_none l h t ht
theorem lx_ok {s : ByteArray} (h : fb (lxT s 0) = none) : ∀ t ∈ lxT s 0, tOk t := fun t ht => by
  obtain ⟨j, rfl⟩ := lex_mem s _ _ t ht
  exact tok_ok s j (fb_none _ h _ ht)
/-- spec.Parse -/
def prsS (s : ByteArray) : List Tv × Int × Int :=
  if 4000 < s.size then ([], 1, 0)
  else match fb (lxT s 0) with
    | some p => ([], 2, p)
    | none => match rall (2 * (lxT s 0).length + 1) (rsp 0 [] ((lxT s 0).map tkT)) with
      | none => ([], 3, 0)
      | some ss => if ss.all S.fine = true then (ss.map S.tv, 0, 0) else ([], 4, 0)
end Pl
namespace Pl
/-- a token of spec's as impl has it -/
def iTk (t : Tok) : Itk := if t.k = 110 then ⟨1, ⟨#[]⟩, t.v⟩ else if t.k = 119 then ⟨2, t.tx, 0⟩ else if t.k = 70 then ⟨3, t.tx, 0⟩ else if t.k = 59 then ⟨4, ⟨#[59]⟩, 0⟩ else ⟨4, t.tx, 0⟩
def sgL : List Int := [43, 45, 42, 37, 124, 60, 61, 62, 126, 40, 41, 123, 125, 58, 59, 47, 92, 64, 46]
/-- impl.tokenOf -/
def tkI (x : ByteArray) : Itk × Bool :=
  if bt x 0 = 95 ∨ digI (bt x 0) = true then (⟨1, ⟨#[]⟩, (numS x).1⟩, (numS x).2)
  else if lttI (bt x 0) = true then (⟨wk x.data.toList, x, 0⟩, decide (¬ wk x.data.toList = 0))
  else if bt x 0 = 10 then (⟨4, ⟨#[59]⟩, 0⟩, true)
  else (⟨4, x, 0⟩, decide (bt x 0 ∈ sgL))
/-- impl.tokenEnd -/
def endI (s : ByteArray) (i : Nat) : Nat :=
  if bt s i = 95 ∨ ldI (bt s i) = true then stre s (s.size - (i + 1)) (i + 1)
  else if bt s i = 58 ∧ i + 1 < s.size ∧ bt s (i + 1) = 61 then i + 2 else i + 1
theorem bt_ext {s : ByteArray} {i e k : Nat} (h : i + k < e) (he : e ≤ s.size) : bt (s.extract i e) k = bt s (i + k) := by
  unfold bt
  have hd : (s.extract i e).data = s.data.extract i e := ByteArray.data_extract
  have hs : s.data.size = s.size := rfl
  have h1 : k < (s.data.extract i e).size := by rw [Array.size_extract]; omega
  have h2 : i + k < s.data.size := by omega
  rw [hd, getElem!_pos (s.data.extract i e) k h1, getElem!_pos s.data (i + k) h2, Array.getElem_extract]
theorem stre_in (s : ByteArray) : ∀ n k j, k ≤ j → j < stre s n k → ldI (bt s j) = true
  | 0, k, j, h1, h2 => by simp only [stre] at h2; omega
  | n + 1, k, j, h1, h2 => by
    rw [stre] at h2
    split at h2
    · rename_i hx
      by_cases e : j = k
      · rw [e]; exact hx
      · exact stre_in s n (k + 1) j (by omega) h2
    · omega
theorem stre_all (s : ByteArray) : ∀ n k, (∀ j, k ≤ j → j < k + n → ldI (bt s j) = true) → stre s n k = k + n
  | 0, k, _ => rfl
  | n + 1, k, h => by
    rw [stre, if_pos (h k (Nat.le_refl _) (by omega)), stre_all s n (k + 1) (fun j h1 h2 => h j (by omega) (by omega))]
    omega
/-- a stretch is a stretch -/
theorem st1_stre (s : ByteArray) (i : Nat) (hi : i < s.size) : stre (st1 s i) ((st1 s i).size - 1) 1 = (st1 s i).size := by
  have hz := st1_size s i hi
  rw [stre_all]
  · omega
  · intro j h1 h2
    have e : st1 s i = s.extract i (stre s (s.size - (i + 1)) (i + 1)) := rfl
    rw [e, bt_ext (s := s) (i := i) (e := stre s (s.size - (i + 1)) (i + 1)) (k := j) (by omega) (by omega)]
    exact stre_in s (s.size - (i + 1)) (i + 1) (i + j) (by omega) (by omega)
theorem st0_st1 {s : ByteArray} {i : Nat} (hi : i < s.size) (h : lttI (bt s i) = true) : st0 s i = st1 s i := by
  unfold st0 st1
  rw [stre_yes hi (by simp [ldI, h])]
theorem wk_wkS {x : ByteArray} (h0 : x.size ≠ 0) (hl : lttI (bt x 0) = true) (ha : stre x (x.size - 1) 1 = x.size) : wk x.data.toList = if wkS x = 120 then 0 else if wkS x = 70 then 3 else if wkS x = 115 then 4 else 2 := by
  have hne : x.data.toList ≠ [] := fun e => h0 (by rw [sz_eq, e]; rfl)
  have hL : isL (x.data.toList.headD 0) = true := by rw [← ltt_eq, ← bt_zero x hne]; exact hl
  have hlf : ¬ lttI (bt x 0) = false := by rw [hl]; decide
  have hst : ¬ stre x (x.size - 1) 1 < x.size := by omega
  have hiff : (x = ⟨#[115, 101, 108, 102]⟩ ∨ (65 ≤ bt x 0 ∧ bt x 0 ≤ 90)) ↔ (x.data.toList = selfW ∨ isC (x.data.toList.headD 0) = true) := by rw [self_iff, bt_zero x hne, cap_eq]
  rw [wk_I x h0, wkS_eq x hne hL, ← sz_eq, if_neg hlf, if_neg hst]
  by_cases h20 : 20 < x.size
  · rw [if_pos h20, if_pos h20]; rfl
  · rw [if_neg h20, if_neg h20]
    by_cases hs : x.data.toList = selfW ∨ isC (x.data.toList.headD 0) = true
    · rw [if_pos (hiff.2 hs), if_pos hs]; rfl
    · rw [if_neg (fun h => hs (hiff.1 h)), if_neg hs]
      by_cases hm : mgs.any (fun m => decide (m.t = x.data.toList)) = true
      · rw [if_pos hm, if_pos hm]; rfl
      · rw [if_neg hm, if_neg hm]; rfl
theorem rowOf_nil {l : List UInt8} (h : mgs.any (fun m => decide (m.t = l)) = false) : rowOf l = none := by
  have := rowOf_any l
  rw [h] at this
  simpa using this
theorem mgs_cap : ∀ m ∈ mgs, ¬ (m.t = selfW ∨ isC (m.t.headD 0) = true) := by decide
theorem ten_let : ∀ x ∈ ten, isL (x.headD 0) = false := by decide
theorem word_nm {x : ByteArray} (h0 : x.size ≠ 0) (hl : lttI (bt x 0) = true) (hk : wkS x = 119 ∨ wkS x = 70) : nmT x.data.toList := by
  have hne : x.data.toList ≠ [] := fun e => h0 (by rw [sz_eq, e]; rfl)
  have hL : isL (x.data.toList.headD 0) = true := by rw [← ltt_eq, ← bt_zero x hne]; exact hl
  rw [wkS_eq x hne hL] at hk
  refine ⟨rowOf_nil ?_, fun hm => ?_, fun e => ?_⟩
  · rw [Bool.eq_false_iff]
    intro hm
    obtain ⟨m, hm1, hm2⟩ := List.any_eq_true.1 hm
    have hm2 := of_decide_eq_true hm2
    have := mgs_cap m hm1
    rw [hm2] at this
    rw [if_neg this, if_pos hm] at hk
    split at hk <;> rcases hk with h | h <;> cases h
  · have := ten_let _ hm
    rw [hL] at this
    cases this
  · rw [e] at hL
    revert hL
    decide
theorem sg18_ten : ∀ x ∈ sg18, x.data.toList ∈ ten ∨ (rowOf x.data.toList).isSome = true := by decide
theorem iTk_T {t : Tok} (h : kOk t.k) : itT (iTk t) = tkT t := by
  obtain ⟨k, tx, v, pos⟩ := t
  simp only at h
  rcases h with rfl | rfl | rfl | rfl | rfl
  · rfl
  · rfl
  · rfl
  · rfl
  · rfl
theorem iTk_ok {s : ByteArray} {i : Nat} (hi : i < s.size) (h : ¬ (tokAt s i).k = 120) : iOk (iTk (tokAt s i)) := by
  unfold tokAt at h ⊢
  split
  · rename_i h1
    rw [if_pos h1] at h
    simp only at h
    have hn : (numS (st1 s i)).2 = true := by
      by_cases hn : (numS (st1 s i)).2 = true
      · exact hn
      · rw [if_neg hn] at h; exact absurd rfl h
    rw [if_pos hn]
    exact .inl ⟨rfl, rfl⟩
  · rename_i h1
    rw [if_neg h1] at h
    split
    · rename_i h2
      rw [if_pos h2] at h
      simp only at h
      have hz := st1_size s i hi
      rw [st0_st1 hi h2] at h ⊢
      have hl : lttI (bt (st1 s i) 0) = true := by
        have e : st1 s i = s.extract i (stre s (s.size - (i + 1)) (i + 1)) := rfl
        rw [e, bt_ext (s := s) (i := i) (e := stre s (s.size - (i + 1)) (i + 1)) (k := 0) (by omega) (by omega)]
        exact h2
      have h0 : (st1 s i).size ≠ 0 := by omega
      have hw : ∀ k, wkS (st1 s i) = k → k = 120 ∨ k = 70 ∨ k = 115 ∨ k = 119 := by
        intro k e
        unfold wkS at e
        subst e
        split
        · exact .inl rfl
        · split
          · exact .inr (.inl rfl)
          · split
            · exact .inr (.inr (.inl rfl))
            · exact .inr (.inr (.inr rfl))
      rcases hw _ rfl with e | e | e | e
      · exact absurd e h
      · have hm := word_nm h0 hl (.inr e)
        rw [e]
        exact .inr (.inr (.inl ⟨rfl, hm⟩))
      · have hne : (st1 s i).data.toList ≠ [] := fun e => h0 (by rw [sz_eq, e]; rfl)
        have hL : isL ((st1 s i).data.toList.headD 0) = true := by rw [← ltt_eq, ← bt_zero _ hne]; exact hl
        have hk := wkS_eq _ hne hL
        rw [e] at hk ⊢
        refine .inr (.inr (.inr ⟨rfl, .inr (.inl ?_)⟩))
        show (rowOf (st1 s i).data.toList).isSome = true
        rw [rowOf_any]
        by_cases ha : mgs.any (fun m => decide (m.t = (st1 s i).data.toList)) = true
        · exact ha
        · rw [if_neg ha] at hk
          split at hk
          · cases hk
          · split at hk <;> cases hk
      · have hm := word_nm h0 hl (.inl e)
        rw [e]
        exact .inr (.inl ⟨rfl, hm⟩)
    · rename_i h2
      rw [if_neg h2] at h
      split
      · exact .inr (.inr (.inr ⟨rfl, .inr (.inr rfl)⟩))
      · rename_i h3
        rw [if_neg h3] at h
        split
        · exact .inr (.inr (.inr ⟨rfl, .inl (show [58, 61] ∈ ten by decide)⟩))
        · rename_i h4
          rw [if_neg h4] at h
          simp only at h
          by_cases a3 : hasB sg18 (s.extract i (i + 1)) 18 = true
          · simp only [if_pos a3]
            rcases sg18_ten _ (hasB_mem a3) with e | e
            · exact .inr (.inr (.inr ⟨rfl, .inl e⟩))
            · exact .inr (.inr (.inr ⟨rfl, .inr (.inl e)⟩))
          · rw [if_neg a3] at h; exact absurd rfl h
theorem ext_one {s : ByteArray} {i : Nat} (hi : i < s.size) : s.extract i (i + 1) = ⟨#[s.data[i]!]⟩ := by
  have h1 : (s.extract i (i + 1)).data = s.data.extract i (i + 1) := ByteArray.data_extract
  have h2 : s.data.extract i (i + 1) = #[s.data[i]!] := by
    have hs : i < s.data.size := hi
    apply Array.ext
    · simp; omega
    · intro j hj hj2
      have : j = 0 := by simpa using hj2
      subst this
      simp
      exact (getElem!_pos s.data i hs).symm
  rw [← h2, ← h1]
theorem sg_all : ∀ n : Fin 256, hasB sg18 ⟨#[UInt8.ofNat n.1]⟩ 18 = decide ((n.1 : Int) ∈ sgL ∧ (n.1 : Int) ≠ 59) := by decide
theorem sg_at {s : ByteArray} {i : Nat} (hi : i < s.size) : hasB sg18 (s.extract i (i + 1)) 18 = decide (bt s i ∈ sgL ∧ bt s i ≠ 59) := by
  rw [ext_one hi]
  have hl := UInt8.toNat_lt (s.data[i]!)
  have := sg_all ⟨(s.data[i]!).toNat, hl⟩
  simp only [UInt8.ofNat_toNat] at this
  exact this
theorem two_at {s : ByteArray} {i : Nat} (h1 : bt s i = 58) (hi : i + 1 < s.size) (h2 : bt s (i + 1) = 61) : s.extract i (i + 2) = ⟨#[58, 61]⟩ := by
  have e1 : (s.extract i (i + 2)).data = s.data.extract i (i + 2) := ByteArray.data_extract
  have e2 : s.data.extract i (i + 2) = #[58, 61] := by
    have hs : i + 1 < s.data.size := hi
    have b1 : s.data[i]'(by omega) = 58 := by
      have : (s.data[i]!).toNat = 58 := by unfold bt at h1; omega
      rw [getElem!_pos s.data i (by omega)] at this
      exact UInt8.toNat_inj.1 this
    have b2 : s.data[i + 1]'hs = 61 := by
      have : (s.data[i + 1]!).toNat = 61 := by unfold bt at h2; omega
      rw [getElem!_pos s.data (i + 1) hs] at this
      exact UInt8.toNat_inj.1 this
    apply Array.ext
    · simp; omega
    · intro j hj hj2
      have : j = 0 ∨ j = 1 := by simp at hj2; omega
      rcases this with rfl | rfl
      · simpa using b1
      · simpa using b2
  rw [← e2, ← e1]
theorem endI_tok {s : ByteArray} {i : Nat} (hi : i < s.size) : endI s i = i + (tokAt s i).tx.size := by
  have hz := st1_size s i hi
  unfold endI tokAt
  by_cases h1 : bt s i = 95 ∨ digI (bt s i) = true
  · rw [if_pos h1, if_pos (by rcases h1 with h | h <;> simp [ldI, h])]
    simp only
    omega
  · rw [if_neg h1]
    by_cases h2 : lttI (bt s i) = true
    · rw [if_pos h2, if_pos (by simp [ldI, h2]), st0_st1 hi h2]
      simp only
      omega
    · have hx : ¬ (bt s i = 95 ∨ ldI (bt s i) = true) := by
        intro h
        rcases h with h | h
        · exact h1 (.inl h)
        · rcases (by simpa [ldI] using h) with h | h
          · exact h1 (.inr h)
          · exact h2 h
      rw [if_neg h2, if_neg hx]
      by_cases h3 : bt s i = 10 ∨ bt s i = 59
      · rw [if_pos h3, if_neg (by rintro ⟨e, _⟩; rcases h3 with h | h <;> rw [h] at e <;> cases e)]
        simp only
        rw [ext_size s i _ (by omega)]
        omega
      · rw [if_neg h3]
        by_cases h4 : bt s i = 58 ∧ i + 1 < s.size ∧ bt s (i + 1) = 61
        · rw [if_pos h4, if_pos h4]; rfl
        · rw [if_neg h4, if_neg h4]
          simp only
          rw [ext_size s i _ (by omega)]
          omega
theorem endI_le {s : ByteArray} {i : Nat} (hi : i < s.size) : i + 1 ≤ endI s i ∧ endI s i ≤ s.size := by
  have := tok_size s i hi
  rw [endI_tok hi]
  omega
/-- impl's token is spec's -/
theorem tkI_tok {s : ByteArray} {i : Nat} (hi : i < s.size) : (tkI (s.extract i (endI s i))).2 = decide (¬ (tokAt s i).k = 120) ∧ (¬ (tokAt s i).k = 120 → (tkI (s.extract i (endI s i))).1 = iTk (tokAt s i)) := by
  have hz := st1_size s i hi
  have he := endI_le hi
  have h0 : bt (s.extract i (endI s i)) 0 = bt s i := bt_ext (by omega) (by omega)
  unfold tkI
  rw [h0]
  unfold tokAt
  by_cases h1 : bt s i = 95 ∨ digI (bt s i) = true
  · have hx : s.extract i (endI s i) = st1 s i := by
      unfold endI st1
      rw [if_pos (by rcases h1 with h | h <;> simp [ldI, h])]
    rw [if_pos h1, if_pos h1, hx]
    simp only
    cases hn : (numS (st1 s i)).2
    · exact ⟨by simp, fun h => absurd (by simp) h⟩
    · exact ⟨by simp, fun _ => by simp [iTk]⟩
  · rw [if_neg h1, if_neg h1]
    by_cases h2 : lttI (bt s i) = true
    · have hx : s.extract i (endI s i) = st1 s i := by
        unfold endI st1
        rw [if_pos (by simp [ldI, h2])]
      have hl : lttI (bt (st1 s i) 0) = true := by rw [← hx, h0]; exact h2
      have hw := wk_wkS (by omega) hl (st1_stre s i hi)
      rw [if_pos h2, if_pos h2, hx, st0_st1 hi h2, hw]
      simp only
      have hk : wkS (st1 s i) = 120 ∨ wkS (st1 s i) = 70 ∨ wkS (st1 s i) = 115 ∨ wkS (st1 s i) = 119 := by
        unfold wkS
        split
        · exact .inl rfl
        · split
          · exact .inr (.inl rfl)
          · split
            · exact .inr (.inr (.inl rfl))
            · exact .inr (.inr (.inr rfl))
      rcases hk with e | e | e | e <;> rw [e] <;> simp [iTk]
    · rw [if_neg h2, if_neg h2]
      have hx : ¬ (bt s i = 95 ∨ ldI (bt s i) = true) := by
        intro h
        rcases h with h | h
        · exact h1 (.inl h)
        · rcases (by simpa [ldI] using h) with h | h
          · exact h1 (.inr h)
          · exact h2 h
      by_cases h3 : bt s i = 10
      · rw [if_pos h3, if_pos (.inl h3)]
        exact ⟨by simp, fun _ => by simp [iTk]⟩
      · rw [if_neg h3]
        by_cases h5 : bt s i = 59
        · have hq : endI s i = i + 1 := by unfold endI; rw [if_neg hx, if_neg (by rw [h5]; rintro ⟨e, _⟩; cases e)]
          have hy : s.extract i (i + 1) = ⟨#[59]⟩ := by
            rw [ext_one hi]
            have : s.data[i]! = 59 := UInt8.toNat_inj.1 (by unfold bt at h5; have h : (59 : UInt8).toNat = 59 := rfl; omega)
            rw [this]
          rw [if_pos (.inr h5), hq, hy, h5]
          exact ⟨show decide ((59 : Int) ∈ sgL) = decide (¬ (59 : Int) = 120) by decide, fun _ => by simp [iTk]⟩
        · rw [if_neg (by rintro (h | h); exact h3 h; exact h5 h)]
          by_cases h4 : bt s i = 58 ∧ i + 1 < s.size ∧ bt s (i + 1) = 61
          · have hq : endI s i = i + 2 := by unfold endI; rw [if_neg hx, if_pos h4]
            rw [if_pos h4, hq, two_at h4.1 h4.2.1 h4.2.2, h4.1]
            exact ⟨show decide ((58 : Int) ∈ sgL) = decide (¬ (115 : Int) = 120) by decide, fun _ => by simp [iTk]⟩
          · have hq : endI s i = i + 1 := by unfold endI; rw [if_neg hx, if_neg h4]
            rw [if_neg h4, hq, sg_at hi]
            have hb : decide (bt s i ∈ sgL) = decide (bt s i ∈ sgL ∧ bt s i ≠ 59) := by simp [h5]
            rw [hb]
            cases hd : decide (bt s i ∈ sgL ∧ bt s i ≠ 59)
            · exact ⟨by simp, fun h => absurd (by simp) h⟩
            · exact ⟨by simp, fun _ => by simp [iTk]⟩
end Pl
namespace Pl
theorem drop_cons {s : ByteArray} {i : Nat} {c : UInt8} {r : List UInt8} (h : s.data.toList.drop i = c :: r) : i < s.size ∧ bt s i = (c.toNat : Int) ∧ s.data.toList.drop (i + 1) = r := by
  have hl : i < s.data.toList.length := by
    have := congrArg List.length h
    simp at this
    simp
    omega
  rw [List.drop_eq_getElem_cons hl] at h
  obtain ⟨h1, h2⟩ := List.cons.inj h
  have hs : i < s.data.size := by simpa using hl
  refine ⟨hs, ?_, h2⟩
  unfold bt
  rw [getElem!_pos s.data i hs, ← h1]
  simp
theorem drop_nil {s : ByteArray} {i : Nat} (h : s.data.toList.drop i = []) : s.size ≤ i := by
  have := congrArg List.length h
  have hs : s.size = s.data.size := rfl
  simp at this
  omega
theorem drop_app {s : ByteArray} : ∀ (x : List UInt8) {i : Nat} {r : List UInt8}, s.data.toList.drop i = x ++ r → s.data.toList.drop (i + x.length) = r := by
  intro x i r h
  rw [← List.drop_drop, h, List.drop_left]
theorem ext_drop {s : ByteArray} {i : Nat} {x r : List UInt8} (h : s.data.toList.drop i = x ++ r) : s.extract i (i + x.length) = ba x := by
  rw [ba_iff]
  have hd : (s.extract i (i + x.length)).data = s.data.extract i (i + x.length) := ByteArray.data_extract
  rw [hd, Array.toList_extract, List.extract_eq_take_drop, Nat.add_sub_cancel_left, h, List.take_left]
  rfl
/-- what ends a word -/
def sepW : List UInt8 → Prop
  | [] => True
  | c :: _ => al c = false
theorem stre_drop {s : ByteArray} : ∀ (y : List UInt8) {k : Nat} {r : List UInt8}, s.data.toList.drop k = y ++ r → y.all al = true → sepW r → stre s (s.size - k) k = k + y.length
  | [], k, r, h, _, hr => by
    cases r with
    | nil => exact stre_end (drop_nil h)
    | cons c r =>
      obtain ⟨h1, h2, _⟩ := drop_cons h
      exact stre_no h1 (by rw [h2, ld_eq]; exact hr)
  | c :: y, k, r, h, hy, hr => by
    obtain ⟨h1, h2, h3⟩ := drop_cons (r := y ++ r) h
    rw [List.all_cons, Bool.and_eq_true] at hy
    rw [stre_yes h1 (by rw [h2, ld_eq]; exact hy.1), stre_drop y h3 hy.2 hr, List.length_cons]
    omega
/-- a word or a number -/
def okW : List UInt8 → Prop
  | [] => False
  | c :: y => (c = 95 ∨ al c = true) ∧ y.all al = true
def wTok (x : List UInt8) (i : Nat) : Tok :=
  if bt (ba x) 0 = 95 ∨ digI (bt (ba x) 0) = true then ⟨if (numS (ba x)).2 = true then 110 else 120, ba x, (numS (ba x)).1, i⟩ else ⟨wkS (ba x), ba x, 0, i⟩
theorem ba_drop (x : List UInt8) : (ba x).data.toList.drop 0 = x ++ [] := by rw [List.append_nil]; rfl
theorem st1_word {s : ByteArray} {i : Nat} {x r : List UInt8} (h : s.data.toList.drop i = x ++ r) (hx : okW x) (hr : sepW r) : st1 s i = ba x := by
  cases x with
  | nil => exact hx.elim
  | cons c y =>
    obtain ⟨h1, h2, h3⟩ := drop_cons (r := y ++ r) h
    unfold st1
    rw [stre_drop y h3 hx.2 hr, ← ext_drop h, List.length_cons]
    congr 1
    omega
theorem tok_word {s : ByteArray} {i : Nat} {x r : List UInt8} (h : s.data.toList.drop i = x ++ r) (hx : okW x) (hr : sepW r) : tokAt s i = wTok x i := by
  have e1 := st1_word h hx hr
  cases x with
  | nil => exact hx.elim
  | cons c y =>
    obtain ⟨h1, h2, _⟩ := drop_cons (r := y ++ r) h
    have h2' : bt (ba (c :: y)) 0 = (c.toNat : Int) := (drop_cons (s := ba (c :: y)) (i := 0) (r := y ++ []) (ba_drop _)).2.1
    unfold tokAt wTok
    rw [h2, h2', e1]
    by_cases hd : (c.toNat : Int) = 95 ∨ digI (c.toNat : Int) = true
    · rw [if_pos hd, if_pos hd]
    · rw [if_neg hd, if_neg hd]
      have hl : lttI (c.toNat : Int) = true := by
        rcases hx.1 with hc | hc
        · exact absurd (.inl (by rw [hc]; rfl)) hd
        · rw [← ld_eq] at hc
          rcases (by simpa [ldI] using hc) with h | h
          · exact absurd (.inr h) hd
          · exact h
      rw [if_pos hl, st0_st1 h1 (by rw [h2]; exact hl), e1]
/-- a sign of one byte, but for the colon -/
def sTok (c : UInt8) (i : Nat) : Tok := if c = 10 ∨ c = 59 then ⟨59, ba [c], 0, i⟩ else ⟨if hasB sg18 (ba [c]) 18 = true then 115 else 120, ba [c], 0, i⟩
theorem c95 (c : UInt8) : ((c.toNat : Int) = 95) ↔ c = 95 := by
  constructor
  · intro h
    exact UInt8.toNat_inj.1 (by have e : (95 : UInt8).toNat = 95 := rfl; omega)
  · rintro rfl; rfl
theorem cnat (c d : UInt8) (n : Nat) (hn : d.toNat = n) : ((c.toNat : Int) = n) ↔ c = d := by
  constructor
  · intro h
    exact UInt8.toNat_inj.1 (by omega)
  · rintro rfl; rw [hn]
theorem tok_sign {s : ByteArray} {i : Nat} {c : UInt8} {r : List UInt8} (h : s.data.toList.drop i = c :: r) (h1 : al c = false) (h2 : c ≠ 95) (h3 : c ≠ 58) : tokAt s i = sTok c i := by
  obtain ⟨hi, hb, _⟩ := drop_cons h
  have hx : s.extract i (i + 1) = ba [c] := ext_drop (x := [c]) (r := r) h
  have hld : ldI (c.toNat : Int) = false := by rw [ld_eq]; exact h1
  have hnd : ¬ ((c.toNat : Int) = 95 ∨ digI (c.toNat : Int) = true) := by
    rintro (e | e)
    · exact h2 ((c95 c).1 e)
    · rw [ldI, e] at hld; cases hld
  have hnl : ¬ lttI (c.toNat : Int) = true := fun e => by rw [ldI, e, Bool.or_true] at hld; cases hld
  unfold tokAt sTok
  rw [hb, if_neg hnd, if_neg hnl, hx]
  have e10 := cnat c 10 10 rfl
  have e59 := cnat c 59 59 rfl
  have e58 := cnat c 58 58 rfl
  by_cases h5 : c = 10 ∨ c = 59
  · rw [if_pos (by rcases h5 with e | e; exact .inl (e10.2 e); exact .inr (e59.2 e)), if_pos h5]
  · rw [if_neg (by rintro (e | e); exact h5 (.inl (e10.1 e)); exact h5 (.inr (e59.1 e))), if_neg h5, if_neg (fun e => h3 (e58.1 e.1))]
theorem tok_col {s : ByteArray} {i : Nat} {d : UInt8} {r : List UInt8} (h : s.data.toList.drop i = 58 :: d :: r) (hd : d ≠ 61) : tokAt s i = ⟨115, ba [58], 0, i⟩ := by
  obtain ⟨hi, hb, h2⟩ := drop_cons h
  obtain ⟨hi2, hb2, _⟩ := drop_cons h2
  have hx : s.extract i (i + 1) = ba [58] := ext_drop (x := [58]) (r := d :: r) h
  have hb' : bt s i = 58 := hb
  unfold tokAt
  rw [hb', hx, if_neg (by decide), if_neg (by decide), if_neg (by decide), if_neg (by rw [hb2]; rintro ⟨_, _, e⟩; exact hd ((cnat d 61 61 rfl).1 e))]
  rw [if_pos (show hasB sg18 (ba [58]) 18 = true by decide)]
theorem tok_asg {s : ByteArray} {i : Nat} {r : List UInt8} (h : s.data.toList.drop i = 58 :: 61 :: r) : tokAt s i = ⟨115, ⟨#[58, 61]⟩, 0, i⟩ := by
  obtain ⟨hi, hb, h2⟩ := drop_cons h
  obtain ⟨hi2, hb2, _⟩ := drop_cons h2
  have hb' : bt s i = 58 := hb
  have hb2' : bt s (i + 1) = 61 := hb2
  unfold tokAt
  rw [hb', if_neg (by decide), if_neg (by decide), if_neg (by decide), if_pos ⟨rfl, hi2, hb2'⟩]
/-- from one place to another -/
structure Lr (s : ByteArray) (i j : Nat) (ts : List T) : Prop where
  m : (lxT s i).map tkT = ts ++ (lxT s j).map tkT
  b : fb (lxT s i) = fb (lxT s j)
theorem Lr.refl (s : ByteArray) (i : Nat) : Lr s i i [] := ⟨rfl, rfl⟩
theorem Lr.trans {s : ByteArray} {i j k : Nat} {ts us : List T} (h : Lr s i j ts) (g : Lr s j k us) : Lr s i k (ts ++ us) := ⟨by rw [h.m, g.m, List.append_assoc], h.b.trans g.b⟩
theorem Lr.tok {s : ByteArray} {i : Nat} {t : Tok} (hi : i < s.size) (hb : ¬ blank (bt s i)) (hc : ¬ bt s i = 35) (ht : tokAt s i = t) (hk : ¬ t.k = 120) : Lr s i (i + t.tx.size) [tkT t] := by
  have e := lx_un hi
  rw [if_neg hb, if_neg hc, ht] at e
  refine ⟨by rw [e]; rfl, by rw [e, fb, if_neg hk]⟩
theorem Lr.blank {s : ByteArray} {i : Nat} {r : List UInt8} (h : s.data.toList.drop i = 32 :: r) : Lr s i (i + 1) [] := by
  obtain ⟨hi, hb, _⟩ := drop_cons h
  have e := lx_un hi
  have hb' : bt s i = 32 := hb
  rw [if_pos (by rw [hb']; exact .inl rfl)] at e
  exact ⟨by rw [e]; rfl, by rw [e]⟩
theorem word_first {c : UInt8} (h : c = 95 ∨ al c = true) : ¬ blank (c.toNat : Int) ∧ ¬ (c.toNat : Int) = 35 := by
  have e32 := cnat c 32 32 rfl
  have e9 := cnat c 9 9 rfl
  have e13 := cnat c 13 13 rfl
  have e35 := cnat c 35 35 rfl
  have hn : ∀ d : UInt8, al d = false → d ≠ 95 → c ≠ d := fun d h1 h2 e => by
    subst e
    rcases h with h | h
    · exact h2 h
    · rw [h1] at h; cases h
  refine ⟨?_, fun e => hn 35 (by decide) (by decide) (e35.1 e)⟩
  rintro (e | e | e)
  · exact hn 32 (by decide) (by decide) (e32.1 e)
  · exact hn 9 (by decide) (by decide) (e9.1 e)
  · exact hn 13 (by decide) (by decide) (e13.1 e)
/-- the T of a word -/
def wT (x : List UInt8) : T := tkT (wTok x 0)
theorem wT_eq (x : List UInt8) (i : Nat) : tkT (wTok x i) = wT x := by
  unfold wT wTok
  split <;> rfl
theorem wTok_k (x : List UInt8) (i : Nat) : (wTok x i).k = (wTok x 0).k := by
  unfold wTok
  split <;> rfl
theorem wTok_tx (x : List UInt8) (i : Nat) : (wTok x i).tx = ba x := by
  unfold wTok
  split <;> rfl
theorem Lr.word {s : ByteArray} {i : Nat} {x r : List UInt8} (h : s.data.toList.drop i = x ++ r) (hx : okW x) (hr : sepW r) (hk : ¬ (wTok x 0).k = 120) : Lr s i (i + x.length) [wT x] := by
  have ht := tok_word h hx hr
  have hg : i < s.size ∧ ¬ Pl.blank (bt s i) ∧ ¬ bt s i = 35 := by
    cases x with
    | nil => exact hx.elim
    | cons c y =>
      obtain ⟨h1, h2, _⟩ := drop_cons (r := y ++ r) h
      rw [h2]
      exact ⟨h1, word_first hx.1⟩
  have := Lr.tok hg.1 hg.2.1 hg.2.2 ht (by rw [wTok_k]; exact hk)
  rw [wTok_tx, ba_size, wT_eq] at this
  exact this
def sT (c : UInt8) : T := tkT (sTok c 0)
theorem Lr.sign {s : ByteArray} {i : Nat} {c : UInt8} {r : List UInt8} (h : s.data.toList.drop i = c :: r) (h1 : al c = false) (h2 : c ≠ 95) (h3 : c ≠ 58) (hb : c ≠ 32 ∧ c ≠ 9 ∧ c ≠ 13 ∧ c ≠ 35) (hk : ¬ (sTok c 0).k = 120) : Lr s i (i + 1) [sT c] := by
  have ht := tok_sign h h1 h2 h3
  obtain ⟨hi, hbt, _⟩ := drop_cons h
  have e32 := cnat c 32 32 rfl
  have e9 := cnat c 9 9 rfl
  have e13 := cnat c 13 13 rfl
  have e35 := cnat c 35 35 rfl
  have hk' : ¬ (sTok c i).k = 120 := by
    unfold sTok at hk ⊢
    split at hk <;> split <;> simp_all
  have := Lr.tok hi (by rw [hbt]; rintro (e | e | e); exact hb.1 (e32.1 e); exact hb.2.1 (e9.1 e); exact hb.2.2.1 (e13.1 e)) (by rw [hbt]; exact fun e => hb.2.2.2 (e35.1 e)) ht hk'
  have e1 : (sTok c i).tx.size = 1 := by unfold sTok; split <;> rfl
  have e2 : tkT (sTok c i) = sT c := by unfold sT sTok; split <;> rfl
  rw [e1, e2] at this
  exact this
theorem Lr.col {s : ByteArray} {i : Nat} {d : UInt8} {r : List UInt8} (h : s.data.toList.drop i = 58 :: d :: r) (hd : d ≠ 61) : Lr s i (i + 1) [.col] := by
  obtain ⟨hi, hbt, _⟩ := drop_cons h
  have hb' : bt s i = 58 := hbt
  have := Lr.tok hi (by rw [hb']; decide) (by rw [hb']; decide) (tok_col h hd) (show ¬ (115 : Int) = 120 by decide)
  exact this
theorem Lr.asg {s : ByteArray} {i : Nat} {r : List UInt8} (h : s.data.toList.drop i = 58 :: 61 :: r) : Lr s i (i + 2) [.asg] := by
  obtain ⟨hi, hbt, _⟩ := drop_cons h
  have hb' : bt s i = 58 := hbt
  have := Lr.tok hi (by rw [hb']; decide) (by rw [hb']; decide) (tok_asg h) (show ¬ (115 : Int) = 120 by decide)
  exact this
end Pl
namespace Pl
def isWd : List UInt8 → Bool
  | c :: _ => decide (c = 95) || al c
  | [] => false
/-- the T of a token's text -/
def kT (x : List UInt8) : T := match isWd x with | true => wT x | false => sT (x.headD 0)
/-- a text that is a token -/
def gkB (x : List UInt8) : Bool := match x with
  | [] => false
  | c :: y => match isWd x with
    | true => y.all al && decide (¬ (wTok x 0).k = 120)
    | false => decide (y = []) && decide (c ≠ 58) && decide (c ≠ 32) && decide (c ≠ 9) && decide (c ≠ 13) && decide (c ≠ 35) && decide (¬ (sTok c 0).k = 120)
theorem Lr.tk {s : ByteArray} {i : Nat} {x r : List UInt8} (h : s.data.toList.drop i = x ++ r) (hg : gkB x = true) (hr : isWd x = true → sepW r) : Lr s i (i + x.length) [kT x] := by
  cases x with
  | nil => cases hg
  | cons c y =>
    unfold gkB at hg
    unfold kT
    cases hw : isWd (c :: y) with
    | true =>
      rw [hw] at hg
      simp only [Bool.and_eq_true, decide_eq_true_eq] at hg
      have hc : c = 95 ∨ al c = true := by
        have : (decide (c = 95) || al c) = true := hw
        simpa using this
      exact Lr.word h ⟨hc, hg.1⟩ (hr hw) hg.2
    | false =>
      rw [hw] at hg
      simp only [Bool.and_eq_true, decide_eq_true_eq] at hg
      obtain ⟨⟨⟨⟨⟨⟨rfl, h1⟩, h2⟩, h3⟩, h4⟩, h5⟩, h6⟩ := hg
      have hc : (decide (c = 95) || al c) = false := hw
      rw [Bool.or_eq_false_iff, decide_eq_false_iff_not] at hc
      exact Lr.sign (r := r) h hc.2 hc.1 h1 ⟨h2, h3, h4, h5⟩ h6
theorem sep_spt {t : List UInt8} (ht : isWd t = true) : ∀ (a : List (List UInt8)) (r : List UInt8), (∀ x ∈ a, gkB x = true) → (a = [] → sepW r) → sepW (spt tg t a ++ r)
  | [], r, _, h => h rfl
  | u :: a, r, hg, _ => by
    show sepW ((bl (tg t u) ++ u ++ spt tg u a) ++ r)
    cases hu : tg t u with
    | false => exact (show al 32 = false by decide)
    | true =>
      have hl : lfB t = false := by
        have h : ∀ c : UInt8, al c = false → c ≠ 95 → t ≠ [c] := fun c h1 h2 e => by
          rw [e] at ht
          have : (decide (c = 95) || al c) = true := ht
          rw [h1, decide_eq_false h2] at this
          cases this
        simp [lfB, h 40 (by decide) (by decide), h 64 (by decide) (by decide), h 46 (by decide) (by decide)]
      have hr : rtB u = true := by
        unfold tg at hu
        rw [hl] at hu
        simpa using hu
      have : u = [41] ∨ u = [47] ∨ u = [92] ∨ u = [46] := by
        simp only [rtB, Bool.or_eq_true, decide_eq_true_eq] at hr
        rcases hr with ((h | h) | h) | h
        · exact .inl h
        · exact .inr (.inl h)
        · exact .inr (.inr (.inl h))
        · exact .inr (.inr (.inr h))
      rcases this with rfl | rfl | rfl | rfl
      · exact (show al 41 = false by decide)
      · exact (show al 47 = false by decide)
      · exact (show al 92 = false by decide)
      · exact (show al 46 = false by decide)
/-- tokens with blanks between them -/
theorem lex_spt {s : ByteArray} : ∀ (a : List (List UInt8)) (p : List UInt8) (i : Nat) (r : List UInt8), s.data.toList.drop i = spt tg p a ++ r → (∀ x ∈ a, gkB x = true) → (isWd (lst p a) = true → sepW r) → Lr s i (i + (spt tg p a).length) (a.map kT)
  | [], p, i, r, h, _, _ => Lr.refl s i
  | t :: a, p, i, r, h, hg, hr => by
    have hs : spt tg p (t :: a) = bl (tg p t) ++ t ++ spt tg t a := rfl
    rw [hs] at h ⊢
    have hb : Lr s i (i + (bl (tg p t)).length) [] ∧ s.data.toList.drop (i + (bl (tg p t)).length) = t ++ (spt tg t a ++ r) := by
      cases hb0 : tg p t with
      | true =>
        rw [hb0] at h
        exact ⟨Lr.refl _ _, by simpa [bl] using h⟩
      | false =>
        rw [hb0] at h
        have h' : s.data.toList.drop i = 32 :: (t ++ (spt tg t a ++ r)) := by simpa [bl] using h
        exact ⟨Lr.blank h', (drop_cons h').2.2⟩
    have h2 := Lr.tk hb.2 (hg t (by simp)) (fun hw => sep_spt hw a r (fun x hx => hg x (by simp [hx])) (fun e => by subst e; exact hr hw))
    have h3 := lex_spt a t _ r (drop_app t hb.2) (fun x hx => hg x (by simp [hx])) hr
    have := (hb.1.trans h2).trans h3
    rw [List.length_append, List.length_append, ← Nat.add_assoc, ← Nat.add_assoc]
    exact this
theorem lex_sp {s : ByteArray} {t : List UInt8} {a : List (List UInt8)} {i : Nat} {r : List UInt8} (h : s.data.toList.drop i = sp tg (t :: a) ++ r) (hg : ∀ x ∈ t :: a, gkB x = true) (hr : sepW r) : Lr s i (i + (sp tg (t :: a)).length) ((t :: a).map kT) := by
  have hs : sp tg (t :: a) = t ++ spt tg t a := rfl
  rw [hs] at h ⊢
  rw [List.append_assoc] at h
  have h2 := Lr.tk h (hg t (by simp)) (fun hw => sep_spt hw a r (fun x hx => hg x (by simp [hx])) (fun _ => hr))
  have h3 := lex_spt a t _ r (drop_app t h) (fun x hx => hg x (by simp [hx])) (fun _ => hr)
  have := h2.trans h3
  rw [List.length_append, ← Nat.add_assoc]
  exact this
/-- names -/
theorem wk_ok {x : List UInt8} (h : wk x ≠ 0) : ∃ c y, x = c :: y ∧ isL c = true ∧ x.all al = true ∧ x.length ≤ 20 := by
  unfold wk at h
  split at h
  · exact absurd rfl h
  · rename_i h1
    split at h
    · exact absurd rfl h
    · rename_i h2
      split at h
      · exact absurd rfl h
      · rename_i h3
        split at h
        · exact absurd rfl h
        · rename_i h4
          cases x with
          | nil => exact absurd rfl h1
          | cons c y => exact ⟨c, y, rfl, by simpa using h3, by rw [show (fun c => isL c || isD c) = al from rfl] at h4; cases hq : (c :: y).all al <;> simp_all, by omega⟩
theorem al_of_L {c : UInt8} (h : isL c = true) : al c = true := by unfold al; rw [h]; rfl
theorem wTok_wd {x : List UInt8} (h : wk x ≠ 0) (i : Nat) : wTok x i = ⟨wkS (ba x), ba x, 0, i⟩ := by
  obtain ⟨c, y, rfl, h1, _, _⟩ := wk_ok h
  have h2 : bt (ba (c :: y)) 0 = (c.toNat : Int) := (drop_cons (s := ba (c :: y)) (i := 0) (r := y ++ []) (ba_drop _)).2.1
  unfold wTok
  have hl : lttI (c.toNat : Int) = true := by rw [ltt_eq]; exact h1
  rw [h2, if_neg]
  rintro (e | e)
  · rw [e] at hl; revert hl; decide
  · simp only [lttI, digI, Bool.or_eq_true, decide_eq_true_eq] at hl e
    omega
theorem wkS_of {x : List UInt8} (h : wk x ≠ 0) : wkS (ba x) = if wk x = 3 then 70 else if wk x = 4 then 115 else 119 := by
  obtain ⟨c, y, rfl, h1, h2, h3⟩ := wk_ok h
  have hne : (ba (c :: y)).data.toList ≠ [] := by simp [ba]
  have e : (ba (c :: y)).data.toList = c :: y := rfl
  rw [wkS_eq _ hne (by rw [e]; exact h1), e, if_neg (by omega)]
  have hwk : wk (c :: y) = if (c :: y) = selfW ∨ isC c = true then 3 else if mgs.any (fun m => decide (m.t = c :: y)) = true then 4 else 2 := by
    unfold wk
    rw [if_neg (by simp), if_neg (show ¬ 20 < (c :: y).length by omega), if_neg (show ¬ isL ((c :: y).headD 0) = false by rw [show (c :: y).headD 0 = c from rfl, h1]; decide), show (fun c => isL c || isD c) = al from rfl, if_neg (by rw [h2]; decide)]
    rfl
  rw [hwk]
  show (if (c :: y) = selfW ∨ isC c = true then (70 : Int) else if mgs.any (fun m => decide (m.t = c :: y)) = true then 115 else 119) = _
  by_cases q1 : (c :: y) = selfW ∨ isC c = true
  · rw [if_pos q1, if_pos q1]; rfl
  · rw [if_neg q1, if_neg q1]
    by_cases q2 : mgs.any (fun m => decide (m.t = c :: y)) = true
    · rw [if_pos q2, if_pos q2]; rfl
    · rw [if_neg q2, if_neg q2]; rfl
theorem name_T {x : List UInt8} (h : wk x = 2) : gkB x = true ∧ kT x = .arr x := by
  have h0 : wk x ≠ 0 := by rw [h]; decide
  have hk := wkS_of h0
  have hw := wTok_wd h0 0
  rw [h] at hk
  obtain ⟨c, y, rfl, h1, h2, h3⟩ := wk_ok h0
  have hi : isWd (c :: y) = true := by show (decide (c = 95) || al c) = true; rw [al_of_L h1, Bool.or_true]
  have hk' : wkS (ba (c :: y)) = 119 := hk
  constructor
  · unfold gkB
    rw [hi, hw, hk']
    rw [List.all_cons, Bool.and_eq_true] at h2
    simp [h2.2]
  · unfold kT wT
    rw [hi, hw, hk']
    rfl
theorem fn_T {x : List UInt8} (h : wk x = 3) : gkB x = true ∧ kT x = .fn x := by
  have h0 : wk x ≠ 0 := by rw [h]; decide
  have hk := wkS_of h0
  have hw := wTok_wd h0 0
  rw [h] at hk
  obtain ⟨c, y, rfl, h1, h2, h3⟩ := wk_ok h0
  have hi : isWd (c :: y) = true := by show (decide (c = 95) || al c) = true; rw [al_of_L h1, Bool.or_true]
  have hk' : wkS (ba (c :: y)) = 70 := hk
  constructor
  · unfold gkB
    rw [hi, hw, hk']
    rw [List.all_cons, Bool.and_eq_true] at h2
    simp [h2.2]
  · unfold kT wT
    rw [hi, hw, hk']
    rfl
theorem mg_gk : ∀ m ∈ mgs, gkB m.t = true := by decide
theorem mg_T : ∀ m ∈ mgs, kT m.t = .op m := by
  intro m hm
  simp only [mgs, List.mem_cons, List.not_mem_nil, or_false] at hm
  rcases hm with rfl | rfl | rfl | rfl | rfl | rfl | rfl | rfl | rfl | rfl | rfl | rfl | rfl | rfl | rfl | rfl | rfl | rfl | rfl | rfl | rfl | rfl | rfl | rfl | rfl <;> rfl
/-- the row of a function -/
theorem row_of {f : Fnv} (h : sgn f ≠ []) : ∃ m ∈ mgs, sgn f = m.t ∧ (f = m.one ∨ f = m.two) := by
  unfold sgn at h ⊢
  split at h
  · rename_i m e
    have := List.find?_some e
    refine ⟨m, List.mem_of_find?_eq_some e, rfl, ?_⟩
    simpa using this
  · exact absurd rfl h
theorem one_k : ∀ m ∈ mgs, m.ok = 0 ∨ m.ok = 1 ∨ m.ok = 2 ∨ m.ok = 9 := by decide
theorem two_k : ∀ m ∈ mgs, m.tk = 0 ∨ m.tk = 5 ∨ m.tk = 6 := by decide
theorem op_row {a : Int} (h : osg a ≠ []) : ∃ m ∈ mgs, osg a = m.t ∧ en m = a ∧ a ≠ 0 := by
  have ho := (osg_iff a).1 h
  obtain ⟨m, hm, e, hf⟩ := row_of h
  have h5 : (⟨5, a, 0, []⟩ : Fnv) = m.two := by
    rcases hf with hf | hf
    · have h1 := congrArg Fnv.k hf
      have := one_k m hm
      have h1' : (5 : Int) = m.ok := h1
      omega
    · exact hf
  have hk : (5 : Int) = m.tk := congrArg Fnv.k h5
  have ha : a = m.tw := congrArg Fnv.a h5
  refine ⟨m, hm, e, by unfold en; rw [if_pos hk.symm, ha], ?_⟩
  unfold opk at ho
  simp only [Bool.and_eq_true, decide_eq_true_eq] at ho
  omega
/-- a function as it stands -/
theorem fn_one {f : Fnv} (h : oneB f = true) : ∃ F : F, F.toks = (ftk f).map kT ∧ F.wf ∧ F.one = f ∧ F.one.k ≠ 0 ∧ ∀ x ∈ ftk f, gkB x = true := by
  unfold oneB at h
  unfold ftk
  by_cases h1 : f.k = 1 ∨ f.k = 2 ∨ f.k = 9
  · rw [if_pos h1, decide_eq_true_eq] at h
    obtain ⟨m, hm, e, hf⟩ := row_of h
    have hf' : f = m.one := by
      rcases hf with hf | hf
      · exact hf
      · have := two_k m hm
        have h2 : f.k = m.tk := congrArg Fnv.k hf
        omega
    rw [if_neg (by omega), if_neg (by omega), if_neg (by omega), if_neg (by omega), if_neg (by omega), e]
    refine ⟨.plain m, by rw [List.map_singleton, mg_T m hm]; rfl, trivial, hf'.symm, ?_, fun x hx => by rw [List.mem_singleton.1 hx]; exact mg_gk m hm⟩
    have : (F.plain m).one = f := hf'.symm
    rw [this]
    omega
  · rw [if_neg h1] at h
    by_cases h3 : f.k = 3 ∨ f.k = 4
    · rw [if_pos h3, Bool.and_eq_true, decide_eq_true_eq, decide_eq_true_eq] at h
      obtain ⟨m, hm, e, ha, h0⟩ := op_row h.1
      have hf : f = ⟨f.k, f.a, 0, []⟩ := h.2
      rcases h3 with h3 | h3
      · rw [if_pos h3, e]
        refine ⟨.red m, by simp only [List.map_cons, List.map_nil, mg_T m hm]; rfl, by show en m ≠ 0; omega, ?_, (show (3 : Int) ≠ 0 by decide), fun x hx => ?_⟩
        · show (⟨3, en m, 0, []⟩ : Fnv) = f
          rw [hf, ha, h3]
        · simp only [List.mem_cons, List.not_mem_nil, or_false] at hx
          rcases hx with rfl | rfl
          · exact mg_gk m hm
          · decide
      · rw [if_neg (by omega), if_pos h3, e]
        refine ⟨.scan m, by simp only [List.map_cons, List.map_nil, mg_T m hm]; rfl, by show en m ≠ 0; omega, ?_, (show (4 : Int) ≠ 0 by decide), fun x hx => ?_⟩
        · show (⟨4, en m, 0, []⟩ : Fnv) = f
          rw [hf, ha, h3]
        · simp only [List.mem_cons, List.not_mem_nil, or_false] at hx
          rcases hx with rfl | rfl
          · exact mg_gk m hm
          · decide
    · rw [if_neg h3] at h
      unfold callB at h
      rw [Bool.and_eq_true, decide_eq_true_eq, decide_eq_true_eq] at h
      have hk : f.k = 10 := congrArg Fnv.k h.2
      rw [if_neg (by omega), if_neg (by omega), if_neg (by omega), if_neg (by omega), if_pos hk]
      have ht := fn_T h.1
      exact ⟨.call f.nm, by rw [List.map_singleton, ht.2]; rfl, trivial, h.2.symm, (by decide : (10 : Int) ≠ 0), fun x hx => by rw [List.mem_singleton.1 hx]; exact ht.1⟩
theorem fn_two {f : Fnv} (h : twoB f = true) : ∃ F : F, F.toks = (ftk f).map kT ∧ F.wf ∧ F.two = f ∧ F.two.k ≠ 0 ∧ ∀ x ∈ ftk f, gkB x = true := by
  unfold twoB at h
  unfold ftk
  by_cases h1 : f.k = 5 ∨ f.k = 6
  · rw [if_pos h1, decide_eq_true_eq] at h
    obtain ⟨m, hm, e, hf⟩ := row_of h
    have hf' : f = m.two := by
      rcases hf with hf | hf
      · have := one_k m hm
        have h2 : f.k = m.ok := congrArg Fnv.k hf
        omega
      · exact hf
    rw [if_neg (by omega), if_neg (by omega), if_neg (by omega), if_neg (by omega), if_neg (by omega), e]
    refine ⟨.plain m, by rw [List.map_singleton, mg_T m hm]; rfl, trivial, hf'.symm, ?_, fun x hx => by rw [List.mem_singleton.1 hx]; exact mg_gk m hm⟩
    have : (F.plain m).two = f := hf'.symm
    rw [this]
    omega
  · rw [if_neg h1] at h
    by_cases h7 : f.k = 7
    · rw [if_pos h7, Bool.and_eq_true, decide_eq_true_eq, decide_eq_true_eq] at h
      obtain ⟨m, hm, e, ha, h0⟩ := op_row h.1
      have hf : f = ⟨f.k, f.a, 0, []⟩ := h.2
      rw [if_neg (by omega), if_neg (by omega), if_pos h7, e]
      refine ⟨.outer m, by simp only [List.map_cons, List.map_nil, mg_T m hm]; rfl, by show en m ≠ 0; omega, ?_, (show (7 : Int) ≠ 0 by decide), fun x hx => ?_⟩
      · show (⟨7, en m, 0, []⟩ : Fnv) = f
        rw [hf, ha, h7]
      · simp only [List.mem_cons, List.not_mem_nil, or_false] at hx
        rcases hx with rfl | rfl
        · decide
        · exact mg_gk m hm
    · rw [if_neg h7] at h
      by_cases h8 : f.k = 8
      · rw [if_pos h8, Bool.and_eq_true, Bool.and_eq_true, decide_eq_true_eq, decide_eq_true_eq, decide_eq_true_eq] at h
        obtain ⟨m, hm, e, ha, h0⟩ := op_row h.1.1
        obtain ⟨m', hm', e', ha', h0'⟩ := op_row h.1.2
        rw [if_neg (by omega), if_neg (by omega), if_neg h7, if_pos h8, e, e']
        refine ⟨.inner m m', by simp only [List.map_cons, List.map_nil, mg_T m hm, mg_T m' hm']; rfl, ⟨by omega, by omega⟩, ?_, (show (8 : Int) ≠ 0 by decide), fun x hx => ?_⟩
        · show (⟨8, en m, en m', []⟩ : Fnv) = f
          rw [ha, ha', ← h8, ← h.2]
        · simp only [List.mem_cons, List.not_mem_nil, or_false] at hx
          rcases hx with rfl | rfl | rfl
          · exact mg_gk m hm
          · decide
          · exact mg_gk m' hm'
      · rw [if_neg h8] at h
        unfold callB at h
        rw [Bool.and_eq_true, decide_eq_true_eq, decide_eq_true_eq] at h
        have hk : f.k = 10 := congrArg Fnv.k h.2
        rw [if_neg (by omega), if_neg (by omega), if_neg h7, if_neg h8, if_pos hk]
        have ht := fn_T h.1
        exact ⟨.call f.nm, by rw [List.map_singleton, ht.2]; rfl, trivial, h.2.symm, (by decide : (10 : Int) ≠ 0), fun x hx => by rw [List.mem_singleton.1 hx]; exact ht.1⟩
end Pl
namespace Pl
/-- what is asked of the tokens of numbers -/
def NtOk (nt : Int → List UInt8) : Prop := (∀ n, lfB (nt n) = false ∧ rtB (nt n) = false) ∧ ∀ n : Int, -3000000000 ≤ n → n ≤ 3000000000 → gkB (nt n) = true ∧ kT (nt n) = .num n
theorem nums_ok {l : List Int} (h : numsB l = true) : ∃ v vs, l = v :: vs ∧ l.length ≤ 1000 ∧ ∀ n ∈ l, -3000000000 ≤ n ∧ n ≤ 3000000000 := by
  unfold numsB at h
  simp only [Bool.and_eq_true, decide_eq_true_eq] at h
  obtain ⟨⟨h1, h2⟩, h3⟩ := h
  cases l with
  | nil => simp at h2
  | cons v vs =>
    refine ⟨v, vs, rfl, h3, fun n hn => ?_⟩
    have := List.all_eq_true.1 h1 n hn
    simpa using this
/-- the operand of an array's step -/
theorem at_ex {nt : Int → List UInt8} (hnt : NtOk nt) {s : Sv} (h : sok s = true) (h0 : ar s = 0) : ∃ o : O, o.toks = (fa nt s).map kT ∧ o.wf ∧ o.code = [s] ∧ o.nest = 0 ∧ o.long = false ∧ ∀ x ∈ fa nt s, gkB x = true := by
  have hk : s.k = 1 ∨ s.k = 2 := by
    unfold ar at h0
    split at h0
    · assumption
    · split at h0 <;> cases h0
  obtain ⟨k, nums, nm, fn⟩ := s
  unfold sok at h
  rcases hk with rfl | rfl
  · simp only [if_true, Bool.and_eq_true, decide_eq_true_eq] at h
    obtain ⟨⟨h1, rfl⟩, rfl⟩ := h
    obtain ⟨v, vs, rfl, h2, h3⟩ := nums_ok h1
    have hT : ∀ l : List Int, (∀ n ∈ l, -3000000000 ≤ n ∧ n ≤ 3000000000) → (l.map nt).map kT = l.map .num := fun l hl => by
      rw [List.map_map]
      exact List.map_congr_left fun n hn => (hnt.2 n (hl n hn).1 (hl n hn).2).2
    have hf : fa nt ⟨1, v :: vs, [], f0⟩ = (v :: vs).map nt := rfl
    rw [hf]
    refine ⟨.nums v vs, by rw [hT _ h3]; rfl, trivial, rfl, rfl, ?_, fun x hx => ?_⟩
    · show decide (1000 < vs.length + 1) = false
      rw [List.length_cons] at h2
      exact decide_eq_false (by omega)
    · obtain ⟨n, hn, rfl⟩ := List.mem_map.1 hx
      exact (hnt.2 n (h3 n hn).1 (h3 n hn).2).1
  · rw [if_neg (show ¬ (2 : Int) = 1 by decide)] at h
    simp only [if_true, Bool.and_eq_true, decide_eq_true_eq] at h
    obtain ⟨⟨h1, rfl⟩, rfl⟩ := h
    have ht := name_T h1
    have hf : fa nt ⟨2, [], nm, f0⟩ = [nm] := rfl
    rw [hf]
    exact ⟨.name nm, by rw [List.map_singleton, ht.2]; rfl, trivial, rfl, rfl, rfl, fun x hx => by rw [List.mem_singleton.1 hx]; exact ht.1⟩
theorem step_fn {s : Sv} (h : sok s = true) (h0 : ar s ≠ 0) : (s = ⟨3, [], [], s.fn⟩ ∧ oneB s.fn = true ∧ ar s = 1) ∨ (s = ⟨4, [], [], s.fn⟩ ∧ twoB s.fn = true ∧ ar s = 2) := by
  obtain ⟨k, nums, nm, fn⟩ := s
  unfold sok at h
  unfold ar at h0 ⊢
  simp only at h h0 ⊢
  by_cases h1 : k = 1
  · exact absurd (if_pos (.inl h1)) h0
  · by_cases h2 : k = 2
    · exact absurd (if_pos (.inr h2)) h0
    · rw [if_neg h1, if_neg h2] at h
      by_cases h3 : k = 3
      · subst h3
        simp only [if_true, Bool.and_eq_true, decide_eq_true_eq] at h
        obtain ⟨⟨h4, rfl⟩, rfl⟩ := h
        exact .inl ⟨rfl, h4, rfl⟩
      · rw [if_neg h3] at h
        by_cases h4 : k = 4
        · subst h4
          simp only [if_true, Bool.and_eq_true, decide_eq_true_eq] at h
          obtain ⟨⟨h5, rfl⟩, rfl⟩ := h
          exact .inr ⟨rfl, h5, rfl⟩
        · rw [if_neg h4] at h; cases h
/-- a node as an expr, and as an operand -/
theorem nd_ex {nt : Int → List UInt8} (hnt : NtOk nt) : ∀ t : Nd Sv, t.Wf ar → (∀ s ∈ t.post, sok s = true) →
    (∃ e : E, e.toks = (toks (fa nt) ff t).map kT ∧ e.wf ∧ e.code = t.post ∧ e.nest = nest t ∧ e.long = false) ∧
    (∃ o : O, o.toks = (match bareN t with | true => toks (fa nt) ff t | false => [40] :: (toks (fa nt) ff t ++ [[41]])).map kT ∧ o.wf ∧ o.code = t.post ∧ o.nest = (match bareN t with | true => nest t | false => nest t + 1) ∧ o.long = false) ∧ ∀ x ∈ toks (fa nt) ff t, gkB x = true := by
  have k40 : kT [40] = .lp := rfl
  have k41 : kT [41] = .rp := rfl
  intro t
  induction t with
  | «at» s =>
    intro w h
    obtain ⟨o, h1, h2, h3, h4, h5, h6⟩ := at_ex hnt (h s (by simp [Nd.post])) w
    exact ⟨⟨.opd o, h1, h2, h3, h4, h5⟩, ⟨o, h1, h2, h3, h4, h5⟩, h6⟩
  | one s r ih =>
    intro w h
    obtain ⟨⟨e, e1, e2, e3, e4, e5⟩, _, e6⟩ := ih w.2 (fun x hx => h x (by simp [Nd.post, hx]))
    rcases step_fn (h s (by simp [Nd.post])) (by have := w.1; omega) with ⟨hs, h1, h2⟩ | ⟨hs, h1, h2⟩
    · obtain ⟨F, f1, f2, f3, f4, f5⟩ := fn_one h1
      have hg : ∀ x ∈ toks (fa nt) ff (.one s r), gkB x = true := fun x hx => by
        rcases List.mem_append.1 hx with q | q
        · exact f5 x q
        · exact e6 x q
      have ex : ∃ e : E, e.toks = (toks (fa nt) ff (.one s r)).map kT ∧ e.wf ∧ e.code = (Nd.one s r).post ∧ e.nest = nest (.one s r) ∧ e.long = false := by
        refine ⟨.one F e, ?_, ⟨f2, f4, e2⟩, ?_, e4, e5⟩
        · show F.toks ++ e.toks = (ff s ++ toks (fa nt) ff r).map kT
          rw [f1, e1, List.map_append]
          rfl
        · show e.code ++ [⟨3, [], [], F.one⟩] = r.post ++ [s]
          rw [e3, f3, ← hs]
      obtain ⟨e', g1, g2, g3, g4, g5⟩ := ex
      refine ⟨⟨e', g1, g2, g3, g4, g5⟩, ⟨.br e', ?_, g2, g3, ?_, g5⟩, hg⟩
      · show T.lp :: (e'.toks ++ [.rp]) = _
        rw [g1]
        show _ = kT [40] :: ((toks (fa nt) ff (.one s r) ++ [[41]]).map kT)
        rw [List.map_append, k40]
        rfl
      · show e'.nest + 1 = _
        rw [g4]
        rfl
    · have := w.1; omega
  | two s l r il ir =>
    intro w h
    obtain ⟨_, ⟨o, o1, o2, o3, o4, o5⟩, o6⟩ := il w.2.1 (fun x hx => h x (by simp [Nd.post, hx]))
    obtain ⟨⟨e, e1, e2, e3, e4, e5⟩, _, e6⟩ := ir w.2.2 (fun x hx => h x (by simp [Nd.post, hx]))
    rcases step_fn (h s (by simp [Nd.post])) (by have := w.1; omega) with ⟨hs, h1, h2⟩ | ⟨hs, h1, h2⟩
    · have := w.1; omega
    · obtain ⟨F, f1, f2, f3, f4, f5⟩ := fn_two h1
      have hg : ∀ x ∈ toks (fa nt) ff (.two s l r), gkB x = true := fun x hx => by
        rcases List.mem_append.1 hx with q | q
        · cases hb : bareN l with
          | true => rw [hb] at q; exact o6 x q
          | false =>
            rw [hb] at q
            rcases List.mem_cons.1 q with rfl | q
            · decide
            · rcases List.mem_append.1 q with q | q
              · exact o6 x q
              · rw [List.mem_singleton.1 q]; decide
        · rcases List.mem_append.1 q with q | q
          · exact f5 x q
          · exact e6 x q
      have ex : ∃ e : E, e.toks = (toks (fa nt) ff (.two s l r)).map kT ∧ e.wf ∧ e.code = (Nd.two s l r).post ∧ e.nest = nest (.two s l r) ∧ e.long = false := by
        refine ⟨.two o F e, ?_, ⟨o2, f2, f4, e2⟩, ?_, ?_, ?_⟩
        · show o.toks ++ (F.toks ++ e.toks) = ((match bareN l with | true => toks (fa nt) ff l | false => [40] :: (toks (fa nt) ff l ++ [[41]])) ++ (ff s ++ toks (fa nt) ff r)).map kT
          rw [f1, e1, o1, List.map_append, List.map_append]
          rfl
        · show e.code ++ (o.code ++ [⟨4, [], [], F.two⟩]) = r.post ++ l.post ++ [s]
          rw [e3, o3, f3, ← hs, List.append_assoc]
        · show max e.nest o.nest = max (match bareN l with | true => nest l | false => nest l + 1) (nest r)
          rw [e4, o4, Nat.max_comm]
        · show (e.long || o.long) = false
          rw [e5, o5]
          rfl
      obtain ⟨e', g1, g2, g3, g4, g5⟩ := ex
      refine ⟨⟨e', g1, g2, g3, g4, g5⟩, ⟨.br e', ?_, g2, g3, ?_, g5⟩, hg⟩
      · show T.lp :: (e'.toks ++ [.rp]) = _
        rw [g1]
        show _ = kT [40] :: ((toks (fa nt) ff (.two s l r) ++ [[41]]).map kT)
        rw [List.map_append, k40]
        rfl
      · show e'.nest + 1 = _
        rw [g4]
        rfl
/-- the text of code is read as that code -/
theorem xt_ex {nt : Int → List UInt8} (hnt : NtOk nt) {c : List Sv} {u : List UInt8} (h : xt nt c = some u) : ∃ e : E, e.wf ∧ e.code = c ∧ e.bey 0 = false ∧ ∀ (s : ByteArray) (i : Nat) (r : List UInt8), s.data.toList.drop i = u ++ r → sepW r → Lr s i (i + u.length) e.toks := by
  unfold xt at h
  split at h
  · rename_i t hn
    split at h
    · rename_i hc
      obtain ⟨_, _, hp, hw⟩ := nd_le hn
      simp only [List.take_zero, List.nil_append, List.take_length] at hp
      have hs : ∀ s ∈ t.post, sok s = true := fun s hm => List.all_eq_true.1 hc.1 s (by rw [hp]; exact hm)
      obtain ⟨⟨e, e1, e2, e3, e4, e5⟩, _, e6⟩ := nd_ex hnt t hw hs
      have hu : u = sp tg (toks (fa nt) ff t) := by
        rw [node_text hnt.1 hw hs]
        exact (Option.some.inj h).symm
      refine ⟨e, e2, by rw [e3, ← hp], ?_, fun s i r hd hr => ?_⟩
      · rw [E.bey_eq, e5, e4]
        have := hc.2
        simp
        omega
      · cases htk : toks (fa nt) ff t with
        | nil =>
          rw [htk] at e1
          exact absurd e1 (E.ne e2)
        | cons x a =>
          rw [htk] at hu e1 e6
          rw [hu] at hd ⊢
          rw [e1]
          exact lex_sp hd e6 hr
    · cases h
  · cases h
end Pl
namespace Pl
def gtoks : List (E × E) → List T
  | [] => []
  | (x, y) :: g => x.toks ++ (.col :: (y.toks ++ (.sep :: gtoks g)))
def S.toks : S → List T
  | .val e => e.toks
  | .asg nm e => .arr nm :: .asg :: e.toks
  | .fn nm gs e => .fn nm :: .asg :: .lb :: (gtoks gs ++ (e.toks ++ [.rb]))
def S.wf : S → Prop
  | .val e => e.wf
  | .asg _ e => e.wf
  | .fn nm gs e => nm ≠ selfW ∧ (∀ g ∈ gs, g.1.wf ∧ g.2.wf) ∧ e.wf
def ptoks : List S → List T
  | [] => []
  | s :: l => s.toks ++ (.sep :: ptoks l)
theorem sep_c {c : UInt8} {r : List UInt8} (h : al c = false) : sepW (c :: r) := h
theorem s59 : sT 59 = .sep := rfl
theorem s10 : sT 10 = .sep := rfl
theorem s123 : sT 123 = .lb := rfl
theorem s125 : sT 125 = .rb := rfl
theorem Lr.len {s : ByteArray} {i j j' : Nat} {ts : List T} (h : Lr s i j ts) (e : j = j') : Lr s i j' ts := e ▸ h
/-- guards -/
theorem gtx_ex {nt : Int → List UInt8} (hnt : NtOk nt) : ∀ (gs : List Gv) (u : List UInt8), gtx nt gs = some u → ∃ g : List (E × E), g.map gv = gs ∧ (∀ x ∈ g, x.1.wf ∧ x.2.wf) ∧ gsB g = false ∧ ∀ (s : ByteArray) (i : Nat) (r : List UInt8), s.data.toList.drop i = u ++ r → Lr s i (i + u.length) (gtoks g)
  | [], u, h => by
    cases h
    exact ⟨[], rfl, nofun, rfl, fun s i r _ => Lr.refl _ _⟩
  | g :: gs, u, h => by
    unfold gtx at h
    split at h
    · rename_i a b t ha hb ht
      cases h
      obtain ⟨x, x1, x2, x3, x4⟩ := xt_ex hnt ha
      obtain ⟨y, y1, y2, y3, y4⟩ := xt_ex hnt hb
      obtain ⟨l, l1, l2, l3, l4⟩ := gtx_ex hnt gs t ht
      refine ⟨(x, y) :: l, ?_, fun z hz => ?_, ?_, fun s i r hd => ?_⟩
      · rw [List.map_cons, l1]
        show (⟨x.code, y.code⟩ : Gv) :: gs = _
        rw [x2, y2]
      · rcases List.mem_cons.1 hz with rfl | hz
        · exact ⟨x1, y1⟩
        · exact l2 z hz
      · show ((x.bey 0 || y.bey 0) || gsB l) = false
        rw [x3, y3, l3]
        rfl
      · have d0 : s.data.toList.drop i = a ++ (32 :: 58 :: 32 :: (b ++ (59 :: 32 :: (t ++ r)))) := by rw [hd]; simp
        have h0 := x4 s i _ d0 (sep_c (by decide))
        have d1 := drop_app a d0
        have h1 := Lr.blank d1
        have d2 := (drop_cons d1).2.2
        have h2 := Lr.col d2 (by decide)
        have d3 := (drop_cons d2).2.2
        have h3 := Lr.blank d3
        have d4 := (drop_cons d3).2.2
        have h4 := y4 s _ _ d4 (sep_c (by decide))
        have d5 := drop_app b d4
        have h5 := Lr.sign d5 (by decide) (by decide) (by decide) (by decide) (by decide)
        have d6 := (drop_cons d5).2.2
        have h6 := Lr.blank d6
        have d7 := (drop_cons d6).2.2
        have h7 := l4 s _ _ d7
        have := ((((((h0.trans h1).trans h2).trans h3).trans h4).trans h5).trans h6).trans h7
        have e : x.toks ++ [] ++ [T.col] ++ [] ++ y.toks ++ [sT 59] ++ [] ++ gtoks l = gtoks ((x, y) :: l) := by
          rw [s59]
          show _ = x.toks ++ (T.col :: (y.toks ++ (T.sep :: gtoks l)))
          simp
        rw [e] at this
        refine this.len ?_
        simp only [List.length_append, List.length_cons, List.length_nil]
        omega
    · cases h
/-- a statement -/
theorem stx_ex {nt : Int → List UInt8} (hnt : NtOk nt) {t : Tv} {u : List UInt8} (h : stx nt t = some u) : ∃ S : S, S.tv = t ∧ S.wf ∧ S.bey = false ∧ ∀ (s : ByteArray) (i : Nat) (r : List UInt8), s.data.toList.drop i = u ++ r → sepW r → Lr s i (i + u.length) S.toks := by
  obtain ⟨k, nm, code, gs⟩ := t
  unfold stx at h
  split at h
  · rename_i e g he hg
    obtain ⟨x, x1, x2, x3, x4⟩ := xt_ex hnt he
    obtain ⟨l, l1, l2, l3, l4⟩ := gtx_ex hnt gs g hg
    simp only at h
    by_cases h1 : k = 1
    · rw [if_pos h1] at h
      split at h
      · rename_i hc
        cases h
        refine ⟨.val x, ?_, x1, x3, x4⟩
        show (⟨1, [], x.code, []⟩ : Tv) = _
        rw [x2, h1, hc.1, hc.2]
      · cases h
    · rw [if_neg h1] at h
      by_cases h2 : k = 2
      · rw [if_pos h2] at h
        split at h
        · rename_i hc
          cases h
          have ht := name_T hc.1
          refine ⟨.asg nm x, ?_, x1, x3, fun s i r hd hr => ?_⟩
          · show (⟨2, nm, x.code, []⟩ : Tv) = _
            rw [x2, h2, hc.2]
          · have d0 : s.data.toList.drop i = nm ++ (32 :: 58 :: 61 :: 32 :: (e ++ r)) := by rw [hd]; simp
            have h0 := Lr.tk d0 ht.1 (fun _ => sep_c (by decide))
            have d1 := drop_app nm d0
            have h1 := Lr.blank d1
            have d2 := (drop_cons d1).2.2
            have h2 := Lr.asg d2
            have d3 := (drop_cons (drop_cons d2).2.2).2.2
            have h3 := Lr.blank d3
            have d4 := (drop_cons d3).2.2
            have h4 := x4 s _ _ d4 hr
            have := (((h0.trans h1).trans h2).trans h3).trans h4
            rw [ht.2] at this
            exact this.len (by simp only [List.length_append, List.length_cons, List.length_nil]; omega)
        · cases h
      · rw [if_neg h2] at h
        by_cases h3 : k = 3
        · rw [if_pos h3] at h
          split at h
          · rename_i hc
            cases h
            have ht := fn_T hc.1
            refine ⟨.fn nm l x, ?_, ⟨hc.2, l2, x1⟩, ?_, fun s i r hd hr => ?_⟩
            · show (⟨3, nm, x.code, l.map fun g => ⟨g.1.code, g.2.code⟩⟩ : Tv) = _
              rw [x2, h3]
              exact congrArg _ l1
            · show (gsB l || x.bey 0) = false
              rw [l3, x3]
              rfl
            · have d0 : s.data.toList.drop i = nm ++ (32 :: 58 :: 61 :: 32 :: 123 :: (g ++ (e ++ (125 :: r)))) := by rw [hd]; simp
              have h0 := Lr.tk d0 ht.1 (fun _ => sep_c (by decide))
              have d1 := drop_app nm d0
              have h1 := Lr.blank d1
              have d2 := (drop_cons d1).2.2
              have h2 := Lr.asg d2
              have d3 := (drop_cons (drop_cons d2).2.2).2.2
              have h3 := Lr.blank d3
              have d4 := (drop_cons d3).2.2
              have h4 := Lr.sign d4 (by decide) (by decide) (by decide) (by decide) (by decide)
              have d5 := (drop_cons d4).2.2
              have h5 := l4 s _ _ d5
              have d6 := drop_app g d5
              have h6 := x4 s _ _ d6 (sep_c (by decide))
              have d7 := drop_app e d6
              have h7 := Lr.sign d7 (by decide) (by decide) (by decide) (by decide) (by decide)
              have := ((((((h0.trans h1).trans h2).trans h3).trans h4).trans h5).trans h6).trans h7
              rw [ht.2, s123, s125] at this
              have e' : [T.fn nm] ++ [] ++ [T.asg] ++ [] ++ [T.lb] ++ gtoks l ++ x.toks ++ [T.rb] = S.toks (.fn nm l x) := by
                show _ = T.fn nm :: T.asg :: T.lb :: (gtoks l ++ (x.toks ++ [T.rb]))
                simp
              rw [e'] at this
              exact this.len (by simp only [List.length_append, List.length_cons, List.length_nil]; omega)
          · cases h
        · rw [if_neg h3] at h; cases h
  · cases h
/-- the lines -/
theorem ltx_ex {nt : Int → List UInt8} (hnt : NtOk nt) : ∀ (p : List Tv) (u : List UInt8), ltx nt p = some u → ∃ l : List S, l.map S.tv = p ∧ (∀ x ∈ l, x.wf) ∧ l.any S.bey = false ∧ ∀ (s : ByteArray) (i : Nat) (r : List UInt8), s.data.toList.drop i = u ++ r → Lr s i (i + u.length) (ptoks l)
  | [], u, h => by
    cases h
    exact ⟨[], rfl, nofun, rfl, fun s i r _ => Lr.refl _ _⟩
  | t :: p, u, h => by
    unfold ltx at h
    split at h
    · rename_i a b ha hb
      cases h
      obtain ⟨x, x1, x2, x3, x4⟩ := stx_ex hnt ha
      obtain ⟨l, l1, l2, l3, l4⟩ := ltx_ex hnt p b hb
      refine ⟨x :: l, by rw [List.map_cons, l1, x1], fun z hz => ?_, by rw [List.any_cons, x3, l3]; rfl, fun s i r hd => ?_⟩
      · rcases List.mem_cons.1 hz with rfl | hz
        · exact x2
        · exact l2 z hz
      · have d0 : s.data.toList.drop i = a ++ (10 :: (b ++ r)) := by rw [hd]; simp
        have h0 := x4 s i _ d0 (sep_c (by decide))
        have d1 := drop_app a d0
        have h1 := Lr.sign d1 (by decide) (by decide) (by decide) (by decide) (by decide)
        have d2 := (drop_cons d1).2.2
        have h2 := l4 s _ _ d2
        have := (h0.trans h1).trans h2
        rw [s10] at this
        have e : x.toks ++ [T.sep] ++ ptoks l = ptoks (x :: l) := by
          show _ = x.toks ++ (T.sep :: ptoks l)
          simp
        rw [e] at this
        exact this.len (by simp only [List.length_append, List.length_cons, List.length_nil]; omega)
    · cases h
theorem seps_e {e : E} (h : e.wf) (r : List T) : seps (e.toks ++ r) = e.toks ++ r := by
  have hn := E.ne h
  have hi := E.ein e
  cases ht : e.toks with
  | nil => exact absurd ht hn
  | cons t l =>
    rw [ht] at hi
    exact seps_cons (fun q => by have := hi t (by simp); rw [q] at this; cases this) _
theorem pc {n : Nat} {e : E} {r : List T} (hw : e.wf) (hr : stop r = true) (hn : 2 * e.toks.length ≤ n) : pexpr n (e.toks ++ r) = some (e, r) := (pcomplete n).1 e r (by have := E.sz_le e hw; omega) hw hr
theorem gt_len (x y : E) (g : List (E × E)) : (gtoks ((x, y) :: g)).length = x.toks.length + y.toks.length + (gtoks g).length + 2 := by
  show (x.toks ++ (T.col :: (y.toks ++ (T.sep :: gtoks g)))).length = _
  simp only [List.length_append, List.length_cons]
  omega
/-- a body is read -/
theorem pb_rt {n : Nat} {e : E} (hw : e.wf) (R : List T) : ∀ (g : List (E × E)) (k : Nat), (∀ x ∈ g, x.1.wf ∧ x.2.wf) → g.length < k → 2 * ((gtoks g).length + e.toks.length) ≤ n → pbody n k (gtoks g ++ (e.toks ++ (.rb :: R))) = some (g, e, R)
  | [], k, _, hk, hn => by
    obtain ⟨k, rfl⟩ : ∃ m, k = m + 1 := ⟨k - 1, by omega⟩
    have h1 := pc (n := n) (r := .rb :: R) hw rfl (by omega)
    show pbody n (k + 1) (e.toks ++ (.rb :: R)) = _
    rw [pb_end h1 (fun r' q => by cases q)]
    rfl
  | (x, y) :: g, k, hg, hk, hn => by
    obtain ⟨k, rfl⟩ : ∃ m, k = m + 1 := ⟨k - 1, by omega⟩
    obtain ⟨hx, hy⟩ : x.wf ∧ y.wf := hg (x, y) (by simp)
    rw [gt_len] at hn
    rw [List.length_cons] at hk
    have e0 : gtoks ((x, y) :: g) ++ (e.toks ++ (.rb :: R)) = x.toks ++ (.col :: (y.toks ++ (.sep :: (gtoks g ++ (e.toks ++ (.rb :: R)))))) := by
      show x.toks ++ (T.col :: (y.toks ++ (T.sep :: gtoks g))) ++ _ = _
      simp
    have h1 := pc (n := n) (r := .col :: (y.toks ++ (.sep :: (gtoks g ++ (e.toks ++ (.rb :: R)))))) hx rfl (by omega)
    have h2 := pc (n := n) (r := .sep :: (gtoks g ++ (e.toks ++ (.rb :: R)))) hy rfl (by omega)
    have h3 := pb_rt (n := n) hw R g k (fun z hz => hg z (by simp [hz])) (by omega) (by omega)
    have h4 : seps (gtoks g ++ (e.toks ++ (.rb :: R))) = gtoks g ++ (e.toks ++ (.rb :: R)) := by
      cases g with
      | nil => exact seps_e hw _
      | cons z g =>
        obtain ⟨z1, z2⟩ := z
        have hz := (hg (z1, z2) (by simp)).1
        have e1 : gtoks ((z1, z2) :: g) ++ (e.toks ++ (.rb :: R)) = z1.toks ++ ((.col :: (z2.toks ++ (.sep :: gtoks g))) ++ (e.toks ++ (.rb :: R))) := by
          show z1.toks ++ (T.col :: (z2.toks ++ (T.sep :: gtoks g))) ++ _ = _
          simp
        rw [e1]
        exact seps_e hz _
    rw [e0, pb_col h1 h2, h4, h3]
    rfl
theorem gl_len : ∀ (g : List (E × E)), (∀ x ∈ g, x.1.wf ∧ x.2.wf) → g.length ≤ (gtoks g).length
  | [], _ => Nat.le_refl _
  | (x, y) :: g, h => by
    have := gl_len g (fun z hz => h z (by simp [hz]))
    rw [gt_len, List.length_cons]
    omega
/-- a statement is read -/
theorem ps_rt {n : Nat} {s : S} (hw : s.wf) (r : List T) (hn : 2 * s.toks.length + 1 ≤ n) : pstmt n n (s.toks ++ (.sep :: r)) = some (s, .sep :: r) := by
  cases s with
  | val e =>
    have h1 := pc (n := n) (r := .sep :: r) hw rfl (by show 2 * e.toks.length ≤ n; have : 2 * e.toks.length + 1 ≤ n := hn; omega)
    show pstmt n n (e.toks ++ (.sep :: r)) = _
    rw [pstmt_default (E.noAsg e (.inr ⟨r, rfl⟩) (E.ne hw)), h1]
  | asg nm e =>
    have hn' : 2 * (e.toks.length + 2) + 1 ≤ n := hn
    have h1 := pc (n := n) (r := .sep :: r) hw rfl (by omega)
    show pstmt n n (.arr nm :: .asg :: (e.toks ++ (.sep :: r))) = _
    rw [ps_asg, h1]
    rfl
  | fn nm gs e =>
    have hn' : 2 * (S.toks (.fn nm gs e)).length + 1 ≤ n := hn
    have hl : (S.toks (.fn nm gs e)).length = (gtoks gs).length + e.toks.length + 4 := by
      show (T.fn nm :: T.asg :: T.lb :: (gtoks gs ++ (e.toks ++ [T.rb]))).length = _
      simp only [List.length_append, List.length_cons, List.length_nil]
      omega
    rw [hl] at hn'
    obtain ⟨w1, w2, w3⟩ := hw
    have hg := gl_len gs w2
    have h1 := pb_rt (n := n) w3 (.sep :: r) gs n w2 (by omega) (by omega)
    have e0 : S.toks (.fn nm gs e) ++ (.sep :: r) = .fn nm :: .asg :: .lb :: (gtoks gs ++ (e.toks ++ (.rb :: .sep :: r))) := by
      show T.fn nm :: T.asg :: T.lb :: (gtoks gs ++ (e.toks ++ [T.rb])) ++ _ = _
      simp
    have h4 : seps (gtoks gs ++ (e.toks ++ (.rb :: .sep :: r))) = gtoks gs ++ (e.toks ++ (.rb :: .sep :: r)) := by
      cases gs with
      | nil => exact seps_e w3 _
      | cons z g =>
        obtain ⟨z1, z2⟩ := z
        have hz := (w2 (z1, z2) (by simp)).1
        have e1 : gtoks ((z1, z2) :: g) ++ (e.toks ++ (.rb :: .sep :: r)) = z1.toks ++ ((.col :: (z2.toks ++ (.sep :: gtoks g))) ++ (e.toks ++ (.rb :: .sep :: r))) := by
          show z1.toks ++ (T.col :: (z2.toks ++ (T.sep :: gtoks g))) ++ _ = _
          simp
        rw [e1]
        exact seps_e hz _
    rw [e0, ps_fn w1, h4, h1]
    rfl
theorem s_first {s : S} (hw : s.wf) (r : List T) : ∃ t l, s.toks ++ r = t :: l ∧ t ≠ .sep := by
  cases s with
  | val e =>
    have hn := E.ne hw
    have hi := E.ein e
    show ∃ t l, e.toks ++ r = t :: l ∧ _
    cases ht : e.toks with
    | nil => exact absurd ht hn
    | cons t l =>
      rw [ht] at hi
      exact ⟨t, l ++ r, rfl, fun q => by have := hi t (by simp); rw [q] at this; cases this⟩
  | asg nm e => exact ⟨_, _, rfl, nofun⟩
  | fn nm gs e => exact ⟨_, _, rfl, nofun⟩
/-- a program is read -/
theorem pp_rt {n : Nat} : ∀ (l : List S) (k : Nat), (∀ x ∈ l, x.wf) → l.length < k → 2 * (ptoks l).length + 1 ≤ n → pprog n k (ptoks l) = some l
  | [], k, _, _, _ => pp_nil
  | s :: l, k, hw, hk, hn => by
    obtain ⟨k, rfl⟩ : ∃ m, k = m + 1 := ⟨k - 1, by omega⟩
    rw [List.length_cons] at hk
    have e0 : ptoks (s :: l) = s.toks ++ (.sep :: ptoks l) := rfl
    rw [e0] at hn ⊢
    rw [List.length_append, List.length_cons] at hn
    have h1 := ps_rt (n := n) (hw s (by simp)) (ptoks l) (by omega)
    have h2 := pp_rt (n := n) l k (fun x hx => hw x (by simp [hx])) (by omega) (by omega)
    have h3 : seps (ptoks l) = ptoks l := by
      cases l with
      | nil => rfl
      | cons x l =>
        obtain ⟨t, q, e, hne⟩ := s_first (hw x (by simp)) (.sep :: ptoks l)
        show seps (x.toks ++ (.sep :: ptoks l)) = x.toks ++ (.sep :: ptoks l)
        rw [e]
        exact seps_cons hne q
    obtain ⟨t, q, e, hne⟩ := s_first (hw s (by simp)) (.sep :: ptoks l)
    rw [e] at h1 ⊢
    rw [pp_sep h1, h3, h2]
    rfl
theorem pl_len : ∀ (l : List S), (∀ x ∈ l, x.wf) → l.length ≤ (ptoks l).length
  | [], _ => Nat.le_refl _
  | s :: l, h => by
    have := pl_len l (fun x hx => h x (by simp [hx]))
    show _ ≤ (s.toks ++ (.sep :: ptoks l)).length
    rw [List.length_append, List.length_cons, List.length_cons]
    omega
/-- what Print writes, Parse reads -/
theorem prt_rt {nt : Int → List UInt8} (hnt : NtOk nt) {p : List Tv} (h : (prt nt p).2 = true) : ∃ l : List S, l.map S.tv = p ∧ l.any S.bey = false ∧ (ba (prt nt p).1).size ≤ 4000 ∧ fb (lxT (ba (prt nt p).1) 0) = none ∧ pprog (2 * (lxT (ba (prt nt p).1) 0).length + 1) ((lxT (ba (prt nt p).1) 0).length + 1) (seps ((lxT (ba (prt nt p).1) 0).map tkT)) = some l := by
  unfold prt at h ⊢
  split at h
  · rename_i hs
    rw [if_pos hs]
    split at h
    · rename_i t ht
      split at h
      · rename_i hl
        rw [if_pos hl]
        simp only
        obtain ⟨l, l1, l2, l3, l4⟩ := ltx_ex hnt p t ht
        have h0 := l4 (ba t) 0 [] (ba_drop t)
        rw [Nat.zero_add] at h0
        have he : lxT (ba t) t.length = [] := lx_end (by rw [ba_size]; exact Nat.le_refl _)
        have hm := h0.m
        have hb := h0.b
        rw [he] at hm hb
        simp only [List.map_nil, List.append_nil] at hm
        have hlen : (lxT (ba t) 0).length = (ptoks l).length := by rw [← hm, List.length_map]
        have h3 : seps (ptoks l) = ptoks l := by
          cases l with
          | nil => rfl
          | cons x l =>
            obtain ⟨t, q, e, hne⟩ := s_first (l2 x (by simp)) (.sep :: ptoks l)
            show seps (x.toks ++ (.sep :: ptoks l)) = x.toks ++ (.sep :: ptoks l)
            rw [e]
            exact seps_cons hne q
        refine ⟨l, l1, l3, by rw [ba_size]; exact hl, hb, ?_⟩
        rw [hm, h3, hlen]
        exact pp_rt l _ l2 (by have := pl_len l l2; omega) (Nat.le_refl _)
      · cases h
    · cases h
  · cases h
end Pl
end Go.Proofs.YthhfpcdbgndioaaGreatDoor
