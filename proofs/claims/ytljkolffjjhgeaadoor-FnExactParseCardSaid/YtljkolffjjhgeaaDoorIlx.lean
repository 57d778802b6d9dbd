import Derived.Test.YtljkolffjjhgeaaDoorItf
import Derived.Test.YtljkolffjjhgeaaDoorFui
import Derived.Test.YtljkolffjjhgeaaDoorSpl
import Derived.Test.YtljkolffjjhgeaaDoorLxm
namespace Go.Proofs.YtljkolffjjhgeaaDoor
open Go.RowKit
set_option linter.unusedVariables false
set_option maxRecDepth 100000
mutual
/-- an expr as impl holds it, with the blocks of its numbers, in the order of its code -/
def NdE (w : World) : Pl.E → Value → List Nat → Prop
  | .opd o, v, F => NdO w o v F
  | .one f e, v, F => ∃ vr, v = .iface 119 (.agg #[.int .i64 f.one.k, .int .i64 f.one.a, .int .i64 f.one.b, .string (Pl.ba f.one.nm), vr]) ∧ NdE w e vr F
  | .two o f e, v, F => ∃ vl vr F1 F2, v = .iface 121 (.agg #[vl, .int .i64 f.two.k, .int .i64 f.two.a, .int .i64 f.two.b, .string (Pl.ba f.two.nm), vr]) ∧ F = F2 ++ F1 ∧ NdO w o vl F1 ∧ NdE w e vr F2 ∧ ∀ x ∈ F2, x ∉ F1
def NdO (w : World) : Pl.O → Value → List Nat → Prop
  | .nums n ns, v, F => ∃ sv, v = .iface 128 (.agg #[sv]) ∧ Own 3 1 Qi w sv (n :: ns) F
  | .name nm, v, F => v = .iface 130 (.agg #[.string (Pl.ba nm)]) ∧ F = []
  | .br e, v, F => NdE w e v F
end
mutual
theorem NdE.keep {w w' : World} : ∀ (e : Pl.E) (v : Value) (F : List Nat), NdE w e v F → (∀ b ∈ F, w'.heap[b]? = w.heap[b]?) → NdE w' e v F
  | .opd o, v, F, h, k => by rw [NdE] at h ⊢; exact NdO.keep o v F h k
  | .one f e, v, F, h, k => by
    rw [NdE] at h ⊢
    obtain ⟨vr, h1, h2⟩ := h
    exact ⟨vr, h1, NdE.keep e vr F h2 k⟩
  | .two o f e, v, F, h, k => by
    rw [NdE] at h ⊢
    obtain ⟨vl, vr, F1, F2, h1, h2, h3, h4, h5⟩ := h
    subst h2
    exact ⟨vl, vr, F1, F2, h1, rfl, NdO.keep o vl F1 h3 (fun b hb => k b (List.mem_append_right _ hb)), NdE.keep e vr F2 h4 (fun b hb => k b (List.mem_append_left _ hb)), h5⟩
theorem NdO.keep {w w' : World} : ∀ (o : Pl.O) (v : Value) (F : List Nat), NdO w o v F → (∀ b ∈ F, w'.heap[b]? = w.heap[b]?) → NdO w' o v F
  | .nums n ns, v, F, h, k => by
    rw [NdO] at h ⊢
    obtain ⟨sv, h1, h2⟩ := h
    exact ⟨sv, h1, h2.keep Qi.lives k⟩
  | .name nm, v, F, h, k => by rw [NdO] at h ⊢; exact h
  | .br e, v, F, h, k => by rw [NdO] at h ⊢; exact NdE.keep e v F h k
end
mutual
theorem NdE.nodup {w : World} : ∀ (e : Pl.E) (v : Value) (F : List Nat), NdE w e v F → F.Nodup
  | .opd o, v, F, h => by rw [NdE] at h; exact NdO.nodup o v F h
  | .one f e, v, F, h => by
    rw [NdE] at h
    obtain ⟨vr, _, h2⟩ := h
    exact NdE.nodup e vr F h2
  | .two o f e, v, F, h => by
    rw [NdE] at h
    obtain ⟨vl, vr, F1, F2, _, rfl, h3, h4, h5⟩ := h
    rw [List.nodup_append]
    exact ⟨NdE.nodup e vr F2 h4, NdO.nodup o vl F1 h3, fun x hx y hy e => h5 x hx (e ▸ hy)⟩
theorem NdO.nodup {w : World} : ∀ (o : Pl.O) (v : Value) (F : List Nat), NdO w o v F → F.Nodup
  | .nums n ns, v, F, h => by
    rw [NdO] at h
    obtain ⟨sv, _, _, _, _, _, _, h2⟩ := h
    exact h2
  | .name nm, v, F, h => by rw [NdO] at h; rw [h.2]; exact List.nodup_nil
  | .br e, v, F, h => by rw [NdO] at h; exact NdE.nodup e v F h
end
mutual
theorem NdE.form {w : World} : ∀ (e : Pl.E) (v : Value) (F : List Nat), NdE w e v F → ∃ T p, v = .iface T p
  | .opd o, v, F, h => by rw [NdE] at h; exact NdO.form o v F h
  | .one f e, v, F, h => by
    rw [NdE] at h
    obtain ⟨vr, h1, _⟩ := h
    exact ⟨_, _, h1⟩
  | .two o f e, v, F, h => by
    rw [NdE] at h
    obtain ⟨vl, vr, F1, F2, h1, _⟩ := h
    exact ⟨_, _, h1⟩
theorem NdO.form {w : World} : ∀ (o : Pl.O) (v : Value) (F : List Nat), NdO w o v F → ∃ T p, v = .iface T p
  | .nums n ns, v, F, h => by
    rw [NdO] at h
    obtain ⟨sv, h1, _⟩ := h
    exact ⟨_, _, h1⟩
  | .name nm, v, F, h => by rw [NdO] at h; exact ⟨_, _, h.1⟩
  | .br e, v, F, h => by rw [NdO] at h; exact NdE.form e v F h
end
/-- what a reader of impl's gives -/
structure IxP (l : List Pl.Itk) (p cap : Nat) (ao : Option Addr) (o : Nat) (be : Bool) (w : World) (a' : Nat) (w' : World) : Prop where
  ps : Ps w' p ao l.length cap a' o be
  g : w.grownBy w' (some p)
  le : a' ≤ 1048590
/-- a node or none -/
def IsN (v : Value) : Prop := v = .nilIface ∨ ∃ T q, v = .iface T q
/-- what expr and its like give -/
def PoX (bf : Pl.E → Bool) (l : List Pl.Itk) (p cap a : Nat) (ao : Option Addr) (o : Nat) (w : World) (X : Option (Pl.E × List Pl.T)) (e : Ending) (w' : World) : Prop := match X with
  | none => ∃ v a' be', e = .returned (.tuple #[v, .bool false]) ∧ IsN v ∧ IxP l p cap ao o be' w a' w'
  | some (x, r) => ∃ v F a', e = .returned (.tuple #[v, .bool true]) ∧ NdE w' x v F ∧ Inb w.heap.size w' F ∧ IxP l p cap ao o (bf x) w a' w' ∧ a' ≤ l.length ∧ a < a' ∧ Pl.rI l a' = r
/-- the contract of expr, with fuel -/
def HXe (n : Nat) : Prop := ∀ (l : List Pl.Itk) (p cap a o mb mo cp : Nat) (ao : Option Addr) (be : Bool) (w : World), l.length ≤ 1048576 → a ≤ l.length → o + (l.length - a) ≤ 1048570 → 2 * (l.length - a) + 1 ≤ n → (∀ t ∈ l, Pl.iOk t) → Ej w l p ao mb mo cp → Ps w p ao l.length cap a o be →
  Calls Tryd.prog 69 #[.pointer (some ⟨p, 0, none⟩)] w (PoX (fun x => be || x.bey o) l p cap a ao o w (Pl.pexpr n (Pl.rI l a)))
namespace Pl
theorem hasB_mem {L : List ByteArray} {s : ByteArray} {k : Nat} (h : hasB L s k = true) : s ∈ L := by
  unfold hasB at h
  obtain ⟨x, hx, e⟩ := List.any_eq_true.1 h
  rw [decide_eq_true_eq] at e
  subst e
  exact List.mem_of_mem_take hx
theorem words_op : ∀ x ∈ words, x = ⟨#[115, 101, 108, 102]⟩ ∨ isSep (sgT x.data.toList) = false := by decide
theorem signs_op : ∀ x ∈ sg18, isSep (sgT x.data.toList) = false := by decide
theorem tok_ok (s : ByteArray) (i : Nat) (h : ¬ (tokAt s i).k = 120) : tOk (tokAt s i) := by
  unfold tokAt at h ⊢
  split
  · rename_i h1
    rw [if_pos h1] at h
    simp only at h
    by_cases hn : (numS (st1 s i)).2 = true
    · simp only [if_pos hn]
      exact ⟨.inl rfl, by unfold tkT; simp [isSep]⟩
    · rw [if_neg hn] at h; exact absurd rfl h
  · rename_i h1
    rw [if_neg h1] at h
    split
    · rename_i h2
      rw [if_pos h2] at h
      simp only at h
      unfold wkS at h ⊢
      by_cases a1 : 20 < (st0 s i).size
      · rw [if_pos a1] at h; exact absurd rfl h
      · rw [if_neg a1] at h ⊢
        by_cases a2 : st0 s i = ⟨#[115, 101, 108, 102]⟩ ∨ (65 ≤ bt (st0 s i) 0 ∧ bt (st0 s i) 0 ≤ 90)
        · rw [if_pos a2]
          exact ⟨.inr (.inr (.inl rfl)), by unfold tkT; simp [isSep]⟩
        · rw [if_neg a2]
          by_cases a3 : hasB words (st0 s i) 17 = true
          · rw [if_pos a3]
            have hm := hasB_mem a3
            refine ⟨.inr (.inr (.inr (.inr rfl))), ?_⟩
            have := (words_op _ hm).resolve_left (fun e => a2 (.inl e))
            unfold tkT
            simp only
            rw [if_neg (by decide), if_neg (by decide), if_neg (by decide), if_neg (by decide), this]
            simp
          · rw [if_neg a3]
            exact ⟨.inr (.inl rfl), by unfold tkT; simp [isSep]⟩
    · rename_i h2
      rw [if_neg h2] at h
      split
      · exact ⟨.inr (.inr (.inr (.inl rfl))), by unfold tkT; simp [isSep]⟩
      · rename_i h3
        rw [if_neg h3] at h
        split
        · refine ⟨.inr (.inr (.inr (.inr rfl))), ?_⟩
          unfold tkT
          simp only
          rw [if_neg (by decide), if_neg (by decide), if_neg (by decide), if_neg (by decide)]
          decide
        · rename_i h4
          rw [if_neg h4] at h
          simp only at h
          by_cases a3 : hasB sg18 (s.extract i (i + 1)) 18 = true
          · simp only [if_pos a3]
            have := signs_op _ (hasB_mem a3)
            refine ⟨.inr (.inr (.inr (.inr rfl))), ?_⟩
            unfold tkT
            simp only
            rw [if_neg (by decide), if_neg (by decide), if_neg (by decide), if_neg (by decide), this]
            simp
          · rw [if_neg a3] at h; exact absurd rfl h
theorem lex_mem (s : ByteArray) : ∀ (n i : Nat) (t : Tok), t ∈ lexS s n i → ∃ j, t = tokAt s j
  | 0, i, t, h => by simp [lexS] at h
  | n + 1, i, t, h => by
    rw [lexS] at h
    split at h
    · simp at h
    · split at h
      · exact lex_mem s n _ t h
      · split at h
        · exact lex_mem s n _ t h
        · rcases List.mem_cons.1 h with rfl | h
          · exact ⟨i, rfl⟩
          · exact lex_mem s n _ t h
/-- the place of the first bad token -/
def fb : List Tok → Option Nat
  | [] => none
  | t :: l => if t.k = 120 then some t.pos else fb l
theorem fb_none : ∀ (l : List Tok), fb l = none → ∀ t ∈ l, ¬ t.k = 120
  | [], _, t, ht => by simp at ht
  | x :: l, h, t, ht => by
    rw [fb] at h
    split at h
    · cases h
    · rename_i hx
      rcases List.mem_cons.1 ht with rfl | ht
      · exact hx
      · exact fb_none l h t ht
theorem lx_ok {s : ByteArray} (h : fb (lx s 0) = none) : ∀ t ∈ lx s 0, tOk t := fun t ht => by
  obtain ⟨j, rfl⟩ := lex_mem s _ _ t ht
  exact tok_ok s j (fb_none _ h _ ht)
theorem fb_drop (l : List Tok) (i : Nat) (h : i < l.length) : fb (l.drop i) = if (tq l i).k = 120 then some (tq l i).pos else fb (l.drop (i + 1)) := by
  rw [List.drop_eq_getElem_cons h, fb]
  unfold tq
  rw [List.getElem?_eq_getElem h]
  rfl
/-- spec.Parse -/
def prsS (s : ByteArray) : List Tv × Int × Int :=
  if 4000 < s.size then ([], 1, 0)
  else match fb (lx s 0) with
    | some p => ([], 2, p)
    | none => match rall (2 * (lx s 0).length + 1) (rsp 0 [] ((lx s 0).map tkT)) with
      | none => ([], 3, 0)
      | some ss => if ss.all S.fine = true then (ss.map S.tv, 0, 0) else ([], 4, 0)
end Pl
namespace Pl
/-- a token of spec's as impl has it -/
def iTk (t : Tok) : Itk := if t.k = 110 then ⟨1, ⟨#[]⟩, t.v⟩ else if t.k = 119 then ⟨2, t.tx, 0⟩ else if t.k = 70 then ⟨3, t.tx, 0⟩ else if t.k = 59 then ⟨4, ⟨#[59]⟩, 0⟩ else ⟨4, t.tx, 0⟩
def sgL : List Int := [43, 45, 42, 37, 124, 60, 61, 62, 126, 40, 41, 123, 125, 58, 59, 47, 92, 64, 46]
/-- impl.tokenOf -/
def tkI (x : ByteArray) : Itk × Bool :=
  if bt x 0 = 95 ∨ digI (bt x 0) = true then (⟨1, ⟨#[]⟩, (numS x).1⟩, (numS x).2)
  else if lttI (bt x 0) = true then (⟨wk x.data.toList, x, 0⟩, decide (¬ wk x.data.toList = 0))
  else if bt x 0 = 10 then (⟨4, ⟨#[59]⟩, 0⟩, true)
  else (⟨4, x, 0⟩, decide (bt x 0 ∈ sgL))
/-- impl.tokenEnd -/
def endI (s : ByteArray) (i : Nat) : Nat :=
  if bt s i = 95 ∨ ldI (bt s i) = true then stre s (s.size - (i + 1)) (i + 1)
  else if bt s i = 58 ∧ i + 1 < s.size ∧ bt s (i + 1) = 61 then i + 2 else i + 1
theorem bt_ext {s : ByteArray} {i e k : Nat} (h : i + k < e) (he : e ≤ s.size) : bt (s.extract i e) k = bt s (i + k) := by
  unfold bt
  have hd : (s.extract i e).data = s.data.extract i e := ByteArray.data_extract
  have hs : s.data.size = s.size := rfl
  have h1 : k < (s.data.extract i e).size := by rw [Array.size_extract]; omega
  have h2 : i + k < s.data.size := by omega
  rw [hd, getElem!_pos (s.data.extract i e) k h1, getElem!_pos s.data (i + k) h2, Array.getElem_extract]
theorem stre_in (s : ByteArray) : ∀ n k j, k ≤ j → j < stre s n k → ldI (bt s j) = true
  | 0, k, j, h1, h2 => by simp only [stre] at h2; omega
  | n + 1, k, j, h1, h2 => by
    rw [stre] at h2
    split at h2
    · rename_i hx
      by_cases e : j = k
      · rw [e]; exact hx
      · exact stre_in s n (k + 1) j (by omega) h2
    · omega
theorem stre_all (s : ByteArray) : ∀ n k, (∀ j, k ≤ j → j < k + n → ldI (bt s j) = true) → stre s n k = k + n
  | 0, k, _ => rfl
  | n + 1, k, h => by
    rw [stre, if_pos (h k (Nat.le_refl _) (by omega)), stre_all s n (k + 1) (fun j h1 h2 => h j (by omega) (by omega))]
    omega
/-- a stretch is a stretch -/
theorem st1_stre (s : ByteArray) (i : Nat) (hi : i < s.size) : stre (st1 s i) ((st1 s i).size - 1) 1 = (st1 s i).size := by
  have hz := st1_size s i hi
  rw [stre_all]
  · omega
  · intro j h1 h2
    have e : st1 s i = s.extract i (stre s (s.size - (i + 1)) (i + 1)) := rfl
    rw [e, bt_ext (s := s) (i := i) (e := stre s (s.size - (i + 1)) (i + 1)) (k := j) (by omega) (by omega)]
    exact stre_in s (s.size - (i + 1)) (i + 1) (i + j) (by omega) (by omega)
theorem st0_st1 {s : ByteArray} {i : Nat} (hi : i < s.size) (h : lttI (bt s i) = true) : st0 s i = st1 s i := by
  unfold st0 st1
  rw [stre_yes hi (by simp [ldI, h])]
theorem wk_wkS {x : ByteArray} (h0 : x.size ≠ 0) (hl : lttI (bt x 0) = true) (ha : stre x (x.size - 1) 1 = x.size) : wk x.data.toList = if wkS x = 120 then 0 else if wkS x = 70 then 3 else if wkS x = 115 then 4 else 2 := by
  have hne : x.data.toList ≠ [] := fun e => h0 (by rw [sz_eq, e]; rfl)
  have hL : isL (x.data.toList.headD 0) = true := by rw [← ltt_eq, ← bt_zero x hne]; exact hl
  have hlf : ¬ lttI (bt x 0) = false := by rw [hl]; decide
  have hst : ¬ stre x (x.size - 1) 1 < x.size := by omega
  have hiff : (x = ⟨#[115, 101, 108, 102]⟩ ∨ (65 ≤ bt x 0 ∧ bt x 0 ≤ 90)) ↔ (x.data.toList = selfW ∨ isC (x.data.toList.headD 0) = true) := by rw [self_iff, bt_zero x hne, cap_eq]
  rw [wk_I x h0, wkS_eq x hne hL, ← sz_eq, if_neg hlf, if_neg hst]
  by_cases h20 : 20 < x.size
  · rw [if_pos h20, if_pos h20]; rfl
  · rw [if_neg h20, if_neg h20]
    by_cases hs : x.data.toList = selfW ∨ isC (x.data.toList.headD 0) = true
    · rw [if_pos (hiff.2 hs), if_pos hs]; rfl
    · rw [if_neg (fun h => hs (hiff.1 h)), if_neg hs]
      by_cases hm : mgs.any (fun m => decide (m.t = x.data.toList)) = true
      · rw [if_pos hm, if_pos hm]; rfl
      · rw [if_neg hm, if_neg hm]; rfl
theorem rowOf_nil {l : List UInt8} (h : mgs.any (fun m => decide (m.t = l)) = false) : rowOf l = none := by
  have := rowOf_any l
  rw [h] at this
  simpa using this
theorem mgs_cap : ∀ m ∈ mgs, ¬ (m.t = selfW ∨ isC (m.t.headD 0) = true) := by decide
theorem ten_let : ∀ x ∈ ten, isL (x.headD 0) = false := by decide
theorem word_nm {x : ByteArray} (h0 : x.size ≠ 0) (hl : lttI (bt x 0) = true) (hk : wkS x = 119 ∨ wkS x = 70) : nmT x.data.toList := by
  have hne : x.data.toList ≠ [] := fun e => h0 (by rw [sz_eq, e]; rfl)
  have hL : isL (x.data.toList.headD 0) = true := by rw [← ltt_eq, ← bt_zero x hne]; exact hl
  rw [wkS_eq x hne hL] at hk
  refine ⟨rowOf_nil ?_, fun hm => ?_, fun e => ?_⟩
  · rw [Bool.eq_false_iff]
    intro hm
    obtain ⟨m, hm1, hm2⟩ := List.any_eq_true.1 hm
    have hm2 := of_decide_eq_true hm2
    have := mgs_cap m hm1
    rw [hm2] at this
    rw [if_neg this, if_pos hm] at hk
    split at hk <;> rcases hk with h | h <;> cases h
  · have := ten_let _ hm
    rw [hL] at this
    cases this
  · rw [e] at hL
    revert hL
    decide
theorem sg18_ten : ∀ x ∈ sg18, x.data.toList ∈ ten ∨ (rowOf x.data.toList).isSome = true := by decide
theorem iTk_T {t : Tok} (h : kOk t.k) : itT (iTk t) = tkT t := by
  obtain ⟨k, tx, v, pos⟩ := t
  simp only at h
  rcases h with rfl | rfl | rfl | rfl | rfl
  · rfl
  · rfl
  · rfl
  · rfl
  · rfl
theorem iTk_ok {s : ByteArray} {i : Nat} (hi : i < s.size) (h : ¬ (tokAt s i).k = 120) : iOk (iTk (tokAt s i)) := by
  unfold tokAt at h ⊢
  split
  · rename_i h1
    rw [if_pos h1] at h
    simp only at h
    have hn : (numS (st1 s i)).2 = true := by
      by_cases hn : (numS (st1 s i)).2 = true
      · exact hn
      · rw [if_neg hn] at h; exact absurd rfl h
    rw [if_pos hn]
    exact .inl ⟨rfl, rfl⟩
  · rename_i h1
    rw [if_neg h1] at h
    split
    · rename_i h2
      rw [if_pos h2] at h
      simp only at h
      have hz := st1_size s i hi
      rw [st0_st1 hi h2] at h ⊢
      have hl : lttI (bt (st1 s i) 0) = true := by
        have e : st1 s i = s.extract i (stre s (s.size - (i + 1)) (i + 1)) := rfl
        rw [e, bt_ext (s := s) (i := i) (e := stre s (s.size - (i + 1)) (i + 1)) (k := 0) (by omega) (by omega)]
        exact h2
      have h0 : (st1 s i).size ≠ 0 := by omega
      have hw : ∀ k, wkS (st1 s i) = k → k = 120 ∨ k = 70 ∨ k = 115 ∨ k = 119 := by
        intro k e
        unfold wkS at e
        subst e
        split
        · exact .inl rfl
        · split
          · exact .inr (.inl rfl)
          · split
            · exact .inr (.inr (.inl rfl))
            · exact .inr (.inr (.inr rfl))
      rcases hw _ rfl with e | e | e | e
      · exact absurd e h
      · have hm := word_nm h0 hl (.inr e)
        rw [e]
        exact .inr (.inr (.inl ⟨rfl, hm⟩))
      · have hne : (st1 s i).data.toList ≠ [] := fun e => h0 (by rw [sz_eq, e]; rfl)
        have hL : isL ((st1 s i).data.toList.headD 0) = true := by rw [← ltt_eq, ← bt_zero _ hne]; exact hl
        have hk := wkS_eq _ hne hL
        rw [e] at hk ⊢
        refine .inr (.inr (.inr ⟨rfl, .inr (.inl ?_)⟩))
        show (rowOf (st1 s i).data.toList).isSome = true
        rw [rowOf_any]
        by_cases ha : mgs.any (fun m => decide (m.t = (st1 s i).data.toList)) = true
        · exact ha
        · rw [if_neg ha] at hk
          split at hk
          · cases hk
          · split at hk <;> cases hk
      · have hm := word_nm h0 hl (.inl e)
        rw [e]
        exact .inr (.inl ⟨rfl, hm⟩)
    · rename_i h2
      rw [if_neg h2] at h
      split
      · exact .inr (.inr (.inr ⟨rfl, .inr (.inr rfl)⟩))
      · rename_i h3
        rw [if_neg h3] at h
        split
        · exact .inr (.inr (.inr ⟨rfl, .inl (show [58, 61] ∈ ten by decide)⟩))
        · rename_i h4
          rw [if_neg h4] at h
          simp only at h
          by_cases a3 : hasB sg18 (s.extract i (i + 1)) 18 = true
          · simp only [if_pos a3]
            rcases sg18_ten _ (hasB_mem a3) with e | e
            · exact .inr (.inr (.inr ⟨rfl, .inl e⟩))
            · exact .inr (.inr (.inr ⟨rfl, .inr (.inl e)⟩))
          · rw [if_neg a3] at h; exact absurd rfl h
theorem ext_one {s : ByteArray} {i : Nat} (hi : i < s.size) : s.extract i (i + 1) = ⟨#[s.data[i]!]⟩ := by
  have h1 : (s.extract i (i + 1)).data = s.data.extract i (i + 1) := ByteArray.data_extract
  have h2 : s.data.extract i (i + 1) = #[s.data[i]!] := by
    have hs : i < s.data.size := hi
    apply Array.ext
    · simp; omega
    · intro j hj hj2
      have : j = 0 := by simpa using hj2
      subst this
      simp
      exact (getElem!_pos s.data i hs).symm
  rw [← h2, ← h1]
theorem sg_all : ∀ n : Fin 256, hasB sg18 ⟨#[UInt8.ofNat n.1]⟩ 18 = decide ((n.1 : Int) ∈ sgL ∧ (n.1 : Int) ≠ 59) := by decide
theorem sg_at {s : ByteArray} {i : Nat} (hi : i < s.size) : hasB sg18 (s.extract i (i + 1)) 18 = decide (bt s i ∈ sgL ∧ bt s i ≠ 59) := by
  rw [ext_one hi]
  have hl := UInt8.toNat_lt (s.data[i]!)
  have := sg_all ⟨(s.data[i]!).toNat, hl⟩
  simp only [UInt8.ofNat_toNat] at this
  exact this
theorem two_at {s : ByteArray} {i : Nat} (h1 : bt s i = 58) (hi : i + 1 < s.size) (h2 : bt s (i + 1) = 61) : s.extract i (i + 2) = ⟨#[58, 61]⟩ := by
  have e1 : (s.extract i (i + 2)).data = s.data.extract i (i + 2) := ByteArray.data_extract
  have e2 : s.data.extract i (i + 2) = #[58, 61] := by
    have hs : i + 1 < s.data.size := hi
    have b1 : s.data[i]'(by omega) = 58 := by
      have : (s.data[i]!).toNat = 58 := by unfold bt at h1; omega
      rw [getElem!_pos s.data i (by omega)] at this
      exact UInt8.toNat_inj.1 this
    have b2 : s.data[i + 1]'hs = 61 := by
      have : (s.data[i + 1]!).toNat = 61 := by unfold bt at h2; omega
      rw [getElem!_pos s.data (i + 1) hs] at this
      exact UInt8.toNat_inj.1 this
    apply Array.ext
    · simp; omega
    · intro j hj hj2
      have : j = 0 ∨ j = 1 := by simp at hj2; omega
      rcases this with rfl | rfl
      · simpa using b1
      · simpa using b2
  rw [← e2, ← e1]
theorem endI_tok {s : ByteArray} {i : Nat} (hi : i < s.size) : endI s i = i + (tokAt s i).tx.size := by
  have hz := st1_size s i hi
  unfold endI tokAt
  by_cases h1 : bt s i = 95 ∨ digI (bt s i) = true
  · rw [if_pos h1, if_pos (by rcases h1 with h | h <;> simp [ldI, h])]
    simp only
    omega
  · rw [if_neg h1]
    by_cases h2 : lttI (bt s i) = true
    · rw [if_pos h2, if_pos (by simp [ldI, h2]), st0_st1 hi h2]
      simp only
      omega
    · have hx : ¬ (bt s i = 95 ∨ ldI (bt s i) = true) := by
        intro h
        rcases h with h | h
        · exact h1 (.inl h)
        · rcases (by simpa [ldI] using h) with h | h
          · exact h1 (.inr h)
          · exact h2 h
      rw [if_neg h2, if_neg hx]
      by_cases h3 : bt s i = 10 ∨ bt s i = 59
      · rw [if_pos h3, if_neg (by rintro ⟨e, _⟩; rcases h3 with h | h <;> rw [h] at e <;> cases e)]
        simp only
        rw [ext_size s i _ (by omega)]
        omega
      · rw [if_neg h3]
        by_cases h4 : bt s i = 58 ∧ i + 1 < s.size ∧ bt s (i + 1) = 61
        · rw [if_pos h4, if_pos h4]; rfl
        · rw [if_neg h4, if_neg h4]
          simp only
          rw [ext_size s i _ (by omega)]
          omega
theorem endI_le {s : ByteArray} {i : Nat} (hi : i < s.size) : i + 1 ≤ endI s i ∧ endI s i ≤ s.size := by
  have := tok_size s i hi
  rw [endI_tok hi]
  omega
/-- impl's token is spec's -/
theorem tkI_tok {s : ByteArray} {i : Nat} (hi : i < s.size) : (tkI (s.extract i (endI s i))).2 = decide (¬ (tokAt s i).k = 120) ∧ (¬ (tokAt s i).k = 120 → (tkI (s.extract i (endI s i))).1 = iTk (tokAt s i)) := by
  have hz := st1_size s i hi
  have he := endI_le hi
  have h0 : bt (s.extract i (endI s i)) 0 = bt s i := bt_ext (by omega) (by omega)
  unfold tkI
  rw [h0]
  unfold tokAt
  by_cases h1 : bt s i = 95 ∨ digI (bt s i) = true
  · have hx : s.extract i (endI s i) = st1 s i := by
      unfold endI st1
      rw [if_pos (by rcases h1 with h | h <;> simp [ldI, h])]
    rw [if_pos h1, if_pos h1, hx]
    simp only
    cases hn : (numS (st1 s i)).2
    · exact ⟨by simp, fun h => absurd (by simp) h⟩
    · exact ⟨by simp, fun _ => by simp [iTk]⟩
  · rw [if_neg h1, if_neg h1]
    by_cases h2 : lttI (bt s i) = true
    · have hx : s.extract i (endI s i) = st1 s i := by
        unfold endI st1
        rw [if_pos (by simp [ldI, h2])]
      have hl : lttI (bt (st1 s i) 0) = true := by rw [← hx, h0]; exact h2
      have hw := wk_wkS (by omega) hl (st1_stre s i hi)
      rw [if_pos h2, if_pos h2, hx, st0_st1 hi h2, hw]
      simp only
      have hk : wkS (st1 s i) = 120 ∨ wkS (st1 s i) = 70 ∨ wkS (st1 s i) = 115 ∨ wkS (st1 s i) = 119 := by
        unfold wkS
        split
        · exact .inl rfl
        · split
          · exact .inr (.inl rfl)
          · split
            · exact .inr (.inr (.inl rfl))
            · exact .inr (.inr (.inr rfl))
      rcases hk with e | e | e | e <;> rw [e] <;> simp [iTk]
    · rw [if_neg h2, if_neg h2]
      have hx : ¬ (bt s i = 95 ∨ ldI (bt s i) = true) := by
        intro h
        rcases h with h | h
        · exact h1 (.inl h)
        · rcases (by simpa [ldI] using h) with h | h
          · exact h1 (.inr h)
          · exact h2 h
      by_cases h3 : bt s i = 10
      · rw [if_pos h3, if_pos (.inl h3)]
        exact ⟨by simp, fun _ => by simp [iTk]⟩
      · rw [if_neg h3]
        by_cases h5 : bt s i = 59
        · have hq : endI s i = i + 1 := by unfold endI; rw [if_neg hx, if_neg (by rw [h5]; rintro ⟨e, _⟩; cases e)]
          have hy : s.extract i (i + 1) = ⟨#[59]⟩ := by
            rw [ext_one hi]
            have : s.data[i]! = 59 := UInt8.toNat_inj.1 (by unfold bt at h5; have h : (59 : UInt8).toNat = 59 := rfl; omega)
            rw [this]
          rw [if_pos (.inr h5), hq, hy, h5]
          exact ⟨show decide ((59 : Int) ∈ sgL) = decide (¬ (59 : Int) = 120) by decide, fun _ => by simp [iTk]⟩
        · rw [if_neg (by rintro (h | h); exact h3 h; exact h5 h)]
          by_cases h4 : bt s i = 58 ∧ i + 1 < s.size ∧ bt s (i + 1) = 61
          · have hq : endI s i = i + 2 := by unfold endI; rw [if_neg hx, if_pos h4]
            rw [if_pos h4, hq, two_at h4.1 h4.2.1 h4.2.2, h4.1]
            exact ⟨show decide ((58 : Int) ∈ sgL) = decide (¬ (115 : Int) = 120) by decide, fun _ => by simp [iTk]⟩
          · have hq : endI s i = i + 1 := by unfold endI; rw [if_neg hx, if_neg h4]
            rw [if_neg h4, hq, sg_at hi]
            have hb : decide (bt s i ∈ sgL) = decide (bt s i ∈ sgL ∧ bt s i ≠ 59) := by simp [h5]
            rw [hb]
            cases hd : decide (bt s i ∈ sgL ∧ bt s i ≠ 59)
            · exact ⟨by simp, fun h => absurd (by simp) h⟩
            · exact ⟨by simp, fun _ => by simp [iTk]⟩
end Pl
end Go.Proofs.YtljkolffjjhgeaaDoor
