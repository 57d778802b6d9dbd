import Derived.Test.YtbmkbplgncoapaaDoorLr
import Derived.Test.YtbmkbplgncoapaaDoorTi
namespace Go.Proofs.YtbmkbplgncoapaaDoor
open Go.RowKit
set_option linter.unusedVariables false
namespace Pl
/-- the line of verdict i, without its end -/
def lin (i : Nat) (v : Vt) : List UInt8 := [116, 101, 115, 116, 32] ++ Lib.itoa ((i : Int) + 1) ++ [32] ++ wordL v.1 v.2
theorem lineL_eq (i : Nat) (v : Vt) : lineL i v = lin i v ++ [10] := rfl
theorem word_bytes {v : Vt} (h : vB v.1 v.2 = true) : ∀ b ∈ wordL v.1 v.2, ¬ b.toNat = 10 := by
  intro b hb
  unfold wordL at hb
  have lit : ∀ l : List UInt8, l.all (fun x => ! (x.toNat == 10)) = true → ∀ x ∈ l, ¬ x.toNat = 10 := fun l hl x hx => by
    have := List.all_eq_true.1 hl x hx
    simpa using this
  split at hb
  · rcases List.mem_append.1 hb with hb | hb
    · exact lit _ (by decide) b hb
    · have := itoa_bytes _ b hb; omega
  · split at hb
    · exact lit _ (by decide) b hb
    · split at hb
      · exact lit _ (by decide) b hb
      · split at hb <;> exact lit _ (by decide) b hb
theorem no10 {l : List UInt8} (h : ∀ b ∈ l, ¬ b.toNat = 10) : (10 : UInt8) ∉ l := fun hm => h 10 hm rfl
theorem lin_no10 {i : Nat} {v : Vt} (h : vB v.1 v.2 = true) : (10 : UInt8) ∉ lin i v := by
  apply no10
  intro b hb
  unfold lin at hb
  have lit : ∀ l : List UInt8, l.all (fun x => ! (x.toNat == 10)) = true → ∀ x ∈ l, ¬ x.toNat = 10 := fun l hl x hx => by
    have := List.all_eq_true.1 hl x hx
    simpa using this
  rcases List.mem_append.1 hb with hb | hb
  · rcases List.mem_append.1 hb with hb | hb
    · rcases List.mem_append.1 hb with hb | hb
      · exact lit _ (by decide) b hb
      · have := itoa_bytes _ b hb; omega
    · exact lit _ (by decide) b hb
  · exact word_bytes h b hb
theorem id_bytes {id : ByteArray} (h : idB id = true) : ∀ b ∈ id.data.toList, ¬ b.toNat = 10 := by
  intro b hb
  unfold idB idBy at h
  rw [Bool.and_eq_true, List.all_eq_true] at h
  obtain ⟨k, hk⟩ := List.getElem?_of_mem hb
  have hlt := (List.getElem?_eq_some_iff.1 hk).1
  have := h.2 k (List.mem_range.2 (by rw [Array.length_toList] at hlt; exact hlt))
  unfold btI at this
  rw [List.getD_eq_getElem?_getD, hk] at this
  simp only [Option.getD_some, chI, digI, lttI, Bool.or_eq_true, decide_eq_true_eq] at this
  omega
/-- the heads of lines -/
def stu : List UInt8 := [115, 116, 117, 100, 101, 110, 116, 32]
def foot0 (p n : Nat) : List UInt8 := [112, 97, 115, 115, 101, 100, 32] ++ Lib.itoa p ++ [32, 111, 102, 32] ++ Lib.itoa n
theorem foot_no10 (p n : Nat) : (10 : UInt8) ∉ foot0 p n := by
  apply no10
  intro b hb
  unfold foot0 at hb
  have lit : ∀ l : List UInt8, l.all (fun x => ! (x.toNat == 10)) = true → ∀ x ∈ l, ¬ x.toNat = 10 := fun l hl x hx => by
    have := List.all_eq_true.1 hl x hx
    simpa using this
  rcases List.mem_append.1 hb with hb | hb
  · rcases List.mem_append.1 hb with hb | hb
    · rcases List.mem_append.1 hb with hb | hb
      · exact lit _ (by decide) b hb
      · have := itoa_bytes _ b hb; omega
    · exact lit _ (by decide) b hb
  · have := itoa_bytes _ b hb; omega
def lins (vs : List Vt) (k : Nat) : List (List UInt8) := (List.range k).map fun i => lin i (at2 vs i)
theorem cuts_lns {vs : List Vt} (h : vsAll vs = true) : ∀ k, k ≤ vs.length → ∀ R, cuts 10 (lnsK vs k ++ R) = lins vs k ++ cuts 10 R := by
  intro k
  induction k with
  | zero => intro _ R; rfl
  | succ k ih =>
    intro hk R
    have e : lnsK vs (k + 1) ++ R = lnsK vs k ++ (lin k (at2 vs k) ++ 10 :: R) := by
      rw [lnsK, lineL_eq]
      simp
    rw [e, ih (by omega), cuts_app 10 _ _ (lin_no10 (vsAll_at h (by omega)))]
    unfold lins
    rw [List.range_succ, List.map_append, List.append_assoc]
    rfl
/-- a text is this report -/
structure Acc (t : List UInt8) (id : ByteArray) (vs : List Vt) : Prop where
  okI : idB id = true
  okV : vsB vs = true
  eq : repL id.data.toList vs = t
theorem Acc.all {t : List UInt8} {id : ByteArray} {vs : List Vt} (h : Acc t id vs) : vs.length ≤ 20 ∧ vsAll vs = true := by
  have := h.okV
  unfold vsB at this
  rw [Bool.and_eq_true] at this
  exact ⟨of_decide_eq_true this.1, this.2⟩
theorem Acc.cuts {t : List UInt8} {id : ByteArray} {vs : List Vt} (h : Acc t id vs) : cuts 10 t = (stu ++ id.data.toList) :: (lins vs vs.length ++ [foot0 (passK vs vs.length) vs.length, []]) := by
  rw [← h.eq]
  have e : repL id.data.toList vs = (stu ++ id.data.toList) ++ 10 :: (lnsK vs vs.length ++ (foot0 (passK vs vs.length) vs.length ++ 10 :: [])) := by
    unfold repL headL footL foot0 stu
    simp
  rw [e, cuts_app 10 _ _, cuts_lns h.all.2 _ (Nat.le_refl _), cuts_app 10 _ _ (foot_no10 _ _)]
  · rfl
  · apply no10
    intro b hb
    rcases List.mem_append.1 hb with hb | hb
    · have := List.all_eq_true.1 (show stu.all (fun x => ! (x.toNat == 10)) = true by decide) b hb
      simpa using this
    · exact id_bytes h.okI b hb
theorem word_inj {v v' : Vt} (h : vB v.1 v.2 = true) (h' : vB v'.1 v'.2 = true) (e : wordL v.1 v.2 = wordL v'.1 v'.2) : v = v' := by
  obtain ⟨k, c⟩ := v
  obtain ⟨k', c'⟩ := v'
  simp only at h h' e
  have a := vB_range h
  have b := vB_range h'
  have c0 : ∀ {k c : Int}, vB k c = true → ¬ k = 3 → c = 0 := fun {k c} h h3 => by
    unfold vB at h
    rw [if_neg h3, Bool.and_eq_true] at h
    exact of_decide_eq_true h.2
  by_cases h3 : k = 3
  · by_cases h3' : k' = 3
    · subst h3
      subst h3'
      unfold wordL at e
      rw [if_pos rfl, if_pos rfl] at e
      have e2 := List.append_cancel_left e
      have r := a.2.2 rfl
      have r' := b.2.2 rfl
      have p := atoi_itoa c (by omega) (by omega)
      have p' := atoi_itoa c' (by omega) (by omega)
      rw [e2, p'] at p
      injection p with p
      rw [p]
    · exfalso
      subst h3
      unfold wordL at e
      rw [if_pos rfl, if_neg h3'] at e
      split at e
      · simp at e
      · split at e
        · simp at e
        · split at e <;> simp at e
  · have z := c0 h h3
    by_cases h3' : k' = 3
    · exfalso
      subst h3'
      unfold wordL at e
      rw [if_neg h3, if_pos rfl] at e
      split at e
      · simp at e
      · split at e
        · simp at e
        · split at e <;> simp at e
    · have z' := c0 h' h3'
      subst z
      subst z'
      have q : k = 1 ∨ k = 2 ∨ k = 4 ∨ k = 5 := by omega
      have q' : k' = 1 ∨ k' = 2 ∨ k' = 4 ∨ k' = 5 := by omega
      rcases q with rfl | rfl | rfl | rfl <;> rcases q' with rfl | rfl | rfl | rfl <;> first
      | rfl
      | (exfalso; revert e; decide)
theorem lin_inj {i : Nat} {v v' : Vt} (h : vB v.1 v.2 = true) (h' : vB v'.1 v'.2 = true) (e : lin i v = lin i v') : v = v' := by
  unfold lin at e
  exact word_inj h h' (List.append_cancel_left e)
theorem lins_get {vs : List Vt} {k : Nat} (hk : k < vs.length) : (lins vs vs.length)[k]? = some (lin k (at2 vs k)) := by
  unfold lins
  rw [List.getElem?_map, List.getElem?_range hk]
  rfl
theorem ext2 {vs vs' : List Vt} (hl : vs.length = vs'.length) (h : ∀ k, k < vs.length → at2 vs k = at2 vs' k) : vs = vs' := by
  apply List.ext_getElem hl
  intro k h1 h2
  have := h k h1
  simpa [at2, List.getD, h1, h2] using this
theorem acc_fun {t : List UInt8} {id id' : ByteArray} {vs vs' : List Vt} (h : Acc t id vs) (h' : Acc t id' vs') : id = id' ∧ vs = vs' := by
  have e := h.cuts.symm.trans h'.cuts
  simp only [List.cons.injEq] at e
  have e1 := List.append_cancel_left e.1
  have hid : id = id' := by
    apply ByteArray.ext
    exact Array.toList_inj.1 e1
  have hl : vs.length = vs'.length := by
    have := congrArg List.length e.2
    simp [lins] at this
    omega
  refine ⟨hid, ext2 hl fun k hk => ?_⟩
  have h2 := congrArg (fun l => l[k]?) e.2
  rw [List.getElem?_append_left (by simp [lins]; omega), List.getElem?_append_left (by simp [lins]; omega), lins_get hk, lins_get (by omega)] at h2
  exact lin_inj (vsAll_at h.all.2 hk) (vsAll_at h'.all.2 (by omega)) (Option.some.inj h2)
theorem acc_len {t : List UInt8} {id : ByteArray} {vs : List Vt} (h : Acc t id vs) : t.length ≤ 2000 := by
  rw [← h.eq]
  have h1 := lns_len h.all.2 _ (Nat.le_refl _) h.all.1
  have h2 := itoa_short (n := passK vs vs.length) (by have := passK_le vs vs.length; have := h.all.1; omega)
  have h3 := itoa_short (n := vs.length) (by have := h.all.1; omega)
  have h4 : id.data.toList.length ≤ 20 := by
    have := h.okI
    unfold idB at this
    rw [Bool.and_eq_true] at this
    rw [Array.length_toList]
    exact (of_decide_eq_true this.1).2
  have h5 := h.all.1
  unfold repL headL footL
  simp only [List.length_append, List.length_cons, List.length_nil]
  omega
open Classical in
/-- what a text is read as -/
noncomputable def rdR (t : List UInt8) : Option (ByteArray × List Vt) := if h : ∃ p : ByteArray × List Vt, Acc t p.1 p.2 then some h.choose else none
theorem rdR_yes {t : List UInt8} {id : ByteArray} {vs : List Vt} (h : Acc t id vs) : rdR t = some (id, vs) := by
  have hp : ∃ p : ByteArray × List Vt, Acc t p.1 p.2 := ⟨(id, vs), h⟩
  unfold rdR
  rw [dif_pos hp]
  have e := acc_fun hp.choose_spec h
  rw [← e.1, ← e.2]
theorem rdR_no {t : List UInt8} (h : ∀ id vs, ¬ Acc t id vs) : rdR t = none := by
  unfold rdR
  rw [dif_neg (fun ⟨p, hp⟩ => h _ _ hp)]
end Pl
end Go.Proofs.YtbmkbplgncoapaaDoor
