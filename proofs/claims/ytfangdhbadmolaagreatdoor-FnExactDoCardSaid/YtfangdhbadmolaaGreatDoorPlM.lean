import Derived.Test.YtfangdhbadmolaaGreatDoorPlain
import Derived.Maps.OwnSet
namespace Go.Proofs.YtfangdhbadmolaaGreatDoor.Pl
open Go.Maps

/-- one name lies ahead of another -/
abbrev lt (a b : ByteArray) : Bool := Op.bytesLess a.toList b.toList

theorem less_before (a b : List UInt8) : Op.bytesLess a b = bytesBefore a b := by
  induction a generalizing b with
  | nil => cases b <;> rfl
  | cons x a ih =>
    cases b with
    | nil => rfl
    | cons y b => simp only [Op.bytesLess, bytesBefore, ih]

theorem less_irrefl (a : List UInt8) : Op.bytesLess a a = false := by
  induction a with
  | nil => rfl
  | cons x a ih => simp [Op.bytesLess, ih]

theorem less_trans (a b c : List UInt8) (h1 : Op.bytesLess a b = true) (h2 : Op.bytesLess b c = true) : Op.bytesLess a c = true := by
  induction a generalizing b c with
  | nil =>
    cases b with
    | nil => cases h1
    | cons y b =>
      cases c with
      | nil => cases h2
      | cons z c => rfl
  | cons x a ih =>
    cases b with
    | nil => cases h1
    | cons y b =>
      cases c with
      | nil => cases h2
      | cons z c =>
        simp only [Op.bytesLess, Bool.or_eq_true, Bool.and_eq_true, decide_eq_true_eq, beq_iff_eq] at h1 h2 ⊢
        rcases h1 with h1 | ⟨rfl, h1⟩
        · rcases h2 with h2 | ⟨rfl, h2⟩
          · exact .inl (by rw [UInt8.lt_iff_toNat_lt] at *; omega)
          · exact .inl h1
        · rcases h2 with h2 | ⟨rfl, h2⟩
          · exact .inl h2
          · exact .inr ⟨rfl, ih b c h1 h2⟩

theorem less_total (a b : List UInt8) (h1 : Op.bytesLess a b = false) (h2 : ¬ a = b) : Op.bytesLess b a = true := by
  induction a generalizing b with
  | nil =>
    cases b with
    | nil => exact absurd rfl h2
    | cons y b => cases h1
  | cons x a ih =>
    cases b with
    | nil => rfl
    | cons y b =>
      simp only [Op.bytesLess, Bool.or_eq_false_iff, Bool.and_eq_false_iff, decide_eq_false_iff_not, beq_eq_false_iff_ne] at h1
      simp only [Op.bytesLess, Bool.or_eq_true, Bool.and_eq_true, decide_eq_true_eq, beq_iff_eq]
      by_cases e : x = y
      · subst e
        refine .inr ⟨rfl, ih b ?_ (fun e => h2 (by rw [e]))⟩
        rcases h1.2 with h | h
        · exact absurd rfl h
        · exact h
      · refine .inl ?_
        have hne : ¬ x.toNat = y.toNat := fun h => e (UInt8.toNat_inj.1 h)
        have := h1.1
        rw [UInt8.lt_iff_toNat_lt] at *
        omega

theorem ba_list {a b : ByteArray} : a.toList = b.toList ↔ a = b := by
  rw [ByteArray.toList_eq, ByteArray.toList_eq]
  constructor
  · intro e; cases a; cases b; simp at e ⊢; exact e
  · intro e; rw [e]

theorem lt_irrefl (a : ByteArray) : lt a a = false := less_irrefl _
theorem lt_trans {a b c : ByteArray} (h1 : lt a b = true) (h2 : lt b c = true) : lt a c = true := less_trans _ _ _ h1 h2
theorem lt_total {a b : ByteArray} (h1 : lt a b = false) (h2 : ¬ a = b) : lt b a = true := less_total _ _ h1 (fun e => h2 (ba_list.1 e))
theorem lt_asymm {a b : ByteArray} (h1 : lt a b = true) : lt b a = false := by
  cases h : lt b a
  · rfl
  · have := lt_trans h1 h; rw [lt_irrefl] at this; cases this
theorem lt_ne {a b : ByteArray} (h1 : lt a b = true) : ¬ a = b := fun e => by rw [e, lt_irrefl] at h1; cases h1

/-- strictly rising names -/
def Srt (fs : List Fl) : Prop := fs.Pairwise fun f g => lt f.1 g.1 = true

/-- the key of a name, and a file as an entry -/
def key (s : ByteArray) : Lit := .string s.data.toList
def entry (f : Fl) : Lit × DataW Unit := (key f.1, .lit (.string f.2.data.toList))
def mapOf (fs : List Fl) : DataW Unit := .map (fs.map entry)

theorem key_before (a b : ByteArray) : (key a).before (key b) = lt a b := by
  show bytesBefore a.data.toList b.data.toList = _
  rw [← less_before, lt, ByteArray.toList_eq, ByteArray.toList_eq]
theorem key_same (a b : ByteArray) : (key a).sameKey (key b) = decide (a = b) := by
  show (a.data.toList == b.data.toList) = _
  by_cases h : a = b
  · subst h; simp
  · rw [decide_eq_false h]
    refine beq_eq_false_iff_ne.2 (fun e => h ?_)
    cases a; cases b; simp at e ⊢; exact e

/-- with a file, in the place of one of its name -/
def withF (fs : List Fl) (f : Fl) : List Fl := fs.takeWhile (fun g => lt g.1 f.1) ++ f :: fs.filter (fun g => !(lt g.1 f.1 || decide (g.1 = f.1)))
/-- without a file -/
def withoutF (fs : List Fl) (n : ByteArray) : List Fl := fs.filter (fun g => !decide (g.1 = n))
def hasF (fs : List Fl) (n : ByteArray) : Bool := fs.any (fun g => decide (g.1 = n))
/-- the data under a name, nothing where there is none -/
def dataF (fs : List Fl) (n : ByteArray) : ByteArray := match fs.find? (fun g => decide (g.1 = n)) with | some g => g.2 | none => ByteArray.empty

theorem all_behind {f g : Fl} {r : List Fl} (h : Srt (g :: r)) (hfg : lt f.1 g.1 = true ∨ f.1 = g.1) : ∀ x ∈ r, lt f.1 x.1 = true := by
  intro x hx
  have := (List.pairwise_cons.1 h).1 x hx
  rcases hfg with h1 | h1
  · exact lt_trans h1 this
  · rw [h1]; exact this

theorem filter_behind {f : Fl} {r : List Fl} (h : ∀ x ∈ r, lt f.1 x.1 = true) : r.filter (fun g => !(lt g.1 f.1 || decide (g.1 = f.1))) = r := by
  refine List.filter_eq_self.2 fun x hx => ?_
  have h1 := h x hx
  have h2 := lt_asymm h1
  have h3 : ¬ x.1 = f.1 := fun e => lt_ne h1 e.symm
  simp [h2, h3]

theorem put_eq (fs : List Fl) (f : Fl) (h : Srt fs) : (mapOf fs).put (key f.1) (.lit (.string f.2.data.toList)) = mapOf (withF fs f) := by
  show DataW.map (DataW.insert (key f.1, .lit (.string f.2.data.toList)) ((fs.map entry).filter fun p => !p.1.sameKey (key f.1))) = .map _
  congr 1
  rw [List.filter_map]
  have e : ((fun p : Lit × DataW Unit => !p.1.sameKey (key f.1)) ∘ entry) = fun g : Fl => !decide (g.1 = f.1) := by
    funext g
    show (!(key g.1).sameKey (key f.1)) = _
    rw [key_same]
  rw [e]
  induction fs with
  | nil => rfl
  | cons g r ih =>
    have hr : Srt r := (List.pairwise_cons.1 h).2
    by_cases h1 : lt g.1 f.1 = true
    · have h2 : ¬ g.1 = f.1 := lt_ne h1
      have e1 : (g :: r).filter (fun g => !decide (g.1 = f.1)) = g :: r.filter (fun g => !decide (g.1 = f.1)) := by simp [h2]
      have e2 : withF (g :: r) f = g :: withF r f := by simp [withF, h1]
      rw [e1, e2, List.map_cons, List.map_cons, ← ih hr]
      show DataW.insert _ (entry g :: _) = _
      have hb : (key f.1).before (entry g).1 = false := by show (key f.1).before (key g.1) = false; rw [key_before]; exact lt_asymm h1
      rw [DataW.insert]
      simp only [hb]
      rfl
    · have h1' : lt g.1 f.1 = false := by simpa using h1
      by_cases h2 : g.1 = f.1
      · have hall := all_behind (f := f) h (.inr h2.symm)
        have e0 : r.filter (fun g => !decide (g.1 = f.1)) = r := List.filter_eq_self.2 fun x hx => by
          have : ¬ x.1 = f.1 := fun e => lt_ne (hall x hx) e.symm
          simp [this]
        have e1 : (g :: r).filter (fun g => !decide (g.1 = f.1)) = r := by simp only [List.filter_cons, h2, decide_true, Bool.not_true]; exact e0
        have e2 : withF (g :: r) f = f :: r := by
          unfold withF
          rw [List.takeWhile_cons, h1']
          simp only [List.filter_cons, h2, decide_true, Bool.or_true, Bool.not_true]
          rw [filter_behind hall]; rfl
        rw [e1, e2]
        cases r with
        | nil => rfl
        | cons x r =>
          have hb : (key f.1).before (key x.1) = true := by rw [key_before]; exact hall x (List.mem_cons_self ..)
          rw [List.map_cons, List.map_cons, List.map_cons, DataW.insert]
          simp only [entry, hb, if_true]
      · have h3 := lt_total h1' h2
        have hall := all_behind (f := f) h (.inl h3)
        have e0 : r.filter (fun g => !decide (g.1 = f.1)) = r := List.filter_eq_self.2 fun x hx => by
          have : ¬ x.1 = f.1 := fun e => lt_ne (hall x hx) e.symm
          simp [this]
        have e1 : (g :: r).filter (fun g => !decide (g.1 = f.1)) = g :: r := by simp only [List.filter_cons, h2, decide_false, Bool.not_false, if_true]; rw [e0]
        have e2 : withF (g :: r) f = f :: g :: r := by
          unfold withF
          rw [List.takeWhile_cons, h1']
          simp only [List.filter_cons, h1', h2, decide_false, Bool.or_false, Bool.not_false, if_true]
          rw [filter_behind hall]; rfl
        rw [e1, e2]
        have hb : (key f.1).before (key g.1) = true := by rw [key_before]; exact h3
        rw [List.map_cons, List.map_cons, List.map_cons, DataW.insert]
        simp only [entry, hb, if_true]

theorem del_eq (fs : List Fl) (n : ByteArray) : (mapOf fs).del (key n) = mapOf (withoutF fs n) := by
  show DataW.map ((fs.map entry).filter fun p => !p.1.sameKey (key n)) = .map _
  congr 1
  rw [List.filter_map]
  have e : ((fun p : Lit × DataW Unit => !p.1.sameKey (key n)) ∘ entry) = fun g : Fl => !decide (g.1 = n) := by
    funext g
    show (!(key g.1).sameKey (key n)) = _
    rw [key_same]
  rw [e]; rfl

theorem has_eq' (fs : List Fl) (n : ByteArray) : Maps.has (mapOf fs) (key n) = hasF fs n := by
  show (fs.map entry).any (fun p => p.1.sameKey (key n)) = _
  rw [List.any_map]
  have e : ((fun p : Lit × DataW Unit => p.1.sameKey (key n)) ∘ entry) = fun g : Fl => decide (g.1 = n) := by
    funext g
    show (key g.1).sameKey (key n) = _
    rw [key_same]
  rw [e]; rfl

theorem atKey_eq (fs : List Fl) (n : ByteArray) : (mapOf fs).atKey (key n) (.lit (.string [])) = .lit (.string (dataF fs n).data.toList) := by
  unfold mapOf DataW.atKey
  simp only
  rw [List.find?_map]
  have e : ((fun p : Lit × DataW Unit => p.1.sameKey (key n)) ∘ entry) = fun g : Fl => decide (g.1 = n) := by
    funext g
    show (key g.1).sameKey (key n) = _
    rw [key_same]
  rw [e]
  unfold dataF
  cases fs.find? (fun g => decide (g.1 = n)) <;> rfl

theorem size_eq' (fs : List Fl) : Maps.size (mapOf fs) = fs.length := by
  show (fs.map entry).length = _
  simp

theorem tw_imp {α : Type} {p : α → Bool} {x : α} : ∀ {l : List α}, x ∈ l.takeWhile p → p x = true
  | [], h => by cases h
  | y :: r, h => by
    rw [List.takeWhile_cons] at h
    by_cases hy : p y = true
    · rw [if_pos hy] at h
      rcases List.mem_cons.1 h with rfl | h
      · exact hy
      · exact tw_imp h
    · rw [if_neg hy] at h
      cases h

theorem withF_mem {fs : List Fl} {f x : Fl} (h : x ∈ withF fs f) : x = f ∨ (x ∈ fs ∧ (lt x.1 f.1 = true ∨ lt f.1 x.1 = true)) := by
  unfold withF at h
  rcases List.mem_append.1 h with h | h
  · have h2 := tw_imp h
    exact .inr ⟨(List.takeWhile_sublist _).mem h, .inl h2⟩
  · rcases List.mem_cons.1 h with h | h
    · exact .inl h
    · obtain ⟨h1, h2⟩ := List.mem_filter.1 h
      simp only [Bool.not_eq_true', Bool.or_eq_false_iff, decide_eq_false_iff_not] at h2
      exact .inr ⟨h1, .inr (lt_total h2.1 h2.2)⟩

theorem withF_srt {fs : List Fl} (f : Fl) (h : Srt fs) : Srt (withF fs f) := by
  unfold withF Srt
  rw [List.pairwise_append]
  refine ⟨h.sublist (List.takeWhile_sublist _), ?_, ?_⟩
  · rw [List.pairwise_cons]
    refine ⟨?_, h.sublist List.filter_sublist⟩
    intro x hx
    obtain ⟨h1, h2⟩ := List.mem_filter.1 hx
    simp only [Bool.not_eq_true', Bool.or_eq_false_iff, decide_eq_false_iff_not] at h2
    exact lt_total h2.1 h2.2
  · intro x hx y hy
    have h1 := tw_imp hx
    rcases List.mem_cons.1 hy with rfl | hy
    · exact h1
    · obtain ⟨_, h2⟩ := List.mem_filter.1 hy
      simp only [Bool.not_eq_true', Bool.or_eq_false_iff, decide_eq_false_iff_not] at h2
      exact lt_trans h1 (lt_total h2.1 h2.2)

theorem withoutF_srt {fs : List Fl} (n : ByteArray) (h : Srt fs) : Srt (withoutF fs n) := h.sublist List.filter_sublist

theorem srt_of_disk {fs : List Fl} (h : diskB fs = true) : Srt fs := by
  simp only [diskB, Bool.and_eq_true, List.all_eq_true] at h
  have hb : ∀ i, 0 < i → i < fs.length → lt (at' fs (i - 1)).1 (at' fs i).1 = true := by
    intro i h0 hi
    have := h.2 i (List.mem_range.2 hi)
    simp only [fileB, Bool.and_eq_true, behindB, Bool.or_eq_true, decide_eq_true_eq] at this
    rcases this.2 with h | h
    · omega
    · exact h
  have key : ∀ d i, i + d + 1 < fs.length → lt (at' fs i).1 (at' fs (i + d + 1)).1 = true := by
    intro d
    induction d with
    | zero => intro i hi; have := hb (i + 1) (by omega) hi; simpa using this
    | succ d ih =>
      intro i hi
      have h1 := ih i (by omega)
      have h2 := hb (i + d + 1 + 1) (by omega) (by omega)
      exact lt_trans h1 h2
  unfold Srt
  rw [List.pairwise_iff_getElem]
  intro i j hi hj hij
  have := key (j - i - 1) i (by omega)
  have e : i + (j - i - 1) + 1 = j := by omega
  rw [e] at this
  have e1 : at' fs i = fs[i] := by simp [at', List.getD, hi]
  have e2 : at' fs j = fs[j] := by simp [at', List.getD, hj]
  rw [e1, e2] at this
  exact this

end Go.Proofs.YtfangdhbadmolaaGreatDoor.Pl
