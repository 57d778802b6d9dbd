import Derived.Test.YtfangdhbadmolaaGreatDoorPlM
namespace Go.Proofs.YtfangdhbadmolaaGreatDoor.Pl

/-- an act -/
structure Ac where
  kind : Int
  name : ByteArray
  to : ByteArray
  data : ByteArray
deriving DecidableEq

def actB (a : Ac) : Bool :=
  if a.kind = 1 ∨ a.kind = 4 then nameB a.name && decide (a.to.size = 0) && decide (a.data.size = 0)
  else if a.kind = 2 then nameB a.name && decide (a.to.size = 0)
  else if a.kind = 3 then nameB a.name && nameB a.to && decide (a.data.size = 0)
  else false

/-- what an act is refused for -/
def refB (fs : List Fl) (a : Ac) : Int :=
  if actB a = false then 2
  else if hasF fs a.name = false ∧ ¬ a.kind = 1 then 3
  else if hasF fs a.name = false ∧ fs.length = 400 then 4
  else if 100000 < (dataF fs a.name).size + a.data.size then 4
  else 0

/-- what an act does that is not refused -/
def effF (fs : List Fl) (a : Ac) : List Fl :=
  if a.kind = 1 then withF fs (a.name, ByteArray.empty)
  else if a.kind = 2 then withF fs (a.name, dataF fs a.name ++ a.data)
  else if a.kind = 3 then withF (withoutF fs a.name) (a.to, dataF fs a.name)
  else withoutF fs a.name

def doM (fs : List Fl) (a : Ac) : List Fl := if refB fs a = 0 then effF fs a else fs

/-- how many acts are done, and what they leave -/
def playN : List Fl → List Ac → Nat
  | _, [] => 0
  | fs, a :: r => if refB fs a = 0 then playN (effF fs a) r + 1 else 0
def playF : List Fl → List Ac → List Fl
  | fs, [] => fs
  | fs, a :: r => if refB fs a = 0 then playF (effF fs a) r else fs

/-- a valid disk, as far as the acts look -/
structure Vd (fs : List Fl) : Prop where
  srt : Srt fs
  len : fs.length ≤ 400
  data : ∀ f ∈ fs, f.2.size ≤ 100000

theorem vd_of_disk {fs : List Fl} (h : diskB fs = true) : Vd fs := by
  refine ⟨srt_of_disk h, ?_, ?_⟩
  · simp only [diskB, Bool.and_eq_true, decide_eq_true_eq] at h
    exact h.1
  · intro f hf
    obtain ⟨i, hi, e⟩ := List.getElem_of_mem hf
    simp only [diskB, Bool.and_eq_true, List.all_eq_true] at h
    have := h.2 i (List.mem_range.2 hi)
    simp only [fileB, oneB, Bool.and_eq_true, decide_eq_true_eq] at this
    have e1 : at' fs i = f := by rw [← e]; simp [at', List.getD, hi]
    rw [e1] at this
    exact this.1.2

theorem data_le {fs : List Fl} (h : Vd fs) (n : ByteArray) : (dataF fs n).size ≤ 100000 := by
  unfold dataF
  cases e : fs.find? (fun g => decide (g.1 = n)) with
  | none => simp
  | some g => exact h.data g (List.mem_of_find?_eq_some e)

theorem has_mem {fs : List Fl} {n : ByteArray} : hasF fs n = true ↔ ∃ f ∈ fs, f.1 = n := by
  simp [hasF]

theorem data_none {fs : List Fl} {n : ByteArray} (h : hasF fs n = false) : dataF fs n = ByteArray.empty := by
  unfold dataF
  have : fs.find? (fun g => decide (g.1 = n)) = none := by
    rw [List.find?_eq_none]
    intro x hx
    simp only [hasF, List.any_eq_false] at h
    exact h x hx
  rw [this]

theorem filter_ne_len {fs : List Fl} (h : Srt fs) (n : ByteArray) : (fs.filter (fun g => !decide (g.1 = n))).length + (if hasF fs n = true then 1 else 0) = fs.length := by
  induction fs with
  | nil => rfl
  | cons g r ih =>
    have hr : Srt r := (List.pairwise_cons.1 h).2
    have ih := ih hr
    by_cases hg : g.1 = n
    · have hno : hasF r n = false := by
        cases e : hasF r n
        · rfl
        · obtain ⟨x, hx, e1⟩ := has_mem.1 e
          have := (List.pairwise_cons.1 h).1 x hx
          rw [e1, ← hg, lt_irrefl] at this; cases this
      rw [hno] at ih
      have e2 : hasF (g :: r) n = true := by simp [hasF, hg]
      rw [e2]
      simp only [List.filter_cons, hg, decide_true, Bool.not_true, List.length_cons] at ih ⊢
      simp at ih ⊢
      omega
    · have e2 : hasF (g :: r) n = hasF r n := by simp [hasF, hg]
      rw [e2]
      simp only [List.filter_cons, hg, decide_false, Bool.not_false, List.length_cons, if_true] at ih ⊢
      omega

theorem withF_len {fs : List Fl} (f : Fl) (h : Srt fs) : (withF fs f).length + (if hasF fs f.1 = true then 1 else 0) = fs.length + 1 := by
  have e := congrArg (fun D => match D with | DataW.map es => es.length | _ => 0) (put_eq fs f h)
  have h1 : (withF fs f).length = (fs.filter (fun g => !decide (g.1 = f.1))).length + 1 := by
    have e1 : (match mapOf (withF fs f) with | DataW.map es => es.length | _ => 0) = (withF fs f).length := by simp [mapOf]
    rw [← e1, ← e]
    show (DataW.insert _ ((fs.map entry).filter _)).length = _
    rw [length_insert, List.filter_map, List.length_map]
    congr 2
    have e : ((fun p : Lit × DataW Unit => !p.1.sameKey (key f.1)) ∘ entry) = fun g : Fl => !decide (g.1 = f.1) := by
      funext g
      show (!(key g.1).sameKey (key f.1)) = _
      rw [key_same]
    rw [e]
  have := filter_ne_len h f.1
  omega

theorem withoutF_len {fs : List Fl} (n : ByteArray) (h : Srt fs) : (withoutF fs n).length + (if hasF fs n = true then 1 else 0) = fs.length := filter_ne_len h n

theorem eff_vd {fs : List Fl} {a : Ac} (h : Vd fs) (hr : refB fs a = 0) : Vd (effF fs a) := by
  have h1 : ¬ actB a = false := fun e => by simp [refB, e] at hr
  have h2 : ¬ (hasF fs a.name = false ∧ ¬ a.kind = 1) := fun e => by simp [refB, h1, e] at hr
  have h3 : ¬ (hasF fs a.name = false ∧ fs.length = 400) := fun e => by
    have : refB fs a = 4 := by simp only [refB, if_neg h1, if_neg h2, if_pos e]
    rw [this] at hr; cases hr
  have h4 : ¬ 100000 < (dataF fs a.name).size + a.data.size := fun e => by
    have : refB fs a = 4 := by simp only [refB, if_neg h1, if_neg h2, if_neg h3, if_pos e]
    rw [this] at hr; cases hr
  have hlen := h.len
  unfold effF
  split
  · refine ⟨withF_srt _ h.srt, ?_, ?_⟩
    · have := withF_len (a.name, ByteArray.empty) h.srt
      cases e : hasF fs a.name
      · have : ¬ fs.length = 400 := fun e2 => h3 ⟨e, e2⟩
        simp only [e] at *
        simp at *
        omega
      · simp only [e] at *
        simp at *
        omega
    · intro f hf
      rcases withF_mem hf with rfl | ⟨hf, _⟩
      · simp
      · exact h.data f hf
  split
  · rename_i hk1 hk2
    refine ⟨withF_srt _ h.srt, ?_, ?_⟩
    · have := withF_len (a.name, dataF fs a.name ++ a.data) h.srt
      cases e : hasF fs a.name
      · exact absurd ⟨e, hk1⟩ h2
      · simp only [e] at *
        simp at *
        omega
    · intro f hf
      rcases withF_mem hf with rfl | ⟨hf, _⟩
      · simp only [ByteArray.size_append]; omega
      · exact h.data f hf
  split
  · rename_i hk1 hk2 hk3
    have hs := withoutF_srt a.name h.srt
    refine ⟨withF_srt _ hs, ?_, ?_⟩
    · have l1 := withoutF_len a.name h.srt
      have l2 := withF_len (a.to, dataF fs a.name) hs
      cases e : hasF fs a.name
      · exact absurd ⟨e, hk1⟩ h2
      · simp only [e] at l1
        simp at l1
        split at l2 <;> omega
    · intro f hf
      rcases withF_mem hf with rfl | ⟨hf, _⟩
      · exact data_le h _
      · exact h.data f (List.mem_filter.1 hf).1
  · refine ⟨withoutF_srt _ h.srt, ?_, ?_⟩
    · have l1 := withoutF_len a.name h.srt
      split at l1 <;> omega
    · intro f hf
      exact h.data f (List.mem_filter.1 hf).1

end Go.Proofs.YtfangdhbadmolaaGreatDoor.Pl
