import Derived.Laws.Cover1
namespace Go.Proofs.YtfangdhbadmolaaGreatDoor.Pl

/-- a byte of a file's name -/
def lttI (x : Int) : Bool := decide (97 ≤ x ∧ x ≤ 122) || decide (65 ≤ x ∧ x ≤ 90)
def digI (x : Int) : Bool := decide (48 ≤ x ∧ x ≤ 57)
def byteI (x : Int) : Bool := lttI x || digI x || decide (x = 46) || decide (x = 95)
/-- byte i as a number -/
abbrev bt (s : ByteArray) (i : Nat) : Int := ((s.get! i).toNat : Int)
/-- the first n bytes are such ones -/
def bytesB (s : ByteArray) (n : Nat) : Bool := (List.range n).all fun i => byteI (bt s i)
def nameB (s : ByteArray) : Bool := decide (1 ≤ s.size ∧ s.size ≤ 40) && bytesB s s.size

abbrev Fl := ByteArray × ByteArray
def none2 : Fl := (ByteArray.empty, ByteArray.empty)
abbrev at' (fs : List Fl) (i : Nat) : Fl := fs.getD i none2
/-- name and data of file i are right -/
def oneB (fs : List Fl) (i : Nat) : Bool := nameB (at' fs i).1 && decide ((at' fs i).2.size ≤ 100000)
/-- its name lies behind the one ahead of it -/
def behindB (fs : List Fl) (i : Nat) : Bool := decide (i = 0) || Op.bytesLess (at' fs (i - 1)).1.toList (at' fs i).1.toList
def fileB (fs : List Fl) (i : Nat) : Bool := oneB fs i && behindB fs i
def diskB (fs : List Fl) : Bool := decide (fs.length ≤ 400) && (List.range fs.length).all (fileB fs)

theorem range_snoc (n : Nat) (p : Nat → Bool) : (List.range (n + 1)).all p = ((List.range n).all p && p n) := by
  rw [List.range_succ, List.all_append]; simp

theorem range_false {n k : Nat} {p : Nat → Bool} (hk : k < n) (h : p k = false) : (List.range n).all p = false := by
  cases e : (List.range n).all p
  · rfl
  · rw [List.all_eq_true] at e
    rw [e k (List.mem_range.2 hk)] at h; cases h

theorem bytesB_snoc (s : ByteArray) (n : Nat) : bytesB s (n + 1) = (bytesB s n && byteI (bt s n)) := range_snoc _ _
theorem bytesB_false {s : ByteArray} {n k : Nat} (hk : k < n) (h : byteI (bt s k) = false) : bytesB s n = false := range_false hk h

/-- what all files together weigh: one each, and the bytes of name and data -/
def weigh (fs : List Fl) : Nat := (fs.map fun f => f.1.size + f.2.size).sum

theorem take_snoc (l : List Fl) (k : Nat) (h : k < l.length) : l.take (k + 1) = l.take k ++ [at' l k] := by
  rw [List.take_succ_eq_append_getElem h]; simp [at', List.getD, h]
theorem at_mem {l : List Fl} {k : Nat} (h : k < l.length) : at' l k ∈ l := by
  have : at' l k = l[k] := by simp [at', List.getD, h]
  rw [this]; exact List.getElem_mem h
theorem weigh_snoc (l : List Fl) (k : Nat) (h : k < l.length) : weigh (l.take (k + 1)) = weigh (l.take k) + (at' l k).1.size + (at' l k).2.size := by
  rw [take_snoc l k h]; simp [weigh]; omega
theorem weigh_mem {l : List Fl} {f : Fl} (h : f ∈ l) : f.1.size + f.2.size ≤ weigh l := by
  induction l with
  | nil => cases h
  | cons y r ih =>
    simp only [weigh, List.map_cons, List.sum_cons] at ih ⊢
    rcases List.mem_cons.1 h with rfl | h
    · omega
    · have := ih h; omega

end Go.Proofs.YtfangdhbadmolaaGreatDoor.Pl
