import Derived.Test.YtmobjomebmipdaaPlain4
namespace Go.Proofs.Ytmobjomebmipdaa.Pl
def rowAt (da : List Int) (s r : Nat) : List Int := (da.drop (r * s)).take s
/-- rows r-1, r-2, .. 0 -/
def rowsDown (da : List Int) (s : Nat) : Nat → List (List Int)
  | 0 => []
  | r + 1 => rowAt da s r :: rowsDown da s r
/-- row by row into an accumulator -/
def foldL (F : Int → Int → Int × Int) : List (List Int) → List Int → Int × List Int
  | [], acc => (0, acc)
  | xs :: rest, acc => if firstG (pairF F) (xs.zip acc) = 0 then foldL F rest ((xs.zip acc).map (fun p => (pairF F p).1)) else (firstG (pairF F) (xs.zip acc), [])
def foldM (F : Int → Int → Int × Int) (da : List Int) (s n : Nat) : Int × List Int := foldL F (rowsDown da s (n - 1)) (rowAt da s (n - 1))
theorem rowAt_len {da : List Int} {s r : Nat} (h : (r + 1) * s ≤ da.length) : (rowAt da s r).length = s := by
  unfold rowAt
  rw [List.length_take, List.length_drop]
  rw [Nat.succ_mul] at h
  omega
theorem rowAt_mem {da : List Int} {s r : Nat} {x : Int} (h : x ∈ rowAt da s r) : x ∈ da := List.mem_of_mem_drop (List.mem_of_mem_take h)
/-- the first j done in place -/
def upZ (F : Int → Int → Int × Int) (xs acc : List Int) (j : Nat) : List Int := (zipT xs acc j).map (fun p => (pairF F p).1) ++ acc.drop j
theorem upZ_zero (F : Int → Int → Int × Int) (xs acc : List Int) : upZ F xs acc 0 = acc := by simp [upZ, zipT]
theorem upZ_all (F : Int → Int → Int × Int) (xs acc : List Int) (j : Nat) (h : xs.length ≤ j) (h' : acc.length = xs.length) : upZ F xs acc j = (xs.zip acc).map (fun p => (pairF F p).1) := by
  unfold upZ
  rw [zipT_all _ _ _ h, List.drop_of_length_le (by omega), List.append_nil]
theorem upZ_len (F : Int → Int → Int × Int) (xs acc : List Int) (j : Nat) (h : j ≤ xs.length) (h' : acc.length = xs.length) : (upZ F xs acc j).length = xs.length := by simp [upZ, zipT]; omega
theorem upZ_get (F : Int → Int → Int × Int) (xs acc : List Int) (j : Nat) (h : j < xs.length) (h' : acc.length = xs.length) : (upZ F xs acc j)[j]? = some (acc.getD j 0) := by
  have hl : ((zipT xs acc j).map (fun p => (pairF F p).1)).length = j := by simp [zipT]; omega
  unfold upZ
  rw [List.getElem?_append_right (by omega), hl, Nat.sub_self]
  have : j < acc.length := by omega
  simp [List.getD, this]
theorem upZ_step (F : Int → Int → Int × Int) (xs acc : List Int) (j : Nat) (h : j < xs.length) (h' : acc.length = xs.length) : (upZ F xs acc j).set j (F (xs.getD j 0) (acc.getD j 0)).1 = upZ F xs acc (j + 1) := by
  have hl : ((zipT xs acc j).map (fun p => (pairF F p).1)).length = j := by simp [zipT]; omega
  have hd : acc.drop j = acc.getD j 0 :: acc.drop (j + 1) := by
    have : j < acc.length := by omega
    rw [List.drop_eq_getElem_cons this]
    simp [List.getD, this]
  unfold upZ
  rw [zipT_snoc xs acc j h (by omega), List.map_append, List.set_append_right j _ (by omega), hl, Nat.sub_self, hd]
  simp [pairF]
end Go.Proofs.Ytmobjomebmipdaa.Pl
