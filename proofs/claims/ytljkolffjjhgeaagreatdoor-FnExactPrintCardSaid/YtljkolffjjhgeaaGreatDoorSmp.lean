import Derived.Test.YtljkolffjjhgeaaGreatDoorLok
namespace Go.Proofs.YtljkolffjjhgeaaGreatDoor
set_option linter.unusedVariables false
namespace Pl
theorem sum_le {α : Type} {f g : α → Nat} : ∀ (c : List α), (∀ x ∈ c, f x ≤ g x) → (c.map f).sum ≤ (c.map g).sum
  | [], _ => Nat.le_refl _
  | x :: c, h => by
    rw [List.map_cons, List.map_cons, List.sum_cons, List.sum_cons]
    have := h x (by simp)
    have := sum_le c (fun y hy => h y (by simp [hy]))
    omega
theorem mem_le {α : Type} {f : α → Nat} {x : α} : ∀ {c : List α}, x ∈ c → f x ≤ (c.map f).sum
  | y :: c, h => by
    rw [List.map_cons, List.sum_cons]
    rcases List.mem_cons.1 h with rfl | h
    · omega
    · have := mem_le (f := f) h
      omega
theorem csz_le (c : List Sv) : csz c ≤ wC c := by
  unfold csz wC
  have := sum_le (f := fun s : Sv => s.nums.length) (g := wS) c (fun x _ => by unfold wS; omega)
  omega
theorem gsz_le (g : Gv) : gsz g ≤ wG g := by
  unfold gsz wG
  have := csz_le g.test
  have := csz_le g.thn
  omega
theorem ssz_le (s : Tv) : ssz s ≤ wT s := by
  unfold ssz wT wGs
  have := csz_le s.code
  have := sum_le (f := gsz) (g := wG) s.gs (fun x _ => gsz_le x)
  omega
theorem psz_le (p : List Tv) : psz p ≤ wP p := by
  unfold psz wP
  have := sum_le (f := ssz) (g := wT) p (fun x _ => ssz_le x)
  omega
theorem small_of {c : List Sv} (h : wC c ≤ 1048576) : Small c := by
  refine ⟨by have := csz_le c; omega, fun s hs => ?_⟩
  have := mem_le (f := wS) hs
  have e : wS s = s.nums.length + s.nm.length + s.fn.nm.length := rfl
  unfold wC at h
  omega
theorem smallT_of {s : Tv} (h : wT s ≤ 1048576) : SmallT s := by
  unfold wT wGs at h
  refine ⟨small_of (by omega), by omega, fun g hg => ?_⟩
  have := mem_le (f := wG) hg
  have e : wG g = wC g.test + wC g.thn := rfl
  exact ⟨small_of (by omega), small_of (by omega)⟩
theorem smallP_of {p : List Tv} (h : wP p ≤ 1048576) : SmallP p := by
  refine ⟨by have := psz_le p; omega, fun s hs => smallT_of ?_⟩
  have := mem_le (f := wT) hs
  unfold wP at h
  omega
theorem small_sb {p : List Tv} (h : ¬ sb 1048576 (wP p) < 0) : SmallP p := by
  refine smallP_of ?_
  unfold sb at h
  split at h <;> omega
theorem SmallT.gl {s : Tv} (h : SmallT s) (hp : ssz s ≤ 1048576) : s.gs.length ≤ 1048576 := by
  unfold ssz at hp
  omega
theorem SmallP.gl {p : List Tv} (h : SmallP p) {s : Tv} (hs : s ∈ p) : s.gs.length ≤ 1048576 := by
  have h1 := h.sz
  unfold psz at h1
  have := mem_le (f := ssz) hs
  exact (h.st s hs).gl (by omega)
end Pl
end Go.Proofs.YtljkolffjjhgeaaGreatDoor
