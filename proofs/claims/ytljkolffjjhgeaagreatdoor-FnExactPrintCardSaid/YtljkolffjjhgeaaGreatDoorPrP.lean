import Derived.Test.YtljkolffjjhgeaaGreatDoorLok
namespace Go.Proofs.YtljkolffjjhgeaaGreatDoor
open Go.RowKit
set_option linter.unusedVariables false
namespace Pl
theorem xt_len {c : List Sv} {e : List UInt8} (h : xt nt c = some e) : e.length ≤ 40 * csz c := by
  obtain ⟨t, h1, h2, rfl⟩ := xt_get h
  exact (nd_all h2 h1).2
def lx (p : List Tv) (k : Nat) : List UInt8 := (ltx nt (p.take k)).getD []
def gx (p : List Gv) (k : Nat) : List UInt8 := (gtx nt (p.take k)).getD []
theorem gtx_get {l : List Gv} {x : List UInt8} (h : gtx nt l = some x) : ∀ g ∈ l, ∃ a b, xt nt g.test = some a ∧ xt nt g.thn = some b := by
  intro g hg
  cases e1 : xt nt g.test with
  | none => rw [gtx_none hg (.inl e1)] at h; cases h
  | some a =>
    cases e2 : xt nt g.thn with
    | none => rw [gtx_none hg (.inr e2)] at h; cases h
    | some b => exact ⟨a, b, rfl, rfl⟩
theorem gx_succ {l : List Gv} (hl : ∀ g ∈ l, ∃ a b, xt nt g.test = some a ∧ xt nt g.thn = some b) {k : Nat} {g : Gv} (h : l[k]? = some g) {a b : List UInt8} (ha : xt nt g.test = some a) (hb : xt nt g.thn = some b) : gx l (k + 1) = gx l k ++ (a ++ [32, 58, 32] ++ b ++ [59, 32]) := by
  have h1 : (gtx nt (l.take k)).isSome = true := gtx_some (fun g hg => by
    obtain ⟨a, b, e1, e2⟩ := hl g (List.mem_of_mem_take hg)
    rw [e1, e2]; exact ⟨rfl, rfl⟩)
  obtain ⟨t, ht⟩ := Option.isSome_iff_exists.1 h1
  unfold gx
  rw [List.take_add_one, h]
  show (gtx nt (l.take k ++ [g])).getD [] = _
  rw [gtx_snoc, ht, ha, hb]
  rfl
theorem gx_all {l : List Gv} {x : List UInt8} (h : gtx nt l = some x) : gx l l.length = x := by unfold gx; rw [List.take_length, h]; rfl
theorem gx_len {l : List Gv} (hl : ∀ g ∈ l, ∃ a b, xt nt g.test = some a ∧ xt nt g.thn = some b) : ∀ k, k ≤ l.length → (gx l k).length ≤ 40 * gsum l k + 5 * k := by
  intro k
  induction k with
  | zero => intro _; simp [gx, gtx]
  | succ k ih =>
    intro hk
    have hk' : k < l.length := hk
    have hg : l[k]? = some l[k] := List.getElem?_eq_getElem hk'
    obtain ⟨a, b, e1, e2⟩ := hl _ (List.getElem_mem hk')
    rw [gx_succ hl hg e1 e2, gsum_succ hg]
    have := ih (by omega)
    have h1 := xt_len e1
    have h2 := xt_len e2
    simp only [List.length_append, List.length_cons, List.length_nil, gsz]
    omega
theorem stx_get {s : Tv} {x : List UInt8} (h : stx nt s = some x) : ∃ e g, xt nt s.code = some e ∧ gtx nt s.gs = some g ∧ ((s.k = 1 ∧ x = e) ∨ (s.k = 2 ∧ x = s.nm ++ [32, 58, 61, 32] ++ e ∧ s.nm.length ≤ 20) ∨ (s.k = 3 ∧ x = s.nm ++ [32, 58, 61, 32, 123] ++ g ++ e ++ [125] ∧ s.nm.length ≤ 20)) := by
  unfold stx at h
  cases e1 : xt nt s.code with
  | none => rw [e1] at h; cases h
  | some e =>
    cases e2 : gtx nt s.gs with
    | none => rw [e1, e2] at h; cases h
    | some g =>
      rw [e1, e2] at h
      simp only [] at h
      refine ⟨e, g, rfl, rfl, ?_⟩
      split at h
      · rename_i k1
        split at h
        · exact .inl ⟨k1, (Option.some.inj h).symm⟩
        · cases h
      split at h
      · rename_i k2
        split at h
        · rename_i hn
          exact .inr (.inl ⟨k2, (Option.some.inj h).symm, wk_len (by rw [hn.1]; decide)⟩)
        · cases h
      split at h
      · rename_i k3
        split at h
        · rename_i hn
          exact .inr (.inr ⟨k3, (Option.some.inj h).symm, wk_len (by rw [hn.1]; decide)⟩)
        · cases h
      · cases h
theorem ssz_mem {p : List Tv} {s : Tv} (hs : s ∈ p) : ssz s ≤ psz p := by
  have : ssz s ≤ (p.map ssz).sum := by
    induction p with
    | nil => cases hs
    | cons x p ih =>
      rw [List.map_cons, List.sum_cons]
      rcases List.mem_cons.1 hs with rfl | h
      · omega
      · have := ih h; omega
  unfold psz
  omega
theorem okP_get {p : List Tv} (h : okP p = true) : psz p ≤ 16000 ∧ ∀ s ∈ p, ∃ x, stx nt s = some x := by
  unfold okP at h
  rw [Bool.and_eq_true, decide_eq_true_eq, List.all_eq_true] at h
  refine ⟨h.1, fun s hs => ?_⟩
  have := h.2 s hs
  rw [stB_eq] at this
  exact Option.isSome_iff_exists.1 this
theorem prt_no {p : List Tv} (h : okP p = false) : prt nt p = ([], false) := by
  unfold prt
  split
  · rename_i hz
    unfold okP at h
    rw [decide_eq_true hz, Bool.true_and] at h
    have : ∃ s ∈ p, stx nt s = none := by
      apply Classical.byContradiction
      intro hn
      have : p.all (stB nt) = true := by
        rw [List.all_eq_true]
        intro s hs
        rw [stB_eq]
        cases e : stx nt s with
        | none => exact absurd ⟨s, hs, e⟩ hn
        | some x => rfl
      rw [this] at h; cases h
    obtain ⟨s, hs, e⟩ := this
    rw [ltx_none hs e]
  · rfl
theorem lx_succ {p : List Tv} (hp : ∀ s ∈ p, ∃ x, stx nt s = some x) {k : Nat} {s : Tv} (h : p[k]? = some s) {x : List UInt8} (hx : stx nt s = some x) : lx p (k + 1) = lx p k ++ (x ++ [10]) := by
  have h1 : (ltx nt (p.take k)).isSome = true := ltx_some (fun s hs => by
    obtain ⟨x, e⟩ := hp s (List.mem_of_mem_take hs)
    rw [e]; rfl)
  obtain ⟨t, ht⟩ := Option.isSome_iff_exists.1 h1
  unfold lx
  rw [List.take_add_one, h]
  show (ltx nt (p.take k ++ [s])).getD [] = _
  rw [ltx_snoc, ht, hx]
  rfl
theorem lx_mono {p : List Tv} (hp : ∀ s ∈ p, ∃ x, stx nt s = some x) (k : Nat) : ∀ d, k + d ≤ p.length → (lx p k).length ≤ (lx p (k + d)).length := by
  intro d
  induction d with
  | zero => intro _; exact Nat.le_refl _
  | succ d ih =>
    intro h
    have hk : k + d < p.length := by omega
    obtain ⟨x, hx⟩ := hp _ (List.getElem_mem hk)
    have := lx_succ hp (List.getElem?_eq_getElem hk) hx
    rw [show k + (d + 1) = k + d + 1 by omega, this, List.length_append]
    have := ih (by omega)
    omega
theorem prt_yes {p : List Tv} (h : okP p = true) : prt nt p = if (lx p p.length).length ≤ 4000 then (lx p p.length, true) else ([], false) := by
  obtain ⟨hz, hp⟩ := okP_get h
  have h1 : (ltx nt p).isSome = true := ltx_some (fun s hs => by
    obtain ⟨x, e⟩ := hp s hs
    rw [e]; rfl)
  obtain ⟨t, ht⟩ := Option.isSome_iff_exists.1 h1
  unfold prt lx
  rw [if_pos hz, List.take_length, ht]
  rfl
end Pl
end Go.Proofs.YtljkolffjjhgeaaGreatDoor
