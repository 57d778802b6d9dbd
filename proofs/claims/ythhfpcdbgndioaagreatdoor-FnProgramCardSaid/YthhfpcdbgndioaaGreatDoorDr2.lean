import Derived.Test.YthhfpcdbgndioaaGreatDoorCdr
import Derived.BigQuiet
namespace Go.Proofs.YthhfpcdbgndioaaGreatDoor
open Go.RowKit
set_option linter.unusedVariables false
set_option maxRecDepth 100000
namespace Pl
/-- the reader: the byte at a place, and the place behind it -/
def nx (bs : List Nat) (p : Nat) : Nat × Nat := (bs.getD p 0, if p < bs.length then p + 1 else p)
/-- spec.l1Cell -/
def clV (k : Nat) : Int := if k = 255 then 3000000000 else if k = 254 then -3000000000 else if 250 ≤ k then (k : Int) * 11000007 else if 220 ≤ k then 220 - (k : Int) else ((k % 7 : Nat) : Int)
def cl (bs : List Nat) (p : Nat) : Int × Nat := (clV (nx bs p).1, (nx bs p).2)
end Pl
/-- bytes that are read below B -/
def RdN (B : Nat) (w : World) (ao : Option Addr) (bs : List Nat) : Prop :=
  bs = [] ∨ ∃ b off, b < B ∧ ao = some ⟨b, off, none⟩ ∧ ∀ (i : Nat) (x : Nat), bs[i]? = some x → w.cell? ⟨b, off + i, none⟩ = some (.int .u8 (x : Int))
theorem RdN.keep {B : Nat} {w w' : World} {ao : Option Addr} {bs : List Nat} (h : RdN B w ao bs) (hb : Below B w w') : RdN B w' ao bs := by
  rcases h with h | ⟨b, off, hB, rfl, hc⟩
  · exact .inl h
  · exact .inr ⟨b, off, hB, rfl, fun i x hx => (hb.cell (p := ⟨b, off + i, none⟩) hB).trans (hc i x hx)⟩
/-- the reader in the block P -/
structure Rr (B P : Nat) (w : World) (bs : List Nat) (pos : Nat) : Prop where
  bp : B ≤ P
  lt : P < w.heap.size
  le : bs.length ≤ 1000
  pl : pos ≤ bs.length
  by_ : ∀ x ∈ bs, x ≤ 255
  ex : ∃ ao cap, w.cell? ⟨P, 0, none⟩ = some (.slice ao bs.length cap) ∧ RdN B w ao bs
  c1 : w.cell? ⟨P, 1, none⟩ = some (.int .i64 pos)
  fz : ∀ j, w.frozen? ⟨P, j, none⟩ = false
theorem Rr.same {B P : Nat} {w w' : World} {bs : List Nat} {pos : Nat} (h : Rr B P w bs pos) (hb : Below B w w') (e : w'.heap[P]? = w.heap[P]?) : Rr B P w' bs pos := by
  obtain ⟨ao, cap, h1, h2⟩ := h.ex
  have g (j : Nat) : w'.cell? ⟨P, j, none⟩ = w.cell? ⟨P, j, none⟩ := World.cell?_of_block e
  exact ⟨h.bp, Nat.lt_of_lt_of_le h.lt hb.size, h.le, h.pl, h.by_, ⟨ao, cap, (g 0).trans h1, h2.keep hb⟩, (g 1).trans h.c1, fun j => (World.frozen?_of_block (a := ⟨P, j, none⟩) e).trans (h.fz j)⟩
theorem Rr.keep {B P : Nat} {w w' : World} {bs : List Nat} {pos : Nat} (h : Rr B P w bs pos) (hb : Below w.heap.size w w') : Rr B P w' bs pos :=
  h.same (hb.mono (by have := h.bp; have := h.lt; omega)) (hb.block P h.lt)
/-- what grows outside of the reader's block, above B -/
theorem Rr.kept {B P : Nat} {w w' : World} {bs : List Nat} {pos : Nat} {r : Option Nat} (h : Rr B P w bs pos) (hg : w.grownBy w' r) (hr : ∀ k, r = some k → B ≤ k ∧ k ≠ P) : Rr B P w' bs pos := by
  have hb : Below B w w' := ⟨hg.os, hg.tape, hg.output, hg.size, fun k hk => hg.block k (by have := h.bp; have := h.lt; omega) (fun e => by have := (hr k e.symm).1; omega)⟩
  exact h.same hb (hg.block P h.lt (fun e => (hr P e.symm).2 rfl))
theorem Rr.step {B P : Nat} {w : World} {bs : List Nat} {pos : Nat} (h : Rr B P w bs pos) (hp : pos < bs.length) : Rr B P (w.setCell ⟨P, 1, none⟩ (.int .i64 ((pos : Int) + 1))) bs (pos + 1) := by
  obtain ⟨ao, cap, h1, h2⟩ := h.ex
  exact ⟨h.bp, by simpa using h.lt, h.le, hp, h.by_, ⟨ao, cap, (World.cell?_setCell_other _ _ _ _ (by simp)).trans h1, h2.keep ((Below.refl B w).setCell h.bp _)⟩, by rw [World.cell?_setCell_same _ _ _ h.c1]; rfl, fun j => by rw [World.frozen?_setCell]; exact h.fz j⟩
theorem grown_drewN {w w' : World} {r : Option Nat} (n : Nat) (h : (w.drewN n).grownBy w' r) : w.grownBy w' r := ⟨h.os, h.tape, h.output, h.size, h.block⟩
theorem grown_set1 (w : World) (P j : Nat) (v : Value) : w.grownBy (w.setCell ⟨P, j, none⟩ v) (some P) :=
  ⟨rfl, rfl, rfl, by simp, fun k _ hk => heap_setCell_other w ⟨P, j, none⟩ k v (fun e => hk (by simp [e]))⟩
theorem grown_same (w : World) (n : Nat) (r : Option Nat) : w.grownBy (w.drewN n) r := ⟨rfl, rfl, rfl, Nat.le_refl _, fun _ _ _ => rfl⟩
theorem Rr.drewN {B P : Nat} {w : World} {bs : List Nat} {pos : Nat} (h : Rr B P w bs pos) (n : Nat) : Rr B P (w.drewN n) bs pos := ⟨h.bp, h.lt, h.le, h.pl, h.by_, h.ex, h.c1, h.fz⟩
/-- what a draw leaves -/
structure Dw (B P : Nat) (w w' : World) (bs : List Nat) (pos' : Nat) : Prop where
  r : Rr B P w' bs pos'
  g : w.grownBy w' (some P)
set_option maxHeartbeats 2000000 in
/-- (*spec.l1Rd).next -/
theorem nextx_any (B P : Nat) (w : World) (bs : List Nat) (pos : Nat) (h : Rr B P w bs pos) : Calls Tryz.prog 10 #[.pointer (some ⟨P, 0, none⟩)] w fun e w' => e = .returned (.int .i64 ((Pl.nx bs pos).1 : Nat)) ∧ Dw B P w w' bs (Pl.nx bs pos).2 := by
  have H := hideP h
  have hlt := h.lt
  obtain ⟨ao, cap, c0, hr⟩ := h.ex
  have c1 := h.c1
  have f1 := h.fz 1
  have hle := h.le
  by_cases hlp : pos < bs.length
  · have hlp' : (pos : Int) < (bs.length : Int) := by omega
    have e2 : Pl.nx bs pos = (bs[pos], pos + 1) := by
      unfold Pl.nx
      rw [if_pos hlp, List.getD_eq_getElem?_getD, List.getElem?_eq_getElem hlp]
      rfl
    have hx : bs[pos] ≤ 255 := h.by_ _ (List.getElem_mem hlp)
    rcases hr with h0 | ⟨b, off, hb, rfl, hc⟩
    · rw [h0] at hlp; cases hlp
    have cx := hc pos _ (List.getElem?_eq_getElem hlp)
    rw [e2]
    have FIN : Hid (∀ m, Dw B P w ((w.drewN m).setCell ⟨P, 1, none⟩ (.int .i64 ((pos : Int) + 1))) bs (pos + 1)) := fun m => ⟨(h.drewN m).step hlp, grown_drewN m (grown_set1 (w.drewN m) P 1 _)⟩
    generalize bs[pos] = x at *
    generalize bs.length = n at *
    clear hc h H e2
    go_enter Tryz.func10, Tryz.ntmps10
    go_wp2_with fail
    go_quiet (fail)
    go_wp2_with fail
    go_quiet (fail)
    go_wp2_with fail
    go_ret
    exact ⟨by first | rfl | (rw [IntKind.wrap_i64]; omega), FIN.out _⟩
  · have hlp' : ¬ (pos : Int) < (bs.length : Int) := by omega
    have e2 : Pl.nx bs pos = (0, pos) := by
      unfold Pl.nx
      rw [if_neg hlp, List.getD_eq_getElem?_getD, List.getElem?_eq_none (by omega)]
      rfl
    rw [e2]
    have FIN : Hid (∀ m, Dw B P w (w.drewN m) bs pos) := fun m => ⟨h.drewN m, grown_same _ _ _⟩
    generalize bs.length = n at *
    clear h H e2 hr
    go_enter Tryz.func10, Tryz.ntmps10
    go_wp2_with fail
    go_quiet (fail)
    go_wp2_with fail
    go_ret
    exact ⟨rfl, FIN.out _⟩
set_option maxHeartbeats 2000000 in
/-- (*spec.l1Rd).left -/
theorem left_any (B P : Nat) (w : World) (bs : List Nat) (pos : Nat) (h : Rr B P w bs pos) : Calls Tryz.prog 62 #[.pointer (some ⟨P, 0, none⟩)] w fun e w' => e = .returned (.int .i64 ((bs.length - pos : Nat) : Int)) ∧ Below w.heap.size w w' := by
  obtain ⟨ao, cap, c0, hr⟩ := h.ex
  have c1 := h.c1
  have hle := h.le
  have hpl := h.pl
  have hlt := h.lt
  have HB : Hid (∀ m, Below w.heap.size w (w.drewN m)) := fun m => below_drewN (Below.refl _ _) m
  generalize bs.length = n at *
  clear h hr
  go_enter Tryz.func62, Tryz.ntmps62
  go_wp2_with fail
  go_quiet (fail)
  go_wp2_with fail
  go_ret
  exact ⟨ret_int (by omega), HB.out _⟩
set_option maxHeartbeats 2000000 in
/-- spec.l1Cell -/
theorem cellx_any (B P : Nat) (w : World) (bs : List Nat) (pos : Nat) (h : Rr B P w bs pos) : Calls Tryz.prog 82 #[.pointer (some ⟨P, 0, none⟩)] w fun e w' => e = .returned (.int .i64 (Pl.cl bs pos).1) ∧ Dw B P w w' bs (Pl.cl bs pos).2 := by
  have KN := hideP (nextx_any B P w bs pos h)
  have hk : (Pl.nx bs pos).1 ≤ 255 := by
    unfold Pl.nx
    show bs.getD pos 0 ≤ 255
    rw [List.getD_eq_getElem?_getD]
    cases hg : bs[pos]? with
    | none => simp
    | some x => exact h.by_ x (List.mem_of_getElem? hg)
  unfold Pl.cl
  generalize Pl.nx bs pos = q at *
  obtain ⟨k, p'⟩ := q
  simp only at hk KN ⊢
  clear h
  unfold Pl.clV
  by_cases h1 : k = 255
  · subst h1
    go_enter Tryz.func82, Tryz.ntmps82
    go_wp2_with fail
    refine KN.out.mono ?_
    rintro e w1 ⟨rfl, hd⟩
    go_wp2_with fail
    go_ret
    exact ⟨rfl, hd⟩
  · have h1' : ((k : Int) == 255) = false := by simp; omega
    rw [if_neg h1]
    by_cases h2 : k = 254
    · subst h2
      go_enter Tryz.func82, Tryz.ntmps82
      go_wp2_with fail
      refine KN.out.mono ?_
      rintro e w1 ⟨rfl, hd⟩
      go_wp2_with fail
      go_ret
      exact ⟨rfl, hd⟩
    · have h2' : ((k : Int) == 254) = false := by simp; omega
      rw [if_neg h2]
      by_cases h3 : 250 ≤ k
      · have h3' : (250 : Int) ≤ (k : Int) := by omega
        rw [if_pos h3]
        go_enter Tryz.func82, Tryz.ntmps82
        go_wp2_with fail
        refine KN.out.mono ?_
        rintro e w1 ⟨rfl, hd⟩
        go_wp2_with fail
        go_ret
        exact ⟨by first | rfl | (apply ret_int; omega), hd⟩
      · have h3' : ¬ (250 : Int) ≤ (k : Int) := by omega
        rw [if_neg h3]
        by_cases h4 : 220 ≤ k
        · have h4' : (220 : Int) ≤ (k : Int) := by omega
          rw [if_pos h4]
          go_enter Tryz.func82, Tryz.ntmps82
          go_wp2_with fail
          refine KN.out.mono ?_
          rintro e w1 ⟨rfl, hd⟩
          go_wp2_with fail
          go_ret
          exact ⟨by first | rfl | (apply ret_int; omega), hd⟩
        · have h4' : ¬ (220 : Int) ≤ (k : Int) := by omega
          rw [if_neg h4]
          have er : Int.tmod (k : Int) 7 = ((k % 7 : Nat) : Int) := by rw [Int.tmod_eq_emod_of_nonneg (by omega)]; omega
          go_enter Tryz.func82, Tryz.ntmps82
          go_wp2_with fail
          refine KN.out.mono ?_
          rintro e w1 ⟨rfl, hd⟩
          go_wp2_with fail
          go_ret
          exact ⟨by first | rfl | (apply ret_int; omega), hd⟩
set_option maxHeartbeats 2000000 in
/-- spec.l1Open -/
theorem openx_any (B : Nat) (ao : Option Addr) (cap : Nat) (bs : List Nat) (w : World) (hcap : bs.length ≤ cap) (hm : cap ≤ 9223372036854775807) (hB : B ≤ w.heap.size) (h8 : ∀ x ∈ bs, x ≤ 255) (h : RdN B w ao bs) :
    Calls Tryz.prog 9 #[.slice ao bs.length cap] w fun e w' => e = .returned (.pointer (some ⟨w.heap.size, 0, none⟩)) ∧ Rr B w.heap.size w' (bs.take 1000) 0 ∧ Below w.heap.size w w' := by
  have AL : Hid (∀ o, Below w.heap.size w (w.alloc o)) := fun o => (Below.refl _ _).alloc (Nat.le_refl _) _
  have HR : RdN B w ao (bs.take 1000) := by
    rcases h with h | ⟨b, off, hb, rfl, hc⟩
    · exact .inl (by rw [h]; rfl)
    · refine .inr ⟨b, off, hb, rfl, fun i x hx => hc i x ?_⟩
      rw [List.getElem?_take] at hx
      split at hx
      · exact hx
      · cases hx
  have NEW : Hid (∀ (cap : Nat) (n : Nat), n = (bs.take 1000).length → Rr B w.heap.size (w.alloc (.cells #[.slice ao n cap, .int .i64 0] 59)) (bs.take 1000) 0) := fun cap n hn => by
    subst hn
    exact ⟨hB, by simp, by rw [List.length_take]; omega, Nat.zero_le _, fun x hx => h8 x (List.mem_of_mem_take hx), ⟨ao, cap, by simp [go_sem], HR.keep ((AL.out _).mono hB)⟩, by simp [go_sem], fun j => by simp [go_sem]⟩
  generalize hn : bs.length = n at *
  by_cases hlong : 1000 < n
  · have hlong' : (1000 : Int) < (n : Int) := by omega
    have HR := hideP (NEW.out cap 1000 (by rw [List.length_take]; omega))
    obtain ⟨b, off, rfl⟩ : ∃ b off, ao = some ⟨b, off, none⟩ := by
      rcases h with h | ⟨b, off, _, e, _⟩
      · rw [h] at hn; simp at hn; omega
      · exact ⟨b, off, e⟩
    clear h NEW
    go_enter Tryz.func9, Tryz.ntmps9
    go_wp2_with fail
    go_ret
    exact ⟨rfl, HR.out, AL.out _⟩
  · have hlong' : ¬ (1000 : Int) < (n : Int) := by omega
    have HR := hideP (NEW.out cap n (by rw [List.length_take]; omega))
    clear h NEW
    go_enter Tryz.func9, Tryz.ntmps9
    go_wp2_with fail
    go_ret
    exact ⟨rfl, HR.out, AL.out _⟩
namespace Pl
def nmF (j : Nat) : List UInt8 := if j = 1 then [71, 111] else if j = 2 then [115, 101, 108, 102] else [70]
/-- spec.l3GenFn -/
def gfnK (bs : List Nat) (k p1 : Nat) (two : Bool) : Fnv × Nat :=
  if two then
    if k % 16 < 7 then (⟨5, 1 + ((k / 16 % 10 : Nat) : Int), 0, []⟩, p1)
    else if k % 16 < 12 then (⟨6, 1 + ((k / 16 % 7 : Nat) : Int), 0, []⟩, p1)
    else if k % 16 = 12 then (⟨7, 1 + ((k / 16 % 10 : Nat) : Int), 0, []⟩, p1)
    else if k % 16 = 13 then (⟨8, 1 + ((k / 16 % 10 : Nat) : Int), 1 + (((nx bs p1).1 % 10 : Nat) : Int), []⟩, (nx bs p1).2)
    else (⟨10, 0, 0, nmF (k / 16 % 4)⟩, p1)
  else if k % 16 < 3 then (⟨1, 1 + ((k / 16 % 4 : Nat) : Int), 0, []⟩, p1)
    else if k % 16 < 8 then (⟨2, 1 + ((k / 16 % 7 : Nat) : Int), 0, []⟩, p1)
    else if k % 16 < 11 then (⟨3, 1 + ((k / 16 % 10 : Nat) : Int), 0, []⟩, p1)
    else if k % 16 = 11 then (⟨4, 1 + ((k / 16 % 10 : Nat) : Int), 0, []⟩, p1)
    else if k % 16 = 12 then (⟨9, 0, 0, []⟩, p1)
    else (⟨10, 0, 0, nmF (k / 16 % 4)⟩, p1)
def gfn (bs : List Nat) (p : Nat) (two : Bool) : Fnv × Nat := gfnK bs (nx bs p).1 (nx bs p).2 two
theorem nx_le {bs : List Nat} {p : Nat} (h : ∀ x ∈ bs, x ≤ 255) : (nx bs p).1 ≤ 255 := by
  unfold nx
  show bs.getD p 0 ≤ 255
  rw [List.getD_eq_getElem?_getD]
  cases hg : bs[p]? with
  | none => simp
  | some x => exact h x (List.mem_of_getElem? hg)
end Pl
/-- a variable of cells that was laid at s -/
structure Vr (P s : Nat) (w w' : World) (l : List Value) : Prop where
  g : w.grownBy w' (some P)
  e : s = w.heap.size
  lt : s < w'.heap.size
  c : ∀ j u, l[j]? = some u → w'.cell? ⟨s, j, none⟩ = some u
  f : ∀ j, w'.frozen? ⟨s, j, none⟩ = false
theorem Vr.new (P : Nat) (w : World) (l : List Value) (t : Nat) : Vr P w.heap.size w (w.alloc (.cells l.toArray t)) l :=
  ⟨⟨rfl, rfl, rfl, by simp, fun k hk _ => Below.heap_alloc _ _ _ hk⟩, rfl, by simp, fun j u hu => by have := cells_new (w := w) (t := t) (l := l) rfl j u hu; rw [Nat.zero_add] at this; exact this, fun j => by simp [go_sem]⟩
end Go.Proofs.YthhfpcdbgndioaaGreatDoor
