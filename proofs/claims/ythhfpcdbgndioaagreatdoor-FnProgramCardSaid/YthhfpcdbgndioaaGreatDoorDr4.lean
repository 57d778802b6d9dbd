import Derived.Test.YthhfpcdbgndioaaGreatDoorDr2
import Derived.Test.YthhfpcdbgndioaaGreatDoorCdn
namespace Go.Proofs.YthhfpcdbgndioaaGreatDoor
open Go.RowKit
set_option linter.unusedVariables false
set_option maxRecDepth 100000
/-- all but the blocks A is kept -/
structure Kx (w w' : World) (A : List Nat) : Prop where
  os : w'.os = w.os
  tape : w'.tape = w.tape
  output : w'.output = w.output
  size : w.heap.size ≤ w'.heap.size
  block : ∀ k, k < w.heap.size → k ∉ A → w'.heap[k]? = w.heap[k]?
theorem Kx.refl (w : World) (A : List Nat) : Kx w w A := ⟨rfl, rfl, rfl, Nat.le_refl _, fun _ _ _ => rfl⟩
theorem Kx.trans {w w1 w2 : World} {A A' : List Nat} (h : Kx w w1 A) (k : Kx w1 w2 A') (hA : ∀ x ∈ A', x ∈ A ∨ w.heap.size ≤ x) : Kx w w2 A :=
  ⟨k.os.trans h.os, k.tape.trans h.tape, k.output.trans h.output, Nat.le_trans h.size k.size, fun q hq hn => (k.block q (Nat.lt_of_lt_of_le hq h.size) (fun hm => by rcases hA q hm with r | r; exact hn r; omega)).trans (h.block q hq hn)⟩
theorem Kx.grown {w w' : World} {r : Option Nat} {A : List Nat} (h : w.grownBy w' r) (hA : ∀ b, r = some b → b ∈ A) : Kx w w' A := ⟨h.os, h.tape, h.output, h.size, fun k hk hn => h.block k hk (fun e => hn (hA k e.symm))⟩
theorem Kx.below {w w' : World} (h : Below w.heap.size w w') (A : List Nat) : Kx w w' A := ⟨h.os, h.tape, h.output, h.size, fun k hk _ => h.block k hk⟩
theorem Kx.by_ {w w' : World} {P : Nat} (h : Kx w w' [P]) : w.grownBy w' (some P) := ⟨h.os, h.tape, h.output, h.size, fun k hk hn => h.block k hk (fun hm => hn (by simp at hm; simp [hm]))⟩
theorem Kx.alloc {w w' : World} {A : List Nat} (h : Kx w w' A) (o : Obj) : Kx w (w'.alloc o) A := h.trans (Kx.below ((Below.refl _ _).alloc (Nat.le_refl _) o) []) (by simp)
theorem Kx.set {w w' : World} {A : List Nat} (h : Kx w w' A) (s j : Nat) (v : Value) (hs : s ∈ A ∨ w.heap.size ≤ s) : Kx w (w'.setCell ⟨s, j, none⟩ v) A :=
  h.trans (A' := [s]) ⟨rfl, rfl, rfl, by simp, fun k hk hn => heap_setCell_other _ ⟨s, j, none⟩ _ _ (by simpa using hn)⟩ (fun x hx => by simp at hx; subst hx; exact hs)
theorem Kx.cell {w w' : World} {A : List Nat} (h : Kx w w' A) {s j : Nat} {u : Value} (hs : s < w.heap.size) (hA : s ∉ A) (hc : w.cell? ⟨s, j, none⟩ = some u) : w'.cell? ⟨s, j, none⟩ = some u := (World.cell?_of_block (a := ⟨s, j, none⟩) (h.block s hs hA)).trans hc
theorem Kx.froz {w w' : World} {A : List Nat} (h : Kx w w' A) {s j : Nat} (hs : s < w.heap.size) (hA : s ∉ A) (hc : w.frozen? ⟨s, j, none⟩ = false) : w'.frozen? ⟨s, j, none⟩ = false := (World.frozen?_of_block (a := ⟨s, j, none⟩) (h.block s hs hA)).trans hc
theorem Rr.kx {B P : Nat} {w w' : World} {bs : List Nat} {pos : Nat} {A : List Nat} (h : Rr B P w bs pos) (k : Kx w w' A) (hA : ∀ x ∈ A, B ≤ x ∧ x ≠ P) : Rr B P w' bs pos :=
  h.same ⟨k.os, k.tape, k.output, k.size, fun q hq => k.block q (by have := h.bp; have := h.lt; omega) (fun hm => by have := (hA q hm).1; omega)⟩ (k.block P h.lt (fun hm => (hA P hm).2 rfl))
/-- a list that a draw has made so far, from w0 on; F0 are the blocks that it had -/
structure Dn {α : Type} (et z : Nat) (Q : World → List Value → α → List Nat → Prop) (B P : Nat) (w0 w : World) (bs : List Nat) (pos : Nat) (F0 : List Nat) (v : Value) (c : List α) (F : List Nat) : Prop where
  r : Rr B P w bs pos
  o : Own et z Q w v c F
  i : Inb B w F
  p : P ∉ F
  k : Kx w0 w (P :: F0)
  f : ∀ x ∈ F, x ∈ F0 ∨ w0.heap.size ≤ x
section
variable {α : Type} {et z : Nat} {Q : World → List Value → α → List Nat → Prop} {B P : Nat} {w0 w : World} {bs : List Nat} {pos : Nat} {F0 : List Nat} {v : Value} {c : List α} {F : List Nat}
theorem Dn.kx (L : Lives Q) (h : Dn et z Q B P w0 w bs pos F0 v c F) {w' : World} {pos' : Nat} {A : List Nat} (r : Rr B P w' bs pos') (k : Kx w w' A) (hA : ∀ x ∈ A, x = P ∨ (x ∉ F ∧ w0.heap.size ≤ x)) : Dn et z Q B P w0 w' bs pos' F0 v c F :=
  ⟨r, h.o.keep L (fun b hb => k.block b (h.i b hb).2 (fun hm => by rcases hA b hm with rfl | q; exact h.p hb; exact q.1 hb)), h.i.up (Nat.le_refl _) k.size, h.p, h.k.trans k (fun x hx => by rcases hA x hx with rfl | q; exact .inl (by simp); exact .inr q.2), h.f⟩
theorem Dn.dw (L : Lives Q) (h : Dn et z Q B P w0 w bs pos F0 v c F) {w' : World} {pos' : Nat} (d : Dw B P w w' bs pos') : Dn et z Q B P w0 w' bs pos' F0 v c F :=
  h.kx L d.r (Kx.grown (A := [P]) d.g (by simp)) (by simp)
theorem Dn.below (L : Lives Q) (h : Dn et z Q B P w0 w bs pos F0 v c F) {w' : World} (d : Below w.heap.size w w') : Dn et z Q B P w0 w' bs pos F0 v c F :=
  h.kx L (h.r.keep d) (Kx.below d []) (by simp)
theorem Dn.alloc (L : Lives Q) (h : Dn et z Q B P w0 w bs pos F0 v c F) (o : Obj) : Dn et z Q B P w0 (w.alloc o) bs pos F0 v c F := h.below L ((Below.refl _ _).alloc (Nat.le_refl _) o)
/-- behind an append -/
theorem Dn.app (h : Dn et z Q B P w0 w bs pos F0 v c F) {w' : World} {v' : Value} {c' : List α} {F' G : List Nat} (o : Own et z Q w' v' c' F') (i : Inb B w' F') (g : w.grownBy w' v.ownBlock) (hF : ∀ x ∈ F', x ∈ F ∨ x ∈ G ∨ x = w.heap.size) (hG : ∀ x ∈ G, x ≠ P ∧ (x ∈ F0 ∨ w0.heap.size ≤ x)) : Dn et z Q B P w0 w' bs pos F0 v' c' F' := by
  have hk : Kx w w' v.ownBlock.toList := Kx.grown g (by simp)
  have ho : ∀ b, v.ownBlock = some b → b ∈ F := fun b hb => (h.o.lt b hb).1
  refine ⟨h.r.kx hk (fun x hx => ?_), o, i, fun hm => ?_, h.k.trans hk (fun x hx => ?_), fun x hx => ?_⟩
  · have := ho x (by simpa using hx)
    exact ⟨(h.i x this).1, fun e => h.p (e ▸ this)⟩
  · rcases hF P hm with r | r | r
    · exact h.p r
    · exact (hG P r).1 rfl
    · have := h.r.lt; omega
  · rcases h.f x (ho x (by simpa using hx)) with r | r
    · exact .inl (by simp [r])
    · exact .inr r
  · rcases hF x hx with r | r | r
    · exact h.f x r
    · exact (hG x r).2
    · exact .inr (by have := h.k.size; omega)
end
theorem Own.empty {α : Type} {et z : Nat} {Q : World → List Value → α → List Nat → Prop} (w : World) : Own et z Q (w.alloc (.cells #[] et)) (.slice (some ⟨w.heap.size, 0, none⟩) 0 0) ([] : List α) [w.heap.size] :=
  ⟨[], [], rfl, World.ownsRow_made w #[] 0 (Nat.zero_le _) (by simp [maxLen]) (by simp), ⟨rfl, rfl⟩, by simp⟩
theorem Dn.emp {α : Type} (et z : Nat) (Q : World → List Value → α → List Nat → Prop) {B P : Nat} {w0 w : World} {bs : List Nat} {pos : Nat} (r : Rr B P w bs pos) (k : Kx w0 w [P]) (s : Nat) (hs : s = w.heap.size) : Dn et z Q B P w0 (w.alloc (.cells #[] et)) bs pos [] (.slice (some ⟨s, 0, none⟩) 0 0) ([] : List α) [s] := by
  subst hs
  have hb := r.bp
  have hl := r.lt
  have hz := k.size
  exact ⟨r.keep ((Below.refl _ _).alloc (Nat.le_refl _) _), Own.empty w, fun b hb => by simp at hb; subst hb; exact ⟨by omega, by simp⟩, by simp; omega, k.alloc _, fun x hx => by simp at hx; subst hx; exact .inr (by omega)⟩
theorem Dn.nil {α : Type} (et z : Nat) (Q : World → List Value → α → List Nat → Prop) {B P : Nat} {w0 w : World} {bs : List Nat} {pos : Nat} (r : Rr B P w bs pos) (k : Kx w0 w [P]) : Dn et z Q B P w0 w bs pos [] (.slice none 0 0) ([] : List α) [] :=
  ⟨r, Own.nil w, Inb.nil _ _, by simp, k, by simp⟩
namespace Pl
def nmA (j : Nat) : List UInt8 := if j = 2 then [120] else if j = 3 then [97] else [119]
/-- n numbers -/
def cls (bs : List Nat) (p : Nat) : Nat → List Int × Nat
  | 0 => ([], p)
  | n + 1 => ((cls bs p n).1 ++ [(cl bs (cls bs p n).2).1], (cl bs (cls bs p n).2).2)
theorem cls_len (bs : List Nat) (p : Nat) : ∀ n, (cls bs p n).1.length = n
  | 0 => rfl
  | n + 1 => by simp [cls, cls_len bs p n]
def atmK (bs : List Nat) (k p1 : Nat) : Sv × Nat := if k % 8 < 3 then (⟨2, [], nmA (k / 8 % 4), f0⟩, p1) else (⟨1, (cls bs p1 (1 + k / 8 % 3)).1, [], f0⟩, (cls bs p1 (1 + k / 8 % 3)).2)
/-- spec.l3Atom -/
def atm (bs : List Nat) (p : Nat) : Sv × Nat := atmK bs (nx bs p).1 (nx bs p).2
theorem atm_fn (bs : List Nat) (p : Nat) : (atm bs p).1.fn = f0 := by unfold atm atmK; split <;> rfl
end Pl
theorem Rr.set7 {B P : Nat} {w : World} {bs : List Nat} {pos : Nat} (h : Rr B P w bs pos) (s : Nat) (hB : B ≤ s) (hP : s ≠ P) (a b c d e f g : Value) : Rr B P (((((((w.setCell ⟨s, 0, none⟩ a).setCell ⟨s, 1, none⟩ b).setCell ⟨s, 2, none⟩ c).setCell ⟨s, 3, none⟩ d).setCell ⟨s, 4, none⟩ e).setCell ⟨s, 5, none⟩ f).setCell ⟨s, 6, none⟩ g) bs pos := by
  have v : ∀ {w : World}, Rr B P w bs pos → ∀ j u, Rr B P (w.setCell ⟨s, j, none⟩ u) bs pos := fun h j u => h.kx (A := [s]) ((Kx.refl _ _).set s j u (by simp)) (by simp; omega)
  exact v (v (v (v (v (v (v h _ _) _ _) _ _) _ _) _ _) _ _) _ _
theorem Kx.set7 {w w' : World} {A : List Nat} (h : Kx w w' A) (s : Nat) (hs : s ∈ A ∨ w.heap.size ≤ s) (a b c d e f g : Value) : Kx w (((((((w'.setCell ⟨s, 0, none⟩ a).setCell ⟨s, 1, none⟩ b).setCell ⟨s, 2, none⟩ c).setCell ⟨s, 3, none⟩ d).setCell ⟨s, 4, none⟩ e).setCell ⟨s, 5, none⟩ f).setCell ⟨s, 6, none⟩ g) A := by
  have v : ∀ {w' : World}, Kx w w' A → ∀ j u, Kx w (w'.setCell ⟨s, j, none⟩ u) A := fun h j u => h.set s j u hs
  exact v (v (v (v (v (v (v h _ _) _ _) _ _) _ _) _ _) _ _) _ _
set_option maxHeartbeats 4000000 in
/-- spec.l3Atom -/
theorem atom_any (B P : Nat) (w : World) (bs : List Nat) (pos : Nat) (h : Rr B P w bs pos) : Calls Tryz.prog 63 #[.pointer (some ⟨P, 0, none⟩)] w fun e w' => ∃ v F, e = .returned (.agg #[.int .i64 (Pl.atm bs pos).1.k, v, .string (Pl.ba (Pl.atm bs pos).1.nm), .int .i64 0, .int .i64 0, .int .i64 0, .string ⟨#[]⟩]) ∧ Dn 3 1 Qi B P w w' bs (Pl.atm bs pos).2 [] v (Pl.atm bs pos).1.nums F := by
  have hlt := h.lt
  have hbp := h.bp
  have HW0 : Hid (Below w.heap.size w (w.alloc (.cells #[.int .i64 0, .slice none 0 0, .string ⟨#[]⟩, .int .i64 0, .int .i64 0, .int .i64 0, .string ⟨#[]⟩] 40))) := (Below.refl _ _).alloc (Nat.le_refl _) _
  have C0 := hideP (cells_new (w := w) (t := 40) (l := [.int .i64 0, .slice none 0 0, .string ⟨#[]⟩, .int .i64 0, .int .i64 0, .int .i64 0, .string ⟨#[]⟩]) rfl)
  have F0 : Hid (∀ j, (w.alloc (.cells #[.int .i64 0, .slice none 0 0, .string ⟨#[]⟩, .int .i64 0, .int .i64 0, .int .i64 0, .string ⟨#[]⟩] 40)).frozen? ⟨w.heap.size, j, none⟩ = false) := fun j => by simp [go_sem]
  have h0 := h.keep HW0.out
  have Z0 : Hid ((w.alloc (.cells #[.int .i64 0, .slice none 0 0, .string ⟨#[]⟩, .int .i64 0, .int .i64 0, .int .i64 0, .string ⟨#[]⟩] 40)).heap.size = w.heap.size + 1) := by show _ = _; simp
  have K1 := hideP (nextx_any B P _ bs pos h0)
  have hk : (Pl.nx bs pos).1 ≤ 255 := Pl.nx_le h.by_
  have HG := hideP (show Pl.atm bs pos = Pl.atmK bs (Pl.nx bs pos).1 (Pl.nx bs pos).2 from rfl)
  generalize Pl.atm bs pos = R at *
  clear h h0
  generalize Pl.nx bs pos = q at *
  obtain ⟨k, p1⟩ := q
  simp only at hk K1
  have HG := HG.out
  unfold Pl.atmK at HG
  have m8 : Int.tmod (k : Int) 8 = ((k % 8 : Nat) : Int) := by rw [Int.tmod_eq_emod_of_nonneg (by omega)]; omega
  have q8 : Int.tdiv (k : Int) 8 = ((k / 8 : Nat) : Int) := by rw [Int.tdiv_eq_ediv_of_nonneg (by omega)]; omega
  have hq : k / 8 ≤ 31 := by omega
  have t4 : Int.tmod ((k / 8 : Nat) : Int) 4 = ((k / 8 % 4 : Nat) : Int) := by rw [Int.tmod_eq_emod_of_nonneg (by omega)]; omega
  have t3 : Int.tmod ((k / 8 : Nat) : Int) 3 = ((k / 8 % 3 : Nat) : Int) := by rw [Int.tmod_eq_emod_of_nonneg (by omega)]; omega
  have l4 : k / 8 % 4 ≤ 3 := by omega
  have l3 : k / 8 % 3 ≤ 2 := by omega
  generalize k / 8 % 4 = x4 at *
  generalize k / 8 % 3 = x3 at *
  generalize k / 8 = kq at *
  have hm : k % 8 < 8 := by omega
  generalize k % 8 = km at *
  go_enter Tryz.func63, Tryz.ntmps63
  go_wp2_with fail
  generalize hW : w.alloc (.cells #[.int .i64 0, .slice none 0 0, .string ⟨#[]⟩, .int .i64 0, .int .i64 0, .int .i64 0, .string ⟨#[]⟩] 40) = W at *
  refine K1.out.mono ?_
  rintro e w1 ⟨rfl, hd⟩
  have HKx : Hid (Kx w W [P]) := Kx.below HW0.out [P]
  generalize hs : w.heap.size = s at *
  have hWs := Z0.out
  have CC : Hid (∀ (X : World), Kx W X [P] → (∀ j u, ([.int .i64 0, .slice none 0 0, .string ⟨#[]⟩, .int .i64 0, .int .i64 0, .int .i64 0, .string ⟨#[]⟩] : List Value)[j]? = some u → X.cell? ⟨s, j, none⟩ = some u) ∧ ∀ j, X.frozen? ⟨s, j, none⟩ = false) := fun X k => ⟨fun j u hu => k.cell (by omega) (by simp; omega) (by have := C0.out j u hu; rw [Nat.zero_add] at this; exact this), fun j => k.froz (by omega) (by simp; omega) (F0.out j)⟩
  have HK1 := hideP (Kx.grown (A := [P]) hd.g (by simp))
  have HR1 := hideP hd.r
  clear hd K1 HW0 C0 F0 hW
  by_cases a1 : km < 3
  · have d1 : (km : Int) < 3 := by omega
    rw [if_pos a1] at HG
    obtain ⟨cc, f⟩ := CC.out w1 HK1.out
    have c0 := cc 0 _ rfl
    have c1 := cc 1 _ rfl
    have c2 := cc 2 _ rfl
    have c3 := cc 3 _ rfl
    have c4 := cc 4 _ rfl
    have c5 := cc 5 _ rfl
    have c6 := cc 6 _ rfl
    have hz1 := HK1.out.size
    have hsl : s < w1.heap.size := by omega
    have FIN := hideP (fun (a b c d e f g : Value) (o : Obj) (q : Nat) (hq : q = w1.heap.size) => (Dn.emp 3 1 Qi (HR1.out.set7 s (by omega) (by omega) a b c d e f g) ((HKx.out.trans HK1.out (A := [P]) (by simp)).set7 s (.inr (Nat.le_of_eq hs)) a b c d e f g) q (by simpa using hq)).alloc Qi.lives o)
    clear HR1 HK1 CC cc
    have hsl1 : s < w1.heap.size + 1 := by omega
    obtain rfl | rfl | rfl | rfl : x4 = 0 ∨ x4 = 1 ∨ x4 = 2 ∨ x4 = 3 := by omega
    · go_wp2_with fail
      refine bodyPost_ret (v := .agg #[.int .i64 2, .slice (some ⟨w1.heap.size, 0, none⟩) 0 0, .string ⟨#[119]⟩, .int .i64 0, .int .i64 0, .int .i64 0, .string ⟨#[]⟩]) (by simp [results, Tryz.results63, go_sem, c0, c1, c2, c3, c4, c5, c6, hsl, hsl1]) rfl ⟨.slice (some ⟨w1.heap.size, 0, none⟩) 0 0, [w1.heap.size], by rw [HG]; rfl, by rw [HG]; exact FIN.out _ _ _ _ _ _ _ _ _ rfl⟩
    · go_wp2_with fail
      refine bodyPost_ret (v := .agg #[.int .i64 2, .slice (some ⟨w1.heap.size, 0, none⟩) 0 0, .string ⟨#[119]⟩, .int .i64 0, .int .i64 0, .int .i64 0, .string ⟨#[]⟩]) (by simp [results, Tryz.results63, go_sem, c0, c1, c2, c3, c4, c5, c6, hsl, hsl1]) rfl ⟨.slice (some ⟨w1.heap.size, 0, none⟩) 0 0, [w1.heap.size], by rw [HG]; rfl, by rw [HG]; exact FIN.out _ _ _ _ _ _ _ _ _ rfl⟩
    · go_wp2_with fail
      refine bodyPost_ret (v := .agg #[.int .i64 2, .slice (some ⟨w1.heap.size, 0, none⟩) 0 0, .string ⟨#[120]⟩, .int .i64 0, .int .i64 0, .int .i64 0, .string ⟨#[]⟩]) (by simp [results, Tryz.results63, go_sem, c0, c1, c2, c3, c4, c5, c6, hsl, hsl1]) rfl ⟨.slice (some ⟨w1.heap.size, 0, none⟩) 0 0, [w1.heap.size], by rw [HG]; rfl, by rw [HG]; exact FIN.out _ _ _ _ _ _ _ _ _ rfl⟩
    · go_wp2_with fail
      refine bodyPost_ret (v := .agg #[.int .i64 2, .slice (some ⟨w1.heap.size, 0, none⟩) 0 0, .string ⟨#[97]⟩, .int .i64 0, .int .i64 0, .int .i64 0, .string ⟨#[]⟩]) (by simp [results, Tryz.results63, go_sem, c0, c1, c2, c3, c4, c5, c6, hsl, hsl1]) rfl ⟨.slice (some ⟨w1.heap.size, 0, none⟩) 0 0, [w1.heap.size], by rw [HG]; rfl, by rw [HG]; exact FIN.out _ _ _ _ _ _ _ _ _ rfl⟩
  · have d1 : ¬ (km : Int) < 3 := by omega
    rw [if_neg a1] at HG
    have I0 := hideP (fun q hq => Dn.emp (w0 := W) 3 1 Qi HR1.out HK1.out q hq)
    have KC := hideP (fun (X : World) (p : Nat) (h : Rr B P X bs p) => cellx_any B P X bs p h)
    have HN : Hid (∀ i, (Pl.cls bs p1 i).1.length = i) := Pl.cls_len bs p1
    have HC0 : Hid (Pl.cls bs p1 0 = ([], p1)) := rfl
    have HCS : Hid (∀ i, Pl.cls bs p1 (i + 1) = ((Pl.cls bs p1 i).1 ++ [(Pl.cl bs (Pl.cls bs p1 i).2).1], (Pl.cl bs (Pl.cls bs p1 i).2).2)) := fun _ => rfl
    have HGG := hideP HG
    have hx3 : IntKind.i64.wrap (1 + (x3 : Int)) = 1 + (x3 : Int) := by rw [IntKind.wrap_i64]; omega
    clear HR1 HK1 HG
    go_wp2_with fail
    go_loopw [4, 5] (fun v4 v5 wr => ∃ (i : Nat) (F : List Nat), v5 = .int .i64 (i : Int) ∧ i ≤ 1 + x3 ∧ Hid (Dn 3 1 Qi B P W wr bs (Pl.cls bs p1 i).2 [] v4 (Pl.cls bs p1 i).1 F)) (fun v4 v5 wr => 1 + x3 - (intOf v5).toNat)
    case atStart => exact ⟨0, _, rfl, by omega, I0.out _ rfl⟩
    case round =>
      rename World => wr
      obtain ⟨i, F, rfl, hi, HD⟩ := hrel
      obtain ⟨ao, cap, e4⟩ := HD.out.o.slice
      rw [HN.out i] at e4
      subst e4
      by_cases hlast : i < 1 + x3
      · have hl' : (i : Int) < 1 + (x3 : Int) := by omega
        have KK := hideP (KC.out wr _ HD.out.r)
        have HS := HCS.out i
        generalize hcl : Pl.cl bs (Pl.cls bs p1 i).2 = c9 at *
        obtain ⟨vi, pi⟩ := c9
        simp only at KK HS
        go_wp2_with fail
        refine KK.out.mono ?_
        rintro e w2 ⟨rfl, hd2⟩
        have D2 := hideP (HD.out.dw Qi.lives hd2)
        have hB2 := D2.out.r.bp
        have hL2 := D2.out.r.lt
        clear hd2 KK
        go_wp2_with (at_builtin; refine wpList_append_o el77 Qi.lives _ rfl _ _ rfl _ _ _ _ _ rfl rfl (Pl.cls bs p1 i).1 [vi] F [] [.int .i64 vi] B ?ho ?hi ?hy ?hG ?hn ?hd rfl rfl ?hc ?h1 ?hbd ?hB ?_)
        case ho => exact (D2.out.alloc Qi.lives _).o
        case hi => exact (D2.out.alloc Qi.lives _).i
        case hy => exact Qi.row _ _
        case hG => exact Inb.nil _ _
        case hn => exact List.nodup_nil
        case hd => simp
        case hc => exact cells_new (l := [.int .i64 vi]) rfl
        case h1 => simp [Value.oneCell']
        case hbd => simp [HN.out i]; omega
        case hB => simp; omega
        intro v9 w9 F9 ho9 hi9 hg9 _ hf9
        have D9 := hideP ((D2.out.alloc Qi.lives (.cells #[.int .i64 vi] 3)).app ho9 hi9 hg9 (G := []) (fun x hx => by have := hf9 x hx; simp at this ⊢; exact this) (by simp))
        have hone := ho9.one
        clear ho9 hi9 hg9 hf9 D2 HD
        go_wp2_with fail
        go_roundw
        case rel => exact ⟨i + 1, F9, by simp, by omega, by rw [HS]; exact D9.out⟩
        case measure => simp [intOf]; omega
      · have hl' : ¬ (i : Int) < 1 + (x3 : Int) := by omega
        obtain rfl : i = 1 + x3 := by omega
        have HR := HGG.out
        generalize Pl.cls bs p1 (1 + x3) = cr at *
        obtain ⟨ns, pe⟩ := cr
        simp only at HR HD
        obtain ⟨cc, f⟩ := CC.out wr HD.out.k
        have c0 := cc 0 _ rfl
        have c1 := cc 1 _ rfl
        have c2 := cc 2 _ rfl
        have c3 := cc 3 _ rfl
        have c4 := cc 4 _ rfl
        have c5 := cc 5 _ rfl
        have c6 := cc 6 _ rfl
        have FIN := hideP (fun (a b c d e f g : Value) => (⟨HD.out.r.set7 s (by omega) (by omega) a b c d e f g, HD.out.o.keep Qi.lives (fun q hq => ((Kx.refl wr [s]).set7 s (.inl (by simp)) a b c d e f g).block q (HD.out.i q hq).2 (by rcases HD.out.f q hq with r | r; exact absurd r (by simp); simp; omega)), HD.out.i.up (Nat.le_refl _) (by simp), HD.out.p, (HKx.out.trans HD.out.k (A := [P]) (by simp)).set7 s (.inr (Nat.le_of_eq hs)) a b c d e f g, fun x hx => by rcases HD.out.f x hx with r | r; exact absurd r (by simp); exact .inr (by omega)⟩ : Dn 3 1 Qi B P w _ bs pe [] _ ns F))
        clear HD CC cc
        go_wp2_with fail
        refine bodyPost_ret (v := .agg #[.int .i64 1, .slice ao (1 + x3) cap, .string ⟨#[]⟩, .int .i64 0, .int .i64 0, .int .i64 0, .string ⟨#[]⟩]) (by simp [results, Tryz.results63, go_sem, c0, c1, c2, c3, c4, c5, c6]) rfl ?_
        first
          | exact ⟨.slice ao (1 + x3) cap, rfl, F, FIN.out _ _ _ _ _ _ _⟩
          | exact ⟨.slice ao (1 + x3) cap, F, by rw [HR]; rfl, by rw [HR]; exact FIN.out _ _ _ _ _ _ _⟩
end Go.Proofs.YthhfpcdbgndioaaGreatDoor
