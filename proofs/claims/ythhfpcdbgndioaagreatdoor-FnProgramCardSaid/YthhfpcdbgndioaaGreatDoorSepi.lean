import Derived.Test.YthhfpcdbgndioaaGreatDoorAtf
import Derived.Test.YthhfpcdbgndioaaGreatDoorSml
import Derived.Test.YthhfpcdbgndioaaGreatDoorCdr
namespace Go.Proofs.YthhfpcdbgndioaaGreatDoor
open Go.RowKit
set_option linter.unusedVariables false
set_option maxRecDepth 100000
/-- what the parser reads lies below the parser -/
structure Ej (w : World) (l : List Pl.Itk) (p : Nat) (ao : Option Addr) (mb mo cp : Nat) : Prop where
  r : RdJ p w ao l
  m : Mt w mb mo cp
  mp : mb < p
  op : 1 < p
theorem RdJ.up {B B' : Nat} {w : World} {ao : Option Addr} {l : List Pl.Itk} (h : RdJ B w ao l) (hb : B ≤ B') : RdJ B' w ao l := by
  rcases h with h | ⟨b, off, hB, e, hc⟩
  · exact .inl h
  · exact .inr ⟨b, off, by omega, e, hc⟩
theorem Ej.low {w w' : World} {l : List Pl.Itk} {p : Nat} {ao : Option Addr} {mb mo cp : Nat} (h : Ej w l p ao mb mo cp) (hb : Below p w w') : Ej w' l p ao mb mo cp := by
  obtain ⟨h1, ⟨g1, g2, g3, g4, x, g5⟩, h3, h4⟩ := h
  refine ⟨h1.keep hb, ⟨(hb.cell (p := ⟨1, 0, none⟩) h4).trans g1, Nat.lt_of_lt_of_le g2 hb.size, Nat.lt_of_lt_of_le g3 hb.size, fun k m hm => ?_, x, (hb.cell (p := ⟨0, 0, none⟩) (show 0 < p by omega)).trans g5⟩, h3, h4⟩
  obtain ⟨a, b, c, d, e⟩ := g4 k m hm
  exact ⟨(hb.cell (p := ⟨mb, mo + k * 5, none⟩) h3).trans a, (hb.cell (p := ⟨mb, mo + k * 5 + 1, none⟩) h3).trans b, (hb.cell (p := ⟨mb, mo + k * 5 + 2, none⟩) h3).trans c, (hb.cell (p := ⟨mb, mo + k * 5 + 3, none⟩) h3).trans d, (hb.cell (p := ⟨mb, mo + k * 5 + 4, none⟩) h3).trans e⟩
theorem below_p {w w' : World} {p : Nat} (hp : p ≤ w.heap.size) (hg : w.grownBy w' (some p)) : Below p w w' := ⟨hg.os, hg.tape, hg.output, hg.size, fun k hk => hg.block k (by omega) (fun e => by cases e; omega)⟩
theorem Ej.grown {w w' : World} {l : List Pl.Itk} {p : Nat} {ao : Option Addr} {mb mo cp : Nat} (h : Ej w l p ao mb mo cp) (hp : p ≤ w.heap.size) (hg : w.grownBy w' (some p)) : Ej w' l p ao mb mo cp := h.low (below_p hp hg)
/-- inside a method of the parser: its result's box of eight cells -/
structure Fu (w X : World) (l : List Pl.Itk) (p cap : Nat) (ao : Option Addr) (mb mo cp a o : Nat) (be : Bool) : Prop where
  e : Ej X l p ao mb mo cp
  ps : Ps X p ao l.length cap a o be
  g : w.grownBy X (some p)
  pw : p < w.heap.size
  lt : w.heap.size < X.heap.size
  z0 : X.cell? ⟨w.heap.size, 0, none⟩ = some (.int .i64 0)
  z1 : X.cell? ⟨w.heap.size, 1, none⟩ = some (.int .i64 0)
  z2 : X.cell? ⟨w.heap.size, 2, none⟩ = some (.int .i64 0)
  z3 : X.cell? ⟨w.heap.size, 3, none⟩ = some (.string ⟨#[]⟩)
  z4 : X.cell? ⟨w.heap.size, 4, none⟩ = some (.int .i64 0)
  z5 : X.cell? ⟨w.heap.size, 5, none⟩ = some (.int .i64 0)
  z6 : X.cell? ⟨w.heap.size, 6, none⟩ = some (.int .i64 0)
  z7 : X.cell? ⟨w.heap.size, 7, none⟩ = some (.string ⟨#[]⟩)
  zf : ∀ j, X.frozen? ⟨w.heap.size, j, none⟩ = false
section
variable {w X X' : World} {l : List Pl.Itk} {p cap : Nat} {ao : Option Addr} {mb mo cp a a' o o' : Nat} {be be' : Bool}
theorem Fu.step (h : Fu w X l p cap ao mb mo cp a o be) (hg : X.grownBy X' (some p)) (hP : Ps X' p ao l.length cap a' o' be') : Fu w X' l p cap ao mb mo cp a' o' be' := by
  have e := hg.block w.heap.size h.lt (fun e => by cases e; have := h.pw; omega)
  have g (j : Nat) : X'.cell? ⟨w.heap.size, j, none⟩ = X.cell? ⟨w.heap.size, j, none⟩ := World.cell?_of_block e
  exact ⟨h.e.grown (Nat.le_of_lt h.ps.lt) hg, hP, h.g.trans hg, h.pw, Nat.lt_of_lt_of_le h.lt hg.size, (g 0).trans h.z0, (g 1).trans h.z1, (g 2).trans h.z2, (g 3).trans h.z3, (g 4).trans h.z4, (g 5).trans h.z5, (g 6).trans h.z6, (g 7).trans h.z7, fun j => (World.frozen?_of_block (a := ⟨w.heap.size, j, none⟩) e).trans (h.zf j)⟩
theorem Fu.keep (h : Fu w X l p cap ao mb mo cp a o be) (hb : Below X.heap.size X X') : Fu w X' l p cap ao mb mo cp a o be := h.step (grown_none hb _) (h.ps.keep hb)
theorem Fu.new (hE : Ej w l p ao mb mo cp) (hP : Ps w p ao l.length cap a o be) : Fu w (w.alloc (.cells #[.int .i64 0, .int .i64 0, .int .i64 0, .string ⟨#[]⟩, .int .i64 0, .int .i64 0, .int .i64 0, .string ⟨#[]⟩] 140)) l p cap ao mb mo cp a o be := by
  have hb : Below w.heap.size w (w.alloc (.cells #[.int .i64 0, .int .i64 0, .int .i64 0, .string ⟨#[]⟩, .int .i64 0, .int .i64 0, .int .i64 0, .string ⟨#[]⟩] 140)) := (Below.refl _ _).alloc (Nat.le_refl _) _
  exact ⟨hE.low (hb.mono (Nat.le_of_lt hP.lt)), hP.keep hb, grown_none hb _, hP.lt, by simp, by simp [go_sem], by simp [go_sem], by simp [go_sem], by simp [go_sem], by simp [go_sem], by simp [go_sem], by simp [go_sem], by simp [go_sem], fun j => by simp [go_sem]⟩
theorem Fu.end_ (h : Fu w X l p cap ao mb mo cp a o be) (v0 v1 v2 v3 v4 v5 v6 v7 : Value) : Ps ((((((((X.setCell ⟨w.heap.size, 0, none⟩ v0).setCell ⟨w.heap.size, 1, none⟩ v1).setCell ⟨w.heap.size, 2, none⟩ v2).setCell ⟨w.heap.size, 3, none⟩ v3).setCell ⟨w.heap.size, 4, none⟩ v4).setCell ⟨w.heap.size, 5, none⟩ v5).setCell ⟨w.heap.size, 6, none⟩ v6).setCell ⟨w.heap.size, 7, none⟩ v7) p ao l.length cap a o be ∧ w.grownBy ((((((((X.setCell ⟨w.heap.size, 0, none⟩ v0).setCell ⟨w.heap.size, 1, none⟩ v1).setCell ⟨w.heap.size, 2, none⟩ v2).setCell ⟨w.heap.size, 3, none⟩ v3).setCell ⟨w.heap.size, 4, none⟩ v4).setCell ⟨w.heap.size, 5, none⟩ v5).setCell ⟨w.heap.size, 6, none⟩ v6).setCell ⟨w.heap.size, 7, none⟩ v7) (some p) := by
  have hn : ¬ p = w.heap.size := by have := h.pw; omega
  have e : ((((((((X.setCell ⟨w.heap.size, 0, none⟩ v0).setCell ⟨w.heap.size, 1, none⟩ v1).setCell ⟨w.heap.size, 2, none⟩ v2).setCell ⟨w.heap.size, 3, none⟩ v3).setCell ⟨w.heap.size, 4, none⟩ v4).setCell ⟨w.heap.size, 5, none⟩ v5).setCell ⟨w.heap.size, 6, none⟩ v6).setCell ⟨w.heap.size, 7, none⟩ v7) = X.setCells w.heap.size 0 [v0, v1, v2, v3, v4, v5, v6, v7] := rfl
  rw [e]
  exact ⟨h.ps.far hn 0 _, grown_then h.g (setCells_below (B := w.heap.size) _ (Nat.le_refl _) _ 0 _ (Below.refl _ _)) (Nat.le_refl _)⟩
end
namespace Pl
/-- a function of kind k by its number -/
def drv (k n : Int) : Int × Int × Int := (if n = 0 then 0 else k, n, 0)
def drv2 (m n : Int) : Int × Int × Int := if m = 0 ∨ n = 0 then (0, 0, 0) else (8, m, n)
/-- impl's function: the eight cells and how far it goes -/
def fuI (l : List Itk) (a : Nat) : (Int × Int × Int × ByteArray) × (Int × Int × Int × ByteArray) × Nat :=
  let t := tkAt l a
  let t1 := tkAt l (a + 1)
  let n := opn t.tx.data.toList
  let z : Int × Int × Int × ByteArray := (0, 0, 0, ⟨#[]⟩)
  if t.k = 3 then ((10, 0, 0, t.tx), (10, 0, 0, t.tx), a + 1)
  else if t.tx = ⟨#[64]⟩ then (z, ((drv 7 (opn t1.tx.data.toList)).1, (drv 7 (opn t1.tx.data.toList)).2.1, 0, ⟨#[]⟩), a + 1 + 1)
  else if t1.tx = ⟨#[47]⟩ then (((drv 3 n).1, n, 0, ⟨#[]⟩), z, a + 1 + 1)
  else if t1.tx = ⟨#[92]⟩ then (((drv 4 n).1, n, 0, ⟨#[]⟩), z, a + 1 + 1)
  else if t1.tx = ⟨#[46]⟩ then (z, ((drv2 n (opn (tkAt l (a + 1 + 1)).tx.data.toList)).1, (drv2 n (opn (tkAt l (a + 1 + 1)).tx.data.toList)).2.1, (drv2 n (opn (tkAt l (a + 1 + 1)).tx.data.toList)).2.2, ⟨#[]⟩), a + 1 + 1 + 1)
  else match rowOf t.tx.data.toList with
    | some m => ((m.ok, m.ow, 0, ⟨#[]⟩), (m.tk, m.tw, 0, ⟨#[]⟩), a + 1)
    | none => (z, z, a + 1)
end Pl
def ag8 (q : (Int × Int × Int × ByteArray) × (Int × Int × Int × ByteArray) × Nat) : Value := .agg #[.int .i64 q.1.1, .int .i64 q.1.2.1, .int .i64 q.1.2.2.1, .string q.1.2.2.2, .int .i64 q.2.1.1, .int .i64 q.2.1.2.1, .int .i64 q.2.1.2.2.1, .string q.2.1.2.2.2]
namespace Pl
def sepN (l : List Itk) : Nat → Nat → Nat
  | 0, a => a
  | n + 1, a => if (tkAt l a).tx = ⟨#[59]⟩ then sepN l n (a + 1) else a
/-- the place behind the separators -/
def sepA (l : List Itk) (a : Nat) : Nat := sepN l (l.length - a) a
theorem tkAt_past {l : List Itk} {a : Nat} (h : l.length ≤ a) : tkAt l a = noTk := by unfold tkAt; rw [List.getElem?_eq_none h]; rfl
theorem sep_yes {l : List Itk} {a : Nat} (h : (tkAt l a).tx = ⟨#[59]⟩) : a < l.length ∧ sepA l a = sepA l (a + 1) := by
  have ha : a < l.length := by
    by_cases ha : a < l.length
    · exact ha
    · rw [tkAt_past (by omega)] at h
      exact absurd (congrArg ByteArray.size h) (by decide)
  refine ⟨ha, ?_⟩
  unfold sepA
  rw [show l.length - a = (l.length - (a + 1)) + 1 by omega, sepN, if_pos h]
theorem sep_no {l : List Itk} {a : Nat} (h : ¬ (tkAt l a).tx = ⟨#[59]⟩) : sepA l a = a := by
  unfold sepA
  cases l.length - a with
  | zero => rfl
  | succ n => rw [sepN, if_neg h]
theorem sepN_ge (l : List Itk) : ∀ n a, a ≤ sepN l n a ∧ sepN l n a ≤ a + n
  | 0, a => ⟨Nat.le_refl _, Nat.le_refl _⟩
  | n + 1, a => by
    have := sepN_ge l n (a + 1)
    rw [sepN]
    split <;> omega
end Pl
set_option maxHeartbeats 2000000 in
/-- (*impl.parser).separators -/
theorem separators_any (l : List Pl.Itk) (p cap a o mb mo cp : Nat) (ao : Option Addr) (be : Bool) (w : World) (hl : l.length ≤ 1048576) (ha : a ≤ 1048580) (hE : Ej w l p ao mb mo cp) (hP : Ps w p ao l.length cap a o be) :
    Calls Tryz.prog 32 #[.pointer (some ⟨p, 0, none⟩)] w fun e w' => e = .returned (.bool (decide (a < Pl.sepA l a))) ∧ Ps w' p ao l.length cap (Pl.sepA l a) o be ∧ w.grownBy w' (some p) := by
  have KS : Hid (∀ (X : World) (a' : Nat), Ej X l p ao mb mo cp → Ps X p ao l.length cap a' o be → a' ≤ 1048590 → Calls Tryz.prog 57 #[.pointer (some ⟨p, 0, none⟩), .string ⟨#[59]⟩] X fun e w' => e = .returned (.bool (decide ((Pl.tkAt l a').tx = ⟨#[59]⟩))) ∧ Ps w' p ao l.length cap (if (Pl.tkAt l a').tx = ⟨#[59]⟩ then a' + 1 else a') o be ∧ X.grownBy w' (some p)) := fun X a' hE hP h => sign_any l p cap a' o ao be ⟨#[59]⟩ X hl h hP (hE.r.up (Nat.le_of_lt hP.lt))
  have I0 : Hid (Ej w l p ao mb mo cp ∧ Ps w p ao l.length cap a o be ∧ w.grownBy w (some p) ∧ Pl.sepA l a = Pl.sepA l a) := ⟨hE, hP, World.grownBy.refl _ _, rfl⟩
  have hgt : Hid (a ≤ Pl.sepA l a) := (Pl.sepN_ge l _ a).1
  have c1 := hP.c1
  have m1 := c1
  clear hE hP
  generalize hS : Pl.sepA l a = S at *
  go_enter Tryz.func32, Tryz.ntmps32
  go_wp2_with fail
  go_loopw [9] (fun v9 wr => ∃ i : Nat, a ≤ i ∧ (i ≤ a ∨ i ≤ l.length) ∧ Hid (Ej wr l p ao mb mo cp ∧ Ps wr p ao l.length cap i o be ∧ w.grownBy wr (some p) ∧ S = Pl.sepA l i)) (fun v9 wr => l.length + 1 - (intOf ((wr.cell? ⟨p, 1, none⟩).getD undef)).toNat)
  case atStart => exact ⟨a, Nat.le_refl _, .inl (Nat.le_refl _), I0.out.1, I0.out.2.1, I0.out.2.2.1, hS.symm⟩
  case round =>
    rename World => wr
    obtain ⟨i, hi1, hi2, HH⟩ := hrel
    have K := hideP (KS.out wr i HH.out.1 HH.out.2.1 (by omega))
    have n1 := HH.out.2.1.c1
    by_cases h : (Pl.tkAt l i).tx = ⟨#[59]⟩
    · obtain ⟨hil, hse⟩ := Pl.sep_yes h
      rw [decide_eq_true h, if_pos h] at K
      go_wp2_with fail
      refine K.out.mono ?_
      rintro e w2 ⟨rfl, hP2, hg2⟩
      have q1 := hP2.c1
      have H2 : Hid (Ej w2 l p ao mb mo cp ∧ Ps w2 p ao l.length cap (i + 1) o be ∧ w.grownBy w2 (some p) ∧ S = Pl.sepA l (i + 1)) := ⟨HH.out.1.grown (Nat.le_of_lt HH.out.2.1.lt) hg2, hP2, HH.out.2.2.1.trans hg2, by rw [HH.out.2.2.2, hse]⟩
      clear hP2 hg2 HH K
      go_wp2_with fail
      go_roundw
      case rel => exact ⟨i + 1, by omega, by omega, H2⟩
      case measure => simp [q1, n1, intOf] <;> omega
    · rw [decide_eq_false h, if_neg h] at K
      have hSi := HH.out.2.2.2.trans (Pl.sep_no h)
      go_wp2_with fail
      refine K.out.mono ?_
      rintro e w2 ⟨rfl, hP2, hg2⟩
      have q1 := hP2.c1
      have q0 : w2.heap.size = w2.heap.size := rfl
      have H2 : Hid (Ps w2 p ao l.length cap i o be ∧ w.grownBy w2 (some p)) := ⟨hP2, HH.out.2.2.1.trans hg2⟩
      clear hP2 hg2 HH K q0
      by_cases hai : a < i
      · have HSI := hideP hSi
        clear hSi
        go_wp2_with fail
        refine bodyPost_ret (v := .bool true) (by simp [results, Tryz.results32, go_sem]; try omega) rfl ⟨by rw [HSI.out, decide_eq_true hai], by rw [HSI.out]; exact H2.out.1, H2.out.2⟩
      · have HSI := hideP hSi
        clear hSi
        go_wp2_with fail
        refine bodyPost_ret (v := .bool false) (by simp [results, Tryz.results32, go_sem]; try omega) rfl ⟨by rw [HSI.out, decide_eq_false hai], by rw [HSI.out]; exact H2.out.1, H2.out.2⟩
end Go.Proofs.YthhfpcdbgndioaaGreatDoor
