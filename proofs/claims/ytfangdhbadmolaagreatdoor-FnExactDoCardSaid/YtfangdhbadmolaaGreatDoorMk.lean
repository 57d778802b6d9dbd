import Derived.Test.YtfangdhbadmolaaGreatDoorOw
import Derived.Laws.BytesArg
import Derived.Laws.Concat
import Derived.Deep.RegionWith
import Derived.Deep.RegionHeld3
namespace Go.Proofs.YtfangdhbadmolaaGreatDoor
open Go.RowKit
set_option linter.unusedVariables false

namespace Pl
/-- the loop of markText -/
def mkD (k : Nat) (out : ByteArray) : ByteArray :=
  if h : k = 0 then out else mkD (k / 10) (⟨#[UInt8.ofNat (48 + k % 10)]⟩ ++ out)
termination_by k
decreasing_by omega
def mkT (k : Nat) : ByteArray := ⟨#[109]⟩ ++ mkD k ByteArray.empty
theorem mkD_step (k : Nat) (out : ByteArray) (h : ¬ k = 0) : mkD k out = mkD (k / 10) (⟨#[UInt8.ofNat (48 + k % 10)]⟩ ++ out) := by
  rw [mkD, dif_neg h]
theorem mkD_zero (out : ByteArray) : mkD 0 out = out := by rw [mkD]; simp
/-- files that are marked: from m on -/
def marksF (m : Nat) : Nat → List Fl
  | 0 => []
  | n + 1 => (mkT m, mkT (m + 1)) :: marksF (m + 2) n
theorem marksF_len (m n : Nat) : (marksF m n).length = n := by
  induction n generalizing m with
  | zero => rfl
  | succ n ih => simp [marksF, ih]
theorem marksF_at (m n i : Nat) (h : i < n) : at' (marksF m n) i = (mkT (m + 2 * i), mkT (m + 2 * i + 1)) := by
  induction n generalizing m i with
  | zero => omega
  | succ n ih =>
    cases i with
    | zero => simp [marksF, at']
    | succ i =>
      have := ih (m + 2) i (by omega)
      have e : m + 2 + 2 * i = m + 2 * (i + 1) := by omega
      rw [e] at this
      simpa [marksF, at'] using this
end Pl

theorem conv_one (p : Nat) (x : Int) (b : UInt8) (W : World) (hb : UInt8.ofNat x.toNat = b) (h : W.cell? ⟨p, 0, none⟩ = some (.int .u8 x)) : (convert 105 9 (.slice (some ⟨p, 0, none⟩) 1 1)).run Tryz.prog W = .ok (.string ⟨#[b]⟩) W := by
  have := run_convert_bytes_arg (P := Tryz.prog) W 105 5 (by kernel_rfl) (by kernel_rfl) p 0 1 1 [x] rfl (fun i hi => by
    have : i = 0 := by omega
    subst this
    simpa using h) 9 (by kernel_rfl)
  rw [this, ← hb]
  simp [strOfNums]

set_option maxRecDepth 100000 in
set_option maxHeartbeats 1000000 in
/-- laws.markText -/
theorem markText_any (k0 : Nat) (w : World) (h0 : 1 ≤ k0) (h1 : k0 ≤ 1099511627776) :
    Calls Tryz.prog 42 #[.int .i64 (k0 : Int)] w fun e w' => e = .returned (.string (Pl.mkT k0)) ∧ Below w.heap.size w w' := by
  have g0 : ¬ (k0 : Int) ≤ 0 := by omega
  go_enter Tryz.func42, Tryz.ntmps42
  go_wp2
  go_loopw [0, 3] (fun i o wr => ∃ (k : Nat) (out : ByteArray), i = .int .i64 k ∧ o = .string out ∧ out.size + k ≤ k0 ∧ Hid (Pl.mkD k out = Pl.mkD k0 ByteArray.empty) ∧ Hid (Below w.heap.size w wr)) (fun i _ _ => (intOf i).toNat)
  case atStart => exact ⟨k0, ByteArray.empty, rfl, rfl, by simp, rfl, Below.refl _ _⟩
  case round =>
    obtain ⟨k, out, rfl, rfl, hsz, heq, hbel⟩ := hrel
    by_cases hk : k = 0
    · subst hk
      have HE : Hid (Pl.mkT k0 = ⟨#[109]⟩ ++ out) := by show _ = _; unfold Pl.mkT; rw [← heq.out, Pl.mkD_zero]
      have hz : ¬ (9223372036854775807 < 1 + out.size) := by omega
      clear heq
      go_wp2
      go_ret
      exact ⟨by rw [HE.out]; rfl, hbel.out⟩
    · have hk' : (0 : Int) < k := by omega
      have HS := hideP ((Pl.mkD_step k out hk).symm.trans heq.out)
      generalize hq : k / 10 = q at *
      generalize hr : k % 10 = r at *
      have eq1 : Int.tdiv (k : Int) 10 = (q : Int) := by rw [Int.tdiv_eq_ediv_of_nonneg (by omega)]; omega
      have er1 : Int.tmod (k : Int) 10 = (r : Int) := by rw [Int.tmod_eq_emod_of_nonneg (by omega)]; omega
      have hr9 : r < 10 := by omega
      obtain ⟨bu, hbu⟩ : ∃ bu, UInt8.ofNat (48 + r) = bu := ⟨_, rfl⟩
      rw [hbu] at HS
      have kc : (convert 105 9 (.slice (some ⟨wr.heap.size, 0, none⟩) 1 1)).run Tryz.prog (wr.alloc (.cells #[.int .u8 (48 + (r : Int))] 5)) = .ok (.string ⟨#[bu]⟩) (wr.alloc (.cells #[.int .u8 (48 + (r : Int))] 5)) := conv_one wr.heap.size (48 + (r : Int)) bu _ (by rw [← hbu]; congr 1) (by simp [go_sem])
      have hz : ¬ (9223372036854775807 < 1 + out.size) := by omega
      have hqk : q < k := by omega
      clear hbu heq
      go_wp2
      go_roundw
      case rel => exact ⟨q, _, rfl, rfl, by rw [ByteArray.size_append]; show 1 + out.size + q ≤ k0; omega, HS, hbel.out.alloc hbel.out.size _⟩
      case measure => simp [intOf]; omega

theorem markText_succ (t : Nat) (w : World) (h1 : t + 1 ≤ 1099511627776) :
    Calls Tryz.prog 42 #[.int .i64 ((t : Int) + 1)] w fun e w' => e = .returned (.string (Pl.mkT (t + 1))) ∧ Below w.heap.size w w' := by
  have := markText_any (t + 1) w (by omega) h1
  simpa using this

/-- the first j marked -/
def partF (m : Nat) (fs : List Pl.Fl) (j i : Nat) : Pl.Fl := if i < j then (Pl.mkT (m + 2 * i), Pl.mkT (m + 2 * i + 1)) else Pl.at' fs i

/-- the block that is written where there are elements -/
def rowOf (u : Value) (n : Nat) : Option Nat := if n = 0 then none else u.ownBlock

theorem rowOf_ge {B : Nat} {w : World} {u : Value} {fs : List Pl.Fl} (h : OwF B w u fs) : ∀ k, rowOf u fs.length = some k → B ≤ k ∧ k < w.heap.size := by
  intro k hk
  obtain ⟨ao, cap, rfl, h⟩ := h
  unfold rowOf at hk
  rcases h with h | ⟨g, off, h1, h2, rfl, _⟩
  · rw [if_pos h] at hk; cases hk
  · split at hk
    · cases hk
    · simp [Value.ownBlock] at hk
      omega

/-- two stores of one file -/
theorem mark_step {w wr w2 w3 : World} {g off n m j : Nat} {fs : List Pl.Fl} {a b : Value} (hgr : w.grownBy wr (some g)) (hg : g < wr.heap.size) (hs : w.heap.size ≤ wr.heap.size)
    (hcs : ∀ i, i < n → (wr.cell? ⟨g, off + i * 2, none⟩ = some (.string (partF m fs j i).1) ∧ wr.cell? ⟨g, off + i * 2 + 1, none⟩ = some (.string (partF m fs j i).2)) ∧ (wr.frozen? ⟨g, off + i * 2, none⟩ = false ∧ wr.frozen? ⟨g, off + i * 2 + 1, none⟩ = false))
    (hb2 : Below wr.heap.size wr w2) (ha : a = .string (Pl.mkT (m + 2 * j))) (hb : b = .string (Pl.mkT (m + 2 * j + 1)))
    (hb3 : Below (w2.setCell ⟨g, off + j * 2, none⟩ a).heap.size (w2.setCell ⟨g, off + j * 2, none⟩ a) w3) :
    w.grownBy (w3.setCell ⟨g, off + j * 2 + 1, none⟩ b) (some g) ∧ g < (w3.setCell ⟨g, off + j * 2 + 1, none⟩ b).heap.size ∧
    ∀ i, i < n → ((w3.setCell ⟨g, off + j * 2 + 1, none⟩ b).cell? ⟨g, off + i * 2, none⟩ = some (.string (partF m fs (j + 1) i).1) ∧ (w3.setCell ⟨g, off + j * 2 + 1, none⟩ b).cell? ⟨g, off + i * 2 + 1, none⟩ = some (.string (partF m fs (j + 1) i).2)) ∧ ((w3.setCell ⟨g, off + j * 2 + 1, none⟩ b).frozen? ⟨g, off + i * 2, none⟩ = false ∧ (w3.setCell ⟨g, off + j * 2 + 1, none⟩ b).frozen? ⟨g, off + i * 2 + 1, none⟩ = false) := by
  have s2 := hb2.size
  have s3 := hb3.size
  simp at s3
  refine ⟨⟨?_, ?_, ?_, by simp; omega, fun k hk hne => ?_⟩, by simp; omega, fun i hi => ?_⟩
  · exact (hb3.os.trans hb2.os).trans hgr.os
  · exact (hb3.tape.trans hb2.tape).trans hgr.tape
  · exact (hb3.output.trans hb2.output).trans hgr.output
  · have hkg : ¬ k = g := fun e => hne (by rw [e])
    rw [Below.heap_setCell _ _ _ _ hkg, hb3.block k (by simp; omega), Below.heap_setCell _ _ _ _ hkg, hb2.block k (by omega)]
    exact hgr.block k hk hne
  · obtain ⟨⟨c0, c1⟩, f0, f1⟩ := hcs i hi
    have d0 := (hb2.cell (p := ⟨g, off + i * 2, none⟩) hg).trans c0
    have d1 := (hb2.cell (p := ⟨g, off + i * 2 + 1, none⟩) hg).trans c1
    have e0 : w3.cell? ⟨g, off + i * 2, none⟩ = some (.string (partF m fs (j + 1) i).1) := by
      rw [hb3.cell (p := ⟨g, off + i * 2, none⟩) (by show g < _; simp; omega)]
      by_cases hij : i = j
      · subst hij
        rw [World.cell?_setCell_same _ _ _ d0, ha]
        unfold partF
        rw [if_pos (by omega)]
      · rw [World.cell?_setCell_other _ _ _ _ (by intro e; injection e with _ e2 _; exact hij (by omega)), d0]
        unfold partF
        by_cases h : i < j
        · rw [if_pos h, if_pos (by omega)]
        · rw [if_neg h, if_neg (by omega)]
    have e1 : w3.cell? ⟨g, off + i * 2 + 1, none⟩ = some (.string (partF m fs j i).2) := by
      rw [hb3.cell (p := ⟨g, off + i * 2 + 1, none⟩) (by show g < _; simp; omega), World.cell?_setCell_other _ _ _ _ (by intro e; injection e with _ e2 _; omega), d1]
    refine ⟨⟨?_, ?_⟩, ?_, ?_⟩
    · rw [World.cell?_setCell_other _ _ _ _ (by intro e; injection e with _ e2 _; omega), e0]
    · by_cases hij : i = j
      · subst hij
        rw [World.cell?_setCell_same _ _ _ e1, hb]
        unfold partF
        rw [if_pos (by omega)]
      · rw [World.cell?_setCell_other _ _ _ _ (by intro e; injection e with _ e2 _; exact hij (by omega)), e1]
        unfold partF
        by_cases h : i < j
        · rw [if_pos h, if_pos (by omega)]
        · rw [if_neg h, if_neg (by omega)]
    · have := hb3.frozen (p := ⟨g, off + i * 2, none⟩) (by show g < _; simp; omega)
      have h2 := (hb2.frozen (p := ⟨g, off + i * 2, none⟩) hg).trans f0
      simp [go_sem, this, h2]
    · have := hb3.frozen (p := ⟨g, off + i * 2 + 1, none⟩) (by show g < _; simp; omega)
      have h2 := (hb2.frozen (p := ⟨g, off + i * 2 + 1, none⟩) hg).trans f1
      simp [go_sem, this, h2]

set_option maxHeartbeats 1000000 in
/-- laws.markFileS -/
theorem markFileS_core (g off cap m : Nat) (fs : List Pl.Fl) (w : World) (hl : fs.length ≤ 1048576) (h0 : 1 ≤ m) (h1 : m ≤ 4194304) (hg : g < w.heap.size)
    (hc : ∀ i, i < fs.length → (w.cell? ⟨g, off + i * 2, none⟩ = some (.string (Pl.at' fs i).1) ∧ w.cell? ⟨g, off + i * 2 + 1, none⟩ = some (.string (Pl.at' fs i).2)) ∧ (w.frozen? ⟨g, off + i * 2, none⟩ = false ∧ w.frozen? ⟨g, off + i * 2 + 1, none⟩ = false)) :
    Calls Tryz.prog 24 #[.slice (some ⟨g, off, none⟩) fs.length cap, .int .i64 (m : Int)] w fun e w' => e = .returned (.int .i64 ((m + 2 * fs.length : Nat) : Int)) ∧ w.grownBy w' (some g) ∧ g < w'.heap.size ∧
      ∀ i, i < fs.length → (w'.cell? ⟨g, off + i * 2, none⟩ = some (.string (Pl.mkT (m + 2 * i))) ∧ w'.cell? ⟨g, off + i * 2 + 1, none⟩ = some (.string (Pl.mkT (m + 2 * i + 1)))) ∧ (w'.frozen? ⟨g, off + i * 2, none⟩ = false ∧ w'.frozen? ⟨g, off + i * 2 + 1, none⟩ = false) := by
  have HC := hideP hc
  clear hc
  generalize hn : fs.length = n at *
  clear hn
  go_enter Tryz.func24, Tryz.ntmps24
  go_wp2_with fail
  go_loopw [1, 5] (fun k i wr => ∃ j : Nat, j ≤ n ∧ i = .int .i64 j ∧ k = .int .i64 ((m + 2 * j : Nat) : Int) ∧ Hid (w.grownBy wr (some g) ∧ g < wr.heap.size ∧ ∀ i, i < n → (wr.cell? ⟨g, off + i * 2, none⟩ = some (.string (partF m fs j i).1) ∧ wr.cell? ⟨g, off + i * 2 + 1, none⟩ = some (.string (partF m fs j i).2)) ∧ (wr.frozen? ⟨g, off + i * 2, none⟩ = false ∧ wr.frozen? ⟨g, off + i * 2 + 1, none⟩ = false))) (fun _ i _ => n - (intOf i).toNat)
  case atStart =>
    refine ⟨0, Nat.zero_le _, rfl, by go_num, World.grownBy.refl _ _, hg, ?_⟩
    intro i hi
    unfold partF
    rw [if_neg (by omega)]
    exact HC.out i hi
  case round =>
    obtain ⟨j, hj, rfl, rfl, hcs⟩ := hrel
    by_cases hlt : j < n
    · obtain ⟨⟨ck0, ck1⟩, fk0, fk1⟩ := hcs.out.2.2 j hlt
      have hgw := hcs.out.2.1
      have MS := hideP (fun w2 w3 a b => mark_step (w := w) (wr := wr) (w2 := w2) (w3 := w3) (a := a) (b := b) hcs.out.1 hcs.out.2.1 hcs.out.1.size hcs.out.2.2)
      generalize partF m fs j j = f at *
      obtain ⟨fa, fb⟩ := f
      simp only at ck0 ck1
      have HT := hideP (rfl : m + 2 * j = m + 2 * j)
      generalize ht : m + 2 * j = t at *
      have K := hideP (fun w => markText_any t w (by omega) (by omega))
      have K1 := hideP (fun w => markText_succ t w (by omega))
      have ht2 : m + 2 * (j + 1) = t + 2 := by omega
      clear HC
      go_wp2_with fail
      refine (K.out _).mono ?_
      rintro e w2 ⟨rfl, hb2⟩
      have HB2 := hideP hb2
      have d0 := (hb2.cell (p := ⟨g, off + j * 2, none⟩) hgw).trans ck0
      have d1 := (hb2.cell (p := ⟨g, off + j * 2 + 1, none⟩) hgw).trans ck1
      have e0 := (hb2.frozen (p := ⟨g, off + j * 2, none⟩) hgw).trans fk0
      have e1 := (hb2.frozen (p := ⟨g, off + j * 2 + 1, none⟩) hgw).trans fk1
      have sz2 := hb2.size
      clear hb2 ck0 ck1 fk0 fk1
      go_wp2_with fail
      refine (K1.out _).mono ?_
      rintro e w3 ⟨rfl, hb3⟩
      have HB3 := hideP hb3
      have sz3 := hb3.size
      simp at sz3
      have d3 : w3.cell? ⟨g, off + j * 2 + 1, none⟩ = some (.string fb) := by
        rw [hb3.cell (p := ⟨g, off + j * 2 + 1, none⟩) (by show g < _; simp; omega), World.cell?_setCell_other _ _ _ _ (by intro e; injection e with _ e2 _; omega), d1]
      have f3 : w3.frozen? ⟨g, off + j * 2 + 1, none⟩ = false := by
        rw [hb3.frozen (p := ⟨g, off + j * 2 + 1, none⟩) (by show g < _; simp; omega)]
        simp [go_sem, e1]
      have R := hideP (MS.out w2 w3 _ _ HB2.out rfl rfl hb3)
      clear hb3 d0 d1 e0 e1
      go_wp2_with fail
      go_roundw
      case rel => exact ⟨j + 1, by omega, by go_num, by rw [ht2]; go_num, R⟩
      case measure => simp [intOf]; omega
    · have jn : j = n := by omega
      subst jn
      go_wp2_with fail
      go_ret
      refine ⟨rfl, hcs.out.1, hcs.out.2.1, fun i hi => ?_⟩
      have := hcs.out.2.2 i hi
      unfold partF at this
      rw [if_pos hi] at this
      exact this

theorem markFileS_nil (ao : Option Addr) (cap m : Nat) (w : World) (h1 : m ≤ 4194304) :
    Calls Tryz.prog 24 #[.slice ao 0 cap, .int .i64 (m : Int)] w fun e w' => e = .returned (.int .i64 (m : Int)) ∧ w' = w := by
  go_enter Tryz.func24, Tryz.ntmps24
  go_wp2_with fail
  go_loopw [1, 5] (fun k i wr => i = .int .i64 0 ∧ k = .int .i64 (m : Int) ∧ wr = w) (fun _ _ _ => 0)
  case atStart => exact ⟨rfl, rfl, rfl⟩
  case round =>
    obtain ⟨rfl, rfl, rfl⟩ := hrel
    go_wp2_with fail
    go_ret
    exact ⟨rfl, rfl⟩

theorem markFileS_any (B : Nat) (u : Value) (m : Nat) (fs : List Pl.Fl) (w : World) (hl : fs.length ≤ 1048576) (h0 : 1 ≤ m) (h1 : m ≤ 4194304) (h : OwF B w u fs) :
    Calls Tryz.prog 24 #[u, .int .i64 (m : Int)] w fun e w' => e = .returned (.int .i64 ((m + 2 * fs.length : Nat) : Int)) ∧ w.grownBy w' (rowOf u fs.length) ∧ OwF B w' u (Pl.marksF m fs.length) := by
  obtain ⟨ao, cap, rfl, h⟩ := h
  by_cases hz : fs.length = 0
  · obtain rfl := List.length_eq_zero_iff.1 hz
    refine (markFileS_nil ao cap m w h1).mono ?_
    rintro e w' ⟨rfl, rfl⟩
    exact ⟨by simp, World.grownBy.refl _ _, OwF.nil _ _ _ _⟩
  · rcases h with h | ⟨g, off, hB, hg, rfl, hc⟩
    · exact absurd h hz
    · refine (markFileS_core g off cap m fs w hl h0 h1 hg hc).mono ?_
      rintro e w' ⟨rfl, hgr, hsz, hcs⟩
      refine ⟨rfl, ?_, _, cap, by rw [Pl.marksF_len], .inr ⟨g, off, hB, hsz, rfl, ?_⟩⟩
      · unfold rowOf
        rw [if_neg hz]
        exact hgr
      · intro i hi
        rw [Pl.marksF_len] at hi
        rw [Pl.marksF_at _ _ _ hi]
        exact hcs i hi

/-- laws.markDisk -/
theorem markDisk_any (B : Nat) (u : Value) (fs : List Pl.Fl) (w : World) (hl : fs.length ≤ 1048576) (h : OwF B w u fs) :
    Calls Tryz.prog 11 #[.agg #[u], .int .i64 1] w fun e w' => e = .returned (.int .i64 ((1 + 2 * fs.length : Nat) : Int)) ∧ w.grownBy w' (rowOf u fs.length) ∧ OwF B w' u (Pl.marksF 1 fs.length) := by
  have A : Hid (∀ o, OwF B (w.alloc o) u fs) := fun o => h.keep ((Below.refl _ _).alloc (Nat.le_refl _) _)
  obtain ⟨a0, d0, e0⟩ := h.form
  subst e0
  have HG := hideP (rowOf_ge h)
  clear h
  have K := hideP (fun o => markFileS_any B _ 1 fs (w.alloc o) hl (by omega) (by omega) (A.out o))
  have hk : (((1 : Nat) : Int)) = 1 := rfl
  rw [hk] at K
  clear hk
  go_enter Tryz.func11, Tryz.ntmps11
  go_wp2_with fail
  refine (K.out _).mono ?_
  rintro e w1 ⟨rfl, hg, ho⟩
  have HGR := hideP hg
  have HO := hideP ho
  clear hg ho
  obtain ⟨r, hr⟩ : ∃ r : Int, ((1 + 2 * fs.length : Nat) : Int) = r := ⟨_, rfl⟩
  rw [hr]
  have HR := hideP hr
  clear hr
  go_wp2_with fail
  go_ret
  refine ⟨ret_int HR.out.symm, ⟨HGR.out.os, HGR.out.tape, HGR.out.output, Nat.le_trans (by simp) HGR.out.size, fun k hk hne => ?_⟩, HO.out⟩
  rw [HGR.out.block k (by simp; omega) hne]
  exact Below.heap_alloc w _ k hk

set_option maxHeartbeats 1000000 in
/-- laws.heldFileS -/
theorem heldFileS_core (b off cap n m : Nat) (w : World) (hb : b < w.heap.size) (hl : n ≤ 1048576) (h0 : 1 ≤ m) (h1 : m ≤ 4194304)
    (hc : ∀ i, i < n → w.cell? ⟨b, off + i * 2, none⟩ = some (.string (Pl.mkT (m + 2 * i))) ∧ w.cell? ⟨b, off + i * 2 + 1, none⟩ = some (.string (Pl.mkT (m + 2 * i + 1)))) :
    Calls Tryz.prog 25 #[.slice (some ⟨b, off, none⟩) n cap, .int .i64 (m : Int)] w fun e w' => e = .returned (.int .i64 ((m + 2 * n : Nat) : Int)) ∧ Below w.heap.size w w' := by
  have HC := hideP hc
  clear hc
  go_enter Tryz.func25, Tryz.ntmps25
  go_wp2_with fail
  go_loopw [1, 5] (fun k i wr => ∃ j : Nat, j ≤ n ∧ i = .int .i64 j ∧ k = .int .i64 ((m + 2 * j : Nat) : Int) ∧ Hid (Below w.heap.size w wr)) (fun _ i _ => n - (intOf i).toNat)
  case atStart => exact ⟨0, Nat.zero_le _, rfl, by go_num, Below.refl _ _⟩
  case round =>
    obtain ⟨j, hj, rfl, rfl, hbel⟩ := hrel
    by_cases hlt : j < n
    · have hck := HC.out j hlt
      have H0 : Hid (∀ w', Below w.heap.size w w' → w'.cell? ⟨b, off + j * 2, none⟩ = some (.string (Pl.mkT (m + 2 * j)))) := fun w' h => (h.cell (p := ⟨b, off + j * 2, none⟩) hb).trans hck.1
      have H1 : Hid (∀ w', Below w.heap.size w w' → w'.cell? ⟨b, off + j * 2 + 1, none⟩ = some (.string (Pl.mkT (m + 2 * j + 1)))) := fun w' h => (h.cell (p := ⟨b, off + j * 2 + 1, none⟩) hb).trans hck.2
      clear hck HC
      generalize ht : m + 2 * j = t at *
      have KT := hideP (fun w => markText_any t w (by omega) (by omega))
      have KT1 := hideP (fun w => markText_succ t w (by omega))
      have ht2 : m + 2 * (j + 1) = t + 2 := by omega
      generalize Pl.mkT t = s0 at *
      generalize Pl.mkT (t + 1) = s1 at *
      have q0 : (s0.toList == s0.toList) = true := by simp
      have q1 : (s1.toList == s1.toList) = true := by simp
      have D1 : Hid (Below w.heap.size w wr.drew) := hbel.out.drew
      go_wp2_with fail
      refine wp_region_held (S := fun w' => Below w.heap.size w w') (by kernel_rfl) ?_
      change wpAnyH _ _ _ _ _ _ _ _ (World.drew _)
      refine wpAnyH_take (i := 0) (v := .slice (some ⟨b, off, none⟩) n cap) rfl (by kernel_rfl) (by kernel_rfl) (by kernel_rfl) (fun _ _ _ h => h) (Or.inl ⟨by rfl, ?_⟩) D1.out ?_
      · intro w' hS
        clear hS
        go_simp
      refine wpAnyH_take (i := 1) (v := .int .i64 j) rfl (by kernel_rfl) (by kernel_rfl) (by kernel_rfl) (fun _ _ _ h => h) (Or.inl ⟨by rfl, ?_⟩) D1.out ?_
      · intro w' hS
        clear hS
        go_simp
      refine wpAnyH_take (i := 2) (v := .pointer (some ⟨b, off + j * 2, none⟩)) rfl (by kernel_rfl) (by kernel_rfl) (by kernel_rfl) (fun _ _ _ h => h) (Or.inl ⟨by rfl, ?_⟩) D1.out ?_
      · intro w' hS
        clear hS
        go_simp
      refine wpAnyH_take (i := 3) (v := .pointer (some ⟨b, off + j * 2, none⟩)) rfl (by kernel_rfl) (by kernel_rfl) (by kernel_rfl) (fun _ _ _ h => h) (Or.inl ⟨by rfl, ?_⟩) D1.out ?_
      · intro w' hS
        clear hS
        go_simp
      refine wpAnyH_take (i := 4) (v := .string s0) rfl (by kernel_rfl) (by kernel_rfl) (by kernel_rfl) (fun _ _ _ h => h) (Or.inl ⟨by rfl, ?_⟩) D1.out ?_
      · intro w' hS
        have := H0.out w' hS
        clear hS
        go_simp
      refine wpAnyH_take (i := 5) (v := .int .i64 (t : Int)) rfl (by kernel_rfl) (by kernel_rfl) (by kernel_rfl) (fun _ _ _ h => h) (Or.inl ⟨by rfl, ?_⟩) D1.out ?_
      · intro w' hS
        clear hS
        go_simp
      refine wpAnyH_ready (rs := [6]) (by kernel_rfl) (by simp) ?_
      refine AllReadyH.cons rfl (fun K hK => ?_) AllReadyH.nil
      go_simp
      refine (KT.out _).mono ?_
      rintro e w2 ⟨rfl, hb2⟩
      have B2 := hideP (D1.out.trans (hb2.mono D1.out.size))
      clear hb2
      refine hK.out _ _ B2.out (fun _ => ?_)
      clear hK
      refine wpAnyH_ready (rs := [7]) (by kernel_rfl) (by simp) ?_
      refine AllReadyH.cons rfl (fun K hK => ?_) AllReadyH.nil
      go_simp
      refine hK.out _ _ B2.out (fun _ => ?_)
      clear hK
      refine wpAnyH_done (by kernel_rfl) ?_ _
      go_wp2_with fail
      have D2 : Hid (Below w.heap.size w w2.drew) := B2.out.drew
      refine wp_region_held (S := fun w' => Below w.heap.size w w') (by kernel_rfl) ?_
      change wpAnyH _ _ _ _ _ _ _ _ (World.drew _)
      refine wpAnyH_take (i := 0) (v := .slice (some ⟨b, off, none⟩) n cap) rfl (by kernel_rfl) (by kernel_rfl) (by kernel_rfl) (fun _ _ _ h => h) (Or.inl ⟨by rfl, ?_⟩) D2.out ?_
      · intro w' hS
        clear hS
        go_simp
      refine wpAnyH_take (i := 1) (v := .int .i64 j) rfl (by kernel_rfl) (by kernel_rfl) (by kernel_rfl) (fun _ _ _ h => h) (Or.inl ⟨by rfl, ?_⟩) D2.out ?_
      · intro w' hS
        clear hS
        go_simp
      refine wpAnyH_take (i := 2) (v := .pointer (some ⟨b, off + j * 2, none⟩)) rfl (by kernel_rfl) (by kernel_rfl) (by kernel_rfl) (fun _ _ _ h => h) (Or.inl ⟨by rfl, ?_⟩) D2.out ?_
      · intro w' hS
        clear hS
        go_simp
      refine wpAnyH_take (i := 3) (v := .pointer (some ⟨b, off + j * 2 + 1, none⟩)) rfl (by kernel_rfl) (by kernel_rfl) (by kernel_rfl) (fun _ _ _ h => h) (Or.inl ⟨by rfl, ?_⟩) D2.out ?_
      · intro w' hS
        clear hS
        go_simp
      refine wpAnyH_take (i := 4) (v := .string s1) rfl (by kernel_rfl) (by kernel_rfl) (by kernel_rfl) (fun _ _ _ h => h) (Or.inl ⟨by rfl, ?_⟩) D2.out ?_
      · intro w' hS
        have := H1.out w' hS
        clear hS
        go_simp
      refine wpAnyH_take (i := 5) (v := .int .i64 ((t : Int) + 1)) rfl (by kernel_rfl) (by kernel_rfl) (by kernel_rfl) (fun _ _ _ h => h) (Or.inl ⟨by rfl, ?_⟩) D2.out ?_
      · intro w' hS
        clear hS
        go_simp
      refine wpAnyH_ready (rs := [6]) (by kernel_rfl) (by simp) ?_
      refine AllReadyH.cons rfl (fun K hK => ?_) AllReadyH.nil
      go_simp
      refine (KT1.out _).mono ?_
      rintro e w3 ⟨rfl, hb2⟩
      have B3 := hideP (D2.out.trans (hb2.mono D2.out.size))
      clear hb2
      refine hK.out _ _ B3.out (fun _ => ?_)
      clear hK
      refine wpAnyH_ready (rs := [7]) (by kernel_rfl) (by simp) ?_
      refine AllReadyH.cons rfl (fun K hK => ?_) AllReadyH.nil
      go_simp
      refine hK.out _ _ B3.out (fun _ => ?_)
      clear hK
      refine wpAnyH_done (by kernel_rfl) ?_ _
      go_wp2_with fail
      go_roundw
      case rel => exact ⟨j + 1, by omega, by go_num, by rw [ht2]; go_num, B3⟩
      case measure => simp [intOf]; omega
    · have jn : j = n := by omega
      subst jn
      go_wp2_with fail
      go_ret
      exact ⟨rfl, hbel.out⟩

theorem heldFileS_nil (ao : Option Addr) (cap m : Nat) (w : World) (h1 : m ≤ 4194304) :
    Calls Tryz.prog 25 #[.slice ao 0 cap, .int .i64 (m : Int)] w fun e w' => e = .returned (.int .i64 (m : Int)) ∧ w' = w := by
  go_enter Tryz.func25, Tryz.ntmps25
  go_wp2_with fail
  go_loop [1, 5] (fun k i => i = .int .i64 0 ∧ k = .int .i64 (m : Int)) (fun _ _ => 0)
  case atStart => exact ⟨rfl, rfl⟩
  case round =>
    obtain ⟨rfl, rfl⟩ := hrel
    go_wp2_with fail
    go_ret
    exact ⟨rfl, rfl⟩

theorem heldFileS_any (u : Value) (m n : Nat) (w : World) (hl : n ≤ 1048576) (h0 : 1 ≤ m) (h1 : m ≤ 4194304) (h : RdF w.heap.size w u (Pl.marksF m n)) :
    Calls Tryz.prog 25 #[u, .int .i64 (m : Int)] w fun e w' => e = .returned (.int .i64 ((m + 2 * n : Nat) : Int)) ∧ Below w.heap.size w w' := by
  obtain ⟨ao, cap, rfl, h⟩ := h
  rw [Pl.marksF_len] at h ⊢
  rcases h with rfl | ⟨b, off, hb, rfl, hc⟩
  · refine (heldFileS_nil ao cap m w h1).mono ?_
    rintro e w' ⟨rfl, rfl⟩
    exact ⟨by simp, Below.refl _ _⟩
  · exact heldFileS_core b off cap n m w hb hl h0 h1 (fun i hi => by have := hc i hi; rw [Pl.marksF_at _ _ _ hi] at this; exact this)

/-- laws.heldDisk -/
theorem heldDisk_any (u : Value) (n : Nat) (w : World) (hl : n ≤ 1048576) (h : RdF w.heap.size w u (Pl.marksF 1 n)) :
    Calls Tryz.prog 12 #[.agg #[u], .int .i64 1] w fun e w' => e = .returned (.int .i64 ((1 + 2 * n : Nat) : Int)) ∧ Below w.heap.size w w' := by
  have B0 : Hid (∀ o, Below w.heap.size w (w.alloc o)) := fun o => (Below.refl _ _).alloc (Nat.le_refl _) _
  have K := hideP (fun o => heldFileS_any u 1 n (w.alloc o) hl (by omega) (by omega) ((h.keep (B0.out o)).up (by simp)))
  have hk : (((1 : Nat) : Int)) = 1 := rfl
  rw [hk] at K
  obtain ⟨a0, d0, e0⟩ := h.form
  rw [Pl.marksF_len] at e0
  subst e0
  clear hk h
  go_enter Tryz.func12, Tryz.ntmps12
  go_wp2_with fail
  refine (K.out _).mono ?_
  rintro e w1 ⟨rfl, hb1⟩
  have B1 : Hid (Below w.heap.size w w1) := (B0.out _).trans (hb1.mono (by simp))
  clear hb1
  obtain ⟨r, hr⟩ : ∃ r : Int, ((1 + 2 * n : Nat) : Int) = r := ⟨_, rfl⟩
  rw [hr]
  have g : ¬ r < 0 := by omega
  have HR := hideP hr
  clear hr
  go_wp2_with fail
  go_ret
  exact ⟨ret_int HR.out.symm, B1.out⟩

end Go.Proofs.YtfangdhbadmolaaGreatDoor
