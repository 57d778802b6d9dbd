import Derived.Test.YtbmkbplgncoapaaDoorAd
import Derived.Deep.RegionWith
import Derived.WalkSpells
import Derived.WalkLawsBesides
namespace Go.Proofs.YtbmkbplgncoapaaDoor
open Go.RowKit
set_option linter.unusedVariables false

namespace Pl
/-- a byte of a file's name -/
def lttI (x : Int) : Bool := decide (97 ≤ x ∧ x ≤ 122) || decide (65 ≤ x ∧ x ≤ 90)
def digI (x : Int) : Bool := decide (48 ≤ x ∧ x ≤ 57)
abbrev Vt := Int × Int
def none2 : Vt := (0, 0)
abbrev at2 (fs : List Vt) (i : Nat) : Vt := fs.getD i none2
theorem range_snoc (n : Nat) (p : Nat → Bool) : (List.range (n + 1)).all p = ((List.range n).all p && p n) := by
  rw [List.range_succ, List.all_append]; simp

theorem range_false {n k : Nat} {p : Nat → Bool} (hk : k < n) (h : p k = false) : (List.range n).all p = false := by
  cases e : (List.range n).all p
  · rfl
  · rw [List.all_eq_true] at e
    rw [e k (List.mem_range.2 hk)] at h; cases h

theorem take_snoc2 (l : List Vt) (k : Nat) (h : k < l.length) : l.take (k + 1) = l.take k ++ [at2 l k] := by
  rw [List.take_succ_eq_append_getElem h]; simp [at2, List.getD, h]
theorem at_mem {l : List Vt} {k : Nat} (h : k < l.length) : at2 l k ∈ l := by
  have : at2 l k = l[k] := by simp [at2, List.getD, h]
  rw [this]; exact List.getElem_mem h
end Pl

/-- In the world w the slice v reads as the files fs, in a block below B. -/
def RdV (B : Nat) (w : World) (v : Value) (fs : List Pl.Vt) : Prop :=
  ∃ ao cap, v = .slice ao fs.length cap ∧ (fs.length = 0 ∨ ∃ b off, b < B ∧ ao = some ⟨b, off, none⟩ ∧
    ∀ i, i < fs.length → w.cell? ⟨b, off + i * 2, none⟩ = some (.int .i64 (Pl.at2 fs i).1) ∧ w.cell? ⟨b, off + i * 2 + 1, none⟩ = some (.int .i64 (Pl.at2 fs i).2))

theorem RdV.keep {B : Nat} {w w' : World} {v : Value} {fs : List Pl.Vt} (h : RdV B w v fs) (hb : Below B w w') : RdV B w' v fs := by
  obtain ⟨ao, cap, rfl, h⟩ := h
  refine ⟨ao, cap, rfl, ?_⟩
  rcases h with h | ⟨b, off, hB, rfl, hc⟩
  · exact .inl h
  · exact .inr ⟨b, off, hB, rfl, fun i hi => ⟨(hb.cell (p := ⟨b, off + i * 2, none⟩) hB).trans (hc i hi).1, (hb.cell (p := ⟨b, off + i * 2 + 1, none⟩) hB).trans (hc i hi).2⟩⟩

theorem RdV.up {B B' : Nat} {w : World} {v : Value} {fs : List Pl.Vt} (h : RdV B w v fs) (hb : B ≤ B') : RdV B' w v fs := by
  obtain ⟨ao, cap, rfl, h⟩ := h
  refine ⟨ao, cap, rfl, ?_⟩
  rcases h with h | ⟨b, off, hB, rfl, hc⟩
  · exact .inl h
  · exact .inr ⟨b, off, by omega, rfl, hc⟩

/-- the cells of files -/
def cellsV (fs : List Pl.Vt) : List Value := fs.flatMap fun f => [Value.int .i64 f.1, Value.int .i64 f.2]

theorem cellsV_nil : cellsV [] = [] := rfl
theorem cellsV_cons (f : Pl.Vt) (fs : List Pl.Vt) : cellsV (f :: fs) = .int .i64 f.1 :: .int .i64 f.2 :: cellsV fs := rfl
theorem cellsV_app (a b : List Pl.Vt) : cellsV (a ++ b) = cellsV a ++ cellsV b := by simp [cellsV]
theorem cellsV_len (fs : List Pl.Vt) : (cellsV fs).length = fs.length * 2 := by
  induction fs with
  | nil => rfl
  | cons f fs ih => rw [cellsV_cons, List.length_cons, List.length_cons, List.length_cons, ih]; omega

theorem cellsV_get (fs : List Pl.Vt) (i : Nat) (h : i < fs.length) : (cellsV fs)[i * 2]? = some (.int .i64 (Pl.at2 fs i).1) ∧ (cellsV fs)[i * 2 + 1]? = some (.int .i64 (Pl.at2 fs i).2) := by
  induction fs generalizing i with
  | nil => simp at h
  | cons f fs ih =>
    cases i with
    | zero => simp [cellsV_cons, Pl.at2]
    | succ i =>
      have := ih i (by simpa using h)
      have e : (i + 1) * 2 = i * 2 + 1 + 1 := by omega
      rw [e]
      simp only [cellsV_cons, List.getElem?_cons_succ]
      simpa [Pl.at2] using this

theorem cellsV_set (fs : List Pl.Vt) (k : Nat) (f : Pl.Vt) : ((cellsV fs).set (k * 2) (.int .i64 f.1)).set (k * 2 + 1) (.int .i64 f.2) = cellsV (fs.set k f) := by
  induction fs generalizing k with
  | nil => simp [cellsV]
  | cons g fs ih =>
    cases k with
    | zero => simp [cellsV_cons]
    | succ k =>
      have e : (k + 1) * 2 = k * 2 + 1 + 1 := by omega
      rw [e]
      simp only [cellsV_cons, List.set_cons_succ]
      rw [ih k]

theorem made_verdicts (n : Nat) : (madeCells #[.int .i64 0, .int .i64 0] (n * 2)).toList = cellsV (List.replicate n Pl.none2) := by
  apply List.ext_getElem?
  intro j
  by_cases hj : j < n * 2
  · have h1 : (madeCells #[.int .i64 0, .int .i64 0] (n * 2)).toList[j]? = some (.int .i64 0) := by
      simp only [madeCells, Array.getElem?_toList, Array.getElem?_map]
      have : (Array.range (n * 2))[j]? = some j := by simp [hj]
      rw [this]
      have h2 : j % 2 = 0 ∨ j % 2 = 1 := by omega
      rcases h2 with h2 | h2 <;> simp [h2]
    rw [h1]
    have h3 := cellsV_get (List.replicate n Pl.none2) (j / 2) (by simp; omega)
    have h4 : Pl.at2 (List.replicate n Pl.none2) (j / 2) = Pl.none2 := by
      unfold Pl.at2
      rw [List.getD_eq_getElem?_getD, List.getElem?_replicate]
      split <;> rfl
    rw [h4] at h3
    have h2 : j = j / 2 * 2 ∨ j = j / 2 * 2 + 1 := by omega
    rcases h2 with h2 | h2
    · rw [h2]; exact h3.1.symm
    · rw [h2]; exact h3.2.symm
  · rw [List.getElem?_eq_none (by rw [Array.length_toList, size_madeCells]; omega), List.getElem?_eq_none (by rw [cellsV_len]; simp; omega)]

/-- files of one's own, at the head of a block -/
abbrev OwnV (base : Nat) (w : World) (v : Value) (fs : List Pl.Vt) : Prop := w.ownsRow base 78 2 v fs.length (cellsV fs)

theorem rdV_of_own {base g c : Nat} {w : World} {fs : List Pl.Vt} (h : OwnV base w (.slice (some ⟨g, 0, none⟩) fs.length c) fs) : RdV w.heap.size w (.slice (some ⟨g, 0, none⟩) fs.length c) fs := by
  refine ⟨_, _, rfl, .inr ⟨g, 0, (h.lt g rfl).2, rfl, fun i hi => ?_⟩⟩
  have := cellsV_get fs i hi
  rw [Nat.zero_add, h.cellAt (i * 2) (by omega), h.cellAt (i * 2 + 1) (by omega)]
  exact this

/-- the first k are there, the rest are still empty -/
def upV (fs : List Pl.Vt) (k : Nat) : List Pl.Vt := fs.take k ++ List.replicate (fs.length - k) Pl.none2
theorem upV_zero (fs : List Pl.Vt) : upV fs 0 = List.replicate fs.length Pl.none2 := by simp [upV]
theorem upV_len (fs : List Pl.Vt) (k : Nat) (h : k ≤ fs.length) : (upV fs k).length = fs.length := by simp [upV]; omega
theorem upV_all (fs : List Pl.Vt) (k : Nat) (h : fs.length ≤ k) : upV fs k = fs := by
  simp [upV, List.take_of_length_le h, Nat.sub_eq_zero_of_le h]
theorem upV_step (fs : List Pl.Vt) (k : Nat) (h : k < fs.length) : (upV fs k).set k (Pl.at2 fs k) = upV fs (k + 1) := by
  unfold upV
  rw [Pl.take_snoc2 fs k h, List.set_append_right k (Pl.at2 fs k) (by simp; omega)]
  have e : fs.length - k = (fs.length - (k + 1)) + 1 := by omega
  have e2 : k - (fs.take k).length = 0 := by simp; omega
  rw [e2, e, List.replicate_succ]
  simp

/-- laws.toVerdict -/
theorem toVerdict_any (a b : Int) (w : World) :
    Calls Tryd.prog 59 #[.agg #[.int .i64 a, .int .i64 b]] w fun e w' => e = .returned (.agg #[.int .i64 a, .int .i64 b]) ∧ Below w.heap.size w w' := by
  have HB := hideP (below3 w)
  go_enter Tryd.func59, Tryd.ntmps59
  go_wp2
  refine bodyPost_ret (v := .agg #[.int .i64 a, .int .i64 b]) (by simp [results, Tryd.results59, go_sem]) rfl ⟨rfl, ?_⟩
  repeat (refine Below.setCell ?_ (by simp) _)
  exact HB.out _ _ _

theorem Tryd.info78 : (Tryd.prog.info? 78).map (fun i => (i.zero, i.size, i.bytes)) = some (some (.agg #[.int .i64 0, .int .i64 0]), 2, 16) := by kernel_rfl

/-- laws.toVerdictS -/
theorem toVerdictS_core (b off cap : Nat) (fs : List Pl.Vt) (w : World) (hl : fs.length ≤ 1048576) (hb : b < w.heap.size)
    (hc : ∀ i, i < fs.length → w.cell? ⟨b, off + i * 2, none⟩ = some (.int .i64 (Pl.at2 fs i).1) ∧ w.cell? ⟨b, off + i * 2 + 1, none⟩ = some (.int .i64 (Pl.at2 fs i).2)) :
    Calls Tryd.prog 21 #[.slice (some ⟨b, off, none⟩) fs.length cap] w fun e w' => e = .returned (sl w.heap.size fs.length) ∧
      w'.ownsRow w.heap.size 78 2 (sl w.heap.size fs.length) fs.length (cellsV fs) ∧ Below w.heap.size w w' := by
  obtain ⟨i0, hi, hz0, hz1, hz2⟩ := info_parts Tryd.info78
  generalize hn : fs.length = n at *
  have Hn : Hid (fs.length = n) := hn
  clear hn
  go_enter Tryd.func21, Tryd.ntmps21
  go_wp2_with (at_make; refine wpList_make_full _ rfl _ _ 39 rfl w.heap.size 78 i0 (.agg #[.int .i64 0, .int .i64 0]) 2 Tryd.underlying39 hi hz0 hz1 _ _ _ _ n rfl rfl rfl rfl ?b2 ?b3 ?b4 ?_)
  case b2 => rw [hz2]; omega
  case b3 => unfold maxLen; omega
  case b4 => exact Nat.le_refl _
  intro w1 hown hgrow
  have hown1 : w1.ownsRow w.heap.size 78 2 (sl w.heap.size n) n (cellsV (List.replicate n Pl.none2)) := by
    rw [← made_verdicts n]; exact hown
  have hbel : Below w.heap.size w w1 := (Below.refl _ _).grown hgrow (Nat.le_refl _) (by intro k h; cases h)
  clear hgrow hi hz0 hz1 hz2 hown
  go_wp2
  go_loopw [4] (fun i wr => ∃ k : Nat, k ≤ n ∧ i = .int .i64 k ∧ Hid (wr.ownsRow w.heap.size 78 2 (sl w.heap.size n) n (cellsV (upV fs k))) ∧ Hid (Below w.heap.size w wr)) (fun i _ => n - (intOf i).toNat)
  case atStart => exact ⟨0, Nat.zero_le _, rfl, by show World.ownsRow _ _ _ _ _ _ _; rw [upV_zero, Hn.out]; exact hown1, hbel⟩
  case round =>
    clear hown1 hbel
    obtain ⟨k, hk, rfl, hown, hbel⟩ := hrel
    by_cases hlt : k < n
    · have hck0 : wr.cell? ⟨b, off + k * 2, none⟩ = some (.int .i64 (Pl.at2 fs k).1) := (hbel.out.cell (p := ⟨b, off + k * 2, none⟩) hb).trans (hc k hlt).1
      have hck1 : wr.cell? ⟨b, off + k * 2 + 1, none⟩ = some (.int .i64 (Pl.at2 fs k).2) := (hbel.out.cell (p := ⟨b, off + k * 2 + 1, none⟩) hb).trans (hc k hlt).2
      have HS := hideP (upV_step fs k (by rw [Hn.out]; exact hlt))
      have HL := hideP (upV_len fs k (by rw [Hn.out]; omega))
      generalize Pl.at2 fs k = f at *
      obtain ⟨fa, fb⟩ := f
      simp only at hck0 hck1
      clear hc
      go_wp2_with fail
      refine (toVerdict_any fa fb _).mono ?_
      rintro e w2 ⟨rfl, hb2⟩
      have hown2 := owns_keep hown.out hb2
      have hbel2 := hbel.out.trans (hb2.mono hbel.out.size)
      have hf0 := hown2.frozenAt (k * 2)
      have hf1 := hown2.frozenAt (k * 2 + 1)
      have hg := cellsV_get (upV fs k) k (by rw [HL.out, Hn.out]; exact hlt)
      have hg0 := hown2.cellAt (k * 2) (by omega)
      have hg1 := hown2.cellAt (k * 2 + 1) (by omega)
      rw [hg.1] at hg0
      rw [hg.2] at hg1
      have hs0 := hown2.stored (k * 2) (.int .i64 fa)
      have hs1 := hs0.1.stored (k * 2 + 1) (.int .i64 fb)
      have R : Hid (((w2.setCell ⟨w.heap.size, k * 2, none⟩ (.int .i64 fa)).setCell ⟨w.heap.size, k * 2 + 1, none⟩ (.int .i64 fb)).ownsRow w.heap.size 78 2 (sl w.heap.size n) n (cellsV (upV fs (k + 1))) ∧ Below w.heap.size w ((w2.setCell ⟨w.heap.size, k * 2, none⟩ (.int .i64 fa)).setCell ⟨w.heap.size, k * 2 + 1, none⟩ (.int .i64 fb))) := by
        refine ⟨?_, (hbel2.setCell (Nat.le_refl _) _).setCell (Nat.le_refl _) _⟩
        have e := cellsV_set (upV fs k) k (fa, fb)
        rw [HS.out] at e
        rw [← e]
        exact hs1.1
      clear hs0 hs1 hown2 hbel2 hb2 hg
      go_wp2_with fail
      go_roundw
      case rel => exact ⟨k + 1, by omega, by go_num, R.out.1, R.out.2⟩
      case measure => simp [intOf]; omega
    · have R : Hid (wr.ownsRow w.heap.size 78 2 (sl w.heap.size n) n (cellsV fs) ∧ Below w.heap.size w wr) := by
        have := hown.out
        rw [upV_all fs k (by rw [Hn.out]; omega)] at this
        exact ⟨this, hbel.out⟩
      clear hown hbel hc
      go_wp2
      go_ret
      exact ⟨rfl, R.out⟩

theorem toVerdictS_nil (ao : Option Addr) (cap : Nat) (w : World) :
    Calls Tryd.prog 21 #[.slice ao 0 cap] w fun e w' => e = .returned (sl w.heap.size 0) ∧
      w'.ownsRow w.heap.size 78 2 (sl w.heap.size 0) 0 [] ∧ Below w.heap.size w w' := by
  obtain ⟨i0, hi, hz0, hz1, hz2⟩ := info_parts Tryd.info78
  go_enter Tryd.func21, Tryd.ntmps21
  go_wp2_with (at_make; refine wpList_make_full _ rfl _ _ 39 rfl w.heap.size 78 i0 (.agg #[.int .i64 0, .int .i64 0]) 2 Tryd.underlying39 hi hz0 hz1 _ _ _ _ 0 rfl rfl rfl rfl ?b2 ?b3 ?b4 ?_)
  case b2 => rw [hz2]; omega
  case b3 => unfold maxLen; omega
  case b4 => exact Nat.le_refl _
  intro w1 hown hgrow
  have hbel : Below w.heap.size w w1 := (Below.refl _ _).grown hgrow (Nat.le_refl _) (by intro k h; cases h)
  have R : Hid (w1.ownsRow w.heap.size 78 2 (sl w.heap.size 0) 0 [] ∧ Below w.heap.size w w1) := ⟨by simpa [madeCells] using hown, hbel⟩
  clear hgrow hi hz0 hz1 hz2 hown hbel
  go_wp2
  go_loopw [4] (fun i wr => i = .int .i64 0 ∧ wr = w1) (fun _ _ => 0)
  case atStart => exact ⟨rfl, rfl⟩
  case round =>
    obtain ⟨rfl, rfl⟩ := hrel
    go_wp2
    go_ret
    exact ⟨rfl, R.out⟩

theorem toVerdictS_any (v : Value) (fs : List Pl.Vt) (w : World) (hl : fs.length ≤ 1048576) (h : RdV w.heap.size w v fs) :
    Calls Tryd.prog 21 #[v] w fun e w' => e = .returned (sl w.heap.size fs.length) ∧ OwnV w.heap.size w' (sl w.heap.size fs.length) fs ∧ Below w.heap.size w w' := by
  obtain ⟨ao, cap, rfl, h⟩ := h
  rcases h with h | ⟨b, off, hb, rfl, hc⟩
  · obtain rfl := List.length_eq_zero_iff.1 h
    exact toVerdictS_nil ao cap w
  · exact toVerdictS_core b off cap fs w hl hb hc

/-- laws.eqVerdict -/
theorem eqVerdict_any (a b c d : Int) (w : World) :
    Calls Tryd.prog 66 #[.agg #[.int .i64 a, .int .i64 b], .agg #[.int .i64 c, .int .i64 d]] w fun e w' => e = .returned (.bool (decide ((a, b) = (c, d)))) ∧ Below w.heap.size w w' := by
  have HB : Hid (∀ o1 o2 : Obj, Below w.heap.size w ((w.alloc o1).alloc o2)) := fun o1 o2 => ((Below.refl _ _).alloc (Nat.le_refl _) _).alloc (by simp) _
  by_cases h0 : a = c
  · have e0 : (a != c) = false := by simp [h0]
    have H0 := hideP h0
    clear h0
    by_cases h1 : b = d
    · have e1 : (b != d) = false := by simp [h1]
      have H1 := hideP h1
      clear h1
      go_enter Tryd.func66, Tryd.ntmps66
      go_wp2
      go_ret
      exact ⟨ret_bool (by symm; rw [decide_eq_true_iff, H0.out, H1.out]), HB.out _ _⟩
    · have e1 : (b != d) = true := by simp [h1]
      have H1 := hideP h1
      clear h1
      go_enter Tryd.func66, Tryd.ntmps66
      go_wp2
      go_ret
      exact ⟨ret_bool (by symm; rw [decide_eq_false_iff_not]; intro h; cases h; exact H1.out rfl), HB.out _ _⟩
  · have e0 : (a != c) = true := by simp [h0]
    have H0 := hideP h0
    clear h0
    go_enter Tryd.func66, Tryd.ntmps66
    go_wp2
    go_ret
    exact ⟨ret_bool (by symm; rw [decide_eq_false_iff_not]; intro h; cases h; exact H0.out rfl), HB.out _ _⟩

/-- laws.eqVerdictS -/
theorem eqVerdictS_core (b1 o1 c1 b2 o2 c2 : Nat) (xs ys : List Pl.Vt) (w : World) (hl : xs.length ≤ 1048576) (hxy : xs.length = ys.length) (hb1 : b1 < w.heap.size) (hb2 : b2 < w.heap.size)
    (hc1 : ∀ i, i < xs.length → w.cell? ⟨b1, o1 + i * 2, none⟩ = some (.int .i64 (Pl.at2 xs i).1) ∧ w.cell? ⟨b1, o1 + i * 2 + 1, none⟩ = some (.int .i64 (Pl.at2 xs i).2))
    (hc2 : ∀ i, i < xs.length → w.cell? ⟨b2, o2 + i * 2, none⟩ = some (.int .i64 (Pl.at2 ys i).1) ∧ w.cell? ⟨b2, o2 + i * 2 + 1, none⟩ = some (.int .i64 (Pl.at2 ys i).2)) :
    Calls Tryd.prog 23 #[.slice (some ⟨b1, o1, none⟩) xs.length c1, .slice (some ⟨b2, o2, none⟩) xs.length c2] w fun e w' => e = .returned (.bool (decide (xs = ys))) ∧ Below w.heap.size w w' := by
  generalize hn : xs.length = n at *
  have Hn : Hid (xs.length = n) := hn
  have Hm : Hid (ys.length = n) := hxy.symm
  clear hn hxy
  go_enter Tryd.func23, Tryd.ntmps23
  go_wp2
  go_loopw [5] (fun i wr => ∃ k : Nat, k ≤ n ∧ i = .int .i64 k ∧ Hid (xs.take k = ys.take k) ∧ Hid (Below w.heap.size w wr)) (fun i _ => n - (intOf i).toNat)
  case atStart => exact ⟨0, Nat.zero_le _, rfl, rfl, Below.refl _ _⟩
  case round =>
    obtain ⟨k, hk, rfl, hall, hbel⟩ := hrel
    by_cases hlt : k < n
    · have hx0 : wr.cell? ⟨b1, o1 + k * 2, none⟩ = some (.int .i64 (Pl.at2 xs k).1) := (hbel.out.cell (p := ⟨b1, o1 + k * 2, none⟩) hb1).trans (hc1 k hlt).1
      have hx1 : wr.cell? ⟨b1, o1 + k * 2 + 1, none⟩ = some (.int .i64 (Pl.at2 xs k).2) := (hbel.out.cell (p := ⟨b1, o1 + k * 2 + 1, none⟩) hb1).trans (hc1 k hlt).2
      have hy0 : wr.cell? ⟨b2, o2 + k * 2, none⟩ = some (.int .i64 (Pl.at2 ys k).1) := (hbel.out.cell (p := ⟨b2, o2 + k * 2, none⟩) hb2).trans (hc2 k hlt).1
      have hy1 : wr.cell? ⟨b2, o2 + k * 2 + 1, none⟩ = some (.int .i64 (Pl.at2 ys k).2) := (hbel.out.cell (p := ⟨b2, o2 + k * 2 + 1, none⟩) hb2).trans (hc2 k hlt).2
      have HX : Hid (xs.take (k + 1) = xs.take k ++ [Pl.at2 xs k]) := Pl.take_snoc2 xs k (by rw [Hn.out]; exact hlt)
      have HY : Hid (ys.take (k + 1) = ys.take k ++ [Pl.at2 ys k]) := Pl.take_snoc2 ys k (by rw [Hm.out]; exact hlt)
      have HE : Hid (xs = ys → Pl.at2 xs k = Pl.at2 ys k) := fun h => by rw [h]
      generalize Pl.at2 xs k = x at *
      generalize Pl.at2 ys k = y at *
      obtain ⟨xa, xb⟩ := x
      obtain ⟨ya, yb⟩ := y
      simp only at hx0 hx1 hy0 hy1
      clear hc1 hc2
      have K := hideP (eqVerdict_any xa xb ya yb)
      by_cases hxy : (xa, xb) = (ya, yb)
      · rw [decide_eq_true hxy] at K
        have HXY := hideP hxy
        clear hxy
        go_wp2
        go_region_with (go_at_call 66; refine (K.out _).mono ?_; rintro e w2 ⟨rfl, hb3⟩; have HB2 := hideP (hbel.out.drew.trans (hb3.mono hbel.out.drew.size)); clear hb3)
        all_goals go_wp2_with fail
        all_goals go_roundw
        all_goals first
          | exact ⟨k + 1, by omega, by go_num, by show _ = _; rw [HX.out, HY.out, hall.out, HXY.out], HB2⟩
          | (simp [intOf]; omega)
      · rw [decide_eq_false hxy] at K
        have HN := hideP hxy
        clear hxy
        go_wp2
        go_region_with (go_at_call 66; refine (K.out _).mono ?_; rintro e w2 ⟨rfl, hb3⟩; have HB2 := hideP (hbel.out.drew.trans (hb3.mono hbel.out.drew.size)); clear hb3)
        all_goals go_wp2_with fail
        all_goals go_ret
        all_goals exact ⟨ret_bool (by symm; rw [decide_eq_false_iff_not]; exact fun h => HN.out (HE.out h)), HB2.out⟩
    · have R : Hid (xs = ys ∧ Below w.heap.size w wr) := by
        have := hall.out
        rw [List.take_of_length_le (by rw [Hn.out]; omega), List.take_of_length_le (by rw [Hm.out]; omega)] at this
        exact ⟨this, hbel.out⟩
      clear hbel hc1 hc2
      go_wp2
      go_ret
      exact ⟨ret_bool (by symm; rw [decide_eq_true_iff]; exact R.out.1), R.out.2⟩

theorem eqVerdictS_lens (a1 a2 : Option Addr) (n1 c1 n2 c2 : Nat) (w : World) (h1 : n1 ≤ 1048576) (h2 : n2 ≤ 1048576) (h : ¬ n1 = n2) :
    Calls Tryd.prog 23 #[.slice a1 n1 c1, .slice a2 n2 c2] w fun e w' => e = .returned (.bool false) ∧ w' = w := by
  have hne : ((n1 : Int) != (n2 : Int)) = true := by rw [bne_iff_ne]; omega
  go_enter Tryd.func23, Tryd.ntmps23
  go_wp2
  go_ret
  exact ⟨rfl, rfl⟩

theorem eqVerdictS_nil (a1 a2 : Option Addr) (c1 c2 : Nat) (w : World) :
    Calls Tryd.prog 23 #[.slice a1 0 c1, .slice a2 0 c2] w fun e w' => e = .returned (.bool true) ∧ w' = w := by
  go_enter Tryd.func23, Tryd.ntmps23
  go_wp2
  go_loopw [5] (fun i wr => i = .int .i64 0 ∧ wr = w) (fun _ _ => 0)
  case atStart => exact ⟨rfl, rfl⟩
  case round =>
    obtain ⟨rfl, rfl⟩ := hrel
    go_wp2
    go_ret
    exact ⟨rfl, rfl⟩

theorem eqVerdictS_any (v1 v2 : Value) (xs ys : List Pl.Vt) (w : World) (hl1 : xs.length ≤ 1048576) (hl2 : ys.length ≤ 1048576) (h1 : RdV w.heap.size w v1 xs) (h2 : RdV w.heap.size w v2 ys) :
    Calls Tryd.prog 23 #[v1, v2] w fun e w' => e = .returned (.bool (decide (xs = ys))) ∧ Below w.heap.size w w' := by
  obtain ⟨a1, c1, rfl, h1⟩ := h1
  obtain ⟨a2, c2, rfl, h2⟩ := h2
  by_cases hxy : xs.length = ys.length
  · rcases h1 with h1 | ⟨b1, o1, hb1, rfl, hc1⟩
    · obtain rfl := List.length_eq_zero_iff.1 h1
      obtain rfl := List.length_eq_zero_iff.1 hxy.symm
      refine (eqVerdictS_nil a1 a2 c1 c2 w).mono ?_
      rintro e w' ⟨rfl, rfl⟩
      exact ⟨rfl, Below.refl _ _⟩
    · rcases h2 with h2 | ⟨b2, o2, hb2, rfl, hc2⟩
      · obtain rfl := List.length_eq_zero_iff.1 h2
        obtain rfl := List.length_eq_zero_iff.1 hxy
        refine (eqVerdictS_nil _ a2 c1 c2 w).mono ?_
        rintro e w' ⟨rfl, rfl⟩
        exact ⟨rfl, Below.refl _ _⟩
      · rw [← hxy] at hc2 ⊢
        exact eqVerdictS_core b1 o1 c1 b2 o2 c2 xs ys w hl1 hxy hb1 hb2 hc1 hc2
  · refine (eqVerdictS_lens a1 a2 _ c1 _ c2 w hl1 hl2 hxy).mono ?_
    rintro e w' ⟨rfl, rfl⟩
    exact ⟨ret_bool (by symm; rw [decide_eq_false_iff_not]; intro h; exact hxy (by rw [h])), Below.refl _ _⟩


end Go.Proofs.YtbmkbplgncoapaaDoor
