import Derived.Test.YtfangdhbadmolaaMk
import Derived.Test.YtfangdhbadmolaaEq
import Derived.Test.YtfangdhbadmolaaPlD
import Derived.Test.YtfangdhbadmolaaAct
namespace Go.Proofs.Ytfangdhbadmolaa
open Go.RowKit
set_option linter.unusedVariables false

namespace Pl
def noneA : Ac := ⟨0, ByteArray.empty, ByteArray.empty, ByteArray.empty⟩
abbrev aa (qs : List Ac) (i : Nat) : Ac := qs.getD i noneA
theorem takeA_snoc (l : List Ac) (k : Nat) (h : k < l.length) : l.take (k + 1) = l.take k ++ [aa l k] := by
  rw [List.take_succ_eq_append_getElem h]; simp [aa, List.getD, h]
theorem aa_mem {l : List Ac} {k : Nat} (h : k < l.length) : aa l k ∈ l := by
  have : aa l k = l[k] := by simp [aa, List.getD, h]
  rw [this]; exact List.getElem_mem h
def weighA (qs : List Ac) : Nat := (qs.map fun a => a.name.size + a.to.size + a.data.size).sum
theorem weighA_snoc (l : List Ac) (k : Nat) (h : k < l.length) : weighA (l.take (k + 1)) = weighA (l.take k) + (aa l k).name.size + (aa l k).to.size + (aa l k).data.size := by
  rw [takeA_snoc l k h]; simp [weighA]; omega
theorem weighA_mem {l : List Ac} {a : Ac} (h : a ∈ l) : a.name.size + a.to.size + a.data.size ≤ weighA l := by
  induction l with
  | nil => cases h
  | cons y r ih =>
    simp only [weighA, List.map_cons, List.sum_cons] at ih ⊢
    rcases List.mem_cons.1 h with rfl | h
    · omega
    · have := ih h; omega
/-- sizes that a machine has -/
def SzA (qs : List Ac) : Prop := ∀ a ∈ qs, a.name.size ≤ 9223372036854775807 ∧ a.to.size ≤ 9223372036854775807 ∧ a.data.size ≤ 9223372036854775807
end Pl

/-- the four cells of an act at an offset -/
def ActAt (w : World) (b o : Nat) (a : Pl.Ac) : Prop := w.cell? ⟨b, o, none⟩ = some (.int .i64 a.kind) ∧ w.cell? ⟨b, o + 1, none⟩ = some (.string a.name) ∧ w.cell? ⟨b, o + 2, none⟩ = some (.string a.to) ∧ w.cell? ⟨b, o + 3, none⟩ = some (.string a.data)
theorem ActAt.keep {w w' : World} {B b o : Nat} {a : Pl.Ac} (h : ActAt w b o a) (hb : Below B w w') (hB : b < B) : ActAt w' b o a :=
  ⟨(hb.cell (p := ⟨b, o, none⟩) hB).trans h.1, (hb.cell (p := ⟨b, o + 1, none⟩) hB).trans h.2.1, (hb.cell (p := ⟨b, o + 2, none⟩) hB).trans h.2.2.1, (hb.cell (p := ⟨b, o + 3, none⟩) hB).trans h.2.2.2⟩

/-- In the world w the slice v reads as the acts, in a block below B. -/
def RdA (B : Nat) (w : World) (v : Value) (qs : List Pl.Ac) : Prop :=
  ∃ ao cap, v = .slice ao qs.length cap ∧ (qs.length = 0 ∨ ∃ b off, b < B ∧ ao = some ⟨b, off, none⟩ ∧ ∀ i, i < qs.length → ActAt w b (off + i * 4) (Pl.aa qs i))
theorem RdA.keep {B : Nat} {w w' : World} {v : Value} {qs : List Pl.Ac} (h : RdA B w v qs) (hb : Below B w w') : RdA B w' v qs := by
  obtain ⟨ao, cap, rfl, h⟩ := h
  refine ⟨ao, cap, rfl, ?_⟩
  rcases h with h | ⟨b, off, hB, rfl, hc⟩
  · exact .inl h
  · exact .inr ⟨b, off, hB, rfl, fun i hi => (hc i hi).keep hb hB⟩
theorem RdA.up {B B' : Nat} {w : World} {v : Value} {qs : List Pl.Ac} (h : RdA B w v qs) (hb : B ≤ B') : RdA B' w v qs := by
  obtain ⟨ao, cap, rfl, h⟩ := h
  refine ⟨ao, cap, rfl, ?_⟩
  rcases h with h | ⟨b, off, hB, rfl, hc⟩
  · exact .inl h
  · exact .inr ⟨b, off, by omega, rfl, hc⟩
theorem RdA.form {B : Nat} {w : World} {v : Value} {qs : List Pl.Ac} (h : RdA B w v qs) : ∃ ao cap, v = .slice ao qs.length cap := by
  obtain ⟨ao, cap, e, _⟩ := h
  exact ⟨ao, cap, e⟩

/-- laws.szAct -/
theorem szAct_any (kd : Int) (a b c : ByteArray) (l : Int) (w : World) (ha : a.size ≤ 9223372036854775807) (hb : b.size ≤ 9223372036854775807) (hc : c.size ≤ 9223372036854775807) (h0 : 0 ≤ l) (h1 : l ≤ 1048576) :
    Calls Try.prog 16 #[.agg #[.int .i64 kd, .string a, .string b, .string c], .int .i64 l] w fun e w' => e = .returned (.int .i64 (if l < (a.size : Int) + b.size + c.size then -1 else l - a.size - b.size - c.size)) ∧ Below w.heap.size w w' := by
  have HB : Hid (∀ o, Below w.heap.size w (w.alloc o)) := fun o => (Below.refl _ _).alloc (Nat.le_refl _) _
  generalize hm : a.size = m at *
  generalize hn : b.size = n at *
  generalize hp : c.size = p at *
  by_cases g0 : l - (m : Int) < 0
  · go_enter Try.func16, Try.ntmps16
    go_wp2
    go_ret
    exact ⟨rfl, HB.out _⟩
  · by_cases g1 : l - (m : Int) - (n : Int) < 0
    · go_enter Try.func16, Try.ntmps16
      go_wp2
      go_ret
      exact ⟨rfl, HB.out _⟩
    · by_cases g2 : l - (m : Int) - (n : Int) - (p : Int) < 0
      · go_enter Try.func16, Try.ntmps16
        go_wp2
        go_ret
        exact ⟨rfl, HB.out _⟩
      · go_enter Try.func16, Try.ntmps16
        go_wp2
        go_ret
        exact ⟨rfl, HB.out _⟩

/-- laws.szActS -/
theorem szActS_core (b off cap : Nat) (qs : List Pl.Ac) (l : Int) (w : World) (hb : b < w.heap.size) (hm : qs.length ≤ 9223372036854775807) (hz : Pl.SzA qs) (h0 : 0 ≤ l) (h1 : l ≤ 1048576)
    (hc : ∀ i, i < qs.length → ActAt w b (off + i * 4) (Pl.aa qs i)) :
    Calls Try.prog 5 #[.slice (some ⟨b, off, none⟩) qs.length cap, .int .i64 l] w fun e w' => ∃ r : Int, e = .returned (.int .i64 r) ∧ r ≤ 1048576 ∧ (r = -1 ∨ (0 ≤ r ∧ r = l - qs.length - Pl.weighA qs)) ∧ Below w.heap.size w w' := by
  have HZ := hideP hz
  have HC := hideP hc
  clear hz hc
  generalize hn : qs.length = n at *
  have Hn : Hid (qs.length = n) := hn
  clear hn
  by_cases g0 : l - (n : Int) < 0
  · go_enter Try.func5, Try.ntmps5
    go_wp2
    go_ret
    exact ⟨_, rfl, by omega, .inl rfl, Below.refl _ _⟩
  · go_enter Try.func5, Try.ntmps5
    go_wp2
    go_loopw [1, 5] (fun r i wr => ∃ k : Nat, k ≤ n ∧ i = .int .i64 k ∧ (∃ q : Int, r = .int .i64 q ∧ 0 ≤ q ∧ q ≤ 1048576 ∧ Hid (q = l - n - Pl.weighA (qs.take k))) ∧ Hid (Below w.heap.size w wr)) (fun _ i _ => n - (intOf i).toNat)
    case atStart => exact ⟨0, Nat.zero_le _, rfl, ⟨_, rfl, by omega, by omega, by show _ = _; simp [Pl.weighA]⟩, Below.refl _ _⟩
    case round =>
      obtain ⟨k, hk, rfl, ⟨q, rfl, q0, q1, hq⟩, hbel⟩ := hrel
      by_cases hlt : k < n
      · obtain ⟨hx0, hx1, hx2, hx3⟩ := (HC.out k hlt).keep hbel.out hb
        have HS := hideP (Pl.weighA_snoc qs k (by rw [Hn.out]; exact hlt))
        have hzz := HZ.out _ (Pl.aa_mem (l := qs) (k := k) (by rw [Hn.out]; exact hlt))
        generalize Pl.aa qs k = f at *
        obtain ⟨kd, fa, fb, fc⟩ := f
        simp only at hx0 hx1 hx2 hx3 HS hzz
        have s := fun w => szAct_any kd fa fb fc q w hzz.1 hzz.2.1 hzz.2.2 q0 q1
        clear hzz
        by_cases g1 : q < (fa.size : Int) + fb.size + fc.size
        · simp only [if_pos g1] at s
          have K := hideP s
          clear s
          go_wp2_with (go_at_call 16; refine (K.out _).mono ?_; rintro e w' ⟨rfl, hb2⟩)
          go_ret
          exact ⟨_, rfl, by omega, .inl rfl, hbel.out.trans (hb2.mono hbel.out.size)⟩
        · simp only [if_neg g1] at s
          have K := hideP s
          clear s
          have g2 : ¬ q - (fa.size : Int) - fb.size - fc.size < 0 := by omega
          go_wp2_with (go_at_call 16; refine (K.out _).mono ?_; rintro e w' ⟨rfl, hb2⟩)
          go_roundw
          case rel => exact ⟨k + 1, by omega, by go_num, ⟨_, rfl, by omega, by omega, by show _ = _; have := HS.out; have := hq.out; omega⟩, hbel.out.trans (hb2.mono hbel.out.size)⟩
          case measure => simp [intOf]; omega
      · have HQ := hideP (show q = l - n - Pl.weighA qs by have := hq.out; rw [List.take_of_length_le (by rw [Hn.out]; omega)] at this; exact this)
        go_wp2
        go_ret
        exact ⟨_, rfl, q1, .inr ⟨q0, HQ.out⟩, hbel.out⟩

theorem szActS_nil (ao : Option Addr) (cap : Nat) (l : Int) (w : World) (h0 : 0 ≤ l) (h1 : l ≤ 1048576) :
    Calls Try.prog 5 #[.slice ao 0 cap, .int .i64 l] w fun e w' => e = .returned (.int .i64 l) ∧ w' = w := by
  go_enter Try.func5, Try.ntmps5
  go_wp2
  go_loopw [1, 5] (fun r i wr => i = .int .i64 0 ∧ r = .int .i64 l ∧ wr = w) (fun _ _ _ => 0)
  case atStart => exact ⟨rfl, rfl, rfl⟩
  case round =>
    obtain ⟨rfl, rfl, rfl⟩ := hrel
    go_wp2
    go_ret
    exact ⟨rfl, rfl⟩

theorem szActS_any (v : Value) (qs : List Pl.Ac) (l : Int) (w : World) (hm : qs.length ≤ 9223372036854775807) (hz : Pl.SzA qs) (h0 : 0 ≤ l) (h1 : l ≤ 1048576) (h : RdA w.heap.size w v qs) :
    Calls Try.prog 5 #[v, .int .i64 l] w fun e w' => ∃ r : Int, e = .returned (.int .i64 r) ∧ r ≤ 1048576 ∧ (r = -1 ∨ (0 ≤ r ∧ r = l - qs.length - Pl.weighA qs)) ∧ Below w.heap.size w w' := by
  obtain ⟨ao, cap, rfl, h⟩ := h
  rcases h with h | ⟨b, off, hb, rfl, hc⟩
  · obtain rfl := List.length_eq_zero_iff.1 h
    refine (szActS_nil ao cap l w h0 h1).mono ?_
    rintro e w' ⟨rfl, rfl⟩
    exact ⟨_, rfl, h1, .inr ⟨h0, by simp [Pl.weighA]⟩, Below.refl _ _⟩
  · exact szActS_core b off cap qs l w hb hm hz h0 h1 hc

/-! ### rows of acts -/
def cellsA (qs : List Pl.Ac) : List Value := qs.flatMap fun a => [.int .i64 a.kind, .string a.name, .string a.to, .string a.data]
theorem cellsA_cons (a : Pl.Ac) (qs : List Pl.Ac) : cellsA (a :: qs) = .int .i64 a.kind :: .string a.name :: .string a.to :: .string a.data :: cellsA qs := rfl
theorem cellsA_len (qs : List Pl.Ac) : (cellsA qs).length = qs.length * 4 := by
  induction qs with
  | nil => rfl
  | cons f fs ih => simp only [cellsA_cons, List.length_cons, ih]; omega
theorem cellsA_get (qs : List Pl.Ac) (i : Nat) (h : i < qs.length) : (cellsA qs)[i * 4]? = some (.int .i64 (Pl.aa qs i).kind) ∧ (cellsA qs)[i * 4 + 1]? = some (.string (Pl.aa qs i).name) ∧ (cellsA qs)[i * 4 + 2]? = some (.string (Pl.aa qs i).to) ∧ (cellsA qs)[i * 4 + 3]? = some (.string (Pl.aa qs i).data) := by
  induction qs generalizing i with
  | nil => simp at h
  | cons f fs ih =>
    cases i with
    | zero => simp [cellsA_cons, Pl.aa]
    | succ i =>
      have := ih i (by simpa using h)
      have e : (i + 1) * 4 = i * 4 + 1 + 1 + 1 + 1 := by omega
      have e1 : i * 4 + 1 + 1 + 1 + 1 + 1 = (i * 4 + 1) + 1 + 1 + 1 + 1 := by omega
      have e2 : i * 4 + 1 + 1 + 1 + 1 + 2 = (i * 4 + 2) + 1 + 1 + 1 + 1 := by omega
      have e3 : i * 4 + 1 + 1 + 1 + 1 + 3 = (i * 4 + 3) + 1 + 1 + 1 + 1 := by omega
      rw [e, e2, e3]
      simp only [cellsA_cons, List.getElem?_cons_succ]
      simpa [Pl.aa] using this
theorem cellsA_set (qs : List Pl.Ac) (k : Nat) (a : Pl.Ac) : ((((cellsA qs).set (k * 4) (.int .i64 a.kind)).set (k * 4 + 1) (.string a.name)).set (k * 4 + 2) (.string a.to)).set (k * 4 + 3) (.string a.data) = cellsA (qs.set k a) := by
  induction qs generalizing k with
  | nil => simp [cellsA]
  | cons g fs ih =>
    cases k with
    | zero => simp [cellsA_cons]
    | succ k =>
      have e : (k + 1) * 4 = k * 4 + 1 + 1 + 1 + 1 := by omega
      have e2 : k * 4 + 1 + 1 + 1 + 1 + 2 = (k * 4 + 2) + 1 + 1 + 1 + 1 := by omega
      have e3 : k * 4 + 1 + 1 + 1 + 1 + 3 = (k * 4 + 3) + 1 + 1 + 1 + 1 := by omega
      rw [e, e2, e3]
      simp only [cellsA_cons, List.set_cons_succ]
      rw [ih k]
theorem made_acts (n : Nat) : (madeCells #[.int .i64 0, .string ByteArray.empty, .string ByteArray.empty, .string ByteArray.empty] (n * 4)).toList = cellsA (List.replicate n Pl.noneA) := by
  apply List.ext_getElem?
  intro j
  by_cases hj : j < n * 4
  · have h0 : (Array.range (n * 4))[j]? = some j := by simp [hj]
    have h3 := cellsA_get (List.replicate n Pl.noneA) (j / 4) (by simp; omega)
    have h4 : Pl.aa (List.replicate n Pl.noneA) (j / 4) = Pl.noneA := by
      unfold Pl.aa
      rw [List.getD_eq_getElem?_getD, List.getElem?_replicate]
      split <;> rfl
    rw [h4] at h3
    simp only [madeCells, Array.getElem?_toList, Array.getElem?_map]
    rw [h0]
    have h2 : (j % 4 = 0 ∧ j = j / 4 * 4) ∨ (j % 4 = 1 ∧ j = j / 4 * 4 + 1) ∨ (j % 4 = 2 ∧ j = j / 4 * 4 + 2) ∨ (j % 4 = 3 ∧ j = j / 4 * 4 + 3) := by omega
    rcases h2 with ⟨h2, e⟩ | ⟨h2, e⟩ | ⟨h2, e⟩ | ⟨h2, e⟩
    · rw [e, h3.1, ← e]; simp [h2, Pl.noneA]
    · rw [e, h3.2.1, ← e]; simp [h2, Pl.noneA]
    · rw [e, h3.2.2.1, ← e]; simp [h2, Pl.noneA]
    · rw [e, h3.2.2.2, ← e]; simp [h2, Pl.noneA]
  · rw [List.getElem?_eq_none (by rw [Array.length_toList, size_madeCells]; omega), List.getElem?_eq_none (by rw [cellsA_len]; simp; omega)]

abbrev OwnA (base : Nat) (w : World) (v : Value) (qs : List Pl.Ac) : Prop := w.ownsRow base 48 4 v qs.length (cellsA qs)
theorem rdA_of_own {base g c : Nat} {w : World} {qs : List Pl.Ac} (h : OwnA base w (.slice (some ⟨g, 0, none⟩) qs.length c) qs) : RdA w.heap.size w (.slice (some ⟨g, 0, none⟩) qs.length c) qs := by
  refine ⟨_, _, rfl, .inr ⟨g, 0, (h.lt g rfl).2, rfl, fun i hi => ?_⟩⟩
  have := cellsA_get qs i hi
  unfold ActAt
  rw [Nat.zero_add, h.cellAt (i * 4) (by omega), h.cellAt (i * 4 + 1) (by omega), h.cellAt (i * 4 + 2) (by omega), h.cellAt (i * 4 + 3) (by omega)]
  exact this

def upA (qs : List Pl.Ac) (k : Nat) : List Pl.Ac := qs.take k ++ List.replicate (qs.length - k) Pl.noneA
theorem upA_zero (qs : List Pl.Ac) : upA qs 0 = List.replicate qs.length Pl.noneA := by simp [upA]
theorem upA_len (qs : List Pl.Ac) (k : Nat) (h : k ≤ qs.length) : (upA qs k).length = qs.length := by simp [upA]; omega
theorem upA_all (qs : List Pl.Ac) (k : Nat) (h : qs.length ≤ k) : upA qs k = qs := by
  simp [upA, List.take_of_length_le h, Nat.sub_eq_zero_of_le h]
theorem upA_step (qs : List Pl.Ac) (k : Nat) (h : k < qs.length) : (upA qs k).set k (Pl.aa qs k) = upA qs (k + 1) := by
  unfold upA
  rw [Pl.takeA_snoc qs k h, List.set_append_right k (Pl.aa qs k) (by simp; omega)]
  have e : qs.length - k = (qs.length - (k + 1)) + 1 := by omega
  have e2 : k - (qs.take k).length = 0 := by simp; omega
  rw [e2, e, List.replicate_succ]
  simp

/-- laws.toAct -/
theorem toAct_any (kd : Int) (a b c : ByteArray) (w : World) :
    Calls Try.prog 21 #[.agg #[.int .i64 kd, .string a, .string b, .string c]] w fun e w' => e = .returned (.agg #[.int .i64 kd, .string a, .string b, .string c]) ∧ Below w.heap.size w w' := by
  have HB := hideP (below3 w)
  go_enter Try.func21, Try.ntmps21
  go_wp2
  refine bodyPost_ret (v := .agg #[.int .i64 kd, .string a, .string b, .string c]) (by simp [results, Try.results21, go_sem]) rfl ⟨rfl, ?_⟩
  repeat (refine Below.setCell ?_ (by simp) _)
  exact HB.out _ _ _

theorem Try.info48 : (Try.prog.info? 48).map (fun i => (i.zero, i.size, i.bytes)) = some (some (.agg #[.int .i64 0, .string ByteArray.empty, .string ByteArray.empty, .string ByteArray.empty]), 4, 56) := by kernel_rfl

set_option maxHeartbeats 1000000 in
/-- laws.toActS -/
theorem toActS_core (b off cap : Nat) (qs : List Pl.Ac) (w : World) (hl : qs.length ≤ 1048576) (hb : b < w.heap.size)
    (hc : ∀ i, i < qs.length → ActAt w b (off + i * 4) (Pl.aa qs i)) :
    Calls Try.prog 8 #[.slice (some ⟨b, off, none⟩) qs.length cap] w fun e w' => e = .returned (sl w.heap.size qs.length) ∧
      w'.ownsRow w.heap.size 48 4 (sl w.heap.size qs.length) qs.length (cellsA qs) ∧ Below w.heap.size w w' := by
  obtain ⟨i0, hi, hz0, hz1, hz2⟩ := info_parts Try.info48
  have HC := hideP hc
  clear hc
  generalize hn : qs.length = n at *
  have Hn : Hid (qs.length = n) := hn
  clear hn
  go_enter Try.func8, Try.ntmps8
  go_wp2_with (at_make; refine wpList_make_full _ rfl _ _ 34 rfl w.heap.size 48 i0 (.agg #[.int .i64 0, .string ByteArray.empty, .string ByteArray.empty, .string ByteArray.empty]) 4 Try.underlying34 hi hz0 hz1 _ _ _ _ n rfl rfl rfl rfl ?b2 ?b3 ?b4 ?_)
  case b2 => rw [hz2]; omega
  case b3 => unfold maxLen; omega
  case b4 => exact Nat.le_refl _
  intro w1 hown hgrow
  have hown1 : w1.ownsRow w.heap.size 48 4 (sl w.heap.size n) n (cellsA (List.replicate n Pl.noneA)) := by
    rw [← made_acts n]; exact hown
  have hbel : Below w.heap.size w w1 := (Below.refl _ _).grown hgrow (Nat.le_refl _) (by intro k h; cases h)
  clear hgrow hi hz0 hz1 hz2 hown
  go_wp2
  go_loopw [4] (fun i wr => ∃ k : Nat, k ≤ n ∧ i = .int .i64 k ∧ Hid (wr.ownsRow w.heap.size 48 4 (sl w.heap.size n) n (cellsA (upA qs k))) ∧ Hid (Below w.heap.size w wr)) (fun i _ => n - (intOf i).toNat)
  case atStart => exact ⟨0, Nat.zero_le _, rfl, by show World.ownsRow _ _ _ _ _ _ _; rw [upA_zero, Hn.out]; exact hown1, hbel⟩
  case round =>
    clear hown1 hbel
    obtain ⟨k, hk, rfl, hown, hbel⟩ := hrel
    by_cases hlt : k < n
    · obtain ⟨hx0, hx1, hx2, hx3⟩ := (HC.out k hlt).keep hbel.out hb
      have HS := hideP (upA_step qs k (by rw [Hn.out]; exact hlt))
      have HL := hideP (upA_len qs k (by rw [Hn.out]; omega))
      generalize Pl.aa qs k = f at *
      obtain ⟨kd, fa, fb, fc⟩ := f
      simp only at hx0 hx1 hx2 hx3
      go_wp2_with fail
      refine (toAct_any kd fa fb fc _).mono ?_
      rintro e w2 ⟨rfl, hb2⟩
      have hown2 := owns_keep hown.out hb2
      have hbel2 := hbel.out.trans (hb2.mono hbel.out.size)
      have hf0 := hown2.frozenAt (k * 4)
      have hf1 := hown2.frozenAt (k * 4 + 1)
      have hf2 := hown2.frozenAt (k * 4 + 2)
      have hf3 := hown2.frozenAt (k * 4 + 3)
      have hg := cellsA_get (upA qs k) k (by rw [HL.out, Hn.out]; exact hlt)
      have hg0 := hown2.cellAt (k * 4) (by omega)
      have hg1 := hown2.cellAt (k * 4 + 1) (by omega)
      have hg2 := hown2.cellAt (k * 4 + 2) (by omega)
      have hg3 := hown2.cellAt (k * 4 + 3) (by omega)
      rw [hg.1] at hg0
      rw [hg.2.1] at hg1
      rw [hg.2.2.1] at hg2
      rw [hg.2.2.2] at hg3
      have hs0 := hown2.stored (k * 4) (.int .i64 kd)
      have hs1 := hs0.1.stored (k * 4 + 1) (.string fa)
      have hs2 := hs1.1.stored (k * 4 + 2) (.string fb)
      have hs3 := hs2.1.stored (k * 4 + 3) (.string fc)
      have R : Hid (((((w2.setCell ⟨w.heap.size, k * 4, none⟩ (.int .i64 kd)).setCell ⟨w.heap.size, k * 4 + 1, none⟩ (.string fa)).setCell ⟨w.heap.size, k * 4 + 2, none⟩ (.string fb)).setCell ⟨w.heap.size, k * 4 + 3, none⟩ (.string fc)).ownsRow w.heap.size 48 4 (sl w.heap.size n) n (cellsA (upA qs (k + 1))) ∧ Below w.heap.size w ((((w2.setCell ⟨w.heap.size, k * 4, none⟩ (.int .i64 kd)).setCell ⟨w.heap.size, k * 4 + 1, none⟩ (.string fa)).setCell ⟨w.heap.size, k * 4 + 2, none⟩ (.string fb)).setCell ⟨w.heap.size, k * 4 + 3, none⟩ (.string fc))) := by
        refine ⟨?_, (((hbel2.setCell (Nat.le_refl _) _).setCell (Nat.le_refl _) _).setCell (Nat.le_refl _) _).setCell (Nat.le_refl _) _⟩
        have e := cellsA_set (upA qs k) k ⟨kd, fa, fb, fc⟩
        rw [HS.out] at e
        rw [← e]
        exact hs3.1
      clear hs0 hs1 hs2 hs3 hown2 hbel2 hb2 hg
      go_wp2_with fail
      go_roundw
      case rel => exact ⟨k + 1, by omega, by go_num, R.out.1, R.out.2⟩
      case measure => simp [intOf]; omega
    · have R : Hid (wr.ownsRow w.heap.size 48 4 (sl w.heap.size n) n (cellsA qs) ∧ Below w.heap.size w wr) := by
        have := hown.out
        rw [upA_all qs k (by rw [Hn.out]; omega)] at this
        exact ⟨this, hbel.out⟩
      clear hown hbel
      go_wp2
      go_ret
      exact ⟨rfl, R.out⟩

theorem toActS_nil (ao : Option Addr) (cap : Nat) (w : World) :
    Calls Try.prog 8 #[.slice ao 0 cap] w fun e w' => e = .returned (sl w.heap.size 0) ∧
      w'.ownsRow w.heap.size 48 4 (sl w.heap.size 0) 0 [] ∧ Below w.heap.size w w' := by
  obtain ⟨i0, hi, hz0, hz1, hz2⟩ := info_parts Try.info48
  go_enter Try.func8, Try.ntmps8
  go_wp2_with (at_make; refine wpList_make_full _ rfl _ _ 34 rfl w.heap.size 48 i0 (.agg #[.int .i64 0, .string ByteArray.empty, .string ByteArray.empty, .string ByteArray.empty]) 4 Try.underlying34 hi hz0 hz1 _ _ _ _ 0 rfl rfl rfl rfl ?b2 ?b3 ?b4 ?_)
  case b2 => rw [hz2]; omega
  case b3 => unfold maxLen; omega
  case b4 => exact Nat.le_refl _
  intro w1 hown hgrow
  have hbel : Below w.heap.size w w1 := (Below.refl _ _).grown hgrow (Nat.le_refl _) (by intro k h; cases h)
  have R : Hid (w1.ownsRow w.heap.size 48 4 (sl w.heap.size 0) 0 [] ∧ Below w.heap.size w w1) := ⟨by simpa [madeCells] using hown, hbel⟩
  clear hgrow hi hz0 hz1 hz2 hown hbel
  go_wp2
  go_loopw [4] (fun i wr => i = .int .i64 0 ∧ wr = w1) (fun _ _ => 0)
  case atStart => exact ⟨rfl, rfl⟩
  case round =>
    obtain ⟨rfl, rfl⟩ := hrel
    go_wp2
    go_ret
    exact ⟨rfl, R.out⟩

theorem toActS_any (v : Value) (qs : List Pl.Ac) (w : World) (hl : qs.length ≤ 1048576) (h : RdA w.heap.size w v qs) :
    Calls Try.prog 8 #[v] w fun e w' => e = .returned (sl w.heap.size qs.length) ∧ OwnA w.heap.size w' (sl w.heap.size qs.length) qs ∧ Below w.heap.size w w' := by
  obtain ⟨ao, cap, rfl, h⟩ := h
  rcases h with h | ⟨b, off, hb, rfl, hc⟩
  · obtain rfl := List.length_eq_zero_iff.1 h
    exact toActS_nil ao cap w
  · exact toActS_core b off cap qs w hl hb hc

end Go.Proofs.Ytfangdhbadmolaa
