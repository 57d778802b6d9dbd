import Derived.Test.YtljkolffjjhgeaaDoorTkt
import Derived.Test.YtljkolffjjhgeaaDoorPln
import Derived.Test.YtljkolffjjhgeaaDoorAtf
namespace Go.Proofs.YtljkolffjjhgeaaDoor
set_option linter.unusedVariables false
set_option maxRecDepth 100000
namespace Pl
/-- the function of one token -/
def Fo : T → F
  | .fn nm => .call nm
  | .op m => .plain m
  | _ => .bad
def fv (f : Fnv) : Int × Int × ByteArray := (f.k, f.a, ba f.nm)
def q1 (s : ByteArray) : Int × Int × ByteArray := if s = ⟨#[114, 111, 108, 108]⟩ then (9, 0, ⟨#[]⟩) else if 0 < plc one4 s 0 then (1, plc one4 s 0, ⟨#[]⟩) else if 0 < plc mon7 s 0 then (2, plc mon7 s 0, ⟨#[]⟩) else (0, 0, ⟨#[]⟩)
def q2 (s : ByteArray) : Int × Int × ByteArray := if 0 < plc ops10 s 0 then (5, plc ops10 s 0, ⟨#[]⟩) else if 0 < plc dya7 s 0 then (6, plc dya7 s 0, ⟨#[]⟩) else (0, 0, ⟨#[]⟩)
theorem row_q1 : ∀ m ∈ mgs, q1 (ba m.t) = (m.ok, m.ow, ⟨#[]⟩) := by decide
theorem row_q2 : ∀ m ∈ mgs, q2 (ba m.t) = (m.tk, m.tw, ⟨#[]⟩) := by decide
theorem in_one4 : ∀ x ∈ one4, (rowOf x.data.toList).isSome = true := by decide
theorem in_mon7 : ∀ x ∈ mon7, (rowOf x.data.toList).isSome = true := by decide
theorem in_dya7 : ∀ x ∈ dya7, (rowOf x.data.toList).isSome = true := by decide
theorem q1_row (s : ByteArray) : q1 s = match rowOf s.data.toList with | some m => (m.ok, m.ow, ⟨#[]⟩) | none => (0, 0, ⟨#[]⟩) := by
  cases h : rowOf s.data.toList with
  | none =>
    unfold q1
    rw [plc_none in_one4 h, plc_none in_mon7 h, if_neg, if_neg (by decide), if_neg (by decide)]
    rintro rfl
    exact absurd h (by decide)
  | some m =>
    obtain ⟨h1, h2⟩ := rowOf_t h
    have := row_q1 m h1
    rw [h2] at this
    exact this
theorem q2_row (s : ByteArray) : q2 s = match rowOf s.data.toList with | some m => (m.tk, m.tw, ⟨#[]⟩) | none => (0, 0, ⟨#[]⟩) := by
  cases h : rowOf s.data.toList with
  | none =>
    unfold q2
    rw [plc_none row_ten h, plc_none in_dya7 h, if_neg (by decide), if_neg (by decide)]
  | some m =>
    obtain ⟨h1, h2⟩ := rowOf_t h
    have := row_q2 m h1
    rw [h2] at this
    exact this
theorem sgT_Fo (l : List UInt8) : Fo (sgT l) = match rowOf l with | some m => .plain m | none => .bad := by
  unfold sgT
  by_cases h : l = [40] ∨ l = [41] ∨ l = [123] ∨ l = [125] ∨ l = [58] ∨ l = [58, 61] ∨ l = [47] ∨ l = [92] ∨ l = [64] ∨ l = [46]
  · rw [sg_row h]
    rcases h with rfl | rfl | rfl | rfl | rfl | rfl | rfl | rfl | rfl | rfl <;> rfl
  · simp only [not_or] at h
    obtain ⟨h0, h1, h2, h3, h4, h5, h6, h7, h8, h9⟩ := h
    rw [if_neg h0, if_neg h1, if_neg h2, if_neg h3, if_neg h4, if_neg h5, if_neg h6, if_neg h7, if_neg h8, if_neg h9]
    cases rowOf l <;> rfl
theorem pl1_T {t : Tok} (h : kOk t.k) : pl1 t = fv (Fo (tkT t)).one := by
  obtain ⟨k, tx, v, pos⟩ := t
  simp only at h
  unfold pl1 tkT
  simp only
  rcases h with rfl | rfl | rfl | rfl | rfl
  · rfl
  · rfl
  · rfl
  · rfl
  · show q1 tx = fv (Fo (sgT tx.data.toList)).one
    rw [q1_row, sgT_Fo]
    cases rowOf tx.data.toList <;> rfl
theorem pl2_T {t : Tok} (h : kOk t.k) : pl2 t = fv (Fo (tkT t)).two := by
  obtain ⟨k, tx, v, pos⟩ := t
  simp only at h
  unfold pl2 tkT
  simp only
  rcases h with rfl | rfl | rfl | rfl | rfl
  · rfl
  · rfl
  · rfl
  · rfl
  · show q2 tx = fv (Fo (sgT tx.data.toList)).two
    rw [q2_row, sgT_Fo]
    cases rowOf tx.data.toList <;> rfl
/-- the text of a sign -/
def sgTx : T → List UInt8
  | .lp => [40] | .rp => [41] | .lb => [123] | .rb => [125] | .col => [58] | .asg => [58, 61] | .sl => [47] | .bs => [92] | .amp => [64] | .dot => [46]
  | _ => []
def ten : List (List UInt8) := [[40], [41], [123], [125], [58], [58, 61], [47], [92], [64], [46]]
theorem sgT_tx (l : List UInt8) : sgTx (sgT l) = if l ∈ ten then l else [] := by
  by_cases h : l ∈ ten
  · rw [if_pos h]
    simp only [ten, List.mem_cons, List.not_mem_nil, or_false] at h
    rcases h with rfl | rfl | rfl | rfl | rfl | rfl | rfl | rfl | rfl | rfl <;> rfl
  · rw [if_neg h]
    simp only [ten, List.mem_cons, List.not_mem_nil, or_false, not_or] at h
    obtain ⟨h0, h1, h2, h3, h4, h5, h6, h7, h8, h9⟩ := h
    unfold sgT
    rw [if_neg h0, if_neg h1, if_neg h2, if_neg h3, if_neg h4, if_neg h5, if_neg h6, if_neg h7, if_neg h8, if_neg h9]
    cases rowOf l <;> rfl
theorem sg_T {t : Tok} (h : kOk t.k) {c : List UInt8} (hc : c ∈ ten) : (decide (t.k = 115) && decide (t.tx = ba c)) = decide (sgTx (tkT t) = c) := by
  have hn : ¬ [] = c := by rintro rfl; revert hc; decide
  obtain ⟨k, tx, v, pos⟩ := t
  simp only at h
  unfold tkT
  simp only
  rcases h with rfl | rfl | rfl | rfl | rfl
  · simp [sgTx, hn]
  · simp [sgTx, hn]
  · simp [sgTx, hn]
  · simp [sgTx, hn]
  · rw [if_neg (by decide), if_neg (by decide), if_neg (by decide), if_neg (by decide), sgT_tx]
    have e : (tx = ba c) ↔ tx.data.toList = c := by rw [ba_iff]; rfl
    by_cases ht : tx.data.toList = c
    · rw [decide_eq_true (e.2 ht), if_pos (by rw [ht]; exact hc), decide_eq_true ht]
      rfl
    · rw [decide_eq_false (fun x => ht (e.1 x))]
      symm
      rw [Bool.and_false, decide_eq_false_iff_not]
      split
      · exact ht
      · exact hn
theorem isV_T {l : List Tok} (hl : ∀ t ∈ l, kOk t.k) {c : List UInt8} (hc : c ∈ ten) (i : Int) : isV l i (ba c) = if 0 ≤ i then (match (l.map tkT)[i.toNat]? with | some t => decide (sgTx t = c) | none => false) else false := by
  unfold isV
  split
  · rw [List.getElem?_map]
    cases h : l[i.toNat]? with
    | none => rfl
    | some t => exact sg_T (hl t (List.mem_of_getElem? h)) hc
  · rfl
end Pl
open Go.RowKit
namespace Pl
def tq (l : List Tok) (i : Nat) : Tok := (l[i]?).getD ⟨0, ⟨#[]⟩, 0, 0⟩
abbrev Fq := Int × Int × Int × ByteArray
def fq (f : Fnv) : Fq := (f.k, f.a, f.b, ba f.nm)
def n4 : Fq := (0, 0, 0, ⟨#[]⟩)
def p4 (f : Int × Int × ByteArray) : Fq := (f.1, f.2.1, 0, f.2.2)
/-- the tokens in front of a place, turned round -/
def rv (l : List Tok) (hi : Nat) : List T := ((l.take hi).map tkT).reverse
theorem rv_zero (l : List Tok) : rv l 0 = [] := rfl
theorem rv_succ {l : List Tok} {k : Nat} (h : k < l.length) : rv l (k + 1) = tkT (tq l k) :: rv l k := by
  unfold rv tq
  rw [List.take_add_one, List.map_append, List.reverse_append, List.getElem?_eq_getElem h]
  rfl
theorem rv_len {l : List Tok} {k : Nat} (h : k ≤ l.length) : (rv l k).length = k := by
  simp [rv]; omega
theorem tq_mem {l : List Tok} {k : Nat} (h : k < l.length) : tq l k ∈ l := by
  unfold tq
  rw [List.getElem?_eq_getElem h]
  exact List.getElem_mem h
theorem isV_in {l : List Tok} (hl : ∀ t ∈ l, kOk t.k) {c : List UInt8} (hc : c ∈ ten) {k : Nat} (h : k < l.length) : isV l k (ba c) = decide (sgTx (tkT (tq l k)) = c) := by
  rw [isV_T hl hc, if_pos (by omega), List.getElem?_map]
  unfold tq
  rw [show ((k : Int)).toNat = k by omega, List.getElem?_eq_getElem h]
  rfl
theorem isV_neg {l : List Tok} {i : Int} (h : i < 0) (c : ByteArray) : isV l i c = false := by
  unfold isV
  rw [if_neg (by omega)]
/-- spec.l3Func as it goes -/
def fnV (l : List Tok) (hi : Nat) : Int × Fq × Fq :=
  if isV l ((hi : Int) - 1) ⟨#[47]⟩ = true ∨ isV l ((hi : Int) - 1) ⟨#[92]⟩ = true then
    if hi < 2 ∨ e2 (tq l (hi - 2)) = 0 then (-1, n4, n4)
    else ((hi : Int) - 2, (if (tq l (hi - 1)).tx = ⟨#[92]⟩ then 4 else 3, e2 (tq l (hi - 2)), 0, ⟨#[]⟩), n4)
  else if isV l ((hi : Int) - 2) ⟨#[46]⟩ = true then
    if hi < 3 ∨ e2 (tq l (hi - 3)) = 0 ∨ e2 (tq l (hi - 1)) = 0 then (-1, n4, n4)
    else ((hi : Int) - 3, n4, (8, e2 (tq l (hi - 3)), e2 (tq l (hi - 1)), ⟨#[]⟩))
  else if isV l ((hi : Int) - 2) ⟨#[64]⟩ = true then
    if e2 (tq l (hi - 1)) = 0 then (-1, n4, n4)
    else ((hi : Int) - 2, n4, (7, e2 (tq l (hi - 1)), 0, ⟨#[]⟩))
  else ((hi : Int) - 1, p4 (pl1 (tq l (hi - 1))), p4 (pl2 (tq l (hi - 1))))
def fnR : Option (F × List T) → Int × Fq × Fq
  | none => (-1, n4, n4)
  | some (f, r) => (r.length, fq f.one, fq f.two)
theorem p4_fv (f : Fnv) (h : f.b = 0) : p4 (fv f) = fq f := by obtain ⟨k, a, b, nm⟩ := f; simp only at h; subst h; rfl
theorem Fo_b (t : T) : (Fo t).one.b = 0 ∧ (Fo t).two.b = 0 := by cases t <;> exact ⟨rfl, rfl⟩
theorem rfun_sb (a : T) (r : List T) (h : sgTx a = [47] ∨ sgTx a = [92]) : fnR (rfun (a :: r)) = match r with | [] => (-1, n4, n4) | b :: r2 => if enT [b] = 0 then (-1, n4, n4) else (r2.length, (if sgTx a = [92] then 4 else 3, enT [b], 0, ⟨#[]⟩), n4) := by
  cases a <;> first | (exfalso; revert h; simp [sgTx]; done) | skip
  · cases r with
    | nil => rfl
    | cons b r2 =>
      cases b <;> first | rfl | skip
      rename_i m
      simp only [rfun]
      rw [show enT [.op m] = en m from rfl]
      by_cases hz : en m = 0
      · rw [if_pos hz, if_pos hz]; rfl
      · rw [if_neg hz, if_neg hz]; rfl
  · cases r with
    | nil => rfl
    | cons b r2 =>
      cases b <;> first | rfl | skip
      rename_i m
      simp only [rfun]
      rw [show enT [.op m] = en m from rfl]
      by_cases hz : en m = 0
      · rw [if_pos hz, if_pos hz]; rfl
      · rw [if_neg hz, if_neg hz]; rfl
theorem rfun_dot (a : T) (r : List T) (h : ¬ (sgTx a = [47] ∨ sgTx a = [92])) : fnR (rfun (a :: .dot :: r)) = match r with | [] => (-1, n4, n4) | c :: r3 => if enT [c] = 0 ∨ enT [a] = 0 then (-1, n4, n4) else (r3.length, n4, (8, enT [c], enT [a], ⟨#[]⟩)) := by
  cases a <;> first | (exfalso; revert h; simp [sgTx]; done) | skip
  case op m =>
    cases r with
    | nil => rfl
    | cons c r3 =>
      cases c <;> first | rfl | (simp [rfun, enT, fnR]; done) | skip
      rename_i m'
      simp only [rfun]
      rw [show enT [.op m] = en m from rfl, show enT [.op m'] = en m' from rfl]
      by_cases hz : en m' = 0 ∨ en m = 0
      · rw [if_pos hz, if_pos hz]; rfl
      · rw [if_neg hz, if_neg hz]; rfl
  all_goals (cases r with
    | nil => rfl
    | cons c r3 => simp [rfun, enT, fnR])
theorem rfun_amp (a : T) (r : List T) (h : ¬ (sgTx a = [47] ∨ sgTx a = [92])) : fnR (rfun (a :: .amp :: r)) = if enT [a] = 0 then (-1, n4, n4) else ((r.length : Int), n4, (7, enT [a], 0, ⟨#[]⟩)) := by
  cases a <;> first | (exfalso; revert h; simp [sgTx]; done) | rfl | skip
  rename_i m
  simp only [rfun]
  rw [show enT [.op m] = en m from rfl]
  by_cases hz : en m = 0
  · rw [if_pos hz, if_pos hz]; rfl
  · rw [if_neg hz, if_neg hz]; rfl
theorem rfun_pl (a : T) (r : List T) (h : ¬ (sgTx a = [47] ∨ sgTx a = [92])) (hr : ∀ b r2, r = b :: r2 → sgTx b ≠ [46] ∧ sgTx b ≠ [64]) : fnR (rfun (a :: r)) = ((r.length : Int), fq (Fo a).one, fq (Fo a).two) := by
  cases r with
  | nil => cases a <;> first | rfl | (exfalso; revert h; simp [sgTx]; done)
  | cons b r2 =>
    have hb := hr b r2 rfl
    cases b <;> first | (exfalso; revert hb; simp [sgTx]; done) | (cases a <;> first | rfl | (exfalso; revert h; simp [sgTx]; done))
theorem fn_rfun {l : List Tok} (hl : ∀ t ∈ l, kOk t.k) {hi : Nat} (h1 : 1 ≤ hi) (h2 : hi ≤ l.length) : fnV l hi = fnR (rfun (rv l hi)) := by
  obtain ⟨k, rfl⟩ : ∃ k, hi = k + 1 := ⟨hi - 1, by omega⟩
  have e1 : (((k + 1 : Nat) : Int) - 1) = (k : Int) := by omega
  have hk : k < l.length := by omega
  have a0 : isV l k ⟨#[47]⟩ = decide (sgTx (tkT (tq l k)) = [47]) := isV_in hl (c := [47]) (by decide) hk
  have a1 : isV l k ⟨#[92]⟩ = decide (sgTx (tkT (tq l k)) = [92]) := isV_in hl (c := [92]) (by decide) hk
  have ka := hl _ (tq_mem hk)
  have hA : e2 (tq l k) = enT [tkT (tq l k)] := e2_T ka
  have q1 := pl1_T ka
  have q2 := pl2_T ka
  have htx : sgTx (tkT (tq l k)) = [47] ∨ sgTx (tkT (tq l k)) = [92] → ((tq l k).tx = ⟨#[92]⟩ ↔ sgTx (tkT (tq l k)) = [92]) := fun h => by
    have s1 := sg_T ka (c := [47]) (by decide)
    have s2 := sg_T ka (c := [92]) (by decide)
    have b1 : ba [47] = ⟨#[47]⟩ := rfl
    have b2 : ba [92] = ⟨#[92]⟩ := rfl
    rw [b1] at s1
    rw [b2] at s2
    constructor
    · intro e
      rcases h with h | h
      · rw [e, decide_eq_true h] at s1
        simp at s1
      · exact h
    · intro e
      rw [decide_eq_true e] at s2
      simp at s2
      exact s2.2
  unfold fnV
  rw [e1, a0, a1, rv_succ hk, Nat.add_sub_cancel, hA, q1, q2]
  generalize hta : tkT (tq l k) = a at *
  simp only [decide_eq_true_eq]
  by_cases hs : sgTx a = [47] ∨ sgTx a = [92]
  · rw [if_pos hs, rfun_sb a _ hs]
    by_cases hk0 : k = 0
    · subst hk0
      rw [rv_zero, if_pos (.inl (by omega))]
    · obtain ⟨j, rfl⟩ : ∃ j, k = j + 1 := ⟨k - 1, by omega⟩
      have hB : e2 (tq l j) = enT [tkT (tq l j)] := e2_T (hl _ (tq_mem (by omega)))
      rw [rv_succ (show j < l.length by omega), show j + 1 + 1 - 2 = j by omega, hB]
      simp only
      by_cases hz : enT [tkT (tq l j)] = 0
      · rw [if_pos (.inr hz), if_pos hz]
      · rw [if_neg (by rintro (h | h); omega; exact hz h), if_neg hz, rv_len (by omega)]
        have := htx hs
        by_cases h92 : sgTx a = [92]
        · rw [if_pos (this.2 h92), if_pos h92]
          congr 1
          omega
        · rw [if_neg (fun e => h92 (this.1 e)), if_neg h92]
          congr 1
          omega
  · rw [if_neg hs]
    by_cases hk0 : k = 0
    · subst hk0
      rw [isV_neg (by omega), isV_neg (by omega), if_neg (by simp), if_neg (by simp), rv_zero, rfun_pl a _ hs (fun b r2 e => by cases e), p4_fv _ (Fo_b a).1, p4_fv _ (Fo_b a).2]
      rfl
    · obtain ⟨j, rfl⟩ : ∃ j, k = j + 1 := ⟨k - 1, by omega⟩
      have hj : j < l.length := by omega
      have e2' : (((j + 1 + 1 : Nat) : Int) - 2) = (j : Int) := by omega
      have b0 : isV l j ⟨#[46]⟩ = decide (sgTx (tkT (tq l j)) = [46]) := isV_in hl (c := [46]) (by decide) hj
      have b1 : isV l j ⟨#[64]⟩ = decide (sgTx (tkT (tq l j)) = [64]) := isV_in hl (c := [64]) (by decide) hj
      rw [e2', b0, b1, rv_succ hj]
      generalize htb : tkT (tq l j) = b at *
      simp only [decide_eq_true_eq]
      by_cases hd : sgTx b = [46]
      · rw [if_pos hd]
        have : b = .dot := by cases b <;> first | rfl | (exfalso; revert hd; simp [sgTx]; done)
        subst this
        rw [rfun_dot a _ hs]
        by_cases hj0 : j = 0
        · subst hj0
          rw [rv_zero, if_pos (.inl (by omega))]
        · obtain ⟨i, rfl⟩ : ∃ i, j = i + 1 := ⟨j - 1, by omega⟩
          have hC : e2 (tq l i) = enT [tkT (tq l i)] := e2_T (hl _ (tq_mem (by omega)))
          rw [rv_succ (show i < l.length by omega), show i + 1 + 1 + 1 - 3 = i by omega, hC]
          simp only
          by_cases hz : enT [tkT (tq l i)] = 0 ∨ enT [a] = 0
          · rw [if_pos (.inr hz), if_pos hz]
          · rw [if_neg (by rintro (h | h); omega; exact hz h), if_neg hz, rv_len (by omega)]
            congr 1
            omega
      · rw [if_neg hd]
        by_cases hm : sgTx b = [64]
        · rw [if_pos hm]
          have : b = .amp := by cases b <;> first | rfl | (exfalso; revert hm; simp [sgTx]; done)
          subst this
          rw [rfun_amp a _ hs, rv_len (by omega)]
        · rw [if_neg hm, rfun_pl a _ hs (fun b' r2 e => by cases e; exact ⟨hd, hm⟩), p4_fv _ (Fo_b a).1, p4_fv _ (Fo_b a).2, List.length_cons, rv_len (by omega)]
end Pl
namespace Pl
def pm : T → Int
  | .rp => 1
  | .lp => -1
  | _ => 0
/-- spec.l3Bracket: the place of the open bracket -/
def brk (l : List Tok) : Nat → Int → Option Nat
  | 0, _ => none
  | j + 1, o => if o + pm (tkT (tq l j)) = 0 then some j else brk l j (o + pm (tkT (tq l j)))
theorem brk_lt (l : List Tok) : ∀ (j : Nat) (o : Int) (i : Nat), brk l j o = some i → i < j
  | 0, o, i, h => by simp [brk] at h
  | j + 1, o, i, h => by
    rw [brk] at h
    split at h
    · cases h; omega
    · have := brk_lt l j _ i h; omega
theorem mid_succ {l : List Tok} {i j : Nat} (hj : j < l.length) (hi : i + 1 ≤ j) (acc : List T) : ((l.take (j + 1)).drop (i + 1)).map tkT ++ acc = ((l.take j).drop (i + 1)).map tkT ++ (tkT (tq l j) :: acc) := by
  have h1 : l.take (j + 1) = l.take j ++ [tq l j] := by
    rw [List.take_add_one, List.getElem?_eq_getElem hj]
    unfold tq
    rw [List.getElem?_eq_getElem hj]
    rfl
  rw [h1, List.drop_append_of_le_length (by simp; omega), List.map_append, List.append_assoc]
  rfl
theorem brk_cut (l : List Tok) : ∀ (j k : Nat) (acc : List T), j ≤ l.length → cut k acc (rv l j) = match brk l j ((k : Int) + 1) with | none => none | some i => some (((l.take j).drop (i + 1)).map tkT ++ acc, rv l i)
  | 0, k, acc, _ => by rw [rv_zero]; cases k <;> rfl
  | j + 1, k, acc, h => by
    have hj : j < l.length := by omega
    have go : ∀ (k2 : Nat) (t : T), tkT (tq l j) = t → (k : Int) + 1 + pm t = (k2 : Int) + 1 → cut k acc (t :: rv l j) = cut k2 (t :: acc) (rv l j) → cut k acc (rv l (j + 1)) = match brk l (j + 1) ((k : Int) + 1) with | none => none | some i => some (((l.take (j + 1)).drop (i + 1)).map tkT ++ acc, rv l i) := fun k2 t ht e hc => by
      rw [rv_succ hj, ht, hc, brk_cut l j k2 (t :: acc) (by omega), brk, ht, e, if_neg (by omega)]
      cases hb : brk l j ((k2 : Int) + 1) with
      | none => rfl
      | some i =>
        have := brk_lt l j _ i hb
        simp only
        rw [mid_succ hj (by omega), ht]
    cases ht : tkT (tq l j) with
    | rp => exact go (k + 1) _ ht (by simp [pm]) (by cases k <;> rfl)
    | lp =>
      cases k with
      | zero =>
        rw [rv_succ hj, ht, brk, ht, if_pos (by simp [pm])]
        simp only [cut]
        rw [List.drop_eq_nil_of_le (by simp; omega)]
        rfl
      | succ k => exact go k _ ht (by simp [pm]; omega) rfl
    | num v => exact go k _ ht (by simp [pm]) (by cases k <;> rfl)
    | arr v => exact go k _ ht (by simp [pm]) (by cases k <;> rfl)
    | fn v => exact go k _ ht (by simp [pm]) (by cases k <;> rfl)
    | op v => exact go k _ ht (by simp [pm]) (by cases k <;> rfl)
    | lb => exact go k _ ht (by simp [pm]) (by cases k <;> rfl)
    | rb => exact go k _ ht (by simp [pm]) (by cases k <;> rfl)
    | col => exact go k _ ht (by simp [pm]) (by cases k <;> rfl)
    | asg => exact go k _ ht (by simp [pm]) (by cases k <;> rfl)
    | sl => exact go k _ ht (by simp [pm]) (by cases k <;> rfl)
    | bs => exact go k _ ht (by simp [pm]) (by cases k <;> rfl)
    | amp => exact go k _ ht (by simp [pm]) (by cases k <;> rfl)
    | dot => exact go k _ ht (by simp [pm]) (by cases k <;> rfl)
    | sep => exact go k _ ht (by simp [pm]) (by cases k <;> rfl)
/-- the brackets as l3Is tells them -/
theorem pm_is {l : List Tok} (hl : ∀ t ∈ l, kOk t.k) {k : Nat} (h : k < l.length) : pm (tkT (tq l k)) = (if isV l k ⟨#[41]⟩ = true then 1 else 0) - (if isV l k ⟨#[40]⟩ = true then 1 else 0) ∧ ¬ (isV l k ⟨#[41]⟩ = true ∧ isV l k ⟨#[40]⟩ = true) := by
  have a0 : isV l k ⟨#[41]⟩ = decide (sgTx (tkT (tq l k)) = [41]) := isV_in hl (c := [41]) (by decide) h
  have a1 : isV l k ⟨#[40]⟩ = decide (sgTx (tkT (tq l k)) = [40]) := isV_in hl (c := [40]) (by decide) h
  rw [a0, a1]
  cases tkT (tq l k) <;> simp [sgTx, pm]
theorem kind_num {t : Tok} (h : kOk t.k) : (t.k = 110 ↔ tkT t = .num t.v) := by
  obtain ⟨k, tx, v, p⟩ := t
  simp only at h
  unfold tkT
  simp only
  rcases h with rfl | rfl | rfl | rfl | rfl
  · simp
  · simp
  · simp
  · simp
  · rw [if_neg (by decide), if_neg (by decide), if_neg (by decide), if_neg (by decide)]
    constructor
    · intro h; exact absurd h (by decide)
    · intro h
      exfalso
      have := sgT_tx tx.data.toList
      unfold sgT at h
      repeat (split at h <;> first | cases h | skip)
theorem kind_arr {t : Tok} (h : kOk t.k) : (t.k = 119 ↔ tkT t = .arr t.tx.data.toList) := by
  obtain ⟨k, tx, v, p⟩ := t
  simp only at h
  unfold tkT
  simp only
  rcases h with rfl | rfl | rfl | rfl | rfl
  · simp
  · simp
  · simp
  · simp
  · rw [if_neg (by decide), if_neg (by decide), if_neg (by decide), if_neg (by decide)]
    constructor
    · intro h; exact absurd h (by decide)
    · intro h
      exfalso
      unfold sgT at h
      repeat (split at h <;> first | cases h | skip)
/-- the values of the numbers that stand from i on -/
theorem num_vals {l : List Tok} (hl : ∀ t ∈ l, kOk t.k) {m i : Nat} (him : i ≤ m) (hm : m ≤ l.length) (hs : (spn (rv l m)).2 = rv l i) : ((l.take m).drop i).map (·.v) = (spn (rv l m)).1.reverse := by
  have e := spn_eq (rv l m)
  rw [hs] at e
  have e2 : (l.take m).map tkT = (l.take i).map tkT ++ ((spn (rv l m)).1.reverse).map .num := by
    have := congrArg List.reverse e
    unfold rv at this
    rw [List.reverse_reverse, List.reverse_append, List.reverse_reverse, ← List.map_reverse] at this
    exact this
  have e3 : ((l.take m).drop i).map tkT = ((spn (rv l m)).1.reverse).map .num := by
    have := congrArg (List.drop i) e2
    rw [List.drop_left' (by simp; omega), ← List.map_drop] at this
    exact this
  generalize (spn (rv l m)).1.reverse = vs at e3
  have hk : ∀ t ∈ (l.take m).drop i, kOk t.k := fun t ht => hl t (List.mem_of_mem_take (List.mem_of_mem_drop ht))
  generalize (l.take m).drop i = q at e3 hk
  clear e e2 hs him
  induction q generalizing vs with
  | nil => cases vs with
    | nil => rfl
    | cons v vs => simp at e3
  | cons t q ih =>
    cases vs with
    | nil => simp at e3
    | cons v vs =>
      simp only [List.map_cons, List.cons.injEq] at e3 ⊢
      have h1 := hk t (by simp)
      refine ⟨?_, ih vs e3.2 (fun x hx => hk x (by simp [hx]))⟩
      have : tkT t = .num t.v := (kind_num h1).1 (by
        obtain ⟨k, tx, v', p⟩ := t
        have e := e3.1
        simp only at h1
        unfold tkT at e
        simp only at e
        rcases h1 with rfl | rfl | rfl | rfl | rfl
        · rfl
        · simp at e
        · simp at e
        · simp at e
        · rw [if_neg (by decide), if_neg (by decide), if_neg (by decide), if_neg (by decide)] at e
          unfold sgT at e
          repeat (split at e <;> first | cases e | skip))
      rw [this] at e3
      cases e3.1
      rfl
end Pl
/-- what spec's readers give: code, the place, how deep, whether too long -/
def CodeR (B : Nat) (w : World) (v : Value) : Option (List Pl.Sv × Nat × Nat × Bool) → Prop
  | none => ∃ ao n cap fr ne lo, v = .agg #[.slice ao n cap, .int .i64 fr, .bool false, .int .i64 ne, .bool lo]
  | some (c, fr, ne, lo) => ∃ ao cap F, v = .agg #[.slice ao c.length cap, .int .i64 fr, .bool true, .int .i64 ne, .bool lo] ∧ OwS w (.slice ao c.length cap) c F ∧ Inb B w F
theorem CodeR.keep {B C : Nat} {w w' : World} {v : Value} {r : Option (List Pl.Sv × Nat × Nat × Bool)} (h : CodeR B w v r) (hb : Below C w w') (hC : w.heap.size ≤ C) : CodeR B w' v r := by
  cases r with
  | none => exact h
  | some q =>
    obtain ⟨c, fr, ne, lo⟩ := q
    obtain ⟨ao, cap, F, rfl, h1, h2⟩ := h
    exact ⟨ao, cap, F, rfl, h1.below Qs.lives h2 hb hC, h2.up (Nat.le_refl _) hb.size⟩
/-- what is written in one block below -/
theorem CodeR.far {B p : Nat} {w w' : World} {v : Value} {r : Option (List Pl.Sv × Nat × Nat × Bool)} (h : CodeR B w v r) (hg : w.grownBy w' (some p)) (hp : p < B) : CodeR B w' v r := by
  cases r with
  | none => exact h
  | some q =>
    obtain ⟨c, fr, ne, lo⟩ := q
    obtain ⟨ao, cap, F, rfl, h1, h2⟩ := h
    exact ⟨ao, cap, F, rfl, h1.grown Qs.lives h2 hg (fun b hb hm => by cases hb; have := (h2 _ hm).1; omega), h2.up (Nat.le_refl _) hg.size⟩
theorem grown_one {w : World} (p j : Nat) (v : Value) {w0 : World} (h : w0.grownBy w (some p)) : w0.grownBy (w.setCell ⟨p, j, none⟩ v) (some p) :=
  ⟨h.os, h.tape, h.output, by simpa using h.size, fun k hk hn => (Below.heap_setCell _ _ _ k (fun e => hn (by rw [e]))).trans (h.block k hk hn)⟩
/-- five cells are put down -/
theorem grown_box (w : World) (p : Nat) (v0 v1 v2 v3 v4 : Value) : w.grownBy (((((w.setCell ⟨p, 0, none⟩ v0).setCell ⟨p, 1, none⟩ v1).setCell ⟨p, 2, none⟩ v2).setCell ⟨p, 3, none⟩ v3).setCell ⟨p, 4, none⟩ v4) (some p) :=
  grown_one p 4 _ (grown_one p 3 _ (grown_one p 2 _ (grown_one p 1 _ (grown_one p 0 _ (World.grownBy.refl w _)))))
theorem grown_alloc {w w1 : World} {r : Option Nat} (h : w.grownBy w1 r) (o : Obj) : w.grownBy (w1.alloc o) r := grown_then h ((Below.refl w1.heap.size _).alloc (Nat.le_refl _) o) h.size
theorem below_far {B p : Nat} {w0 w w' : World} (h : Below B w0 w) (hg : w.grownBy w' (some p)) (hB : B ≤ w.heap.size) (hp : B ≤ p) : Below B w0 w' := h.grown hg hB (fun k hk => by cases hk; exact hp)
theorem CodeR.low {B B' : Nat} {w : World} {v : Value} {r : Option (List Pl.Sv × Nat × Nat × Bool)} (h : CodeR B w v r) (hB : B' ≤ B) : CodeR B' w v r := by
  cases r with
  | none => exact h
  | some q =>
    obtain ⟨c, fr, ne, lo⟩ := q
    obtain ⟨ao, cap, F, rfl, h1, h2⟩ := h
    exact ⟨ao, cap, F, rfl, h1, h2.up hB (Nat.le_refl _)⟩
theorem CodeR.form {B : Nat} {w : World} {v : Value} {r : Option (List Pl.Sv × Nat × Nat × Bool)} (h : CodeR B w v r) : ∃ ao n cap fr ok ne lo, v = .agg #[.slice ao n cap, .int .i64 fr, .bool ok, .int .i64 ne, .bool lo] := by
  cases r with
  | none =>
    obtain ⟨ao, n, cap, fr, ne, lo, rfl⟩ := h
    exact ⟨ao, n, cap, fr, false, ne, lo, rfl⟩
  | some q =>
    obtain ⟨c, fr, ne, lo⟩ := q
    obtain ⟨ao, cap, F, rfl, _, _⟩ := h
    exact ⟨ao, _, cap, fr, true, ne, lo, rfl⟩
/-- the same in brackets -/
theorem CodeR.brk {B : Nat} {w : World} {ao : Option Addr} {n cap : Nat} {fr ne : Int} {ok lo : Bool} {r : Option (List Pl.Sv × Nat × Nat × Bool)} (h : CodeR B w (.agg #[.slice ao n cap, .int .i64 fr, .bool ok, .int .i64 ne, .bool lo]) r) (hn : ∀ q, r = some q → q.2.2.1 ≤ 1048576) (i : Nat) : CodeR B w (.agg #[.slice ao n cap, .int .i64 i, .bool ok, .int .i64 (IntKind.i64.wrap (ne + 1)), .bool lo]) (r.map fun q => (q.1, i, q.2.2.1 + 1, q.2.2.2)) := by
  cases r with
  | none =>
    obtain ⟨ao, n, cap, fr, ne, lo, e⟩ := h
    cases e
    exact ⟨_, _, _, _, _, _, rfl⟩
  | some q =>
    obtain ⟨c, fr', ne', lo'⟩ := q
    obtain ⟨ao', cap', F, e, h1, h2⟩ := h
    have hq := hn _ rfl
    simp only at hq
    cases e
    refine ⟨ao, cap, F, ?_, h1, h2⟩
    rw [show IntKind.i64.wrap ((ne' : Int) + 1) = ((ne' + 1 : Nat) : Int) by rw [IntKind.wrap_i64]; omega]
/-- nothing is read -/
theorem CodeR.no (B : Nat) (w : World) : CodeR B w (.agg #[.slice none 0 0, .int .i64 0, .bool false, .int .i64 0, .bool false]) none := ⟨_, _, _, _, _, _, rfl⟩
def ofE (e : Pl.E) : List Pl.Sv × Nat × Nat × Bool := (e.code, 0, e.nest, e.long)
def ofO (p : Pl.O × List Pl.T) : List Pl.Sv × Nat × Nat × Bool := (p.1.code, p.2.length, p.1.nest, p.1.long)
/-- the contract of l3Expr, with fuel -/
def HE (n : Nat) : Prop := ∀ (l : List Pl.Tok) (ao : Option Addr) (cap : Nat) (w : World), l.length ≤ 1048576 → l.length ≤ cap → cap ≤ 9223372036854775807 → 2 * l.length + 1 ≤ n → (∀ t ∈ l, Pl.kOk t.k) → RdK w.heap.size w ao l →
  Calls Tryd.prog 28 #[.slice ao l.length cap] w fun e w' => ∃ v, e = .returned v ∧ Below w.heap.size w w' ∧ CodeR w.heap.size w' v ((Pl.rexpr n (l.map Pl.tkT)).map ofE)
/-- a part of the tokens -/
theorem RdK.part {B : Nat} {w : World} {b off : Nat} {l : List Pl.Tok} (h : RdK B w (some ⟨b, off, none⟩) l) (i j : Nat) : RdK B w (some ⟨b, off + i * 4, none⟩) ((l.take j).drop i) := by
  rcases h with rfl | ⟨b', off', hB, e, hc⟩
  · exact .inl (by simp)
  · cases e
    refine .inr ⟨b, off + i * 4, hB, rfl, fun k t hk => ?_⟩
    have hk' : l[i + k]? = some t := by
      rw [List.getElem?_drop] at hk
      rw [List.getElem?_take] at hk
      split at hk
      · exact hk
      · cases hk
    have := hc (i + k) t hk'
    rw [show off + (i + k) * 4 = off + i * 4 + k * 4 by rw [Nat.add_mul]; omega] at this
    exact this
end Go.Proofs.YtljkolffjjhgeaaDoor
