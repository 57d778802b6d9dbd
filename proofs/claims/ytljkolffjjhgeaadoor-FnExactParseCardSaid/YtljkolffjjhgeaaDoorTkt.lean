import Derived.Test.YtljkolffjjhgeaaDoorPlc
namespace Go.Proofs.YtljkolffjjhgeaaDoor
set_option linter.unusedVariables false
set_option maxRecDepth 100000
namespace Pl
/-- a sign, or a word with a meaning -/
def sgT (l : List UInt8) : T :=
  if l = [40] then .lp else if l = [41] then .rp else if l = [123] then .lb else if l = [125] then .rb else if l = [58] then .col else if l = [58, 61] then .asg else if l = [47] then .sl else if l = [92] then .bs else if l = [64] then .amp else if l = [46] then .dot
  else match rowOf l with
    | some m => .op m
    | none => .sep
/-- a token of spec's that is not bad -/
def tkT (t : Tok) : T :=
  if t.k = 110 then .num t.v else if t.k = 119 then .arr t.tx.data.toList else if t.k = 70 then .fn t.tx.data.toList else if t.k = 59 then .sep else sgT t.tx.data.toList
theorem rowOf_t {l : List UInt8} {m : Mg} (h : rowOf l = some m) : m ∈ mgs ∧ m.t = l := by
  refine ⟨List.mem_of_find?_eq_some h, ?_⟩
  have := List.find?_some h
  simpa using this
theorem row_two : ∀ m ∈ mgs, plc ops10 (ba m.t) 0 = en m := by decide
theorem row_ten : ∀ x ∈ ops10, (rowOf x.data.toList).isSome = true := by decide
theorem plc_zero : ∀ (L : List ByteArray) (s : ByteArray) (k : Nat), s ∉ L → plc L s k = 0
  | [], _, _, _ => rfl
  | x :: L, s, k, h => by
    rw [plc, if_neg (fun e => h (by rw [e]; simp)), plc_zero L s (k + 1) (fun hm => h (by simp [hm]))]
theorem plc_none {L : List ByteArray} {s : ByteArray} (hL : ∀ x ∈ L, (rowOf x.data.toList).isSome = true) (h : rowOf s.data.toList = none) : plc L s 0 = 0 :=
  plc_zero L s 0 (fun hm => by have := hL s hm; rw [h] at this; cases this)
theorem ops_row (s : ByteArray) : plc ops10 s 0 = match rowOf s.data.toList with | some m => en m | none => 0 := by
  cases h : rowOf s.data.toList with
  | none => exact plc_none row_ten h
  | some m =>
    obtain ⟨h1, h2⟩ := rowOf_t h
    have := row_two m h1
    rw [h2] at this
    exact this
/-- the ten signs have no meaning of their own -/
theorem sg_row {l : List UInt8} (h : l = [40] ∨ l = [41] ∨ l = [123] ∨ l = [125] ∨ l = [58] ∨ l = [58, 61] ∨ l = [47] ∨ l = [92] ∨ l = [64] ∨ l = [46]) : rowOf l = none := by
  rcases h with rfl | rfl | rfl | rfl | rfl | rfl | rfl | rfl | rfl | rfl <;> decide
theorem sgT_en (l : List UInt8) : enT [sgT l] = match rowOf l with | some m => en m | none => 0 := by
  unfold sgT
  by_cases h : l = [40] ∨ l = [41] ∨ l = [123] ∨ l = [125] ∨ l = [58] ∨ l = [58, 61] ∨ l = [47] ∨ l = [92] ∨ l = [64] ∨ l = [46]
  · rw [sg_row h]
    rcases h with rfl | rfl | rfl | rfl | rfl | rfl | rfl | rfl | rfl | rfl <;> rfl
  · simp only [not_or] at h
    obtain ⟨h0, h1, h2, h3, h4, h5, h6, h7, h8, h9⟩ := h
    rw [if_neg h0, if_neg h1, if_neg h2, if_neg h3, if_neg h4, if_neg h5, if_neg h6, if_neg h7, if_neg h8, if_neg h9]
    cases rowOf l <;> rfl
/-- a kind that is not bad -/
def kOk (k : Int) : Prop := k = 110 ∨ k = 119 ∨ k = 70 ∨ k = 59 ∨ k = 115
theorem e2_T {t : Tok} (h : kOk t.k) : e2 t = enT [tkT t] := by
  obtain ⟨k, tx, v, pos⟩ := t
  simp only at h
  unfold e2 tkT
  simp only
  rcases h with rfl | rfl | rfl | rfl | rfl
  · rfl
  · rfl
  · rfl
  · rfl
  · rw [if_pos rfl, if_neg (by decide), if_neg (by decide), if_neg (by decide), if_neg (by decide), sgT_en, ops_row]
theorem end_T {t : Tok} (h : kOk t.k) : endV t = ends [tkT t] := by
  obtain ⟨k, tx, v, pos⟩ := t
  simp only at h
  unfold endV tkT
  simp only
  rcases h with rfl | rfl | rfl | rfl | rfl
  · rfl
  · rfl
  · rfl
  · rfl
  · rw [if_neg (by decide), if_neg (by decide), if_neg (by decide), if_neg (by decide)]
    have e : (tx = ⟨#[41]⟩) ↔ tx.data.toList = [41] := by rw [ba_iff]
    by_cases ht : tx = ⟨#[41]⟩
    · rw [sgT, e.1 ht, decide_eq_true ht]; rfl
    · have h2 : ¬ tx.data.toList = [41] := fun x => ht (e.2 x)
      rw [decide_eq_false ht]
      unfold sgT
      rw [if_neg h2]
      repeat (split <;> first | rfl | skip)
end Pl
end Go.Proofs.YtljkolffjjhgeaaDoor
