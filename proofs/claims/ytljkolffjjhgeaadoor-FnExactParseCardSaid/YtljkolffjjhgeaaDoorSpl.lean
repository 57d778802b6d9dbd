import Derived.Test.YtljkolffjjhgeaaDoorOpe2
namespace Go.Proofs.YtljkolffjjhgeaaDoor
open Go.RowKit
set_option linter.unusedVariables false
set_option maxRecDepth 100000
namespace Pl
/-- spec.l3Split, by places -/
def spl (l : List Tok) : Nat → Nat → Int → Nat → List (Nat × Nat)
  | 0, i, _, fr => if fr < i then [(fr, i)] else []
  | m + 1, i, o, fr => if o + br (tkT (tq l i)) ≤ 0 ∧ isSep (tkT (tq l i)) = true then (if fr < i then (fr, i) :: spl l m (i + 1) (o + br (tkT (tq l i))) (i + 1) else spl l m (i + 1) (o + br (tkT (tq l i))) (i + 1)) else spl l m (i + 1) (o + br (tkT (tq l i))) fr
def pieceT (l : List Tok) (q : Nat × Nat) : List Tok := (l.take q.2).drop q.1
theorem piece_succ {l : List Tok} {fr i : Nat} (hi : i < l.length) (hf : fr ≤ i) : pieceT l (fr, i + 1) = pieceT l (fr, i) ++ [tq l i] := by
  have h1 : l.take (i + 1) = l.take i ++ [tq l i] := by
    rw [List.take_add_one, List.getElem?_eq_getElem hi]
    unfold tq
    rw [List.getElem?_eq_getElem hi]
    rfl
  unfold pieceT
  simp only
  rw [h1, List.drop_append_of_le_length (by simp; omega)]
theorem piece_nil {l : List Tok} {fr i : Nat} (h : i ≤ fr) : pieceT l (fr, i) = [] := by
  unfold pieceT
  simp only
  rw [List.drop_eq_nil_of_le (by simp; omega)]
theorem piece_len {l : List Tok} {fr i : Nat} (h : i ≤ l.length) : (pieceT l (fr, i)).length = i - fr := by
  unfold pieceT; simp; omega
theorem spl_rsp (l : List Tok) : ∀ (m i : Nat) (o : Int) (fr : Nat), m = l.length - i → i ≤ l.length → fr ≤ i → rsp o ((pieceT l (fr, i)).map tkT).reverse ((l.drop i).map tkT) = (spl l m i o fr).map fun q => (pieceT l q).map tkT
  | 0, i, o, fr, hm, hi, hf => by
    rw [List.drop_eq_nil_of_le (by omega)]
    simp only [List.map_nil, rsp, spl]
    have hlen := piece_len (l := l) (fr := fr) hi
    by_cases h : fr < i
    · rw [if_neg (by intro e; have := congrArg List.length e; simp at this; rw [this] at hlen; simp at hlen; omega), if_pos h]
      simp
    · rw [if_pos (by rw [piece_nil (by omega)]; rfl), if_neg h]
      rfl
  | m + 1, i, o, fr, hm, hi, hf => by
    have hlt : i < l.length := by omega
    have hlen := piece_len (l := l) (fr := fr) hi
    have hd : l.drop i = tq l i :: l.drop (i + 1) := by
      rw [List.drop_eq_getElem_cons hlt]
      unfold tq
      rw [List.getElem?_eq_getElem hlt]
      rfl
    rw [hd, List.map_cons, rsp, spl]
    have hsep := spl_rsp l m (i + 1) (o + br (tkT (tq l i))) (i + 1) (by omega) hlt (Nat.le_refl _)
    rw [piece_nil (Nat.le_refl _)] at hsep
    simp only [List.map_nil, List.reverse_nil] at hsep
    split
    · by_cases h : fr < i
      · rw [if_neg (by intro e; have := congrArg List.length e; simp at this; rw [this] at hlen; simp at hlen; omega), if_pos h, hsep]
        simp
      · rw [if_pos (by rw [piece_nil (by omega)]; rfl), if_neg h, hsep]
    · have h2 := spl_rsp l m (i + 1) (o + br (tkT (tq l i))) fr (by omega) hlt (by omega)
      rw [piece_succ hlt hf, List.map_append, List.reverse_append] at h2
      exact h2
theorem split_T (l : List Tok) : rsp 0 [] (l.map tkT) = (spl l l.length 0 0 0).map fun q => (pieceT l q).map tkT := by
  have := spl_rsp l l.length 0 0 0 rfl (Nat.zero_le _) (Nat.le_refl _)
  rw [piece_nil (Nat.le_refl _)] at this
  simpa using this
theorem spl_in (l : List Tok) : ∀ (m i : Nat) (o : Int) (fr : Nat), m = l.length - i → i ≤ l.length → fr ≤ i → ∀ q ∈ spl l m i o fr, fr ≤ q.1 ∧ q.1 < q.2 ∧ q.2 ≤ l.length
  | 0, i, o, fr, hm, hi, hf, q, hq => by
    rw [spl] at hq
    split at hq
    · simp at hq; subst hq; simp only; omega
    · simp at hq
  | m + 1, i, o, fr, hm, hi, hf, q, hq => by
    rw [spl] at hq
    split at hq
    · split at hq
      · rcases List.mem_cons.1 hq with rfl | hq
        · simp only; omega
        · have := spl_in l m (i + 1) _ (i + 1) (by omega) (by omega) (Nat.le_refl _) q hq; omega
      · have := spl_in l m (i + 1) _ (i + 1) (by omega) (by omega) (Nat.le_refl _) q hq; omega
    · exact spl_in l m (i + 1) _ fr (by omega) (by omega) (by omega) q hq
theorem spl_len (l : List Tok) : ∀ (m i : Nat) (o : Int) (fr : Nat), (spl l m i o fr).length ≤ m + 1
  | 0, i, o, fr => by rw [spl]; split <;> simp
  | m + 1, i, o, fr => by
    rw [spl]
    have h1 := spl_len l m (i + 1) (o + br (tkT (tq l i))) (i + 1)
    have h2 := spl_len l m (i + 1) (o + br (tkT (tq l i))) fr
    split
    · split
      · simp; omega
      · omega
    · omega
/-- braces as l3Is tells them -/
theorem br_is {l : List Tok} (hl : ∀ t ∈ l, kOk t.k) {k : Nat} (h : k < l.length) : br (tkT (tq l k)) = (if isV l k ⟨#[123]⟩ = true then 1 else 0) - (if isV l k ⟨#[125]⟩ = true then 1 else 0) ∧ ¬ (isV l k ⟨#[123]⟩ = true ∧ isV l k ⟨#[125]⟩ = true) := by
  have a0 : isV l k ⟨#[123]⟩ = decide (sgTx (tkT (tq l k)) = [123]) := isV_in hl (c := [123]) (by decide) h
  have a1 : isV l k ⟨#[125]⟩ = decide (sgTx (tkT (tq l k)) = [125]) := isV_in hl (c := [125]) (by decide) h
  rw [a0, a1]
  cases tkT (tq l k) <;> simp [sgTx, br]
/-- a token as the lexer makes it -/
def tOk (t : Tok) : Prop := kOk t.k ∧ (isSep (tkT t) = true ↔ t.k = 59)
end Pl
/-- a piece of the tokens, as a slice -/
def Qk (b off cap : Nat) (w : World) (x : List Value) (q : Nat × Nat) (f : List Nat) : Prop := x = [.slice (some ⟨b, off + q.1 * 4, none⟩) (q.2 - q.1) (cap - q.1)] ∧ f = []
theorem Qk.lives (b off cap : Nat) : Lives (Qk b off cap) := ⟨fun _ _ _ _ _ h _ => h⟩
end Go.Proofs.YtljkolffjjhgeaaDoor
