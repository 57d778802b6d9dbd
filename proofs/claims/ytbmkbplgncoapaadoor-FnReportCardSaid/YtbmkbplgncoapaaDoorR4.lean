import Derived.Test.YtbmkbplgncoapaaDoorR3
import Derived.Test.YtbmkbplgncoapaaDoorShC
namespace Go.Proofs.YtbmkbplgncoapaaDoor
open Go.RowKit
set_option linter.unusedVariables false

namespace Pl
noncomputable def rId (t : List UInt8) : ByteArray := ((rdR t).map (·.1)).getD ByteArray.empty
noncomputable def rVs (t : List UInt8) : List Vt := ((rdR t).map (·.2)).getD []
noncomputable def rOk (t : List UInt8) : Bool := (rdR t).isSome
end Pl
/-- a slice of verdicts of the call's own -/
def OwX (B : Nat) (w : World) (v : Value) (vs : List Pl.Vt) : Prop := (vs = [] ∧ ∃ ao cap, v = .slice ao 0 cap) ∨ w.ownsRow B 78 2 v vs.length (cellsV vs)
/-- what ReadReport says -/
def RrPost (w : World) (t : List UInt8) (e : Ending) (w' : World) : Prop :=
  Below w.heap.size w w' ∧ ∃ v, e = .returned (.tuple #[.string (Pl.rId t), v, .bool (Pl.rOk t)]) ∧ OwX w.heap.size w' v (Pl.rVs t)
theorem rr_no {w w' : World} {t : List UInt8} {ao : Option Addr} {cap : Nat} (hb : Below w.heap.size w w') (h : Pl.rdR t = none) : RrPost w t (.returned (.tuple #[.string ⟨#[]⟩, .slice ao 0 cap, .bool false])) w' := by
  refine ⟨hb, .slice ao 0 cap, ?_, .inl ⟨?_, _, _, rfl⟩⟩
  · unfold Pl.rId Pl.rOk; rw [h]; rfl
  · unfold Pl.rVs; rw [h]; rfl
theorem rr_yes {w w' : World} {t : List UInt8} {v : Value} {id : ByteArray} {vs : List Pl.Vt} (hb : Below w.heap.size w w') (h : Pl.rdR t = some (id, vs)) (ho : w'.ownsRow w.heap.size 78 2 v vs.length (cellsV vs)) : RrPost w t (.returned (.tuple #[.string id, v, .bool true])) w' := by
  refine ⟨hb, v, ?_, .inr ?_⟩
  · unfold Pl.rId Pl.rOk; rw [h]; rfl
  · unfold Pl.rVs; rw [h]; exact ho

/-- strings.TrimPrefix -/
theorem trim_any (s h : ByteArray) (w : World) : Calls Tryd.prog 70 #[.string s, .string h] w fun e w' => ∃ p : ByteArray, e = .returned (.string p) ∧ w' = w ∧ p.size ≤ s.size ∧ ∀ x, bl s = bl h ++ x → bl p = x := by
  refine (Tryd.strings_TrimPrefix s h w).mono ?_
  rintro e w' ⟨rfl, rfl⟩
  refine ⟨_, rfl, rfl, ?_, fun x hx => ?_⟩
  · show (Lib.trimPrefix s.data.toList h.data.toList).toArray.size ≤ s.size
    rw [List.size_toArray, ← bl_len]
    exact Lib.trimPrefix_le _ _
  · show Lib.trimPrefix (bl s) (bl h) = x
    rw [hx]
    unfold Lib.trimPrefix Lib.hasPrefix
    rw [if_pos (by simp), List.drop_left]

/-- strings.Clone -/
theorem clone_any (s : ByteArray) (w : World) (hl : s.size ≤ 1048576) : Calls Tryd.prog 72 #[.string s] w fun e w' => e = .returned (.string s) ∧ Below w.heap.size w w' := by
  have K := hideP (fun w => Tryd.stringslite_Clone s w (by omega))
  go_enter Tryd.func72, Tryd.ntmps72
  go_wp2_with fail
  refine (K.out _).mono ?_
  rintro e w1 ⟨rfl, hb⟩
  have B := hideP hb
  clear hb
  go_wp2_with fail
  go_ret
  exact ⟨rfl, B.out⟩

/-- the first ones are there -/
def upX (us : List Pl.Vt) (n : Nat) : List Pl.Vt := us ++ List.replicate (n - us.length) Pl.none2
theorem upX_step (us : List Pl.Vt) (n k : Nat) (v : Pl.Vt) (hk : us.length = k) (h : k < n) : (upX us n).set k v = upX (us ++ [v]) n := by
  unfold upX
  rw [List.set_append_right k v (by omega), hk, Nat.sub_self, List.length_append, hk]
  have e : n - k = (n - (k + 1)) + 1 := by omega
  rw [e, List.replicate_succ]
  simp
theorem upX_len (us : List Pl.Vt) (n : Nat) (h : us.length ≤ n) : (upX us n).length = n := by unfold upX; simp; omega

/-- lines that were read, held against a report's -/
theorem acc_read {t : List UInt8} {done : List ByteArray} {p : ByteArray} {us : List Pl.Vt} (hd : done.map bl = Pl.cuts 10 t) (hn : done.length = us.length + 3)
    (hp : ∀ x0, done[0]? = some x0 → ∀ x, bl x0 = Pl.stu ++ x → bl p = x) (hu : ∀ k t', us[k]? = some t' → ∀ x, done[k + 1]? = some x → ∀ v : Pl.Vt, Pl.vB v.1 v.2 = true → bl x = Pl.lin k v → t' = v)
    {id : ByteArray} {vs : List Pl.Vt} (h : Pl.Acc t id vs) : p = id ∧ us = vs := by
  have hc := h.cuts
  rw [← hd] at hc
  have hl : us.length = vs.length := by
    have := congrArg List.length hc
    simp [Pl.lins] at this
    omega
  have h0 : ∃ x0, done[0]? = some x0 ∧ bl x0 = Pl.stu ++ id.data.toList := by
    have := congrArg (fun l => l[0]?) hc
    simp only [List.getElem?_map, List.getElem?_cons_zero] at this
    exact Option.map_eq_some_iff.1 this
  obtain ⟨x0, hx0, ex0⟩ := h0
  refine ⟨bl_inj (hp x0 hx0 _ ex0), Pl.ext2 hl fun k hk => ?_⟩
  have hk' : k < vs.length := by omega
  have h1 : ∃ x, done[k + 1]? = some x ∧ bl x = Pl.lin k (Pl.at2 vs k) := by
    have := congrArg (fun l => l[k + 1]?) hc
    simp only [List.getElem?_map, List.getElem?_cons_succ] at this
    rw [List.getElem?_append_left (by simp [Pl.lins]; exact hk'), Pl.lins_get hk'] at this
    exact Option.map_eq_some_iff.1 this
  obtain ⟨x, hx, ex⟩ := h1
  have hu' : us[k]? = some (Pl.at2 us k) := by
    rw [List.getElem?_eq_getElem hk]
    simp [Pl.at2, List.getD, hk]
  exact hu k _ hu' x hx _ (Pl.vsAll_at h.all.2 hk') ex

end Go.Proofs.YtbmkbplgncoapaaDoor
