import Derived.Test.YtmobjomebmipdaaSpec1
import Derived.Test.YtmobjomebmipdaaWide
import Derived.Deep.DeepCutAuto
namespace Go.Proofs.Ytmobjomebmipdaa.Pl
theorem ok_len {sh da : List Int} (h : okB sh da = true) : (da.length : Int) = prodC sh ∧ fitsB sh = true := by
  simp only [okB, Bool.and_eq_true, decide_eq_true_eq] at h
  exact ⟨h.1.2, h.1.1⟩
theorem ok_one {sa da : List Int} (h : okB sa da = true) (h0 : sa.length = 0) : da.length = 1 := by
  have := (ok_len h).1
  obtain rfl := List.length_eq_zero_iff.1 h0
  have e : prodC [] = 1 := rfl
  omega
end Go.Proofs.Ytmobjomebmipdaa.Pl

namespace Go.Proofs.Ytmobjomebmipdaa
open Go.RowKit
set_option linter.unusedVariables false

/-- the two arrays in their boxes, the answer's box behind them -/
def Wid (w : World) (sa xs sb ys : List Int) (p0 p1 p2 p3 : Value) (wx : World) : Prop :=
  Below w.heap.size w wx ∧ w.heap.size + 2 < wx.heap.size ∧ (wx.cell? ⟨w.heap.size, 0, none⟩ = some p0 ∧ wx.cell? ⟨w.heap.size, 1, none⟩ = some p1 ∧ wx.cell? ⟨w.heap.size + 1, 0, none⟩ = some p2 ∧ wx.cell? ⟨w.heap.size + 1, 1, none⟩ = some p3) ∧
  (wx.cell? ⟨w.heap.size + 1 + 1, 0, none⟩ = some (.slice none 0 0) ∧ wx.cell? ⟨w.heap.size + 1 + 1, 1, none⟩ = some (.slice none 0 0) ∧ ∀ o, wx.frozen? ⟨w.heap.size + 1 + 1, o, none⟩ = false) ∧
  Rd wx.heap.size wx p0 sa ∧ Rd wx.heap.size wx p1 xs ∧ Rd wx.heap.size wx p2 sb ∧ Rd wx.heap.size wx p3 ys

theorem Wid.keep {w wx w' : World} {sa xs sb ys : List Int} {p0 p1 p2 p3 : Value} (h : Wid w sa xs sb ys p0 p1 p2 p3 wx) (hb : Below wx.heap.size wx w') : Wid w sa xs sb ys p0 p1 p2 p3 w' := by
  obtain ⟨h1, h2, ⟨c0, c1, c2, c3⟩, ⟨r0, r1, f⟩, g0, g1, g2, g3⟩ := h
  have hs := hb.size
  have k : ∀ b o v, b < wx.heap.size → wx.cell? ⟨b, o, none⟩ = some v → w'.cell? ⟨b, o, none⟩ = some v := fun b o v hlt e => (hb.cell (p := ⟨b, o, none⟩) hlt).trans e
  exact ⟨h1.trans (hb.mono (by omega)), by omega, ⟨k _ _ _ (by omega) c0, k _ _ _ (by omega) c1, k _ _ _ (by omega) c2, k _ _ _ (by omega) c3⟩, ⟨k _ _ _ (by omega) r0, k _ _ _ (by omega) r1, fun o => (hb.frozen (p := ⟨w.heap.size + 1 + 1, o, none⟩) (by show _ < _; omega)).trans (f o)⟩, (g0.keep hb).up hs, (g1.keep hb).up hs, (g2.keep hb).up hs, (g3.keep hb).up hs⟩

/-- append(v, u...), and what is not written -/
theorem wpList_append_rdg {base B : Nat} (w : World) {ops : Array Oper} {rest : List Oper} {o : Oper} {a : Act} {Q : Exit → Act → World → Prop} (hg : o.guard = none) (s x : Operand)
    (hop : o.op = Op.call { callee := Callee.builtin Builtin.append, args := #[s, x], argTypes := #[22, 22] }) (v u : Value) (hs : a.eval s = v) (hx : a.eval x = u) (n : Nat) (ys xs : List Int)
    (hown : w.ownsRow base 3 1 v n (ys.map (Value.int .i64))) (hrd : Rd B w u xs) (hbd : n + xs.length ≤ 16777216) (hbase : base ≤ w.heap.size)
    (hK : ∀ v' w', w'.ownsRow base 3 1 v' (n + xs.length) ((ys ++ xs).map (Value.int .i64)) → w.grownBy w' v.ownBlock → wpList Try.prog ops Q rest (a.put o.dst v') w') : wpList Try.prog ops Q (o :: rest) a w := by
  obtain ⟨v', w', hr, ho, hb⟩ := append_rd' w v n ys hown u xs hrd hbd hbase o.type
  exact wpList_append_eq w w' hg s x _ hop v u v' hs hx hr (hK v' w' ho hb)

end Go.Proofs.Ytmobjomebmipdaa

namespace Go.Proofs.Ytmobjomebmipdaa
open Go.RowKit
set_option linter.unusedVariables false


theorem wid_new (w : World) {v0 v1 v2 v3 : Value} {sa da sb db : List Int} (h0 : Rd w.heap.size w v0 sa) (h1 : Rd w.heap.size w v1 da) (h2 : Rd w.heap.size w v2 sb) (h3 : Rd w.heap.size w v3 db) (t0 t1 t2 : TypeId) :
    Wid w sa da sb db v0 v1 v2 v3 (((w.alloc (.cells #[v0, v1] t0)).alloc (.cells #[v2, v3] t1)).alloc (.cells #[.slice none 0 0, .slice none 0 0] t2)) := by
  refine ⟨below3 _ _ _ _, by simp, by simp [go_sem], by simp [go_sem], ?_, ?_, ?_, ?_⟩
  · exact (h0.keep (below3 _ _ _ _)).up (by simp; omega)
  · exact (h1.keep (below3 _ _ _ _)).up (by simp; omega)
  · exact (h2.keep (below3 _ _ _ _)).up (by simp; omega)
  · exact (h3.keep (below3 _ _ _ _)).up (by simp; omega)

end Go.Proofs.Ytmobjomebmipdaa

namespace Go.Proofs.Ytmobjomebmipdaa
open Go.RowKit
set_option linter.unusedVariables false

set_option maxRecDepth 100000 in
/-- spec.l2Made -/
theorem l2Made_any (B : Nat) (a0 a1 : Option Addr) (n d0 d1 : Nat) (zs : List Int) (w : World) (hl : zs.length ≤ 1048576) (h : Rd B w (.slice a0 zs.length d0) zs) (hB : B ≤ w.heap.size) :
    Calls Try.prog 78 #[.slice a0 zs.length d0, .slice a1 n d1] w fun e w' => Below w.heap.size w w' ∧
      ((Pl.fitsB zs = true ∧ e = .returned (.tuple #[.agg #[.slice a0 zs.length d0, .slice a1 n d1], .int .i64 0])) ∨ (Pl.fitsB zs = false ∧ e = .returned (.tuple #[.agg #[.slice none 0 0, .slice none 0 0], .int .i64 6]))) := by
  have A : Hid (∀ o, Below w.heap.size w (w.alloc o)) := fun o => (Below.refl _ _).alloc (Nat.le_refl _) _
  have K : Hid (∀ o, Calls Try.prog 33 #[.slice a0 zs.length d0] (w.alloc o) fun e w' => e = .returned (.bool (Pl.fitsB zs)) ∧ w' = w.alloc o) := fun o => l1Fits_any B _ zs _ hl (h.keep ((A.out o).mono hB))
  clear h
  by_cases hf : Pl.fitsB zs = true
  · rw [hf] at K
    have HF := hideP hf
    clear hf
    go_enter Try.func78, Try.ntmps78
    go_wp2_with (go_at_call 33; refine (K.out _).mono ?_; rintro e w' ⟨rfl, rfl⟩)
    refine bodyPost_ret (v := .tuple #[.agg #[.slice a0 zs.length d0, .slice a1 n d1], .int .i64 0]) (by simp [results, Try.results78, go_sem]) rfl ⟨A.out _, .inl ⟨HF.out, rfl⟩⟩
  · have hf' : Pl.fitsB zs = false := by simpa using hf
    rw [hf'] at K
    have HF := hideP hf'
    clear hf hf'
    go_enter Try.func78, Try.ntmps78
    go_wp2_with (go_at_call 33; refine (K.out _).mono ?_; rintro e w' ⟨rfl, rfl⟩)
    refine bodyPost_ret (v := .tuple #[.agg #[.slice none 0 0, .slice none 0 0], .int .i64 6]) (by simp [results, Try.results78, go_sem]) rfl ⟨A.out _, .inr ⟨HF.out, rfl⟩⟩

end Go.Proofs.Ytmobjomebmipdaa
