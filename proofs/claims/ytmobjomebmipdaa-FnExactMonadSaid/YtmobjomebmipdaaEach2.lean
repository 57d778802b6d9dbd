import Derived.Test.YtmobjomebmipdaaSpec1b
import Derived.Test.YtmobjomebmipdaaSpec1
import Derived.Laws.EntriesVeiled
import Derived.Deep.DeepCutAuto
namespace Go.Proofs.Ytmobjomebmipdaa
open Go.RowKit
set_option linter.unusedVariables false

/-- impl.isScalar -/
theorem isScalar_any (v0 v1 : Value) (sh : List Int) (B : Nat) (w w0 : World) (h0 : Rd B w0 v0 sh) : Calls Try.prog 91 #[.agg #[v0, v1]] w fun e w' => e = .returned (.bool (decide (sh.length = 0))) ∧ Below w.heap.size w w' := by
  obtain ⟨a0, d0, rfl⟩ := h0.form
  clear h0
  generalize sh.length = n at *
  by_cases h : n = 0
  · subst h
    go_enter Try.func91, Try.ntmps91
    go_wp2_with fail
    go_ret
    exact ⟨rfl, (Below.refl _ _).alloc (Nat.le_refl _) _⟩
  · have e : ((n : Int) == 0) = false := by simp; omega
    have d : decide (n = 0) = false := by simp [h]
    rw [d]
    clear d h
    go_enter Try.func91, Try.ntmps91
    go_wp2_with fail
    go_ret
    exact ⟨rfl, (Below.refl _ _).alloc (Nat.le_refl _) _⟩

end Go.Proofs.Ytmobjomebmipdaa

namespace Go.Proofs.Ytmobjomebmipdaa
open Go.RowKit
set_option linter.unusedVariables false

/-- an append whose run is known, in a region that draws -/
theorem step_append_eq {P : Program} {ops : Array Oper} {o : Oper} {a : Act} {w w' : World} {K : Act → World → Prop} {Q : Exit → Act → World → Prop} {E : Prop} (hg : o.guard = none) (s x : Operand) (ts : Array TypeId)
    (hop : o.op = Op.call { callee := Callee.builtin Builtin.append, args := #[s, x], argTypes := ts }) (vs vx v : Value) (hs : a.eval s = vs) (hx : a.eval x = vx) (hrun : (Builtin.append_ ts o.type #[vs, vx]).run P w = .ok v w')
    (hK : K (a.put o.dst v) w') : if Region.wanted o (yielded ops a.tmps) = true then Oper.wp P o a w K Q else E := by
  have hw : Region.wanted o (yielded ops a.tmps) = true := by simp [Region.wanted, hg]
  rw [if_pos hw]
  unfold Oper.wp
  simp [execOp, hop, resolve, invoke, builtin, hs, hx, hrun, Result.andThen]
  exact hK

/-- append(v, u...) in a region that draws -/
theorem step_append_rd {base B : Nat} {ops : Array Oper} {o : Oper} {a : Act} {K : Act → World → Prop} {Q : Exit → Act → World → Prop} {E : Prop} (w : World) (hg : o.guard = none) (s y : Operand)
    (hop : o.op = Op.call { callee := Callee.builtin Builtin.append, args := #[s, y], argTypes := #[22, 22] }) (v u : Value) (hs : a.eval s = v) (hx : a.eval y = u) (n : Nat) (ys xs : List Int)
    (hown : w.ownsRow base 3 1 v n (ys.map (Value.int .i64))) (hrd : Rd B w u xs) (hbd : n + xs.length ≤ 16777216) (hbase : base ≤ w.heap.size)
    (hK : ∀ v' w', w'.ownsRow base 3 1 v' (n + xs.length) ((ys ++ xs).map (Value.int .i64)) → w.grownBy w' v.ownBlock → K (a.put o.dst v') w') : if Region.wanted o (yielded ops a.tmps) = true then Oper.wp Try.prog o a w K Q else E := by
  obtain ⟨v', w', hr, ho, hb⟩ := append_rd' w v n ys hown u xs hrd hbd hbase o.type
  exact step_append_eq hg s y _ hop v _ v' hs hx hr (hK v' w' ho hb)

end Go.Proofs.Ytmobjomebmipdaa

namespace Go.Proofs.Ytmobjomebmipdaa.Pl
theorem ok_len {sh da : List Int} (h : okB sh da = true) : (da.length : Int) = prodC sh ∧ fitsB sh = true := by
  simp only [okB, Bool.and_eq_true, decide_eq_true_eq] at h
  exact ⟨h.1.2, h.1.1⟩
theorem ok_one {sa da : List Int} (h : okB sa da = true) (h0 : sa.length = 0) : da.length = 1 := by
  have := (ok_len h).1
  obtain rfl := List.length_eq_zero_iff.1 h0
  have e : prodC [] = 1 := rfl
  omega
end Go.Proofs.Ytmobjomebmipdaa.Pl

namespace Go.Proofs.Ytmobjomebmipdaa
open Go.RowKit
set_option linter.unusedVariables false

/-- the two arrays in their boxes, the answer's box behind them -/
def Wid (w : World) (sa xs sb ys : List Int) (p0 p1 p2 p3 : Value) (wx : World) : Prop :=
  Below w.heap.size w wx ∧ w.heap.size + 2 < wx.heap.size ∧ (wx.cell? ⟨w.heap.size, 0, none⟩ = some p0 ∧ wx.cell? ⟨w.heap.size, 1, none⟩ = some p1 ∧ wx.cell? ⟨w.heap.size + 1, 0, none⟩ = some p2 ∧ wx.cell? ⟨w.heap.size + 1, 1, none⟩ = some p3) ∧
  (wx.cell? ⟨w.heap.size + 1 + 1, 0, none⟩ = some (.slice none 0 0) ∧ wx.cell? ⟨w.heap.size + 1 + 1, 1, none⟩ = some (.slice none 0 0) ∧ ∀ o, wx.frozen? ⟨w.heap.size + 1 + 1, o, none⟩ = false) ∧
  Rd wx.heap.size wx p0 sa ∧ Rd wx.heap.size wx p1 xs ∧ Rd wx.heap.size wx p2 sb ∧ Rd wx.heap.size wx p3 ys

theorem Wid.keep {w wx w' : World} {sa xs sb ys : List Int} {p0 p1 p2 p3 : Value} (h : Wid w sa xs sb ys p0 p1 p2 p3 wx) (hb : Below wx.heap.size wx w') : Wid w sa xs sb ys p0 p1 p2 p3 w' := by
  obtain ⟨h1, h2, ⟨c0, c1, c2, c3⟩, ⟨r0, r1, f⟩, g0, g1, g2, g3⟩ := h
  have hs := hb.size
  have k : ∀ b o v, b < wx.heap.size → wx.cell? ⟨b, o, none⟩ = some v → w'.cell? ⟨b, o, none⟩ = some v := fun b o v hlt e => (hb.cell (p := ⟨b, o, none⟩) hlt).trans e
  exact ⟨h1.trans (hb.mono (by omega)), by omega, ⟨k _ _ _ (by omega) c0, k _ _ _ (by omega) c1, k _ _ _ (by omega) c2, k _ _ _ (by omega) c3⟩, ⟨k _ _ _ (by omega) r0, k _ _ _ (by omega) r1, fun o => (hb.frozen (p := ⟨w.heap.size + 1 + 1, o, none⟩) (by show _ < _; omega)).trans (f o)⟩, (g0.keep hb).up hs, (g1.keep hb).up hs, (g2.keep hb).up hs, (g3.keep hb).up hs⟩

end Go.Proofs.Ytmobjomebmipdaa
