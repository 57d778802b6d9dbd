import Derived.Test.YtjhflbhbegocdaaPlI
import Derived.Test.YtjhflbhbegocdaaEachF
import Derived.Test.YtjhflbhbegocdaaFirst2
import Derived.Test.YtjhflbhbegocdaaVec
import Derived.Test.YtjhflbhbegocdaaLies
namespace Go.Proofs.Ytjhflbhbegocdaa
open Go.RowKit
set_option linter.unusedVariables false

namespace Pl
/-- what comes of one cell -/
theorem cell_cases (F G : Int → Int → Int × Int) (nv : Int) (nb : Bool) {da db : List Int} {n H T i k : Nat} (hn : n ≤ 1000) (hla : da.length = H * n) (hlb : db.length = n * T) (hi : i < H) (hk : k < T)
    (hGb : ∀ x y, -3000000000 ≤ x → x ≤ 3000000000 → -3000000000 ≤ y → y ≤ 3000000000 → (G x y).2 = 0 → -3000000000 ≤ (G x y).1 ∧ (G x y).1 ≤ 3000000000)
    (ha : ∀ x ∈ da, -3000000000 ≤ x ∧ x ≤ 3000000000) (hb : ∀ x ∈ db, -3000000000 ≤ x ∧ x ≤ 3000000000) :
    okB [(n : Int)] (rowAt da n i) = true ∧ okB [(n : Int)] (innV db n T k) = true ∧
    ((∃ D1 v, each2M G [(n : Int)] (rowAt da n i) [(n : Int)] (innV db n T k) = (0, [(n : Int)], D1) ∧ okB [(n : Int)] D1 = true ∧ reduceM F nv nb [(n : Int)] D1 = (0, [], [v]) ∧ innQ F nv nb G n T da db (i * T + k) = (v, 0)) ∨
     (∃ D1 c2, each2M G [(n : Int)] (rowAt da n i) [(n : Int)] (innV db n T k) = (0, [(n : Int)], D1) ∧ okB [(n : Int)] D1 = true ∧ ¬ c2 = 0 ∧ reduceM F nv nb [(n : Int)] D1 = (c2, [], []) ∧ (innQ F nv nb G n T da db (i * T + k)).2 = c2) ∨
     (∃ c1, ¬ c1 = 0 ∧ each2M G [(n : Int)] (rowAt da n i) [(n : Int)] (innV db n T k) = (c1, [], []) ∧ (innQ F nv nb G n T da db (i * T + k)).2 = c1)) := by
  have hr : (i + 1) * n ≤ da.length := by rw [hla]; exact Nat.mul_le_mul_right n hi
  have o1 : okB [(n : Int)] (rowAt da n i) = true := ok_vec hn (rowAt_len hr) (fun x hx => ha x (rowAt_mem hx))
  have o2 : okB [(n : Int)] (innV db n T k) = true := ok_vec hn (innV_len db n T k) (fun x hx => hb x (innV_mem hlb hk hx))
  refine ⟨o1, o2, ?_⟩
  have eq : innQ F nv nb G n T da db (i * T + k) = innC F nv nb G n (rowAt da n i) (innV db n T k) := by
    unfold innQ
    rw [show (i * T + k) / T = i by rw [Nat.mul_comm, Nat.mul_add_div (by omega), Nat.div_eq_of_lt hk, Nat.add_zero], show (i * T + k) % T = k by rw [Nat.mul_comm, Nat.mul_add_mod, Nat.mod_eq_of_lt hk]]
  rw [eq, each2_rows G o1 o2]
  unfold innC
  by_cases h0 : firstG (pairF G) ((rowAt da n i).zip (innV db n T k)) = 0
  · rw [if_pos h0, if_pos h0]
    have o3 := ok_map G hGb o1 o2 h0
    have hl : (((rowAt da n i).zip (innV db n T k)).map (fun p => (pairF G p).1)).length = n := by
      simp [rowAt_len hr, innV_len]
    rcases reduce_vec F nv nb n _ hl with ⟨v, hv⟩ | ⟨c2, hc, hv⟩
    · exact .inl ⟨_, v, rfl, o3, hv, by rw [hv]; rfl⟩
    · exact .inr (.inl ⟨_, c2, rfl, o3, hc, hv, by rw [hv]⟩)
  · rw [if_neg h0, if_neg h0]
    exact .inr (.inr ⟨_, h0, rfl, rfl⟩)
end Pl

/-- s[1:] of m + 1 -/
theorem exec_lo1 {o : Oper} {a : Act} (x y : Operand) (g m o2 : Nat) (h : o2 = if m = 0 then 0 else 1) (ho : o.op = Op.slice 22 x (some y) none none) (hx : a.eval x = .slice (some ⟨g, 0, none⟩) (m + 1) (m + 1)) (hy : a.eval y = .int .i64 1) (w : World) :
    (execOp a.eval o).run Try.prog w = .ok (.value (.slice (some ⟨g, o2, none⟩) m m)) w := by
  have e : (Instr.sliceAt 22 (.slice (some ⟨g, 0, none⟩) (m + 1) (m + 1)) (some (.int .i64 ((1 : Nat) : Int))) none none).run Try.prog w = .ok (.slice (some ⟨g, o2, none⟩) m m) w := by
    rw [run_sliceAt_slice _ _ _ _ _ _ und22, run_slice_l _ _ _ _ _ und22 _ _ (by omega) (by omega), sizeOf3]
    subst h
    by_cases hm : m = 0
    · subst hm
      simp [Result.andThen, sliced]
    · have hne : ¬ m + 1 = 1 := by omega
      simp [Result.andThen, sliced, Addr.add, hm]
  have e' : (Instr.sliceAt 22 (.slice (some ⟨g, 0, none⟩) (m + 1) (m + 1)) (some (.int .i64 1)) none none).run Try.prog w = .ok (.slice (some ⟨g, o2, none⟩) m m) w := e
  simp [execOp, ho, hx, hy, e', Result.andThen]

/-- all blocks but two are as they were -/
def Keep (w0 : World) (P : Nat) (row : Option Nat) (w : World) : Prop := w0.heap.size ≤ w.heap.size ∧ ∀ b, b < w0.heap.size → ¬ b = P → ¬ row = some b → w.heap[b]? = w0.heap[b]?

theorem Keep.refl (w0 : World) (P : Nat) (row : Option Nat) : Keep w0 P row w0 := ⟨Nat.le_refl _, fun _ _ _ _ => rfl⟩
theorem Keep.alloc {w0 w : World} {P : Nat} {row : Option Nat} (h : Keep w0 P row w) (o : Obj) : Keep w0 P row (w.alloc o) := by
  refine ⟨by have := h.1; simp; omega, fun b hb h1 h2 => ?_⟩
  rw [← h.2 b hb h1 h2]
  exact heap_alloc_old w o (by have := h.1; omega)
theorem Keep.grown {w0 w w' : World} {P : Nat} {row : Option Nat} (h : Keep w0 P row w) (hg : w.grownBy w' row) : Keep w0 P row w' := by
  refine ⟨Nat.le_trans h.1 hg.size, fun b hb h1 h2 => ?_⟩
  rw [← h.2 b hb h1 h2]
  exact hg.block b (by have := h.1; omega) (fun e => h2 e.symm)
theorem Keep.set {w0 w : World} {P o : Nat} {row : Option Nat} (h : Keep w0 P row w) (v : Value) : Keep w0 P row (w.setCell ⟨P, o, none⟩ v) := by
  refine ⟨by simpa using h.1, fun b hb h1 h2 => ?_⟩
  rw [← h.2 b hb h1 h2]
  exact heap_setCell_other _ _ _ _ h1
theorem Keep.cell {w0 w : World} {P b o : Nat} {row : Option Nat} {v : Value} (h : Keep w0 P row w) (h1 : ¬ b = P) (h2 : ¬ row = some b) (hc : w0.cell? ⟨b, o, none⟩ = some v) : w.cell? ⟨b, o, none⟩ = some v := by
  have hb := World.block_lt_of_cell? w0 _ hc
  have := h.2 b hb h1 h2
  rw [← hc]
  exact World.cell?_of_block this

end Go.Proofs.Ytjhflbhbegocdaa
