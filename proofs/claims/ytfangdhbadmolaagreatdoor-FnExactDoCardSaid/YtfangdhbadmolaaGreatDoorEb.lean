import Derived.Test.YtfangdhbadmolaaGreatDoorEa
namespace Go.Proofs.YtfangdhbadmolaaGreatDoor
open Go.RowKit Go.Extern.Stop Go.Stop Go.Extern
set_option linter.unusedVariables false

theorem load51 (b : Nat) (x y : Value) (W : World) (hb0 : W.cell? ⟨b, 0, none⟩ = some x) (hb1 : W.cell? ⟨b, 1, none⟩ = some y) : (loadVar 51 ⟨b, 0, none⟩).run Tryz.prog W = .ok (.agg #[x, y]) W := by
  simp [loadVar, Tryz.isAgg51, Tryz.sizeOf51, loadCells, Addr.add, hb0, hb1, Result.andThen, go_sem]
theorem store51 (ta : Nat) (c d : Int) (u v : Value) (W : World) (h0 : W.cell? ⟨ta, 0, none⟩ = some u) (h1 : W.cell? ⟨ta, 1, none⟩ = some v) (f0 : W.frozen? ⟨ta, 0, none⟩ = false) (f1 : W.frozen? ⟨ta, 1, none⟩ = false) :
    (storeVar 51 ⟨ta, 0, none⟩ (.agg #[.int .i64 c, .int .i64 d])).run Tryz.prog W = .ok () ((W.setCell ⟨ta, 0, none⟩ (.int .i64 c)).setCell ⟨ta, 1, none⟩ (.int .i64 d)) := by
  simp [storeVar, Value.cells, storeCells, Addr.add, Result.andThen, go_sem, h0, h1, f0, f1]

/-- a refusal is put into the variable at ta -/
theorem set51 (ta b : Nat) (c d : Int) (u v : Value) (W : World) (hb0 : W.cell? ⟨b, 0, none⟩ = some (.int .i64 c)) (hb1 : W.cell? ⟨b, 1, none⟩ = some (.int .i64 d)) (h0 : W.cell? ⟨ta, 0, none⟩ = some u) (h1 : W.cell? ⟨ta, 1, none⟩ = some v) (f0 : W.frozen? ⟨ta, 0, none⟩ = false) (f1 : W.frozen? ⟨ta, 1, none⟩ = false) :
    (ReflectliteValue.set #[.agg #[.pointer (some ⟨1, 51, none⟩), .pointer (some ⟨ta, 0, none⟩), .int .u64 409], .agg #[.pointer (some ⟨1, 51, none⟩), .pointer (some ⟨b, 0, none⟩), .int .u64 153]]).run Tryz.prog W
      = .ok (.tuple #[]) ((W.setCell ⟨ta, 0, none⟩ (.int .i64 c)).setCell ⟨ta, 1, none⟩ (.int .i64 d)) := by
  refine Eq.trans (congrArg (fun m => Sem.run Tryz.prog m W) (show ReflectliteValue.set #[.agg #[.pointer (some ⟨1, 51, none⟩), .pointer (some ⟨ta, 0, none⟩), .int .u64 409], .agg #[.pointer (some ⟨1, 51, none⟩), .pointer (some ⟨b, 0, none⟩), .int .u64 153]] = (ReflectliteValue.parts (.agg #[.pointer (some ⟨1, 51, none⟩), .pointer (some ⟨ta, 0, none⟩), .int .u64 409]) >>= fun r => ReflectliteValue.parts (.agg #[.pointer (some ⟨1, 51, none⟩), .pointer (some ⟨b, 0, none⟩), .int .u64 153]) >>= fun s => _) from rfl)) ?_
  simp only [Sem.run_bind, parts51a, parts51, Result.andThen]
  have hfl : (409 / ReflectliteValue.flagAddr % 2 == 0) = false := by decide
  simp only [hfl, Bool.false_eq_true, if_false, Sem.run_bind, load51 b _ _ W hb0 hb1, direct51, Result.andThen, if_true, store51 ta c d u v W h0 h1 f0 f1]
  rfl

end Go.Proofs.YtfangdhbadmolaaGreatDoor
