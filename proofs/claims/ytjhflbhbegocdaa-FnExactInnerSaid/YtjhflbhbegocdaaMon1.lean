import Derived.Test.YtjhflbhbegocdaaCopied
import Derived.Test.YtjhflbhbegocdaaFirst2
namespace Go.Proofs.Ytjhflbhbegocdaa
open Go.RowKit
set_option linter.unusedVariables false

theorem own_lit (w w' : World) (x : Int) (hb : Below (w.heap.size + 1) (w.alloc (.cells #[.int .i64 x] 3)) w') : Own w.heap.size w' (.slice (some ⟨w.heap.size, 0, none⟩) 1 1) [x] := by
  have o : Own w.heap.size (w.alloc (.cells #[.int .i64 x] 3)) (.slice (some ⟨w.heap.size, 0, none⟩) 1 1) [x] := own_of_any (owns_one w x w.heap.size (Nat.le_refl _))
  exact o.keep (by have e : (w.alloc (.cells #[.int .i64 x] 3)).heap.size = w.heap.size + 1 := by simp
                   rw [e]; exact hb)

set_option maxRecDepth 100000 in
/-- impl.vector -/
theorem vector_any (ao : Option Addr) (cap n : Nat) (w : World) :
    Calls Try.prog 49 #[.slice ao n cap] w fun e w' => ∃ g, e = .returned (.agg #[.slice (some ⟨g, 0, none⟩) 1 1, .slice ao n cap]) ∧ Own w.heap.size w' (.slice (some ⟨g, 0, none⟩) 1 1) [(n : Int)] ∧ Below w.heap.size w w' := by
  have B : Hid (∀ o o', Below w.heap.size w ((w.alloc o).alloc o')) := fun o o' => ((Below.refl _ _).alloc (Nat.le_refl _) _).alloc (by simp) _
  have O : Hid (∀ o, Own (w.heap.size + 1) ((w.alloc o).alloc (.cells #[.int .i64 (n : Int)] 3)) (.slice (some ⟨w.heap.size + 1, 0, none⟩) 1 1) [(n : Int)]) := fun o => by
    have := own_lit (w.alloc o) ((w.alloc o).alloc (.cells #[.int .i64 (n : Int)] 3)) (n : Int) (Below.refl _ _)
    have e : (w.alloc o).heap.size = w.heap.size + 1 := by simp
    rw [e] at this
    exact this
  go_enter Try.func49, Try.ntmps49
  go_wp2_with fail
  refine bodyPost_ret (v := .agg #[.slice (some ⟨w.heap.size + 1, 0, none⟩) 1 1, .slice ao n cap]) (by simp [results, Try.results49, go_sem]) rfl ⟨w.heap.size + 1, rfl, ?_, ?_⟩
  · exact (O.out _).base (by omega)
  · exact B.out _ _

theorem apart_lo2 {B : Nat} {w : World} {u0 u1 : Value} {sh da : List Int} (h : Own B w u0 sh) (h1 : da.length = 0 ∨ ∀ b, u1.ownBlock = some b → b < B) : Apart u0 u1 sh da := by
  rcases h1 with h1 | h1
  · exact .inr (.inl h1)
  · exact apart_left h h1

end Go.Proofs.Ytjhflbhbegocdaa
