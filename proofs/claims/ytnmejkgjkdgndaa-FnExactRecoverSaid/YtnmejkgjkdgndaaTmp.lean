import Derived.Test.YtnmejkgjkdgndaaName
import Derived.Laws.Slices
namespace Go.Proofs.Ytnmejkgjkdgndaa
open Go.RowKit
set_option linter.unusedVariables false

namespace Pl
/-- the last four bytes are '.tmp' -/
def endB (s : ByteArray) : Bool := ((s.extract (s.size - 4) s.size).toList == [46, 116, 109, 112])
def tmpB (s : ByteArray) : Bool := decide (4 ≤ s.size) && endB s
/-- what Recover leaves -/
def left (fs : List Fl) : List Fl := fs.filter fun f => !tmpB f.1
end Pl

/-- spec.l7IsTmp -/
theorem l7IsTmp_any (s : ByteArray) (w : World) (hl : s.size ≤ 9223372036854775807) :
    Calls Try.prog 20 #[.string s] w fun e w' => e = .returned (.bool (Pl.tmpB s)) ∧ w' = w := by
  have HE : Hid (Pl.endB s = ((s.extract (s.size - 4) s.size).toList == [46, 116, 109, 112])) := rfl
  by_cases h : (4 : Int) ≤ s.size
  · go_enter Try.func20, Try.ntmps20
    go_wp2
    go_ret
    exact ⟨ret_bool (by unfold Pl.tmpB; rw [decide_eq_true (by omega), Bool.true_and, HE.out]), rfl⟩
  · go_enter Try.func20, Try.ntmps20
    go_wp2
    go_ret
    exact ⟨ret_bool (by unfold Pl.tmpB; rw [decide_eq_false (by omega), Bool.false_and]), rfl⟩

/-- internal/stringslite.HasSuffix at '.tmp' -/
theorem hasSuf_any (s : ByteArray) (w : World) (hl : s.size ≤ 9223372036854775807) :
    Calls Try.prog 32 #[.string s, .string (ByteArray.mk #[46, 116, 109, 112])] w fun e w' => e = .returned (.bool (Pl.tmpB s)) ∧ w' = w := by
  have HE : Hid (Pl.endB s = ((s.extract (s.size - 4) s.size).toList == [46, 116, 109, 112])) := rfl
  generalize hp : ByteArray.mk #[46, 116, 109, 112] = p at *
  have hz : p.size = 4 := by rw [← hp]; rfl
  have HP : Hid (p.toList = [46, 116, 109, 112]) := by show _ = _; rw [← hp, ByteArray.toList_eq]
  clear hp
  by_cases h : (4 : Int) ≤ s.size
  · go_enter Try.func32, Try.ntmps32
    go_wp2
    go_ret
    exact ⟨ret_bool (by unfold Pl.tmpB; rw [decide_eq_true (by omega), Bool.true_and, HE.out, HP.out]), rfl⟩
  · go_enter Try.func32, Try.ntmps32
    go_wp2
    go_ret
    exact ⟨ret_bool (by unfold Pl.tmpB; rw [decide_eq_false (by omega), Bool.false_and]), rfl⟩

/-- strings.HasSuffix at '.tmp' -/
theorem hasSuffix_any (s : ByteArray) (w : World) (hl : s.size ≤ 9223372036854775807) :
    Calls Try.prog 22 #[.string s, .string (ByteArray.mk #[46, 116, 109, 112])] w fun e w' => e = .returned (.bool (Pl.tmpB s)) ∧ w' = w := by
  have K := hideP (fun w => hasSuf_any s w hl)
  generalize hp : ByteArray.mk #[46, 116, 109, 112] = p at *
  clear hp
  go_enter Try.func22, Try.ntmps22
  go_wp2_with (go_at_call 32; refine (K.out _).mono ?_; rintro e w' ⟨rfl, rfl⟩)
  go_ret
  exact ⟨rfl, rfl⟩

end Go.Proofs.Ytnmejkgjkdgndaa
