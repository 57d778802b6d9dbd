import Derived.Test.YthhfpcdbgndioaaGreatDoorPlc
namespace Go.Proofs.YthhfpcdbgndioaaGreatDoor
set_option linter.unusedVariables false
set_option maxRecDepth 100000
namespace Pl
/-- a sign, or a word with a meaning -/
def sgT (l : List UInt8) : T :=
  if l = [40] then .lp else if l = [41] then .rp else if l = [123] then .lb else if l = [125] then .rb else if l = [58] then .col else if l = [58, 61] then .asg else if l = [47] then .sl else if l = [92] then .bs else if l = [64] then .amp else if l = [46] then .dot
  else match rowOf l with
    | some m => .op m
    | none => .sep
/-- a token of spec's that is not bad -/
def tkT (t : Tok) : T :=
  if t.k = 110 then .num t.v else if t.k = 119 then .arr t.tx.data.toList else if t.k = 70 then .fn t.tx.data.toList else if t.k = 59 then .sep else sgT t.tx.data.toList
/-- the ten signs have no meaning of their own -/
theorem sg_row {l : List UInt8} (h : l = [40] ∨ l = [41] ∨ l = [123] ∨ l = [125] ∨ l = [58] ∨ l = [58, 61] ∨ l = [47] ∨ l = [92] ∨ l = [64] ∨ l = [46]) : rowOf l = none := by
  rcases h with rfl | rfl | rfl | rfl | rfl | rfl | rfl | rfl | rfl | rfl <;> decide
theorem sgT_en (l : List UInt8) : enT [sgT l] = match rowOf l with | some m => en m | none => 0 := by
  unfold sgT
  by_cases h : l = [40] ∨ l = [41] ∨ l = [123] ∨ l = [125] ∨ l = [58] ∨ l = [58, 61] ∨ l = [47] ∨ l = [92] ∨ l = [64] ∨ l = [46]
  · rw [sg_row h]
    rcases h with rfl | rfl | rfl | rfl | rfl | rfl | rfl | rfl | rfl | rfl <;> rfl
  · simp only [not_or] at h
    obtain ⟨h0, h1, h2, h3, h4, h5, h6, h7, h8, h9⟩ := h
    rw [if_neg h0, if_neg h1, if_neg h2, if_neg h3, if_neg h4, if_neg h5, if_neg h6, if_neg h7, if_neg h8, if_neg h9]
    cases rowOf l <;> rfl
/-- a kind that is not bad -/
def kOk (k : Int) : Prop := k = 110 ∨ k = 119 ∨ k = 70 ∨ k = 59 ∨ k = 115
end Pl
namespace Pl
/-- the text of a sign -/
def sgTx : T → List UInt8
  | .lp => [40] | .rp => [41] | .lb => [123] | .rb => [125] | .col => [58] | .asg => [58, 61] | .sl => [47] | .bs => [92] | .amp => [64] | .dot => [46]
  | _ => []
def ten : List (List UInt8) := [[40], [41], [123], [125], [58], [58, 61], [47], [92], [64], [46]]
theorem sgT_tx (l : List UInt8) : sgTx (sgT l) = if l ∈ ten then l else [] := by
  by_cases h : l ∈ ten
  · rw [if_pos h]
    simp only [ten, List.mem_cons, List.not_mem_nil, or_false] at h
    rcases h with rfl | rfl | rfl | rfl | rfl | rfl | rfl | rfl | rfl | rfl <;> rfl
  · rw [if_neg h]
    simp only [ten, List.mem_cons, List.not_mem_nil, or_false, not_or] at h
    obtain ⟨h0, h1, h2, h3, h4, h5, h6, h7, h8, h9⟩ := h
    unfold sgT
    rw [if_neg h0, if_neg h1, if_neg h2, if_neg h3, if_neg h4, if_neg h5, if_neg h6, if_neg h7, if_neg h8, if_neg h9]
    cases rowOf l <;> rfl
end Pl
open Go.RowKit
namespace Pl
/-- impl.operationNumber -/
def opn (l : List UInt8) : Int := match rowOf l with | some m => en m | none => 0
end Pl
theorem field114 (a b c d : Int) (w : World) : (Instr.field 140 (.agg #[.int .i64 a, .int .i64 b, .int .i64 0, .string ⟨#[]⟩, .int .i64 c, .int .i64 d, .int .i64 0, .string ⟨#[]⟩]) 1).run Tryz.prog w = .ok (.agg #[.int .i64 c, .int .i64 d, .int .i64 0, .string ⟨#[]⟩]) w := by kernel_rfl
set_option maxHeartbeats 4000000 in
/-- impl.operationNumber -/
theorem operationNumber_any (s : ByteArray) (mb mo cp : Nat) (w : World) (hm : Mt w mb mo cp) :
    Calls Tryz.prog 106 #[.string s] w fun e w' => e = .returned (.int .i64 (Pl.opn s.data.toList)) ∧ Below w.heap.size w w' := by
  have K := hideP (usesOf_any s mb mo cp w hm)
  unfold Pl.opn
  cases h : Pl.rowOf s.data.toList with
  | none =>
    rw [usV_none h] at K
    have hfd := field114 0 0 0 0
    simp only
    clear h hm
    go_enter Tryz.func106, Tryz.ntmps106
    go_wp2_with (go_at_call 91; refine K.out.mono ?_; rintro e w2 ⟨rfl, hb2⟩)
    go_ret
    exact ⟨rfl, hb2.alloc (hb2.size) _⟩
  | some m =>
    rw [usV_some h] at K
    simp only
    have HE : Hid (Pl.en m = if m.tk = 5 then m.tw else 0) := rfl
    generalize Pl.en m = R at *
    clear h hm
    by_cases h5 : m.tk = 5
    · have HR := hideP (show R = m.tw by rw [HE.out, if_pos h5])
      rw [h5] at K
      have hfd := field114 m.ok m.ow 5 m.tw
      clear HE
      go_enter Tryz.func106, Tryz.ntmps106
      go_wp2_with (go_at_call 91; refine K.out.mono ?_; rintro e w2 ⟨rfl, hb2⟩)
      go_ret
      exact ⟨by rw [HR.out]; rfl, hb2.alloc (hb2.size) _⟩
    · have HR := hideP (show R = 0 by rw [HE.out, if_neg h5])
      have h5' : (m.tk == 5) = false := by simpa using h5
      have hfd := field114 m.ok m.ow m.tk m.tw
      clear HE
      go_enter Tryz.func106, Tryz.ntmps106
      go_wp2_with (go_at_call 91; refine K.out.mono ?_; rintro e w2 ⟨rfl, hb2⟩)
      go_ret
      exact ⟨by rw [HR.out]; rfl, hb2.alloc (hb2.size) _⟩
end Go.Proofs.YthhfpcdbgndioaaGreatDoor
