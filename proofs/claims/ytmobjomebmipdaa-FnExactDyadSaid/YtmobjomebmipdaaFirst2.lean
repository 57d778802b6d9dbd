import Derived.Test.YtmobjomebmipdaaTwoR
import Derived.Test.YtmobjomebmipdaaPlain6
import Derived.Laws.Bits64b
import Derived.Laws.CopyOwn
namespace Go.Proofs.Ytmobjomebmipdaa
open Go.RowKit
set_option linter.unusedVariables false

/-- a row that is not nil -/
theorem owns_some {base n : Nat} {w : World} {v : Value} {xs : List Value} (h : w.ownsRow base 3 1 v n xs) (hb : ∃ k, v.ownBlock = some k) : ∃ g cap, v = .slice (some ⟨g, 0, none⟩) n cap ∧ n ≤ cap ∧ cap ≤ 9223372036854775807 := by
  rcases h.2 with ⟨rfl, _⟩ | ⟨g, cap, cur, rfl, _, _, h1, h2, _⟩
  · obtain ⟨k, hk⟩ := hb
    simp [Value.ownBlock] at hk
  · refine ⟨g, cap, rfl, h1, ?_⟩
    unfold maxLen at h2
    omega

/-- append(v, u...), and where the row lies -/
theorem wpList_append_rd_at {base B : Nat} (w : World) {ops : Array Oper} {rest : List Oper} {o : Oper} {a : Act} {Q : Exit → Act → World → Prop} (hg : o.guard = none) (s x : Operand)
    (hop : o.op = Op.call { callee := Callee.builtin Builtin.append, args := #[s, x], argTypes := #[22, 22] }) (v u : Value) (hs : a.eval s = v) (hx : a.eval x = u) (n : Nat) (ys xs : List Int)
    (hown : w.ownsRow base 3 1 v n (ys.map (Value.int .i64))) (hrd : Rd B w u xs) (hbd : n + xs.length ≤ 16777216) (hbase : base ≤ w.heap.size)
    (hK : ∀ v' w', w'.ownsRow base 3 1 v' (n + xs.length) ((ys ++ xs).map (Value.int .i64)) → w.grownBy w' v.ownBlock → (v'.ownBlock = v.ownBlock ∨ v'.ownBlock = some w.heap.size) → wpList Try.prog ops Q rest (a.put o.dst v') w') : wpList Try.prog ops Q (o :: rest) a w := by
  obtain ⟨v', w', hr, ho, hb, hat⟩ := append_rd_at w v n ys hown u xs hrd hbd hbase o.type
  exact wpList_append_eq w w' hg s x _ hop v u v' hs hx hr (hK v' w' ho hb hat)

/-- spec.l2Copy: its answer is not nil -/
theorem l2Copy_at (u : Value) (xs : List Int) (w : World) (hl : xs.length ≤ 1048576) (h0 : Rd w.heap.size w u xs) :
    Calls Try.prog 40 #[u] w fun e w' => ∃ g cap, e = .returned (.slice (some ⟨g, 0, none⟩) xs.length cap) ∧ xs.length ≤ cap ∧ cap ≤ 9223372036854775807 ∧ w'.ownsRow w.heap.size 3 1 (.slice (some ⟨g, 0, none⟩) xs.length cap) xs.length (xs.map (Value.int .i64)) ∧ Below w.heap.size w w' := by
  have H := hideP h0
  obtain ⟨a0, d0, e0⟩ := h0.form
  subst e0
  clear h0
  go_enter Try.func40, Try.ntmps40
  have A : Hid (Below w.heap.size w (w.alloc (.cells #[] 3))) := (Below.refl _ _).alloc (Nat.le_refl _) _
  have RD := hideP (H.out.keep A.out)
  have OE := hideP (owns_empty w w.heap.size (Nat.le_refl _))
  go_wp2_with (at_builtin; refine wpList_append_rd_at _ rfl _ _ rfl _ _ rfl rfl 0 [] xs OE.out RD.out (by omega) (by simp) ?_)
  intro v' w' ho hg hat
  have HO : Hid (w'.ownsRow w.heap.size 3 1 v' xs.length (xs.map (Value.int .i64))) := by
    first | exact ho | (have := ho; rw [Nat.zero_add, List.nil_append] at this; exact this)
  obtain ⟨g, cap, ev, h1, h2⟩ := owns_some HO.out (by
    rcases hat with hat | hat
    · exact ⟨w.heap.size, hat⟩
    · exact ⟨_, hat⟩)
  subst ev
  have HB : Hid (Below w.heap.size w w') := A.out.grown hg (by simp) (fun k hk => by simp [Value.ownBlock] at hk; omega)
  clear ho hg hat
  go_wp2_with fail
  go_ret
  exact ⟨_, _, rfl, h1, h2, HO.out, HB.out⟩

end Go.Proofs.Ytmobjomebmipdaa

namespace Go.Proofs.Ytmobjomebmipdaa
open Go.RowKit
set_option linter.unusedVariables false

theorem mask_small (a : Nat) (h : a ≤ 1000) : bits .and .u64 (a : Int) 4294967295 = (a : Int) := by
  have h1 := bits_and_u64_nat a 4294967295 (by omega) (by omega)
  have e : a &&& 4294967295 = a % 4294967296 := Nat.and_two_pow_sub_one_eq_mod a 32
  rw [e] at h1
  rw [show ((4294967295 : Nat) : Int) = 4294967295 from rfl] at h1
  rw [h1]
  omega

set_option maxRecDepth 100000 in
/-- bits.Mul64 of 1 -/
theorem mul64_one (cp : Nat) (w : World) (h : cp ≤ 1000) : Calls Try.prog 155 #[.int .u64 1, .int .u64 (cp : Int)] w fun e w' => e = .returned (.tuple #[.int .u64 0, .int .u64 (cp : Int)]) ∧ w' = w := by
  have e1 : bits .and .u64 1 4294967295 = 1 := mask_small 1 (by omega)
  have e0 : bits .and .u64 0 4294967295 = 0 := mask_small 0 (by omega)
  have e2 := mask_small cp h
  have d0 : (cp : Int) / 4294967296 = 0 := by omega
  have wc : IntKind.u64.wrap (cp : Int) = (cp : Int) := by rw [IntKind.wrap_u64]; omega
  have w0 : IntKind.u64.wrap 0 = 0 := by rw [IntKind.wrap_u64]; omega
  go_enter Try.func155, Try.ntmps155
  go_wp2
  go_ret2
  exact ⟨rfl, rfl⟩

set_option maxRecDepth 100000 in
/-- bits.Mul of 1 -/
theorem mul_one (cp : Nat) (w : World) (h : cp ≤ 1000) : Calls Try.prog 150 #[.int .u64 1, .int .u64 (cp : Int)] w fun e w' => e = .returned (.tuple #[.int .u64 0, .int .u64 (cp : Int)]) ∧ w' = w := by
  have K := hideP (mul64_one cp w h)
  go_enter Try.func150, Try.ntmps150
  go_wp2_with (go_at_call 155; refine K.out.mono ?_; rintro e w' ⟨rfl, rfl⟩)
  go_ret2
  exact ⟨rfl, rfl⟩

end Go.Proofs.Ytmobjomebmipdaa

namespace Go.Proofs.Ytmobjomebmipdaa
open Go.RowKit
set_option linter.unusedVariables false

theorem sizeOf3 (w : World) : (sizeOf (Try.prog.elem 22)).run Try.prog w = .ok 1 w := by
  obtain ⟨i0, hi, hz0, hz1, hz2⟩ := info_parts Try.info3
  have e : Try.prog.elem 22 = 3 := by kernel_rfl
  rw [e]
  simp [sizeOf, typeInfo, hi, hz1]
theorem und22 : Try.prog.underlying 22 = some (.slice (Try.prog.elem 22)) := by
  have e : Try.prog.elem 22 = 3 := by kernel_rfl
  rw [e]
  exact Try.underlying22
end Go.Proofs.Ytmobjomebmipdaa

namespace Go.Proofs.Ytmobjomebmipdaa
open Go.RowKit
set_option linter.unusedVariables false

theorem owns_one (w : World) (x : Int) (base : Nat) (hb : base ≤ w.heap.size) : (w.alloc (.cells #[.int .i64 x] 3)).ownsRow base 3 1 (.slice (some ⟨w.heap.size, 0, none⟩) 1 1) 1 (([x] : List Int).map (Value.int .i64)) :=
  World.ownsRow_lit w #[.int .i64 x] 1 hb (by unfold maxLen; omega) rfl

end Go.Proofs.Ytmobjomebmipdaa
