import Derived.Test.YtjhflbhbegocdaaRed2
import Derived.Test.YtjhflbhbegocdaaPlain7
namespace Go.Proofs.Ytjhflbhbegocdaa
open Go.RowKit
set_option linter.unusedVariables false

/-- a row that is not nil -/
theorem owns_some {base n : Nat} {w : World} {v : Value} {xs : List Value} (h : w.ownsRow base 3 1 v n xs) (hb : ∃ k, v.ownBlock = some k) : ∃ g cap, v = .slice (some ⟨g, 0, none⟩) n cap ∧ n ≤ cap ∧ cap ≤ 9223372036854775807 := by
  rcases h.2 with ⟨rfl, _⟩ | ⟨g, cap, cur, rfl, _, _, h1, h2, _⟩
  · obtain ⟨k, hk⟩ := hb
    simp [Value.ownBlock] at hk
  · refine ⟨g, cap, rfl, h1, ?_⟩
    unfold maxLen at h2
    omega

/-- append(v, u...), and where the row lies -/
theorem wpList_append_rd_at {base B : Nat} (w : World) {ops : Array Oper} {rest : List Oper} {o : Oper} {a : Act} {Q : Exit → Act → World → Prop} (hg : o.guard = none) (s x : Operand)
    (hop : o.op = Op.call { callee := Callee.builtin Builtin.append, args := #[s, x], argTypes := #[22, 22] }) (v u : Value) (hs : a.eval s = v) (hx : a.eval x = u) (n : Nat) (ys xs : List Int)
    (hown : w.ownsRow base 3 1 v n (ys.map (Value.int .i64))) (hrd : Rd B w u xs) (hbd : n + xs.length ≤ 16777216) (hbase : base ≤ w.heap.size)
    (hK : ∀ v' w', w'.ownsRow base 3 1 v' (n + xs.length) ((ys ++ xs).map (Value.int .i64)) → w.grownBy w' v.ownBlock → (v'.ownBlock = v.ownBlock ∨ v'.ownBlock = some w.heap.size) → wpList Try.prog ops Q rest (a.put o.dst v') w') : wpList Try.prog ops Q (o :: rest) a w := by
  obtain ⟨v', w', hr, ho, hb, hat⟩ := append_rd_at w v n ys hown u xs hrd hbd hbase o.type
  exact wpList_append_eq w w' hg s x _ hop v u v' hs hx hr (hK v' w' ho hb hat)

/-- spec.l2Copy: its answer is not nil -/
theorem l2Copy_at (u : Value) (xs : List Int) (w : World) (hl : xs.length ≤ 1048576) (h0 : Rd w.heap.size w u xs) :
    Calls Try.prog 19 #[u] w fun e w' => ∃ g cap, e = .returned (.slice (some ⟨g, 0, none⟩) xs.length cap) ∧ xs.length ≤ cap ∧ cap ≤ 9223372036854775807 ∧ w'.ownsRow w.heap.size 3 1 (.slice (some ⟨g, 0, none⟩) xs.length cap) xs.length (xs.map (Value.int .i64)) ∧ Below w.heap.size w w' := by
  have H := hideP h0
  obtain ⟨a0, d0, e0⟩ := h0.form
  subst e0
  clear h0
  go_enter Try.func19, Try.ntmps19
  have A : Hid (Below w.heap.size w (w.alloc (.cells #[] 3))) := (Below.refl _ _).alloc (Nat.le_refl _) _
  have RD := hideP (H.out.keep A.out)
  have OE := hideP (owns_empty w w.heap.size (Nat.le_refl _))
  go_wp2_with (at_builtin; refine wpList_append_rd_at _ rfl _ _ rfl _ _ rfl rfl 0 [] xs OE.out RD.out (by omega) (by simp) ?_)
  intro v' w' ho hg hat
  have HO : Hid (w'.ownsRow w.heap.size 3 1 v' xs.length (xs.map (Value.int .i64))) := by
    first | exact ho | (have := ho; rw [Nat.zero_add, List.nil_append] at this; exact this)
  obtain ⟨g, cap, ev, h1, h2⟩ := owns_some HO.out (by
    rcases hat with hat | hat
    · exact ⟨w.heap.size, hat⟩
    · exact ⟨_, hat⟩)
  subst ev
  have HB : Hid (Below w.heap.size w w') := A.out.grown hg (by simp) (fun k hk => by simp [Value.ownBlock] at hk; omega)
  clear ho hg hat
  go_wp2_with fail
  go_ret
  exact ⟨_, _, rfl, h1, h2, HO.out, HB.out⟩

namespace Pl
theorem fits_first {sh : List Int} (hf : fitsB sh = true) (h0 : ¬ sh.length = 0) {n s i : Nat} (hn : sh.getD 0 0 = n) (hs : prodC sh.tail = s) (hft : fitsB sh.tail = true) (hi : i ≤ n) : fitsB ((i : Int) :: sh.tail) = true ∧ prodC ((i : Int) :: sh.tail) = (i * s : Nat) := by
  cases sh with
  | nil => simp at h0
  | cons x tl =>
    simp only [List.tail_cons] at *
    have hx : x = n := hn
    subst hx
    have hb : baseB ((n : Int) :: tl) = true := by simp only [fitsB, Bool.and_eq_true] at hf; exact hf.1
    have hp := prod_eq hf
    have hp2 : prodP ((n : Int) :: tl) ≤ 1000 := by
      rw [fits_eq, hb] at hf
      simpa using hf
    rw [prodP_cons] at hp2
    have ep : prodP tl = s := by rw [← prod_eq hft]; exact hs
    rw [ep] at hp2
    have hb' : baseB ((i : Int) :: tl) = true := by
      simp only [baseB, Bool.and_eq_true, decide_eq_true_eq, List.all_cons, List.length_cons] at hb ⊢
      refine ⟨hb.1, ?_, hb.2.2⟩
      have := inR_bd hb.2.1
      simp only [inR, decide_eq_true_eq]
      omega
    have hle : (i : Int) * (s : Int) ≤ (n : Int) * (s : Int) := Int.mul_le_mul_of_nonneg_right (by omega) (by omega)
    have hf' : fitsB ((i : Int) :: tl) = true := by
      rw [fits_eq, hb', prodP_cons, ep]
      simp only [Bool.true_and, decide_eq_true_eq]
      omega
    refine ⟨hf', ?_⟩
    rw [prod_eq hf', prodP_cons, ep, Int.natCast_mul]
theorem ok_first {sh da : List Int} (hok : okB sh da = true) (h0 : ¬ sh.length = 0) {n s i : Nat} (hn : sh.getD 0 0 = n) (hs : prodC sh.tail = s) (hft : fitsB sh.tail = true) (hl : da.length = n * s) (hi : i ≤ n) : okB ((i : Int) :: sh.tail) (da.take (i * s)) = true := by
  obtain ⟨h1, h2⟩ := fits_first (ok_len hok).2 h0 hn hs hft hi
  have hle : i * s ≤ da.length := by rw [hl]; exact Nat.mul_le_mul_right s hi
  simp only [okB, Bool.and_eq_true, decide_eq_true_eq, List.all_eq_true] at hok ⊢
  refine ⟨⟨h1, by rw [h2, List.length_take]; omega⟩, fun x hx => hok.2 x (List.mem_of_mem_take hx)⟩
end Pl
end Go.Proofs.Ytjhflbhbegocdaa
