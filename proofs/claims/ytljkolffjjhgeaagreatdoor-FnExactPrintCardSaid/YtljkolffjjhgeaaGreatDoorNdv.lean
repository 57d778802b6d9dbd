import Derived.Test.YtljkolffjjhgeaaGreatDoorSti
namespace Go.Proofs.YtljkolffjjhgeaaGreatDoor
open Go.RowKit
set_option linter.unusedVariables false
set_option maxRecDepth 100000
/-- a node as impl holds it -/
def NdV (B : Nat) (w : World) : Pl.Nd Pl.Sv → Value → Prop
  | .at s, v => (s.k = 1 ∧ ∃ an cn, v = .iface 121 (.agg #[.slice an s.nums.length cn]) ∧ RdI B w an s.nums) ∨ (s.k = 2 ∧ v = .iface 123 (.agg #[.string (Pl.ba s.nm)]))
  | .one s r, v => ∃ vr, v = .iface 125 (.agg #[.int .i64 s.fn.k, .int .i64 s.fn.a, .int .i64 s.fn.b, .string (Pl.ba s.fn.nm), vr]) ∧ NdV B w r vr
  | .two s l r, v => ∃ vl vr, v = .iface 128 (.agg #[vl, .int .i64 s.fn.k, .int .i64 s.fn.a, .int .i64 s.fn.b, .string (Pl.ba s.fn.nm), vr]) ∧ NdV B w l vl ∧ NdV B w r vr
theorem NdV.keep {B : Nat} {w w' : World} (hb : Below B w w') : ∀ {t : Pl.Nd Pl.Sv} {v : Value}, NdV B w t v → NdV B w' t v := by
  intro t
  induction t with
  | «at» s =>
    intro v h
    rcases h with ⟨h1, an, cn, h2, h3⟩ | h
    · exact .inl ⟨h1, an, cn, h2, h3.keep hb⟩
    · exact .inr h
  | one s r ih =>
    intro v h
    obtain ⟨vr, h1, h2⟩ := h
    exact ⟨vr, h1, ih h2⟩
  | two s l r il ir =>
    intro v h
    obtain ⟨vl, vr, h1, h2, h3⟩ := h
    exact ⟨vl, vr, h1, il h2, ir h3⟩
theorem NdV.iface {B : Nat} {w : World} {t : Pl.Nd Pl.Sv} {v : Value} (h : NdV B w t v) : ∃ T p, v = .iface T p := by
  cases t with
  | «at» s =>
    rcases h with ⟨_, an, cn, h2, _⟩ | ⟨_, h⟩
    · exact ⟨_, _, h2⟩
    · exact ⟨_, _, h⟩
  | one s r => obtain ⟨vr, h1, _⟩ := h; exact ⟨_, _, h1⟩
  | two s l r => obtain ⟨vl, vr, h1, _⟩ := h; exact ⟨_, _, h1⟩
/-- impl.stepNode at a step without arguments -/
theorem stepNode_at (s : Pl.Sv) (an : Option Addr) (cn : Nat) (ao : Option Addr) (n cp : Nat) (hk : s.k = 1 ∨ s.k = 2) (B : Nat) (w : World) (hB : B ≤ w.heap.size) (hr : RdI B w an s.nums) :
    Calls Tryz.prog 71 #[.agg #[.int .i64 s.k, .slice an s.nums.length cn, .string (Pl.ba s.nm), .int .i64 s.fn.k, .int .i64 s.fn.a, .int .i64 s.fn.b, .string (Pl.ba s.fn.nm)], .slice ao n cp] w fun e w' => (∃ v, e = .returned v ∧ NdV B w' (.at s) v) ∧ Below w.heap.size w w' := by
  have HB : Hid (∀ o, Below w.heap.size w (w.alloc o)) := fun o => (Below.refl _ _).alloc (Nat.le_refl _) _
  rcases hk with hk | hk
  · have HN : Hid (∀ w', Below w.heap.size w w' → NdV B w' (.at s) (.iface 121 (.agg #[.slice an s.nums.length cn]))) := fun w' h => .inl ⟨hk, an, cn, rfl, hr.keep (h.mono hB)⟩
    clear hr
    rw [hk]
    generalize s.nums.length = L at *
    generalize Pl.ba s.nm = nm at *
    generalize Pl.ba s.fn.nm = fnm at *
    generalize s.fn.k = fk at *
    generalize s.fn.a = fa at *
    generalize s.fn.b = fb at *
    clear hk
    go_enter Tryz.func71, Tryz.ntmps71
    go_wp2
    go_ret
    exact ⟨⟨_, rfl, HN.out _ (HB.out _)⟩, HB.out _⟩
  · have HN : Hid (∀ w', NdV B w' (.at s) (.iface 123 (.agg #[.string (Pl.ba s.nm)]))) := fun w' => .inr ⟨hk, rfl⟩
    clear hr
    rw [hk]
    generalize s.nums.length = L at *
    generalize Pl.ba s.nm = nm at *
    generalize Pl.ba s.fn.nm = fnm at *
    generalize s.fn.k = fk at *
    generalize s.fn.a = fa at *
    generalize s.fn.b = fb at *
    clear hk
    go_enter Tryz.func71, Tryz.ntmps71
    go_wp2
    go_ret
    exact ⟨⟨_, rfl, HN.out _⟩, HB.out _⟩
theorem stepNode_one (s : Pl.Sv) (t : Pl.Nd Pl.Sv) (an : Option Addr) (cn : Nat) (g o cp : Nat) (v0 : Value) (hk : s.k = 3) (B : Nat) (w : World) (hB : B ≤ w.heap.size) (hg : g < w.heap.size) (h0 : w.cell? ⟨g, o, none⟩ = some v0) (hv : NdV B w t v0) :
    Calls Tryz.prog 71 #[.agg #[.int .i64 s.k, .slice an s.nums.length cn, .string (Pl.ba s.nm), .int .i64 s.fn.k, .int .i64 s.fn.a, .int .i64 s.fn.b, .string (Pl.ba s.fn.nm)], .slice (some ⟨g, o, none⟩) 1 cp] w fun e w' => (∃ v, e = .returned v ∧ NdV B w' (.one s t) v) ∧ Below w.heap.size w w' := by
  have HB : Hid (∀ o, Below w.heap.size w (w.alloc o)) := fun o => (Below.refl _ _).alloc (Nat.le_refl _) _
  have HN : Hid (∀ w', Below w.heap.size w w' → NdV B w' (.one s t) (.iface 125 (.agg #[.int .i64 s.fn.k, .int .i64 s.fn.a, .int .i64 s.fn.b, .string (Pl.ba s.fn.nm), v0]))) := fun w' h => ⟨v0, rfl, NdV.keep (h.mono hB) hv⟩
  have hc : ∀ ob, (w.alloc ob).cell? ⟨g, o, none⟩ = some v0 := fun ob => ((HB.out ob).cell (p := ⟨g, o, none⟩) hg).trans h0
  obtain ⟨T0, p0, rfl⟩ := hv.iface
  clear hv h0
  rw [hk]
  generalize s.nums.length = L at *
  generalize Pl.ba s.nm = nm at *
  generalize Pl.ba s.fn.nm = fnm at *
  generalize s.fn.k = fk at *
  generalize s.fn.a = fa at *
  generalize s.fn.b = fb at *
  clear hk
  go_enter Tryz.func71, Tryz.ntmps71
  go_wp2
  go_quiet (fail)
  go_wp2
  go_ret
  exact ⟨⟨_, rfl, HN.out _ (below_drewN (HB.out _) _)⟩, below_drewN (HB.out _) _⟩
theorem stepNode_two (s : Pl.Sv) (tl tr : Pl.Nd Pl.Sv) (an : Option Addr) (cn : Nat) (g o cp : Nat) (v0 v1 : Value) (hk : s.k = 4) (B : Nat) (w : World) (hB : B ≤ w.heap.size) (hg : g < w.heap.size) (h0 : w.cell? ⟨g, o, none⟩ = some v0) (h1 : w.cell? ⟨g, o + 1, none⟩ = some v1) (hv0 : NdV B w tr v0) (hv1 : NdV B w tl v1) :
    Calls Tryz.prog 71 #[.agg #[.int .i64 s.k, .slice an s.nums.length cn, .string (Pl.ba s.nm), .int .i64 s.fn.k, .int .i64 s.fn.a, .int .i64 s.fn.b, .string (Pl.ba s.fn.nm)], .slice (some ⟨g, o, none⟩) 2 cp] w fun e w' => (∃ v, e = .returned v ∧ NdV B w' (.two s tl tr) v) ∧ Below w.heap.size w w' := by
  have HB : Hid (∀ o, Below w.heap.size w (w.alloc o)) := fun o => (Below.refl _ _).alloc (Nat.le_refl _) _
  have HN : Hid (∀ w', Below w.heap.size w w' → NdV B w' (.two s tl tr) (.iface 128 (.agg #[v1, .int .i64 s.fn.k, .int .i64 s.fn.a, .int .i64 s.fn.b, .string (Pl.ba s.fn.nm), v0]))) := fun w' h => ⟨v1, v0, rfl, NdV.keep (h.mono hB) hv1, NdV.keep (h.mono hB) hv0⟩
  have hc : ∀ ob, (w.alloc ob).cell? ⟨g, o, none⟩ = some v0 := fun ob => ((HB.out ob).cell (p := ⟨g, o, none⟩) hg).trans h0
  have hc1 : ∀ ob, (w.alloc ob).cell? ⟨g, o + 1, none⟩ = some v1 := fun ob => ((HB.out ob).cell (p := ⟨g, o + 1, none⟩) hg).trans h1
  obtain ⟨T0, p0, rfl⟩ := hv0.iface
  obtain ⟨T1, p1, rfl⟩ := hv1.iface
  clear hv0 hv1 h0 h1
  rw [hk]
  generalize s.nums.length = L at *
  generalize Pl.ba s.nm = nm at *
  generalize Pl.ba s.fn.nm = fnm at *
  generalize s.fn.k = fk at *
  generalize s.fn.a = fa at *
  generalize s.fn.b = fb at *
  clear hk
  go_enter Tryz.func71, Tryz.ntmps71
  go_wp2
  go_quiet (fail)
  go_wp2
  go_ret
  exact ⟨⟨_, rfl, HN.out _ (below_drewN (HB.out _) _)⟩, below_drewN (HB.out _) _⟩
end Go.Proofs.YtljkolffjjhgeaaGreatDoor
