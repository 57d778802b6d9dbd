import Derived.Test.YtjhflbhbegocdaaImplOk
import Derived.Deep.RegionWith
import Derived.Defers
import Derived.Recover
import Derived.Laws.Pointers
namespace Go.Proofs.Ytjhflbhbegocdaa
open Go.RowKit
set_option linter.unusedVariables false

theorem szArray_rd (v0 v1 : Value) (sh da : List Int) (w w0 : World) (B : Nat) (m0 : sh.length ≤ 9223372036854775807) (m1 : da.length ≤ 9223372036854775807) (h0 : Rd B w0 v0 sh) (h1 : Rd B w0 v1 da) (l : Int) (hl0 : 0 ≤ l) (hl1 : l ≤ 1048576) :
    Calls Try.prog 5 #[.agg #[v0, v1], .int .i64 l] w fun e w' => ∃ r : Int, e = .returned (.int .i64 r) ∧ r ≤ 1048576 ∧ ((r = -1 ∧ l < sh.length + da.length) ∨ (r = l - sh.length - da.length ∧ 0 ≤ r)) ∧ Below w.heap.size w w' := by
  obtain ⟨a0, c0, rfl, _⟩ := h0
  obtain ⟨a1, c1, rfl, _⟩ := h1
  exact szArray_any a0 a1 _ c0 _ c1 w m0 m1 l hl0 hl1

/-- what was read, or lies in a block below, is still there -/
theorem box_keep {W w1 : World} {N : Nat} {v0 v1 : Value} (hb : Below W.heap.size W w1) (hN : N < W.heap.size) (c0 : W.cell? ⟨N, 0, none⟩ = some v0) (c1 : W.cell? ⟨N, 1, none⟩ = some v1) :
    w1.cell? ⟨N, 0, none⟩ = some v0 ∧ w1.cell? ⟨N, 1, none⟩ = some v1 :=
  ⟨(hb.cell (p := ⟨N, 0, none⟩) hN).trans c0, (hb.cell (p := ⟨N, 1, none⟩) hN).trans c1⟩

theorem hideP {p : Prop} (h : p) : Hid p := h

theorem eqArray_same (v0 v1 u0 u1 : Value) (sh da : List Int) (w : World) (hl0 : sh.length ≤ 1048576) (hl1 : da.length ≤ 1048576)
    (h0 : Rd w.heap.size w v0 sh) (h1 : Rd w.heap.size w v1 da) (h2 : Rd w.heap.size w u0 sh) (h3 : Rd w.heap.size w u1 da) :
    Calls Try.prog 9 #[.agg #[v0, v1], .agg #[u0, u1]] w fun e w' => e = .returned (.bool true) ∧ Below w.heap.size w w' := by
  have := eqArray_any v0 v1 u0 u1 sh da sh da w hl0 hl1 hl0 hl1 h0 h1 h2 h3
  simpa using this

end Go.Proofs.Ytjhflbhbegocdaa

namespace Go.Proofs.Ytjhflbhbegocdaa
open Go.RowKit
set_option linter.unusedVariables false

/-- a code on its way -/
abbrev thrown (c : Int) : PanicEntry := { v := .iface 64 (.int .i64 c), recovered := false }

/-- impl.refuse -/
theorem refuse_no (c : Int) (w : World) : Calls Try.prog 41 #[.bool false, .int .i64 c] w fun e w' => e = .returned (.tuple #[]) ∧ w' = w := by
  go_enter Try.func41, Try.ntmps41
  go_wp2
  go_end0
  exact ⟨rfl, rfl⟩

theorem refuse_yes (c : Int) (w : World) : Calls Try.prog 41 #[.bool true, .int .i64 c] w fun e w' => e = .panicked [thrown c] ∧ w' = w := by
  go_enter Try.func41, Try.ntmps41
  go_wp2
  exact ⟨rfl, rfl, rfl⟩

theorem as71 (v : Value) (w : World) : (Instr.typeAssert (.iface 64 v) 20 64 true).run Try.prog w = .ok (.tuple #[v, .bool true]) w := by kernel_rfl
theorem asNil (w : World) : (Instr.typeAssert .nilIface 20 64 true).run Try.prog w = .ok (.tuple #[.int .i64 0, .bool false]) w := by kernel_rfl
theorem undef15 : (Array.replicate 15 undef : Array Value) = #[undef, undef, undef, undef, undef, undef, undef, undef, undef, undef, undef, undef, undef, undef, undef] := rfl

set_option maxRecDepth 100000 in
theorem catch_panicking (p q : Nat) (c : Int) (v0 v1 v2 : Value) (older : List PanicEntry) (w : World) (hp0 : w.cell? ⟨p, 0, none⟩ = some v0) (hp1 : w.cell? ⟨p, 1, none⟩ = some v1) (hq : w.cell? ⟨q, 0, none⟩ = some v2)
    (fp : ∀ o, w.frozen? ⟨p, o, none⟩ = false) (fq : ∀ o, w.frozen? ⟨q, o, none⟩ = false) (hpq : ¬ p = q) :
    CallsD Try.prog 40 #[.pointer (some ⟨p, 0, none⟩), .pointer (some ⟨q, 0, none⟩)] (.panicking (thrown c :: older)) w fun e u' w' =>
      e = .returned (.tuple #[]) ∧ u' = .panicking ({ v := .iface 64 (.int .i64 c), recovered := true } :: older) ∧ w' = ((w.setCell ⟨p, 0, none⟩ (.slice none 0 0)).setCell ⟨p, 1, none⟩ (.slice none 0 0)).setCell ⟨q, 0, none⟩ (.int .i64 c) := by
  refine callsD_of_wpS Try.func40 rfl fun c₀ cs hu => ?_
  apply wpS_seq
  apply wpS_region
  simp [wpOpsS, go_sem, recoverD, hu, Try.ntmps40, Exit.thenS]
  refine wpS_of_wp ?_
  have h71 := as71
  have hnil := asNil
  rw [undef15]
  simp
  go_wp2
  simp [bodyPostS, results, Try.results40]

set_option maxRecDepth 100000 in
theorem catch_idle (p q : Addr) (w : World) :
    CallsD Try.prog 40 #[.pointer (some p), .pointer (some q)] .returning w fun e u' w' => e = .returned (.tuple #[]) ∧ u' = .returning ∧ w' = w := by
  refine callsD_of_wpS Try.func40 rfl fun c₀ cs hu => ?_
  apply wpS_seq
  apply wpS_region
  simp [wpOpsS, go_sem, recoverD, hu, Try.ntmps40, Exit.thenS]
  refine wpS_of_wp ?_
  have h71 := as71
  have hnil := asNil
  rw [undef15]
  simp
  go_wp2
  cases c₀
  simp_all [bodyPostS, results, Try.results40]


/-- In the world w the slice u is the call's own (a block from B on), may be written, and reads as zs. -/
def Own (B : Nat) (w : World) (u : Value) (zs : List Int) : Prop :=
  ∃ ao cap, u = .slice ao zs.length cap ∧ (zs.length = 0 ∨ ∃ g off, B ≤ g ∧ g < w.heap.size ∧ ao = some ⟨g, off, none⟩ ∧ ∀ i, i < zs.length → w.cell? ⟨g, off + i, none⟩ = some (.int .i64 (zs.getD i 0)) ∧ w.frozen? ⟨g, off + i, none⟩ = false)

/-- two such slices in blocks of their own -/
def Apart (u0 u1 : Value) (sh da : List Int) : Prop := sh.length = 0 ∨ da.length = 0 ∨ ∀ b, u0.ownBlock = some b → u1.ownBlock = some b → False

def Res (B : Nat) (w : World) (u0 u1 : Value) (sh da : List Int) : Prop := Own B w u0 sh ∧ Own B w u1 da ∧ Apart u0 u1 sh da

/-- what a kernel does: it gives an array of new memory, or leaves with a code -/
def KPost (W : World) (c : Int) (sh da : List Int) (e : Ending) (w' : World) : Prop :=
  Below W.heap.size W w' ∧ ((c = 0 ∧ ∃ u0 u1, e = .returned (.agg #[u0, u1]) ∧ Res W.heap.size w' u0 u1 sh da) ∨ (¬ c = 0 ∧ sh = [] ∧ da = [] ∧ e = .panicked [thrown c]))

/-- what a face does -/
def FPost (W : World) (c : Int) (sh da : List Int) (e : Ending) (w' : World) : Prop :=
  Below W.heap.size W w' ∧ ∃ u0 u1, e = .returned (.tuple #[.agg #[u0, u1], .int .i64 c]) ∧ Res W.heap.size w' u0 u1 sh da

theorem Own.base {B B' : Nat} {w : World} {u : Value} {zs : List Int} (h : Own B w u zs) (hb : B' ≤ B) : Own B' w u zs := by
  obtain ⟨ao, cap, rfl, h⟩ := h
  refine ⟨ao, cap, rfl, ?_⟩
  rcases h with h | ⟨g, off, h1, h2, h3, h4⟩
  · exact .inl h
  · exact .inr ⟨g, off, by omega, h2, h3, h4⟩

theorem Own.form {B : Nat} {w : World} {u : Value} {zs : List Int} (h : Own B w u zs) : ∃ ao cap, u = .slice ao zs.length cap := by
  obtain ⟨ao, cap, e, _⟩ := h
  exact ⟨ao, cap, e⟩

theorem Own.nil (B : Nat) (w : World) : Own B w (.slice none 0 0) [] := ⟨none, 0, rfl, .inl rfl⟩

/-- a store below -/
theorem Own.store {B : Nat} {w : World} {u : Value} {zs : List Int} (h : Own B w u zs) {b o : Nat} (hb : b < B) (v : Value) : Own B (w.setCell ⟨b, o, none⟩ v) u zs := by
  obtain ⟨ao, cap, rfl, h⟩ := h
  refine ⟨ao, cap, rfl, ?_⟩
  rcases h with h | ⟨g, off, h1, h2, h3, h4⟩
  · exact .inl h
  · refine .inr ⟨g, off, h1, by simpa using h2, h3, fun i hi => ?_⟩
    have e := Below.heap_setCell w ⟨b, o, none⟩ v g (by simp; omega)
    exact ⟨(World.cell?_of_block (w := w) (a := ⟨g, off + i, none⟩) e).trans (h4 i hi).1, (World.frozen?_of_block (w := w) (a := ⟨g, off + i, none⟩) e).trans (h4 i hi).2⟩

theorem Own.keep {B : Nat} {w w' : World} {u : Value} {zs : List Int} (h : Own B w u zs) (hb : Below w.heap.size w w') : Own B w' u zs := by
  obtain ⟨ao, cap, rfl, h⟩ := h
  refine ⟨ao, cap, rfl, ?_⟩
  rcases h with h | ⟨g, off, h1, h2, h3, h4⟩
  · exact .inl h
  · exact .inr ⟨g, off, h1, Nat.lt_of_lt_of_le h2 hb.size, h3, fun i hi => ⟨(hb.cell (p := ⟨g, off + i, none⟩) h2).trans (h4 i hi).1, (hb.frozen (p := ⟨g, off + i, none⟩) h2).trans (h4 i hi).2⟩⟩

theorem Own.rd {B : Nat} {w : World} {u : Value} {zs : List Int} (h : Own B w u zs) : Rd w.heap.size w u zs := by
  obtain ⟨ao, cap, rfl, h⟩ := h
  refine ⟨ao, cap, rfl, ?_⟩
  rcases h with h | ⟨g, off, h1, h2, h3, h4⟩
  · exact .inl h
  · exact .inr ⟨g, off, h2, h3, fun i hi => (h4 i hi).1⟩

theorem own_of_owns {base g n cap : Nat} {w : World} {zs : List Int} (h : w.ownsRow base 3 1 (.slice (some ⟨g, 0, none⟩) n cap) n (zs.map (Value.int .i64))) (hn : zs.length = n) : Own base w (.slice (some ⟨g, 0, none⟩) n cap) zs := by
  refine ⟨_, _, by rw [hn], .inr ⟨g, 0, (h.lt g rfl).1, (h.lt g rfl).2, rfl, fun i hi => ⟨?_, by rw [Nat.zero_add]; exact h.frozenAt i⟩⟩⟩
  rw [Nat.zero_add, h.cellAt i (by omega)]
  simp [List.getD, hi]

set_option maxRecDepth 100000 in
/-- impl.answer -/
theorem answer_any (f : Nat) (cap : Array Value) (c : Int) (sh da : List Int) (w : World) (hcf : ∀ w, (callFunc f cap).run Try.prog w = .ok (.enter f cap) w)
    (hk : Calls Try.prog f cap ((w.alloc (.cells #[.slice none 0 0, .slice none 0 0] 26)).alloc (.cells #[.int .i64 0] 3)) (KPost ((w.alloc (.cells #[.slice none 0 0, .slice none 0 0] 26)).alloc (.cells #[.int .i64 0] 3)) c sh da)) :
    Calls Try.prog 25 #[.func (.func f) #[] cap] w (FPost w c sh da) := by
  have hmf : ∀ (fn : Fn) (first cap : Array Value) (w : World), (Instr.makeFunc fn first cap).run Try.prog w = .ok (.func fn first cap) w := fun _ _ _ _ => rfl
  have HK := hideP hk
  clear hk
  go_enter_defers Try.func25, Try.ntmps25
  go_wp2_with fail
  refine HK.out.mono ?_
  clear hcf HK
  rintro e w1 ⟨hb, hor⟩
  have HB : Hid (Below w.heap.size w w1) := (((Below.refl _ _).alloc (Nat.le_refl _) _).alloc (by simp) _).trans (hb.mono (by simp; omega))
  have sz1 : w.heap.size + 1 < w1.heap.size := by have := hb.size; simp at this; omega
  obtain ⟨hc, hf⟩ := bcell hb
  have c0 : w1.cell? ⟨w.heap.size, 0, none⟩ = some (.slice none 0 0) := by rw [hc w.heap.size 0 (by simp; omega)]; simp [go_sem]
  have c1 : w1.cell? ⟨w.heap.size, 1, none⟩ = some (.slice none 0 0) := by rw [hc w.heap.size 1 (by simp; omega)]; simp [go_sem]
  have c2 : w1.cell? ⟨w.heap.size + 1, 0, none⟩ = some (.int .i64 0) := by rw [hc (w.heap.size + 1) 0 (by simp)]; simp [go_sem]
  have f0 : ∀ o, w1.frozen? ⟨w.heap.size, o, none⟩ = false := fun o => by rw [hf w.heap.size o (by simp; omega)]; simp [go_sem]
  have f1 : ∀ o, w1.frozen? ⟨w.heap.size + 1, o, none⟩ = false := fun o => by rw [hf (w.heap.size + 1) o (by simp)]; simp [go_sem]
  clear hc hf hb
  rcases hor with ⟨rfl, u0, u1, rfl, hres⟩ | ⟨hc, rfl, rfl, rfl⟩
  · have HR := hideP hres
    obtain ⟨a0, d0, e0⟩ := hres.1.form
    obtain ⟨a1, d1, e1⟩ := hres.2.1.form
    clear hres
    subst e0
    subst e1
    go_wp2_with fail
    refine leaves_cons (f := 40) (args := #[.pointer (some ⟨w.heap.size, 0, none⟩), .pointer (some ⟨w.heap.size + 1, 0, none⟩)]) (by simp) (by simp [go_sem]) ?_
    refine (catch_idle _ _ _).mono ?_
    rintro e u' w'' ⟨rfl, rfl, rfl⟩
    refine ⟨.tuple #[.agg #[.slice a0 sh.length d0, .slice a1 da.length d1], .int .i64 0], by simp [results, Try.results25, go_sem, c0, c1, c2], ?_, _, _, rfl, ?_⟩
    · exact ((HB.out.setCell (by simp) _).setCell (by simp) _).setCell (by simp) _
    · have hB : w.heap.size ≤ w.heap.size + 1 + 1 := by omega
      obtain ⟨r0, r1, r2⟩ := HR.out
      refine ⟨?_, ?_, r2⟩
      · refine Own.base (B := w.heap.size + 1 + 1) ?_ hB
        refine Own.store (Own.store (Own.store ?_ (by omega) _) (by omega) _) (by omega) _
        simpa using r0
      · refine Own.base (B := w.heap.size + 1 + 1) ?_ hB
        refine Own.store (Own.store (Own.store ?_ (by omega) _) (by omega) _) (by omega) _
        simpa using r1
  · refine leaves_cons (f := 40) (args := #[.pointer (some ⟨w.heap.size, 0, none⟩), .pointer (some ⟨w.heap.size + 1, 0, none⟩)]) (by simp) (by simp [go_sem]) ?_
    refine (catch_panicking w.heap.size (w.heap.size + 1) c _ _ _ [] _ c0 c1 c2 f0 f1 (by omega)).mono ?_
    rintro e u' w'' ⟨rfl, rfl, rfl⟩
    refine ⟨.tuple #[.agg #[.slice none 0 0, .slice none 0 0], .int .i64 c], by simp [results, Try.results25, go_sem, c0, c1, c2], ?_, _, _, rfl, Own.nil _ _, Own.nil _ _, .inl rfl⟩
    exact ((HB.out.setCell (by simp) _).setCell (by simp) _).setCell (by simp) _

end Go.Proofs.Ytjhflbhbegocdaa

