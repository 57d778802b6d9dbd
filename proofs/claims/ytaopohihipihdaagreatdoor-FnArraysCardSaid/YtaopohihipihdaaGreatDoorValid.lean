import Derived.Test.YtaopohihipihdaaGreatDoorLawOk
import Derived.Defers
import Derived.Recover
import Derived.Laws.Pointers
namespace Go.Proofs.YtaopohihipihdaaGreatDoor
open Go.RowKit
set_option linter.unusedVariables false

/-- a code on its way -/
abbrev thrown (c : Int) : PanicEntry := { v := .iface 62 (.int .i64 c), recovered := false }

/-- impl.refuse -/
theorem refuse_no (c : Int) (w : World) : Calls Tryz.prog 36 #[.bool false, .int .i64 c] w fun e w' => e = .returned (.tuple #[]) ∧ w' = w := by
  go_enter Tryz.func36, Tryz.ntmps36
  go_wp2
  go_end0
  exact ⟨rfl, rfl⟩

theorem refuse_yes (c : Int) (w : World) : Calls Tryz.prog 36 #[.bool true, .int .i64 c] w fun e w' => e = .panicked [thrown c] ∧ w' = w := by
  go_enter Tryz.func36, Tryz.ntmps36
  go_wp2
  exact ⟨rfl, rfl, rfl⟩

theorem as71 (v : Value) (w : World) : (Instr.typeAssert (.iface 62 v) 20 62 true).run Tryz.prog w = .ok (.tuple #[v, .bool true]) w := by kernel_rfl
theorem asNil (w : World) : (Instr.typeAssert .nilIface 20 62 true).run Tryz.prog w = .ok (.tuple #[.int .i64 0, .bool false]) w := by kernel_rfl
theorem undef15 : (Array.replicate 15 undef : Array Value) = #[undef, undef, undef, undef, undef, undef, undef, undef, undef, undef, undef, undef, undef, undef, undef] := rfl

set_option maxRecDepth 100000 in
theorem catch_panicking (p q : Nat) (c : Int) (v0 v1 v2 : Value) (older : List PanicEntry) (w : World) (hp0 : w.cell? ⟨p, 0, none⟩ = some v0) (hp1 : w.cell? ⟨p, 1, none⟩ = some v1) (hq : w.cell? ⟨q, 0, none⟩ = some v2)
    (fp : ∀ o, w.frozen? ⟨p, o, none⟩ = false) (fq : ∀ o, w.frozen? ⟨q, o, none⟩ = false) (hpq : ¬ p = q) :
    CallsD Tryz.prog 35 #[.pointer (some ⟨p, 0, none⟩), .pointer (some ⟨q, 0, none⟩)] (.panicking (thrown c :: older)) w fun e u' w' =>
      e = .returned (.tuple #[]) ∧ u' = .panicking ({ v := .iface 62 (.int .i64 c), recovered := true } :: older) ∧ w' = ((w.setCell ⟨p, 0, none⟩ (.slice none 0 0)).setCell ⟨p, 1, none⟩ (.slice none 0 0)).setCell ⟨q, 0, none⟩ (.int .i64 c) := by
  refine callsD_of_wpS Tryz.func35 rfl fun c₀ cs hu => ?_
  apply wpS_seq
  apply wpS_region
  simp [wpOpsS, go_sem, recoverD, hu, Tryz.ntmps35, Exit.thenS]
  refine wpS_of_wp ?_
  have h71 := as71
  have hnil := asNil
  rw [undef15]
  simp
  go_wp2
  simp [bodyPostS, results, Tryz.results35]

set_option maxRecDepth 100000 in
theorem catch_idle (p q : Addr) (w : World) :
    CallsD Tryz.prog 35 #[.pointer (some p), .pointer (some q)] .returning w fun e u' w' => e = .returned (.tuple #[]) ∧ u' = .returning ∧ w' = w := by
  refine callsD_of_wpS Tryz.func35 rfl fun c₀ cs hu => ?_
  apply wpS_seq
  apply wpS_region
  simp [wpOpsS, go_sem, recoverD, hu, Tryz.ntmps35, Exit.thenS]
  refine wpS_of_wp ?_
  have h71 := as71
  have hnil := asNil
  rw [undef15]
  simp
  go_wp2
  cases c₀
  simp_all [bodyPostS, results, Tryz.results35]


/-- In the world w the slice u is the call's own (a block from B on), may be written, and reads as zs. -/
def Own (B : Nat) (w : World) (u : Value) (zs : List Int) : Prop :=
  ∃ ao cap, u = .slice ao zs.length cap ∧ (zs.length = 0 ∨ ∃ g off, (B ≤ g ∧ zs.length ≤ cap ∧ cap ≤ 9223372036854775807 ∧ off = 0) ∧ g < w.heap.size ∧ ao = some ⟨g, off, none⟩ ∧ ∀ i, i < zs.length → w.cell? ⟨g, off + i, none⟩ = some (.int .i64 (zs.getD i 0)) ∧ w.frozen? ⟨g, off + i, none⟩ = false)

/-- two such slices in blocks of their own -/
def Apart (u0 u1 : Value) (sh da : List Int) : Prop := sh.length = 0 ∨ da.length = 0 ∨ ∀ b, u0.ownBlock = some b → u1.ownBlock = some b → False

def Res (B : Nat) (w : World) (u0 u1 : Value) (sh da : List Int) : Prop := Own B w u0 sh ∧ Own B w u1 da ∧ Apart u0 u1 sh da

/-- what a kernel does: it gives an array of new memory, or leaves with a code -/
def KPost (W : World) (c : Int) (sh da : List Int) (e : Ending) (w' : World) : Prop :=
  Below W.heap.size W w' ∧ ((c = 0 ∧ ∃ u0 u1, e = .returned (.agg #[u0, u1]) ∧ Res W.heap.size w' u0 u1 sh da) ∨ (¬ c = 0 ∧ sh = [] ∧ da = [] ∧ e = .panicked [thrown c]))

/-- what a face does -/
def FPost (W : World) (c : Int) (sh da : List Int) (e : Ending) (w' : World) : Prop :=
  Below W.heap.size W w' ∧ ∃ u0 u1, e = .returned (.tuple #[.agg #[u0, u1], .int .i64 c]) ∧ Res W.heap.size w' u0 u1 sh da

theorem Own.base {B B' : Nat} {w : World} {u : Value} {zs : List Int} (h : Own B w u zs) (hb : B' ≤ B) : Own B' w u zs := by
  obtain ⟨ao, cap, rfl, h⟩ := h
  refine ⟨ao, cap, rfl, ?_⟩
  rcases h with h | ⟨g, off, h1, h2, h3, h4⟩
  · exact .inl h
  · exact .inr ⟨g, off, by omega, h2, h3, h4⟩

theorem Own.form {B : Nat} {w : World} {u : Value} {zs : List Int} (h : Own B w u zs) : ∃ ao cap, u = .slice ao zs.length cap := by
  obtain ⟨ao, cap, e, _⟩ := h
  exact ⟨ao, cap, e⟩

theorem Own.nil (B : Nat) (w : World) : Own B w (.slice none 0 0) [] := ⟨none, 0, rfl, .inl rfl⟩

/-- a store below -/
theorem Own.store {B : Nat} {w : World} {u : Value} {zs : List Int} (h : Own B w u zs) {b o : Nat} (hb : b < B) (v : Value) : Own B (w.setCell ⟨b, o, none⟩ v) u zs := by
  obtain ⟨ao, cap, rfl, h⟩ := h
  refine ⟨ao, cap, rfl, ?_⟩
  rcases h with h | ⟨g, off, h1, h2, h3, h4⟩
  · exact .inl h
  · refine .inr ⟨g, off, h1, by simpa using h2, h3, fun i hi => ?_⟩
    have e := Below.heap_setCell w ⟨b, o, none⟩ v g (by simp; omega)
    exact ⟨(World.cell?_of_block (w := w) (a := ⟨g, off + i, none⟩) e).trans (h4 i hi).1, (World.frozen?_of_block (w := w) (a := ⟨g, off + i, none⟩) e).trans (h4 i hi).2⟩

theorem Own.keep {B : Nat} {w w' : World} {u : Value} {zs : List Int} (h : Own B w u zs) (hb : Below w.heap.size w w') : Own B w' u zs := by
  obtain ⟨ao, cap, rfl, h⟩ := h
  refine ⟨ao, cap, rfl, ?_⟩
  rcases h with h | ⟨g, off, h1, h2, h3, h4⟩
  · exact .inl h
  · exact .inr ⟨g, off, h1, Nat.lt_of_lt_of_le h2 hb.size, h3, fun i hi => ⟨(hb.cell (p := ⟨g, off + i, none⟩) h2).trans (h4 i hi).1, (hb.frozen (p := ⟨g, off + i, none⟩) h2).trans (h4 i hi).2⟩⟩

theorem Own.rd {B : Nat} {w : World} {u : Value} {zs : List Int} (h : Own B w u zs) : Rd w.heap.size w u zs := by
  obtain ⟨ao, cap, rfl, h⟩ := h
  refine ⟨ao, cap, rfl, ?_⟩
  rcases h with h | ⟨g, off, h1, h2, h3, h4⟩
  · exact .inl h
  · exact .inr ⟨g, off, h2, h3, fun i hi => (h4 i hi).1⟩

theorem own_of_owns {base g n cap : Nat} {w : World} {zs : List Int} (h : w.ownsRow base 3 1 (.slice (some ⟨g, 0, none⟩) n cap) n (zs.map (Value.int .i64))) (hn : zs.length = n) : Own base w (.slice (some ⟨g, 0, none⟩) n cap) zs := by
  have hcap : n ≤ cap ∧ cap ≤ 9223372036854775807 := by
    rcases h.2 with ⟨e, _⟩ | ⟨g', cap', cur, e, _, _, h1, h2, _⟩
    · simp at e
    · simp only [Value.slice.injEq] at e
      obtain ⟨_, _, rfl⟩ := e
      unfold maxLen at h2
      omega
  refine ⟨_, _, by rw [hn], .inr ⟨g, 0, ⟨(h.lt g rfl).1, by omega⟩, (h.lt g rfl).2, rfl, fun i hi => ⟨?_, by rw [Nat.zero_add]; exact h.frozenAt i⟩⟩⟩
  rw [Nat.zero_add, h.cellAt i (by omega)]
  simp [List.getD, hi]

set_option maxRecDepth 100000 in
/-- impl.answer -/
theorem answer_any (f : Nat) (cap : Array Value) (c : Int) (sh da : List Int) (w : World) (hcf : ∀ w, (callFunc f cap).run Tryz.prog w = .ok (.enter f cap) w)
    (hk : Calls Tryz.prog f cap ((w.alloc (.cells #[.slice none 0 0, .slice none 0 0] 25)).alloc (.cells #[.int .i64 0] 3)) (KPost ((w.alloc (.cells #[.slice none 0 0, .slice none 0 0] 25)).alloc (.cells #[.int .i64 0] 3)) c sh da)) :
    Calls Tryz.prog 21 #[.func (.func f) #[] cap] w (FPost w c sh da) := by
  have hmf : ∀ (fn : Fn) (first cap : Array Value) (w : World), (Instr.makeFunc fn first cap).run Tryz.prog w = .ok (.func fn first cap) w := fun _ _ _ _ => rfl
  have HK := hideP hk
  clear hk
  go_enter_defers Tryz.func21, Tryz.ntmps21
  go_wp2_with fail
  refine HK.out.mono ?_
  clear hcf HK
  rintro e w1 ⟨hb, hor⟩
  have HB : Hid (Below w.heap.size w w1) := (((Below.refl _ _).alloc (Nat.le_refl _) _).alloc (by simp) _).trans (hb.mono (by simp; omega))
  have sz1 : w.heap.size + 1 < w1.heap.size := by have := hb.size; simp at this; omega
  obtain ⟨hc, hf⟩ := bcell hb
  have c0 : w1.cell? ⟨w.heap.size, 0, none⟩ = some (.slice none 0 0) := by rw [hc w.heap.size 0 (by simp; omega)]; simp [go_sem]
  have c1 : w1.cell? ⟨w.heap.size, 1, none⟩ = some (.slice none 0 0) := by rw [hc w.heap.size 1 (by simp; omega)]; simp [go_sem]
  have c2 : w1.cell? ⟨w.heap.size + 1, 0, none⟩ = some (.int .i64 0) := by rw [hc (w.heap.size + 1) 0 (by simp)]; simp [go_sem]
  have f0 : ∀ o, w1.frozen? ⟨w.heap.size, o, none⟩ = false := fun o => by rw [hf w.heap.size o (by simp; omega)]; simp [go_sem]
  have f1 : ∀ o, w1.frozen? ⟨w.heap.size + 1, o, none⟩ = false := fun o => by rw [hf (w.heap.size + 1) o (by simp)]; simp [go_sem]
  clear hc hf hb
  rcases hor with ⟨rfl, u0, u1, rfl, hres⟩ | ⟨hc, rfl, rfl, rfl⟩
  · have HR := hideP hres
    obtain ⟨a0, d0, e0⟩ := hres.1.form
    obtain ⟨a1, d1, e1⟩ := hres.2.1.form
    clear hres
    subst e0
    subst e1
    go_wp2_with fail
    refine leaves_cons (f := 35) (args := #[.pointer (some ⟨w.heap.size, 0, none⟩), .pointer (some ⟨w.heap.size + 1, 0, none⟩)]) (by simp) (by simp [go_sem]) ?_
    refine (catch_idle _ _ _).mono ?_
    rintro e u' w'' ⟨rfl, rfl, rfl⟩
    refine ⟨.tuple #[.agg #[.slice a0 sh.length d0, .slice a1 da.length d1], .int .i64 0], by simp [results, Tryz.results21, go_sem, c0, c1, c2], ?_, _, _, rfl, ?_⟩
    · exact ((HB.out.setCell (by simp) _).setCell (by simp) _).setCell (by simp) _
    · have hB : w.heap.size ≤ w.heap.size + 1 + 1 := by omega
      obtain ⟨r0, r1, r2⟩ := HR.out
      refine ⟨?_, ?_, r2⟩
      · refine Own.base (B := w.heap.size + 1 + 1) ?_ hB
        refine Own.store (Own.store (Own.store ?_ (by omega) _) (by omega) _) (by omega) _
        simpa using r0
      · refine Own.base (B := w.heap.size + 1 + 1) ?_ hB
        refine Own.store (Own.store (Own.store ?_ (by omega) _) (by omega) _) (by omega) _
        simpa using r1
  · refine leaves_cons (f := 35) (args := #[.pointer (some ⟨w.heap.size, 0, none⟩), .pointer (some ⟨w.heap.size + 1, 0, none⟩)]) (by simp) (by simp [go_sem]) ?_
    refine (catch_panicking w.heap.size (w.heap.size + 1) c _ _ _ [] _ c0 c1 c2 f0 f1 (by omega)).mono ?_
    rintro e u' w'' ⟨rfl, rfl, rfl⟩
    refine ⟨.tuple #[.agg #[.slice none 0 0, .slice none 0 0], .int .i64 c], by simp [results, Tryz.results21, go_sem, c0, c1, c2], ?_, _, _, rfl, Own.nil _ _, Own.nil _ _, .inl rfl⟩
    exact ((HB.out.setCell (by simp) _).setCell (by simp) _).setCell (by simp) _

end Go.Proofs.YtaopohihipihdaaGreatDoor

namespace Go.Proofs.YtaopohihipihdaaGreatDoor
open Go.RowKit
set_option linter.unusedVariables false

theorem Rd.form {B : Nat} {w : World} {u : Value} {zs : List Int} (h : Rd B w u zs) : ∃ ao cap, u = .slice ao zs.length cap := by
  obtain ⟨ao, cap, e, _⟩ := h
  exact ⟨ao, cap, e⟩

/-- one round of needValid: the array at place o of the row b -/
theorem ok_new (v0 v1 : Value) (sh da : List Int) (wr : World) (hl0 : sh.length ≤ 1048576) (hl1 : da.length ≤ 1048576) (h0 : Rd wr.heap.size wr v0 sh) (h1 : Rd wr.heap.size wr v1 da) (o : Obj) :
    Calls Tryz.prog 7 #[.agg #[v0, v1]] (wr.alloc o) fun e w' => e = .returned (.bool (Pl.okB sh da)) ∧ Below wr.heap.size wr w' := by
  have A : Below wr.heap.size wr (wr.alloc o) := (Below.refl _ _).alloc (Nat.le_refl _) _
  refine (implOk_any v0 v1 sh da (wr.alloc o) hl0 hl1 ((h0.keep A).up (by simp)) ((h1.keep A).up (by simp))).mono ?_
  rintro e w' ⟨rfl, hb⟩
  exact ⟨rfl, A.trans (hb.mono (by simp))⟩

set_option maxHeartbeats 1000000 in
/-- impl.needValid of one array -/
theorem needValid1 (b : Nat) (v0 v1 : Value) (sh da : List Int) (w : World) (hl0 : sh.length ≤ 1048576) (hl1 : da.length ≤ 1048576) (hb : b < w.heap.size) (c0 : w.cell? ⟨b, 0, none⟩ = some v0) (c1 : w.cell? ⟨b, 1, none⟩ = some v1)
    (h0 : Rd w.heap.size w v0 sh) (h1 : Rd w.heap.size w v1 da) :
    Calls Tryz.prog 23 #[.slice (some ⟨b, 0, none⟩) 1 1] w fun e w' => Below w.heap.size w w' ∧ ((Pl.okB sh da = true ∧ e = .returned (.tuple #[])) ∨ (Pl.okB sh da = false ∧ e = .panicked [thrown 9])) := by
  obtain ⟨a0, d0, e0⟩ := h0.form
  obtain ⟨a1, d1, e1⟩ := h1.form
  have H0 := hideP h0
  have H1 := hideP h1
  have HC0 := hideP c0
  have HC1 := hideP c1
  clear h0 h1 c0 c1
  go_enter Tryz.func23, Tryz.ntmps23
  go_wp2_with fail
  go_loopw [3, 6] (fun _ i wr => (i = .int .i64 0 ∨ (i = .int .i64 1 ∧ Hid (Pl.okB sh da = true))) ∧ Hid (Below w.heap.size w wr)) (fun _ i _ => 1 - (intOf i).toNat)
  case atStart => exact ⟨.inl rfl, Below.refl _ _⟩
  case round =>
    obtain ⟨rfl | ⟨rfl, hok⟩, hbel⟩ := hrel
    · have c0 : wr.cell? ⟨b, 0, none⟩ = some (.slice a0 sh.length d0) := by rw [← e0]; exact (hbel.out.cell (p := ⟨b, 0, none⟩) hb).trans HC0.out
      have c1 : wr.cell? ⟨b, 1, none⟩ = some (.slice a1 da.length d1) := by rw [← e1]; exact (hbel.out.cell (p := ⟨b, 1, none⟩) hb).trans HC1.out
      have K : Hid (∀ o, Calls Tryz.prog 7 #[.agg #[.slice a0 sh.length d0, .slice a1 da.length d1]] (wr.alloc o) fun e w' => e = .returned (.bool (Pl.okB sh da)) ∧ Below wr.heap.size wr w') := fun o => by
        rw [← e0, ← e1]
        exact ok_new v0 v1 sh da wr hl0 hl1 ((H0.out.keep hbel.out).up hbel.out.size) ((H1.out.keep hbel.out).up hbel.out.size) o
      have S : Hid (w.heap.size ≤ wr.heap.size) := hbel.out.size
      clear H0 H1 HC0 HC1 e0 e1
      go_wp2_with fail
      refine (K.out _).mono ?_
      rintro e w1 ⟨rfl, hb1⟩
      have B1 := hideP (hbel.out.trans (hb1.mono S.out))
      clear hb1 c0 c1
      by_cases hq : Pl.okB sh da = true
      · have Hq := hideP hq
        rw [hq]
        clear hq
        go_wp2_with (go_at_call 36; refine (refuse_no _ _).mono ?_; rintro e w' ⟨rfl, rfl⟩)
        go_roundw
        case rel => exact ⟨.inr ⟨rfl, Hq⟩, B1⟩
        case measure => simp [intOf]
      · have hq' : Pl.okB sh da = false := by simpa using hq
        have Hq := hideP hq'
        rw [hq']
        clear hq hq'
        go_wp2_with (go_at_call 36; refine (refuse_yes _ _).mono ?_; rintro e w' ⟨rfl, rfl⟩)
        exact ⟨rfl, B1.out, .inr ⟨Hq.out, rfl⟩⟩
    · clear H0 H1 HC0 HC1 e0 e1
      go_wp2_with fail
      go_end0
      exact ⟨hbel.out, .inl ⟨hok.out, rfl⟩⟩

end Go.Proofs.YtaopohihipihdaaGreatDoor
