import Derived.Test.YtaopohihipihdaaGreatDoorRows2
import Derived.Test.YtaopohihipihdaaGreatDoorDyX
import Derived.Test.YtaopohihipihdaaGreatDoorLoG
import Derived.Test.YtaopohihipihdaaGreatDoorG1
import Derived.Test.YtaopohihipihdaaGreatDoorMon5
import Derived.Test.YtaopohihipihdaaGreatDoorRowG
import Derived.Test.YtaopohihipihdaaGreatDoorDyB
import Derived.Test.YtaopohihipihdaaGreatDoorDyAG
import Derived.Test.YtaopohihipihdaaGreatDoorDyY
import Derived.Test.YtaopohihipihdaaGreatDoorCopied
import Derived.Test.YtaopohihipihdaaGreatDoorCat
namespace Go.Proofs.YtaopohihipihdaaGreatDoor
open Go.RowKit
set_option linter.unusedVariables false

set_option maxRecDepth 100000 in
set_option maxHeartbeats 1000000 in
/-- impl.Monad -/
theorem monad_faceA (op : Int) (M : List Int → List Int → Int × List Int × List Int) (a0 : Option Addr) (k0 : Nat) (a1 : Option Addr) (k1 : Nat) (sh da : List Int) (w : World) (hl0 : sh.length ≤ 1048576) (hl1 : da.length ≤ 1048576) (h0 : Rd w.heap.size w (.slice a0 sh.length k0) sh) (h1 : Rd w.heap.size w (.slice a1 da.length k1) da) (c : Int) (S D : List Int) (hres : Pl.mo8 M op sh da = (c, S, D)) (hk : ∀ k : Nat, op = k → 1 ≤ k → k < 8 → Pl.okB sh da = true → M sh da = (c, S, D) → ∀ w', Below w.heap.size w w' → Calls Tryz.prog (37 + k) #[.agg #[.slice a0 sh.length k0, .slice a1 da.length k1]] w' (KPost w' c S D)) :
    Calls Tryz.prog 8 #[.int .i64 op, .agg #[.slice a0 sh.length k0, .slice a1 da.length k1]] w (FPost w c S D) := by
  have hmf : ∀ (fn : Fn) (first cap : Array Value) (w : World), (Instr.makeFunc fn first cap).run Tryz.prog w = .ok (.func fn first cap) w := fun _ _ _ _ => rfl
  have K : Hid (∀ pa po w', Below w.heap.size w w' → w'.cell? ⟨pa, 0, none⟩ = some (.slice a0 sh.length k0) → w'.cell? ⟨pa, 1, none⟩ = some (.slice a1 da.length k1) → w'.cell? ⟨po, 0, none⟩ = some (.int .i64 op) → Calls Tryz.prog 22 #[.pointer (some ⟨pa, 0, none⟩), .pointer (some ⟨po, 0, none⟩)] w' (KPost w' c S D)) :=
    fun pa po w' hb g0 g1 g4 => mc_all pa po op _ _ sh da w' hl0 hl1 ((h0.keep hb).up hb.size) ((h1.keep hb).up hb.size) g0 g1 g4 _ c S D hres
      (fun k e k0' k1' ok e2 w'' hb' => hk k e k0' k1' ok e2 w'' (hb.trans (hb'.mono hb.size)))
  clear h0 h1 hres hk
  generalize sh.length = L0 at *
  generalize da.length = L1 at *
  go_enter Tryz.func8, Tryz.ntmps8
  go_wp2_with fail
  refine (answer_any 22 _ c S D _ (callF33m _) ?_).mono ?_
  · refine K.out (w.heap.size + 1) w.heap.size _ ?_ ?_ ?_ ?_
    · exact (((((Below.refl _ _).alloc (Nat.le_refl _) _).alloc (by simp) _).alloc (by simp; omega) _).alloc (by simp; omega) _).alloc (by simp; omega) _
    · simp [go_sem]
    · simp [go_sem]
    · simp [go_sem]
  rintro e w1 ⟨hb1, u0, u1, rfl, hres⟩
  have B0 : Hid (Below w.heap.size w w1) := ((((Below.refl _ _).alloc (Nat.le_refl _) _).alloc (by simp) _).alloc (by simp; omega) _).trans (hb1.mono (by simp; omega))
  have hs := hb1.size
  simp at hs
  obtain ⟨hc, hf⟩ := bcell hb1
  have r0 : w1.cell? ⟨w.heap.size + 1 + 1, 0, none⟩ = some (.slice none 0 0) := by rw [hc (w.heap.size + 1 + 1) 0 (by simp)]; simp [go_sem]
  have r1 : w1.cell? ⟨w.heap.size + 1 + 1, 1, none⟩ = some (.slice none 0 0) := by rw [hc (w.heap.size + 1 + 1) 1 (by simp)]; simp [go_sem]
  have f3 : ∀ o, w1.frozen? ⟨w.heap.size + 1 + 1, o, none⟩ = false := fun o => by rw [hf (w.heap.size + 1 + 1) o (by simp)]; simp [go_sem]
  have R : Hid (Res (w.heap.size + 1 + 1 + 1) w1 u0 u1 S D) := by
    have := hres
    show Res _ _ _ _ _ _
    simpa using this
  obtain ⟨x0, y0, e0⟩ := hres.1.form
  obtain ⟨x1, y1, e1⟩ := hres.2.1.form
  subst e0
  subst e1
  clear hc hf hb1 hres K
  go_wp2_with fail
  refine bodyPost_ret (v := .tuple #[.agg #[.slice x0 S.length y0, .slice x1 D.length y1], .int .i64 c]) (by simp [results, Tryz.results8, go_sem, r0, r1]) rfl ⟨(B0.out.setCell (by simp; omega) _).setCell (by simp; omega) _, _, _, rfl, ?_, ?_, R.out.2.2⟩
  · exact Own.base (Own.store (Own.store R.out.1 (by omega) _) (by omega) _) (by omega)
  · exact Own.base (Own.store (Own.store R.out.2.1 (by omega) _) (by omega) _) (by omega)


set_option maxRecDepth 100000 in
set_option maxHeartbeats 1000000 in
/-- impl.Dyad -/
theorem dyad_faceA (op : Int) (M : List Int → List Int → List Int → List Int → Int × List Int × List Int) (a0 : Option Addr) (k0 : Nat) (a1 : Option Addr) (k1 : Nat) (a2 : Option Addr) (k2 : Nat) (a3 : Option Addr) (k3 : Nat) (sa da sb db : List Int) (w : World) (hl0 : sa.length ≤ 1048576) (hl1 : da.length ≤ 1048576) (hl2 : sb.length ≤ 1048576) (hl3 : db.length ≤ 1048576) (h0 : Rd w.heap.size w (.slice a0 sa.length k0) sa) (h1 : Rd w.heap.size w (.slice a1 da.length k1) da) (h2 : Rd w.heap.size w (.slice a2 sb.length k2) sb) (h3 : Rd w.heap.size w (.slice a3 db.length k3) db)
    (c : Int) (S D : List Int) (hres : Pl.dy8 M op sa da sb db = (c, S, D)) (hk : ∀ k : Nat, op = k → 1 ≤ k → k < 8 → Pl.okB sa da = true → Pl.okB sb db = true → M sa da sb db = (c, S, D) → ∀ w', Below w.heap.size w w' → Calls Tryz.prog (49 + k) #[.agg #[.slice a0 sa.length k0, .slice a1 da.length k1], .agg #[.slice a2 sb.length k2, .slice a3 db.length k3]] w' (KPost w' c S D)) :
    Calls Tryz.prog 11 #[.int .i64 op, .agg #[.slice a0 sa.length k0, .slice a1 da.length k1], .agg #[(.slice a2 sb.length k2), (.slice a3 db.length k3)]] w (FPost w c S D) := by
  have hmf : ∀ (fn : Fn) (first cap : Array Value) (w : World), (Instr.makeFunc fn first cap).run Tryz.prog w = .ok (.func fn first cap) w := fun _ _ _ _ => rfl
  have K : Hid (∀ pa pb po w', Below w.heap.size w w' → w'.cell? ⟨pa, 0, none⟩ = some (.slice a0 sa.length k0) → w'.cell? ⟨pa, 1, none⟩ = some (.slice a1 da.length k1) → w'.cell? ⟨pb, 0, none⟩ = some (.slice a2 sb.length k2) → w'.cell? ⟨pb, 1, none⟩ = some (.slice a3 db.length k3) → w'.cell? ⟨po, 0, none⟩ = some (.int .i64 op) → Calls Tryz.prog 28 #[.pointer (some ⟨pa, 0, none⟩), .pointer (some ⟨pb, 0, none⟩), .pointer (some ⟨po, 0, none⟩)] w' (KPost w' c S D)) :=
    fun pa pb po w' hb g0 g1 g2 g3 g4 => dc_all pa pb po op (.slice a0 sa.length k0) (.slice a1 da.length k1) (.slice a2 sb.length k2) (.slice a3 db.length k3) sa da sb db w' hl0 hl1 hl2 hl3 ((h0.keep hb).up hb.size) ((h1.keep hb).up hb.size) ((h2.keep hb).up hb.size) ((h3.keep hb).up hb.size) g0 g1 g2 g3 g4 _ c S D hres
      (fun k e k0' k1' oka okb e2 w'' hb' => hk k e k0' k1' oka okb e2 w'' (hb.trans (hb'.mono hb.size)))
  clear h0 h1 h2 h3 hres hk
  generalize sa.length = L0 at *
  generalize da.length = L1 at *
  generalize sb.length = L2 at *
  generalize db.length = L3 at *
  go_enter Tryz.func11, Tryz.ntmps11
  go_wp2_with fail
  refine (answer_any 28 _ c S D _ (callF30d _) ?_).mono ?_
  · refine K.out (w.heap.size + 1) (w.heap.size + 1 + 1) w.heap.size _ ?_ ?_ ?_ ?_ ?_ ?_
    · exact ((((((Below.refl _ _).alloc (Nat.le_refl _) _).alloc (by simp) _).alloc (by simp; omega) _).alloc (by simp; omega) _).alloc (by simp; omega) _).alloc (by simp; omega) _
    · simp [go_sem]
    · simp [go_sem]
    · simp [go_sem]
    · simp [go_sem]
    · simp [go_sem]
  rintro e w1 ⟨hb1, u0, u1, rfl, hres⟩
  have B0 : Hid (Below w.heap.size w w1) := (((((Below.refl _ _).alloc (Nat.le_refl _) _).alloc (by simp) _).alloc (by simp; omega) _).alloc (by simp; omega) _).trans (hb1.mono (by simp; omega))
  have hs := hb1.size
  simp at hs
  obtain ⟨hc, hf⟩ := bcell hb1
  have r0 : w1.cell? ⟨w.heap.size + 1 + 1 + 1, 0, none⟩ = some (.slice none 0 0) := by rw [hc (w.heap.size + 1 + 1 + 1) 0 (by simp)]; simp [go_sem]
  have r1 : w1.cell? ⟨w.heap.size + 1 + 1 + 1, 1, none⟩ = some (.slice none 0 0) := by rw [hc (w.heap.size + 1 + 1 + 1) 1 (by simp)]; simp [go_sem]
  have f3 : ∀ o, w1.frozen? ⟨w.heap.size + 1 + 1 + 1, o, none⟩ = false := fun o => by rw [hf (w.heap.size + 1 + 1 + 1) o (by simp)]; simp [go_sem]
  have R : Hid (Res (w.heap.size + 1 + 1 + 1 + 1) w1 u0 u1 S D) := by
    have := hres
    show Res _ _ _ _ _ _
    simpa using this
  obtain ⟨x0, y0, e0⟩ := hres.1.form
  obtain ⟨x1, y1, e1⟩ := hres.2.1.form
  subst e0
  subst e1
  clear hc hf hb1 hres K
  go_wp2_with fail
  refine bodyPost_ret (v := .tuple #[.agg #[.slice x0 S.length y0, .slice x1 D.length y1], .int .i64 c]) (by simp [results, Tryz.results11, go_sem, r0, r1]) rfl ⟨(B0.out.setCell (by simp; omega) _).setCell (by simp; omega) _, _, _, rfl, ?_, ?_, R.out.2.2⟩
  · exact Own.base (Own.store (Own.store R.out.1 (by omega) _) (by omega) _) (by omega)
  · exact Own.base (Own.store (Own.store R.out.2.1 (by omega) _) (by omega) _) (by omega)



end Go.Proofs.YtaopohihipihdaaGreatDoor

namespace Go.Proofs.YtaopohihipihdaaGreatDoor
open Go.RowKit
set_option linter.unusedVariables false

theorem take_one_on {α : Type} (l : List α) (x : α) (r : List α) (k : Nat) (h : l.length = k) : List.take (k + 1) (l ++ x :: r) = l ++ [x] := by
  subst h
  have e : (l ++ [x]).length = l.length + 1 := by simp
  rw [show l ++ x :: r = (l ++ [x]) ++ r by simp, ← e]
  exact List.take_left

/-- append(s, make([]int, 0)...) -/
theorem app_make0 (w : World) (g n cap : Nat) (ty : TypeId) (hnc : n ≤ cap) : (Builtin.append_ #[23, 3] ty #[.slice (some ⟨g, 0, none⟩) n cap, .int .i64 0]).run Tryz.prog w = .ok (.slice (some ⟨g, 0, none⟩) n cap) w := by
  obtain ⟨i0, hi, hz0, hz1, hz2⟩ := info_parts Tryz.info3
  have hw : IntKind.i64.wrap 0 = 0 := by rw [IntKind.wrap_i64]; omega
  simp [Builtin.append_, run_underlying Tryz.underlying23, run_underlying Tryz.underlying3, sizeOf, typeInfo, hi, hw, asInt, asIntOf, hnc, storeCells]

/-- append(s, make([]int, 1)...) -/
theorem app_make1 {base g n cap : Nat} (w : World) (xs : List Int) (hown : w.ownsRow base 3 1 (.slice (some ⟨g, 0, none⟩) n cap) n (xs.map (Value.int .i64))) (hn : n ≤ 1000) (hbase : base ≤ w.heap.size) (ty : TypeId) :
    ∃ v' w', (Builtin.append_ #[23, 3] ty #[.slice (some ⟨g, 0, none⟩) n cap, .int .i64 1]).run Tryz.prog w = .ok v' w' ∧ w'.ownsRow base 3 1 v' (n + 1) ((xs ++ [0]).map (Value.int .i64)) ∧ w.grownBy w' (some g) ∧ (v'.ownBlock = some g ∨ v'.ownBlock = some w.heap.size) := by
  obtain ⟨i0, hi, hz0, hz1, hz2⟩ := info_parts Tryz.info3
  have hw : IntKind.i64.wrap 1 = 1 := by rw [IntKind.wrap_i64]; omega
  have hzc : Builtin.zeroCells (Value.int .i64 0).cells 1 = #[.int .i64 0] := by
    apply Array.ext'
    simp [Builtin.zeroCells, Value.cells, Array.range]
  have hxl : (xs.map (Value.int .i64)).length = n := by simpa using hown.1
  have hlen : ((xs ++ [0]).map (Value.int .i64)).length = (n + 1) * 1 := by simp at hxl ⊢; omega
  rcases hown.2 with ⟨e, _⟩ | ⟨g', cap', cur, e, hbg, hg, hnc, hcm, hcs, htake⟩
  · simp at e
  · simp only [Value.slice.injEq, Option.some.injEq, Addr.mk.injEq] at e
    obtain ⟨⟨rfl, _⟩, _, rfl⟩ := e
    by_cases hroom : n + 1 ≤ cap
    · have hst := run_storeCells_at Tryz.prog g n 3 [Value.int .i64 0] 0 cur w hg (by simp at hcs ⊢; omega) (by simp [Value.oneCell'])
      simp only [Nat.add_zero] at hst
      refine ⟨_, _, by simp [Builtin.append_, run_underlying Tryz.underlying23, run_underlying Tryz.underlying3, sizeOf, typeInfo, zeroValue, hi, hz0, hz1, hz2, hw, asInt, asIntOf, hroom, hzc, Addr.add_lit, hst]; rfl, ⟨hlen, .inr ⟨g, cap, _, rfl, hbg, setRow_heap w g cur _ 3 _ hg, hroom, hcm, ?_, ?_⟩⟩, ⟨rfl, rfl, rfl, by simp, fun k _ hk => setRow_other w g k _ (fun e => hk (by rw [e]))⟩, .inl rfl⟩
      · simp only [List.size_toArray, List.length_append, List.length_take, Array.length_toList]
        simp at hcs ⊢
        omega
      · have ht : List.take n cur.toList = xs.map (Value.int .i64) := by simpa using htake
        rw [ht]
        have e : (xs.map (Value.int .i64) ++ [Value.int .i64 0]).length = (n + 1) * 1 := by simp at hxl ⊢; omega
        have e2 : (xs ++ [0]).map (Value.int .i64) = xs.map (Value.int .i64) ++ [Value.int .i64 0] := by simp
        rw [e2, ← e]
        simp
        exact take_one_on _ _ _ _ (by simp)
    · have holds : ∀ j u, (xs.map (Value.int .i64))[j]? = some u → w.cell? ((⟨g, 0, none⟩ : Addr).add j) = some u := hown.cells (g := g) rfl
      have hfit : Builtin.nextslicecap (n + 1) cap * i0.bytes ≤ 281474976710656 := growslice_fits (by omega) (by rw [hz2]; omega)
      have hn1 : ¬ (n + 1 ≤ cap) := hroom
      have h48' : ¬ (281474976710656 < Builtin.nextslicecap (n + 1) cap * i0.bytes) := by omega
      have hfo := run_firstCells_some (P := Tryz.prog) w.drew 1 n ⟨g, 0, none⟩ n cap (xs.map (Value.int .i64)) (by rw [hxl, Nat.mul_one]) (by simpa using holds)
      have hge := grownCap_ge w (n + 1) cap 3
      have hcm2 : grownCap w (n + 1) cap 3 ≤ maxLen := grownCap_le_maxLen w (n + 1) cap 3 (by unfold maxLen; omega)
      refine ⟨.slice (some ⟨w.heap.size, 0, none⟩) (n + 1) (grownCap w (n + 1) cap 3), w.drew.alloc (.cells ((xs.map (Value.int .i64)).toArray ++ #[.int .i64 0] ++ Builtin.zeroCells (Value.int .i64 0).cells (grownCap w (n + 1) cap 3 - (n + 1))) 3), ?_, ⟨hlen, .inr ⟨w.heap.size, _, _, rfl, hbase, heap_alloc_new w.drew _, hge, hcm2, ?_, ?_⟩⟩, ⟨rfl, rfl, rfl, by simp, fun k hk _ => Below.heap_alloc w.drew _ k hk⟩, .inr rfl⟩
      · have hby : ¬ (281474976710656 < (i0.bytes : Int)) := by rw [hz2]; decide
        have h63 : ¬ (9223372036854775807 < (n : Int) + max 1 0) := by omega
        simp [Builtin.append_, run_underlying Tryz.underlying23, run_underlying Tryz.underlying3, sizeOf, typeInfo, zeroValue, hi, hz0, hz1, hw, asInt, asIntOf, hn1, h48', hzc, hby, h63, Question.forced, hfo, newRow, grownCap]
      · have h1 : (Value.int .i64 0).cells.size = 1 := rfl
        simp at hxl
        simp [size_zeroCells, h1]
        omega
      · have e : (xs.map (Value.int .i64) ++ [Value.int .i64 0]).length = (n + 1) * 1 := by simp at hxl ⊢; omega
        have e2 : (xs ++ [0]).map (Value.int .i64) = xs.map (Value.int .i64) ++ [Value.int .i64 0] := by simp
        rw [e2, ← e]
        simp
        exact take_one_on _ _ _ _ (by simp)

end Go.Proofs.YtaopohihipihdaaGreatDoor

namespace Go.Proofs.YtaopohihipihdaaGreatDoor
open Go.RowKit
set_option linter.unusedVariables false

/-- a drawn array and the reader -/
structure DrSt (B P : Nat) (w : World) (v0 v1 : Value) (sh da : List Int) (w' : World) : Prop where
  o0 : Row w.heap.size w' v0 sh
  o1 : Row w.heap.size w' v1 da
  ne : ¬ v0.ownBlock = v1.ownBlock
  r : Rdr B P w'
  g : w.grownBy w' (some P)
def DrPost (B P : Nat) (w : World) (e : Ending) (w' : World) : Prop := ∃ (v0 v1 : Value) (sh da : List Int), e = .returned (.agg #[v0, v1]) ∧ Pl.okB sh da = true ∧ DrSt B P w v0 v1 sh da w'

/-- a variable of the answer's own filled -/
theorem DrSt.fill {B P N : Nat} {w w' : World} {v0 v1 : Value} {sh da : List Int} {c : Array Value} (h : DrSt B P w v0 v1 sh da w') (hB : B ≤ w.heap.size) (hN : w.heap.size ≤ N) (hP : ¬ N = P) (hc : w'.heap[N]? = some (.cells c 25 (0, 0))) (j : Nat) (u : Value) : DrSt B P w v0 v1 sh da (w'.setCell ⟨N, j, none⟩ u) := by
  have g1 := grown_set w' N j u
  refine ⟨h.o0.other hc (by decide) g1, h.o1.other hc (by decide) g1, h.ne, h.r.kept g1 (fun k hk => ?_), grown_trans h.g g1 (fun i e => .inr (by injection e with e; omega))⟩
  injection hk with hk
  subst hk
  exact ⟨by omega, hP⟩
theorem DrSt.fill2 {B P N : Nat} {w w' : World} {v0 v1 : Value} {sh da : List Int} {x0 x1 : Value} (h : DrSt B P w v0 v1 sh da w') (hB : B ≤ w.heap.size) (hN : w.heap.size ≤ N) (hP : ¬ N = P) (hc : w'.heap[N]? = some (.cells #[x0, x1] 25 (0, 0))) (u0 u1 : Value) : DrSt B P w v0 v1 sh da ((w'.setCell ⟨N, 0, none⟩ u0).setCell ⟨N, 1, none⟩ u1) :=
  (h.fill hB hN hP hc 0 u0).fill hB hN hP (heap_setCell_same w' N 0 #[x0, x1] 25 u0 hc) 1 u1

set_option maxRecDepth 100000 in
set_option maxHeartbeats 4000000 in
/-- spec.l1Draw -/
theorem l1Draw_any (B P : Nat) (w : World) (hBw : B ≤ w.heap.size) (h : Rdr B P w) : Calls Tryz.prog 31 #[.pointer (some ⟨P, 0, none⟩)] w (DrPost B P w) := by
  have hPl := h.lt
  have A1 : Below w.heap.size w (w.alloc (.cells #[.slice none 0 0, .slice none 0 0] 25)) := (Below.refl _ _).alloc (Nat.le_refl _) _
  have KS := hideP (l1Shape_any B P (w.alloc (.cells #[.slice none 0 0, .slice none 0 0] 25)) (by simp; omega) (h.keep A1))
  have GZ : Hid (w.grownBy (w.alloc (.cells #[.slice none 0 0, .slice none 0 0] 25)) (some P)) := grown_of_b A1 _
  have ZN : Hid ((w.alloc (.cells #[.slice none 0 0, .slice none 0 0] 25)).heap[w.heap.size]? = some (.cells #[.slice none 0 0, .slice none 0 0] 25 (0, 0))) := heap_alloc_new w _
  have hsz : (w.alloc (.cells #[.slice none 0 0, .slice none 0 0] 25)).heap.size = w.heap.size + 1 := by simp
  clear h A1
  go_enter Tryz.func31, Tryz.ntmps31
  go_wp2_with fail
  refine KS.out.mono ?_
  rintro e w1 ⟨sv, sh, rfl, hf, hns⟩
  have S1 := hideP hns
  obtain ⟨c, hc⟩ := hns.r.blk
  have V1 : Hid (Row (w.heap.size + 1) w1 sv sh) := ⟨by have := hns.o; rw [hsz] at this; exact this, hns.k⟩
  have KF := hideP (l1Fill_any B P sv sh w1 hns.r hf (fun w'' hg => (V1.out.other hc (by decide) hg).own.rd))
  obtain ⟨sg, sc, es, hs1, hs2⟩ := hns.form
  subst es
  clear hns KS
  go_wp2_with fail
  refine KF.out.mono ?_
  rintro e w2 ⟨va, da, rfl, hdl, hdr, ho, hk, hr, hg⟩
  have hs01 : w.heap.size + 1 ≤ w1.heap.size := by have := S1.out.s; rw [hsz] at this; exact this
  have OK := hideP (ok_of hf hdl hdr)
  have DS : Hid (DrSt B P w (.slice (some ⟨sg, 0, none⟩) sh.length sc) va sh da w2) := by
    refine ⟨(V1.out.other hc (by decide) hg).base (by omega), ⟨owns_base ho (by omega), hk⟩, ?_, hr, grown_trans (grown_trans GZ.out S1.out.g (fun i e => .inl (by injection e with e; exact e.symm))) hg (fun i e => .inl (by injection e with e; exact e.symm))⟩
    intro e
    have h1 := (V1.out.1.lt sg rfl).2
    have h2 := (ho.lt sg (e.symm.trans rfl)).1
    omega
  have Z2 : Hid (w2.heap[w.heap.size]? = some (.cells #[.slice none 0 0, .slice none 0 0] 25 (0, 0))) := ((hg.block _ (by omega) (by intro e; injection e with e; omega)).trans (S1.out.g.block _ (by omega) (by intro e; injection e with e; omega))).trans ZN.out
  obtain ⟨dg, dc, ed, hd1, hd2⟩ := DS.out.o1.form
  subst ed
  clear hf hdl hdr ho hk hr hg KF V1 hc S1 GZ ZN
  have r0 : w2.cell? ⟨w.heap.size, 0, none⟩ = some (.slice none 0 0) := by rw [Lib.cell_of_heap Z2.out]; rfl
  have r1 : w2.cell? ⟨w.heap.size, 1, none⟩ = some (.slice none 0 0) := by rw [Lib.cell_of_heap Z2.out]; rfl
  have f2 : ∀ o, w2.frozen? ⟨w.heap.size, o, none⟩ = false := fun o => frozen_blk Z2.out
  go_wp2_with fail
  refine bodyPost_ret (v := .agg #[.slice (some ⟨sg, 0, none⟩) sh.length sc, .slice (some ⟨dg, 0, none⟩) da.length dc]) (by simp [results, Tryz.results31, go_sem, r0, r1]) rfl ⟨_, _, sh, da, rfl, OK.out, DS.out.fill2 hBw (Nat.le_refl _) (by omega) Z2.out _ _⟩

end Go.Proofs.YtaopohihipihdaaGreatDoor
