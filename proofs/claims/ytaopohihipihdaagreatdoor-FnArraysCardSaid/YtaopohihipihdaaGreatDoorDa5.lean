import Derived.Test.YtaopohihipihdaaGreatDoorDa3
namespace Go.Proofs.YtaopohihipihdaaGreatDoor
open Go.RowKit
set_option linter.unusedVariables false

/-- the answer laid in its variable -/
theorem sp_fill {B : Nat} {w w' : World} {v0 v1 x0 x1 : Value} {sh da : List Int} (hB : B ≤ w.heap.size) (hc : w'.heap[w.heap.size]? = some (.cells #[x0, x1] 25 (0, 0))) (r0 : Row B w' v0 sh) (r1 : Row B w' v1 da) (hb : Below B w w') (hf : K25 w w') (l0 : sh.length ≤ 4) (l1 : da.length ≤ 1001) :
    SpPost B w (.returned (.agg #[v0, v1])) ((w'.setCell ⟨w.heap.size, 0, none⟩ v0).setCell ⟨w.heap.size, 1, none⟩ v1) := by
  have g1 := grown_set w' w.heap.size 0 v0
  have g2 := grown_set (w'.setCell ⟨w.heap.size, 0, none⟩ v0) w.heap.size 1 v1
  have z1 := heap_setCell_same w' w.heap.size 0 #[x0, x1] 25 v0 hc
  exact ⟨v0, v1, sh, da, rfl, l0, l1, (r0.other hc (by decide) g1).other z1 (by decide) g2, (r1.other hc (by decide) g1).other z1 (by decide) g2, (hb.setCell (by show B ≤ w.heap.size; exact hB) _).setCell (by show B ≤ w.heap.size; exact hB) _, (hf.set (Nat.le_refl _) _ _).set (Nat.le_refl _) _ _⟩

set_option maxRecDepth 100000 in
set_option maxHeartbeats 4000000 in
/-- spec.l1DrawAny -/
theorem l1DrawAny_any (B P : Nat) (w : World) (hBw : B ≤ w.heap.size) (h : Rdr B P w) : Calls Tryz.prog 13 #[.pointer (some ⟨P, 0, none⟩)] w (SpPost B w) := by
  have hPl := h.lt
  have A1 : Below w.heap.size w (w.alloc (.cells #[.slice none 0 0, .slice none 0 0] 25)) := (Below.refl _ _).alloc (Nat.le_refl _) _
  have KN := hideP (next_any B P (w.alloc (.cells #[.slice none 0 0, .slice none 0 0] 25)) (h.keep A1))
  have F0 : Hid (K25 w (w.alloc (.cells #[.slice none 0 0, .slice none 0 0] 25))) := fun b c hc => (A1.block _ (Array.getElem?_eq_some_iff.1 hc).1).trans hc
  have ZN : Hid ((w.alloc (.cells #[.slice none 0 0, .slice none 0 0] 25)).heap[w.heap.size]? = some (.cells #[.slice none 0 0, .slice none 0 0] 25 (0, 0))) := heap_alloc_new w _
  have B0 : Hid (Below B w (w.alloc (.cells #[.slice none 0 0, .slice none 0 0] 25))) := A1.mono hBw
  have R0 := hideP (h.keep A1)
  have hsz : (w.alloc (.cells #[.slice none 0 0, .slice none 0 0] 25)).heap.size = w.heap.size + 1 := by simp
  clear h A1
  go_enter Tryz.func13, Tryz.ntmps13
  go_wp2_with fail
  refine KN.out.mono ?_
  rintro e w1 ⟨x, rfl, hx, hr, hg⟩
  have F1 := hideP (F0.out.next hg R0.out)
  have ZN1 : Hid (w1.heap[w.heap.size]? = some (.cells #[.slice none 0 0, .slice none 0 0] 25 (0, 0))) := (hg.block _ (by omega) (by intro e; injection e with e; omega)).trans ZN.out
  have B1 : Hid (Below B w w1) := B0.out.trans (grown_below hg R0.out.1 (by omega))
  have hs1 : w.heap.size + 1 ≤ w1.heap.size := by have := hg.size; rw [hsz] at this; exact this
  have KD := hideP (l1Draw_any B P w1 (by omega) hr)
  have R1 := hideP hr
  clear hr hg KN F0 ZN B0 R0 hsz
  go_wp2_with fail
  refine KD.out.mono ?_
  rintro e w2 ⟨v0, v1, sh, da, rfl, hok, hds⟩
  have D2 := hideP hds
  have F2 := hideP (F1.out.next hds.g R1.out)
  have ZN2 : Hid (w2.heap[w.heap.size]? = some (.cells #[.slice none 0 0, .slice none 0 0] 25 (0, 0))) := (hds.g.block _ (by omega) (by intro e; injection e with e; omega)).trans ZN1.out
  have B2 : Hid (Below B w w2) := B1.out.trans (grown_below hds.g R1.out.1 (by omega))
  have hs2 := hds.g.size
  obtain ⟨hm0, hm1⟩ := Pl.ok_max hok
  have LS : Hid (sh.length ≤ 3) := hm0
  have LD : Hid (da.length ≤ 1000) := hm1
  obtain ⟨g0, c0, e0, hc0, hc0'⟩ := hds.o0.form
  obtain ⟨g1, c1, e1, hc1, hc1'⟩ := hds.o1.form
  subst e0 e1
  clear hds KD F1 ZN1 B1 R1 hok hm0 hm1
  obtain ⟨w3, hw3⟩ : ∃ w3, w3 = w2.alloc (.cells #[.slice (some ⟨g0, 0, none⟩) sh.length c0, .slice (some ⟨g1, 0, none⟩) da.length c1] 25) := ⟨_, rfl⟩
  have A3 : Below w2.heap.size w2 w3 := by rw [hw3]; exact (Below.refl _ _).alloc (Nat.le_refl _) _
  have F3 := hideP (F2.out.keep A3)
  have ZN3 : Hid (w3.heap[w.heap.size]? = some (.cells #[.slice none 0 0, .slice none 0 0] 25 (0, 0))) := (A3.block _ (by omega)).trans ZN2.out
  have AN3 : Hid (w3.heap[w2.heap.size]? = some (.cells #[.slice (some ⟨g0, 0, none⟩) sh.length c0, .slice (some ⟨g1, 0, none⟩) da.length c1] 25 (0, 0))) := by rw [hw3]; exact heap_alloc_new w2 _
  have B3 : Hid (Below B w w3) := B2.out.trans (A3.mono (by omega))
  have V0 : Hid (Row B w3 (.slice (some ⟨g0, 0, none⟩) sh.length c0) sh) := (D2.out.o0.keep A3).base (by omega)
  have V1 : Hid (Row B w3 (.slice (some ⟨g1, 0, none⟩) da.length c1) da) := (D2.out.o1.keep A3).base (by omega)
  have KS := hideP (l1Spoil_any B P _ _ sh da w3 V0.out V1.out (fun e => D2.out.ne e.symm) (D2.out.r.keep A3) (by have := A3.size; omega) LS.out LD.out)
  have hs3 := A3.size
  have q0 : w3.cell? ⟨w2.heap.size, 0, none⟩ = some (.slice (some ⟨g0, 0, none⟩) sh.length c0) := by rw [Lib.cell_of_heap AN3.out]; rfl
  have q1 : w3.cell? ⟨w2.heap.size, 1, none⟩ = some (.slice (some ⟨g1, 0, none⟩) da.length c1) := by rw [Lib.cell_of_heap AN3.out]; rfl
  clear A3 F2 ZN2 B2 D2
  obtain ⟨r, hr⟩ : ∃ r : Nat, (x : Int) % 16 = (r : Int) := ⟨x % 16, by omega⟩
  go_upto_region 3 with fail
  rw [← hw3]
  clear hw3
  by_cases h15 : r = 15
  · subst h15
    go_wp2_with fail
    refine KS.out.mono ?_
    rintro e w4 ⟨v0, v1, sh', da', rfl, l0, l1, r0, r1, hb, hk⟩
    have ZN4 := hideP (hk _ _ ZN3.out)
    have F4 : Hid (K25 w w4) := fun b c hc => hk _ _ (F3.out b c hc)
    have B4 := hideP (B3.out.trans hb)
    have W0 := hideP r0
    have W1 := hideP r1
    have L0 := hideP l0
    have L1 := hideP l1
    obtain ⟨h0, d0, e0, _, _⟩ := r0.form
    obtain ⟨h1, d1, e1, _, _⟩ := r1.form
    subst e0 e1
    clear r0 r1 hb hk l0 l1 KS q0 q1 V0 V1 AN3
    have p0 : w4.cell? ⟨w.heap.size, 0, none⟩ = some (.slice none 0 0) := by rw [Lib.cell_of_heap ZN4.out]; rfl
    have p1 : w4.cell? ⟨w.heap.size, 1, none⟩ = some (.slice none 0 0) := by rw [Lib.cell_of_heap ZN4.out]; rfl
    have f2 : ∀ o, w4.frozen? ⟨w.heap.size, o, none⟩ = false := fun o => frozen_blk ZN4.out
    go_wp2_with fail
    exact bodyPost_ret (v := .agg #[.slice (some ⟨h0, 0, none⟩) sh'.length d0, .slice (some ⟨h1, 0, none⟩) da'.length d1]) (by simp [results, Tryz.results13, go_sem, p0, p1]) rfl (sp_fill hBw ZN4.out W0.out W1.out B4.out F4.out L0.out L1.out)
  · have hne : ((r : Int) == 15) = false := by rw [beq_eq_false_iff_ne]; omega
    have p0 : w3.cell? ⟨w.heap.size, 0, none⟩ = some (.slice none 0 0) := by rw [Lib.cell_of_heap ZN3.out]; rfl
    have p1 : w3.cell? ⟨w.heap.size, 1, none⟩ = some (.slice none 0 0) := by rw [Lib.cell_of_heap ZN3.out]; rfl
    have f2 : ∀ o, w3.frozen? ⟨w.heap.size, o, none⟩ = false := fun o => frozen_blk ZN3.out
    have L0 : Hid (sh.length ≤ 4) := by show _ ≤ _; have := LS.out; omega
    have L1 : Hid (da.length ≤ 1001) := by show _ ≤ _; have := LD.out; omega
    clear KS
    go_wp2_with fail
    exact bodyPost_ret (v := .agg #[.slice (some ⟨g0, 0, none⟩) sh.length c0, .slice (some ⟨g1, 0, none⟩) da.length c1]) (by simp [results, Tryz.results13, go_sem, p0, p1]) rfl (sp_fill hBw ZN3.out V0.out V1.out B3.out F3.out L0.out L1.out)

end Go.Proofs.YtaopohihipihdaaGreatDoor

namespace Go.Proofs.YtaopohihipihdaaGreatDoor
open Go.RowKit
set_option linter.unusedVariables false

/-- what DrawArrayText leaves -/
def DtPost (w : World) (e : Ending) (w' : World) : Prop := ∃ (v0 v1 : Value) (sh da : List Int), e = .returned (.agg #[v0, v1]) ∧ sh.length ≤ 4 ∧ da.length ≤ 1001 ∧ Row w.heap.size w' v0 sh ∧ Row w.heap.size w' v1 da ∧ Below w.heap.size w w'

set_option maxRecDepth 100000 in
set_option maxHeartbeats 4000000 in
/-- spec.DrawArrayText -/
theorem drawText_any (ao : Option Addr) (n cap : Nat) (w : World) (hn : n ≤ 1048576) (hcap : n ≤ cap) (hm : cap ≤ 9223372036854775807) (h : RdB w.heap.size w ao n) : Calls Tryz.prog 4 #[.slice ao n cap] w (DtPost w) := by
  have A1 : Below w.heap.size w (w.alloc (.cells #[.slice none 0 0, .slice none 0 0] 25)) := (Below.refl _ _).alloc (Nat.le_refl _) _
  have hsz : (w.alloc (.cells #[.slice none 0 0, .slice none 0 0] 25)).heap.size = w.heap.size + 1 := by simp
  have K0 := l1Open_any ao n cap (w.alloc (.cells #[.slice none 0 0, .slice none 0 0] 25)) hn hcap hm (by
    have := h.keep A1
    rcases this with h1 | ⟨b, off, h1, h2, h3⟩
    · exact .inl h1
    · exact .inr ⟨b, off, by rw [hsz]; omega, h2, h3⟩)
  rw [hsz] at K0
  have KO := hideP K0
  have ZN : Hid ((w.alloc (.cells #[.slice none 0 0, .slice none 0 0] 25)).heap[w.heap.size]? = some (.cells #[.slice none 0 0, .slice none 0 0] 25 (0, 0))) := heap_alloc_new w _
  have BA := hideP A1
  clear K0 A1 h
  go_enter Tryz.func4, Tryz.ntmps4
  go_wp2_with fail
  refine KO.out.mono ?_
  rintro e w1 ⟨rfl, hr, hb⟩
  have hs1 := hb.size
  rw [hsz] at hs1
  have ZN1 : Hid (w1.heap[w.heap.size]? = some (.cells #[.slice none 0 0, .slice none 0 0] 25 (0, 0))) := (hb.block _ (by omega)).trans ZN.out
  have B1 := hideP (BA.out.trans (hb.mono (by omega)))
  have KD := hideP (l1DrawAny_any (w.heap.size + 1) (w.heap.size + 1) w1 (by omega) hr)
  clear hr hb KO ZN BA hsz
  go_wp2_with fail
  refine KD.out.mono ?_
  rintro e w2 ⟨v0, v1, sh, da, rfl, l0, l1, r0, r1, hb, hk⟩
  have ZN2 : Hid (w2.heap[w.heap.size]? = some (.cells #[.slice none 0 0, .slice none 0 0] 25 (0, 0))) := (hb.block _ (by omega)).trans ZN1.out
  have B2 := hideP (B1.out.trans (hb.mono (by omega)))
  have W0 := hideP (r0.base (show w.heap.size ≤ _ by omega))
  have W1 := hideP (r1.base (show w.heap.size ≤ _ by omega))
  have L0 := hideP l0
  have L1 := hideP l1
  obtain ⟨h0, d0, e0, _, _⟩ := r0.form
  obtain ⟨h1, d1, e1, _, _⟩ := r1.form
  subst e0 e1
  clear r0 r1 hb hk l0 l1 KD ZN1 B1
  have p0 : w2.cell? ⟨w.heap.size, 0, none⟩ = some (.slice none 0 0) := by rw [Lib.cell_of_heap ZN2.out]; rfl
  have p1 : w2.cell? ⟨w.heap.size, 1, none⟩ = some (.slice none 0 0) := by rw [Lib.cell_of_heap ZN2.out]; rfl
  have f2 : ∀ o, w2.frozen? ⟨w.heap.size, o, none⟩ = false := fun o => frozen_blk ZN2.out
  have FI : Hid (DtPost w (.returned (.agg #[.slice (some ⟨h0, 0, none⟩) sh.length d0, .slice (some ⟨h1, 0, none⟩) da.length d1])) ((w2.setCell ⟨w.heap.size, 0, none⟩ (.slice (some ⟨h0, 0, none⟩) sh.length d0)).setCell ⟨w.heap.size, 1, none⟩ (.slice (some ⟨h1, 0, none⟩) da.length d1))) := by
    have g1 := grown_set w2 w.heap.size 0 (.slice (some ⟨h0, 0, none⟩) sh.length d0)
    have g2 := grown_set (w2.setCell ⟨w.heap.size, 0, none⟩ (.slice (some ⟨h0, 0, none⟩) sh.length d0)) w.heap.size 1 (.slice (some ⟨h1, 0, none⟩) da.length d1)
    have z1 := heap_setCell_same w2 w.heap.size 0 #[.slice none 0 0, .slice none 0 0] 25 (.slice (some ⟨h0, 0, none⟩) sh.length d0) ZN2.out
    exact ⟨_, _, sh, da, rfl, L0.out, L1.out, (W0.out.other ZN2.out (by decide) g1).other z1 (by decide) g2, (W1.out.other ZN2.out (by decide) g1).other z1 (by decide) g2, (B2.out.setCell (by simp) _).setCell (by simp) _⟩
  go_wp2_with fail
  exact bodyPost_ret (v := .agg #[.slice (some ⟨h0, 0, none⟩) sh.length d0, .slice (some ⟨h1, 0, none⟩) da.length d1]) (by simp [results, Tryz.results4, go_sem, p0, p1]) rfl FI.out

end Go.Proofs.YtaopohihipihdaaGreatDoor
