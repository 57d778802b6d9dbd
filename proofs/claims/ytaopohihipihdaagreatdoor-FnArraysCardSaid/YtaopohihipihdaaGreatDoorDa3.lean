import Derived.Test.YtaopohihipihdaaGreatDoorDa2
namespace Go.Proofs.YtaopohihipihdaaGreatDoor
open Go.RowKit
set_option linter.unusedVariables false

theorem SpSt.new {B P : Nat} {w : World} {v0 v1 : Value} {sh da : List Int} (h0 : Row B w v0 sh) (h1 : Row B w v1 da) (hne : ¬ v1.ownBlock = v0.ownBlock) (hr : Rdr B P w) (hB : B ≤ w.heap.size) :
    SpSt B P w.heap.size w v0 v1 sh da ((w.alloc (.cells #[v0, v1] 25)).alloc (.cells #[.slice none 0 0, .slice none 0 0] 25)) := by
  have A2 : Below w.heap.size w ((w.alloc (.cells #[v0, v1] 25)).alloc (.cells #[.slice none 0 0, .slice none 0 0] 25)) := ((Below.refl _ _).alloc (Nat.le_refl _) _).alloc (by simp) _
  refine ⟨h0.keep A2, h1.keep A2, hne, hr.keep A2, ?_, ?_, A2.mono hB, hr.lt, by simp; omega, hB, fun b c hc => (A2.block _ (Array.getElem?_eq_some_iff.1 hc).1).trans hc, Nat.le_refl _⟩
  · rw [Below.heap_alloc _ _ _ (by simp)]; exact heap_alloc_new w _
  · have := heap_alloc_new (w.alloc (.cells #[v0, v1] 25)) (.cells #[.slice none 0 0, .slice none 0 0] 25)
    simpa using this

theorem sp_cells {A : Nat} {w : World} {v0 v1 : Value} (h : w.heap[A]? = some (.cells #[v0, v1] 25 (0, 0))) (hz : w.heap[A + 1]? = some (.cells #[.slice none 0 0, .slice none 0 0] 25 (0, 0))) :
    (w.cell? ⟨A, 0, none⟩ = some v0 ∧ w.cell? ⟨A, 1, none⟩ = some v1 ∧ ∀ o, w.frozen? ⟨A, o, none⟩ = false) ∧ w.cell? ⟨A + 1, 0, none⟩ = some (.slice none 0 0) ∧ w.cell? ⟨A + 1, 1, none⟩ = some (.slice none 0 0) ∧ ∀ o, w.frozen? ⟨A + 1, o, none⟩ = false :=
  ⟨⟨by rw [Lib.cell_of_heap h]; rfl, by rw [Lib.cell_of_heap h]; rfl, fun o => frozen_blk h⟩, by rw [Lib.cell_of_heap hz]; rfl, by rw [Lib.cell_of_heap hz]; rfl, fun o => frozen_blk hz⟩

set_option maxRecDepth 100000 in
set_option maxHeartbeats 8000000 in
/-- spec.l1Spoil -/
theorem l1Spoil_any (B P : Nat) (v0 v1 : Value) (sh da : List Int) (w : World) (h0 : Row B w v0 sh) (h1 : Row B w v1 da) (hne : ¬ v1.ownBlock = v0.ownBlock) (hr : Rdr B P w) (hB : B ≤ w.heap.size) (hs : sh.length ≤ 3) (hd : da.length ≤ 1000) :
    Calls Tryz.prog 32 #[.pointer (some ⟨P, 0, none⟩), .agg #[v0, v1]] w (SpPost B w) := by
  have S0 := hideP (SpSt.new h0 h1 hne hr hB)
  have KN := hideP (next_any B P _ S0.out.r)
  obtain ⟨g0, c0, e0, hc0, hc0'⟩ := h0.form
  obtain ⟨g1, c1, e1, hc1, hc1'⟩ := h1.form
  subst e0 e1
  have HS := hideP hs
  have HD := hideP hd
  have hA : w.heap.size = w.heap.size := rfl
  clear h0 h1 hne hr hB hs hd hA
  go_enter Tryz.func32, Tryz.ntmps32
  go_wp2_with fail
  refine KN.out.mono ?_
  rintro e w1 ⟨x, rfl, hx, hr, hg⟩
  have S1 := hideP (S0.out.next hg hr)
  clear hr hg KN S0
  obtain ⟨A, hA⟩ : ∃ A, w.heap.size = A := ⟨_, rfl⟩
  rw [hA] at S1 ⊢
  obtain ⟨r, hr⟩ : ∃ r : Nat, (x : Int) % 5 = (r : Int) := ⟨x % 5, by omega⟩
  have hr5 : r = 0 ∨ r = 1 ∨ r = 2 ∨ r = 3 ∨ r = 4 := by omega
  rcases hr5 with rfl | rfl | rfl | rfl | rfl
  · obtain ⟨z, hz⟩ : ∃ z : Int, (x : Int) / 5 % 4 = z := ⟨_, rfl⟩
    have S2 : Hid (SpSt B P A w _ _ sh da (w1.alloc (.cells #[.int .i64 z] 3))) := S1.out.keep ((Below.refl _ _).alloc (Nat.le_refl _) _)
    have c00 := S1.out.cells.1.1
    have RO : Hid (Rd (w1.heap.size + 1) (w1.alloc (.cells #[.int .i64 z] 3)) (.slice (some ⟨w1.heap.size, 0, none⟩) 1 1) [z]) := rd_lit1 w1 z _ (by omega)
    go_wp2_with (at_builtin; refine wpList_append_rd_at (base := B) _ rfl (.tmp 12) (.tmp 16) rfl (.slice (some ⟨g0, 0, none⟩) sh.length c0) (.slice (some ⟨w1.heap.size, 0, none⟩) 1 1) rfl rfl sh.length sh [z] S2.out.o0.1 RO.out (by have := HS.out; simp; omega) S2.out.k ?_)
    intro v' w3 ho hg hat
    have S3 := hideP (S2.out.app0 hg ho (by simp) hat)
    obtain ⟨g', c', ev, hv1, hv2⟩ := S3.out.o0.form
    subst ev
    obtain ⟨⟨q0, q1, q2⟩, q3, q4, q5⟩ := sp_cells (S2.out.row S2.out.o0 hg).1 (S2.out.row S2.out.o0 hg).2.1
    have L1 : Hid ((sh ++ [z]).length ≤ 4) := by show _ ≤ _; have := HS.out; simp; omega
    have L2 : Hid (da.length ≤ 1001) := by show _ ≤ _; have := HD.out; omega
    clear S1 S2 c00 ho hg hat RO
    go_wp2_with fail
    have SD := S3.out.done L1.out L2.out
    rw [show (sh ++ [(z : Int)]).length = sh.length + 1 by simp] at SD
    exact bodyPost_ret (v := .agg #[.slice (some ⟨g', 0, none⟩) (sh.length + 1) c', .slice (some ⟨g1, 0, none⟩) da.length c1]) (by simp [results, Tryz.results32, go_sem, q3, q4]) rfl SD
  · have S2 : Hid (SpSt B P A w _ _ sh da (w1.alloc (.cells #[.int .i64 0] 3))) := S1.out.keep ((Below.refl _ _).alloc (Nat.le_refl _) _)
    have c00 := S1.out.cells.1.2.1
    have RO : Hid (Rd (w1.heap.size + 1) (w1.alloc (.cells #[.int .i64 0] 3)) (.slice (some ⟨w1.heap.size, 0, none⟩) 1 1) [0]) := rd_lit1 w1 0 _ (by omega)
    go_wp2_with (at_builtin; refine wpList_append_rd_at (base := B) _ rfl (.tmp 23) (.tmp 24) rfl (.slice (some ⟨g1, 0, none⟩) da.length c1) (.slice (some ⟨w1.heap.size, 0, none⟩) 1 1) rfl rfl da.length da [0] S2.out.o1.1 RO.out (by have := HD.out; simp; omega) S2.out.k ?_)
    intro v' w3 ho hg hat
    have S3 := hideP (S2.out.app1 hg ho (by simp) hat)
    obtain ⟨g', c', ev, hv1, hv2⟩ := S3.out.o1.form
    subst ev
    obtain ⟨⟨q0, q1, q2⟩, q3, q4, q5⟩ := sp_cells (S2.out.row S2.out.o1 hg).1 (S2.out.row S2.out.o1 hg).2.1
    have L1 : Hid ((da ++ [0]).length ≤ 1001) := by show _ ≤ _; have := HD.out; simp; omega
    have L2 : Hid (sh.length ≤ 4) := by show _ ≤ _; have := HS.out; omega
    clear S1 S2 c00 ho hg hat RO
    go_wp2_with fail
    have SD := S3.out.done L2.out L1.out
    rw [show (da ++ [(0 : Int)]).length = da.length + 1 by simp] at SD
    exact bodyPost_ret (v := .agg #[.slice (some ⟨g0, 0, none⟩) sh.length c0, .slice (some ⟨g', 0, none⟩) (da.length + 1) c']) (by simp [results, Tryz.results32, go_sem, q3, q4]) rfl SD
  · by_cases hd0 : 0 < da.length
    · have hd0' : (0 : Int) < (da.length : Int) := by omega
      obtain ⟨q, hq0⟩ : ∃ q : Nat, x / 5 % da.length = q := ⟨_, rfl⟩
      have hqd : q < da.length := by rw [← hq0]; exact Nat.mod_lt _ hd0
      have hq : (x : Int) / 5 % (da.length : Int) = (q : Int) := by rw [← hq0]; simp
      obtain ⟨x5, hx5⟩ : ∃ x5 : Nat, (x : Int) / 5 = (x5 : Int) := ⟨x / 5, by simp⟩
      have hx50 : x5 ≤ 255 := by omega
      have hqt : (x5 : Int).tmod (da.length : Int) = (q : Int) := by rw [Int.tmod_eq_emod_of_nonneg (by omega), ← hx5, hq]
      have hw5 : IntKind.i64.wrap (x5 : Int) = (x5 : Int) := by rw [IntKind.wrap_i64]; omega
      have S3 := hideP ((S1.out.cell rfl q 3000000001).keep (Below.refl _ _).drew)
      have hfz := S1.out.o1.1.frozenAt q
      have hcc : w1.cell? ⟨g1, q, none⟩ = some (.int .i64 (da.getD q 0)) := by
        have := (rd_cell S1.out.o1.own.rd hqd).2
        rw [Nat.zero_add] at this
        exact this
      generalize da.getD q 0 = y at hcc
      obtain ⟨⟨q0, q1, q2⟩, q3, q4, q5⟩ := S1.out.cells
      have L1 : Hid ((da.set q 3000000001).length ≤ 1001) := by show _ ≤ _; have := HD.out; simp; omega
      have L2 : Hid (sh.length ≤ 4) := by show _ ≤ _; have := HS.out; omega
      have hdn : ¬ (da.length : Int) = 0 := by omega
      have hqi : (q : Int) < (da.length : Int) := by omega
      generalize hld : da.length = ld at *
      have hdz : ¬ ld = 0 := by omega
      clear hld hq0 hq hd0 S1
      go_wp2_with fail
      clear q2 q3 q4 q5 hr hx
      go_region
      obtain ⟨⟨q0, q1', q2⟩, q3, q4, q5⟩ := S3.out.cells
      clear q1 hcc hfz
      generalize (w1.setCell ⟨g1, q, none⟩ (.int .i64 3000000001)).drew = w3 at *
      go_wp2_with fail
      have SE := S3.out.done L2.out L1.out
      exact bodyPost_ret (v := .agg #[.slice (some ⟨g0, 0, none⟩) sh.length c0, .slice (some ⟨g1, 0, none⟩) ld c1]) (by simp [results, Tryz.results32, go_sem, q3, q4]) rfl SE
    · have hdz : da.length = 0 := by omega
      have c01 := S1.out.cells.1.2.1
      have hdn : ¬ ((0 : Int) < (da.length : Int)) := by omega
      have S2 : Hid (SpSt B P A w _ _ sh da (w1.alloc (.cells #[.int .i64 1000] 3))) := S1.out.keep ((Below.refl _ _).alloc (Nat.le_refl _) _)
      have RL : Hid (Row B (w1.alloc (.cells #[.int .i64 1000] 3)) (.slice (some ⟨w1.heap.size, 0, none⟩) 1 1) [1000]) := ⟨owns_one w1 1000 B S1.out.k, ⟨_, rfl⟩⟩
      have KF := hideP (l1Fill_any B P (.slice (some ⟨w1.heap.size, 0, none⟩) 1 1) [1000] _ S2.out.r (by decide) (fun w'' hg => by obtain ⟨c, hc⟩ := S2.out.r.blk; exact (RL.out.other hc (by decide) hg).own.rd))
      go_wp2_with fail
      refine KF.out.mono ?_
      rintro e w3 ⟨va, db, rfl, hdl, hdr, ho, hk, hr3, hg⟩
      have hdb : db.length = 1000 := by
        have e : Pl.prodC [1000] = 1000 := by decide
        rw [e] at hdl
        exact_mod_cast hdl
      have hgs := hg.size
      simp at hgs
      have RL3 : Hid (Row B w3 (.slice (some ⟨w1.heap.size, 0, none⟩) 1 1) [1000]) := by
        obtain ⟨c, hc⟩ := S2.out.r.blk
        exact RL.out.other hc (by decide) hg
      have S3 := hideP (S2.out.next hg hr3)
      have RD3 : Hid (Row B w3 va db) := ⟨owns_base ho (by have := S1.out.k; simp; omega), hk⟩
      have NB : Hid (¬ va.ownBlock = some w1.heap.size) := fun e => by have := (ho.lt _ e).1; simp at this; omega
      have S4 := hideP (S3.out.put0 RL3.out (fun e => absurd (S1.out.o1.1.lt w1.heap.size e).2 (Nat.lt_irrefl _)))
      have S5 := hideP (S4.out.put1 (RD3.out.other S3.out.a (by decide) (grown_set w3 A 0 _)) (fun e => NB.out e))
      have HDB := hideP hdb
      obtain ⟨dg, dc, ed, hd1, hd2⟩ := RD3.out.form
      subst ed
      obtain ⟨⟨q0, q1, q2⟩, q3, q4, q5⟩ := S3.out.cells
      clear hdl hdr ho hk hr3 hg KF S2 hdb RL RL3 RD3 NB S1
      go_upto_region 11 with fail
      clear S3 S4 q0 q1 q2 q3 q4 q5
      generalize ((w3.setCell ⟨A, 0, none⟩ (.slice (some ⟨w1.heap.size, 0, none⟩) 1 1)).setCell ⟨A, 1, none⟩ (.slice (some ⟨dg, 0, none⟩) db.length dc)) = w5 at *
      obtain ⟨u, hu⟩ : ∃ u : Nat, (x : Int) / 128 = (u : Int) := ⟨x / 128, by simp⟩
      have hu1 : u = 0 ∨ u = 1 := by omega
      have hwr : IntKind.i64.wrap (1000 + (u : Int)) = 1000 + (u : Int) := by rw [IntKind.wrap_i64]; omega
      have S6 : Hid (SpSt B P A w _ _ [1000] db (w5.alloc (.cells #[.int .i64 (1000 + (u : Int))] 3))) := S5.out.keep ((Below.refl _ _).alloc (Nat.le_refl _) _)
      have S7 := hideP (S6.out.put0 (v := .slice (some ⟨w5.heap.size, 0, none⟩) 1 1) (zs := [1000 + (u : Int)]) ⟨owns_one w5 _ B S5.out.k, ⟨_, rfl⟩⟩ (fun e => absurd (S5.out.o1.1.lt w5.heap.size e).2 (Nat.lt_irrefl _)))
      obtain ⟨⟨q0, q1, q2⟩, q3, q4, q5⟩ := S6.out.cells
      clear S5
      go_upto_region 12 with fail
      clear S6 q0 q1 q2 q3 q4 q5
      generalize ((w5.alloc (.cells #[.int .i64 (1000 + (u : Int))] 3)).setCell ⟨A, 0, none⟩ (.slice (some ⟨w5.heap.size, 0, none⟩) 1 1)) = w7 at *
      obtain ⟨⟨q0, q1, q2⟩, q3, q4, q5⟩ := S7.out.cells
      have L1 : Hid ([1000 + (u : Int)].length ≤ 4) := by show _ ≤ _; simp
      rcases hu1 with rfl | rfl
      · have HR := hideP (app_make0 w7 dg db.length dc 23 hd1)
        have S8 := hideP (S7.out.put1 S7.out.o1 S7.out.ne)
        have L2 : Hid (db.length ≤ 1001) := by show _ ≤ _; have := HDB.out; omega
        go_wp2_with (at_builtin; refine wpList_append_eq _ _ rfl _ _ _ rfl _ _ _ rfl rfl HR.out ?_)
        have SE := S8.out.done L1.out L2.out
        exact bodyPost_ret (v := .agg #[.slice (some ⟨w5.heap.size, 0, none⟩) 1 1, .slice (some ⟨dg, 0, none⟩) db.length dc]) (by simp [results, Tryz.results32, go_sem, q3, q4]) rfl SE
      · obtain ⟨v', w8, hrun, ho, hg, hat⟩ := app_make1 w7 db S7.out.o1.1 (by have := HDB.out; omega) S7.out.k 23
        have HR := hideP hrun
        have S8 := hideP (S7.out.app1 (x := 0) hg (by rw [List.map_append] at ho; exact ho) (Nat.le_refl _) hat)
        have hcell := (S7.out.row S7.out.o1 hg)
        obtain ⟨⟨p0, p1, p2⟩, p3, p4, p5⟩ := sp_cells hcell.1 hcell.2.1
        obtain ⟨g', c', ev, hv1, hv2⟩ := S8.out.o1.form
        subst ev
        have L2 : Hid ((db ++ [(0 : Int)]).length ≤ 1001) := by show _ ≤ _; have := HDB.out; simp; omega
        have el : (db ++ [(0 : Int)]).length = db.length + 1 := by simp
        clear hrun ho hg hat hcell
        go_wp2_with (at_builtin; refine wpList_append_eq _ _ rfl _ _ _ rfl _ _ _ rfl rfl HR.out ?_)
        have SE := S8.out.done L1.out L2.out
        rw [el] at SE
        exact bodyPost_ret (v := .agg #[.slice (some ⟨w5.heap.size, 0, none⟩) 1 1, .slice (some ⟨g', 0, none⟩) (db.length + 1) c']) (by simp [results, Tryz.results32, go_sem, p3, p4]) rfl SE
  · have S2 : Hid (SpSt B P A w _ _ sh da (w1.alloc (.cells #[.int .i64 (-1), .int .i64 (x : Int)] 3))) := S1.out.keep ((Below.refl _ _).alloc (Nat.le_refl _) _)
    have RL : Hid (Row B (w1.alloc (.cells #[.int .i64 (-1), .int .i64 (x : Int)] 3)) (.slice (some ⟨w1.heap.size, 0, none⟩) 2 2) [-1, (x : Int)]) := ⟨World.ownsRow_lit w1 #[.int .i64 (-1), .int .i64 (x : Int)] 2 S1.out.k (by unfold maxLen; omega) rfl, ⟨_, rfl⟩⟩
    have S3 := hideP (S2.out.put0 RL.out (by
      intro e
      exact absurd (S1.out.o1.1.lt w1.heap.size e).2 (Nat.lt_irrefl _)))
    obtain ⟨⟨q0, q1, q2⟩, q3, q4, q5⟩ := S2.out.cells
    have L1 : Hid ([-1, (x : Int)].length ≤ 4) := by show _ ≤ _; simp
    have L2 : Hid (da.length ≤ 1001) := by show _ ≤ _; have := HD.out; omega
    clear S1 S2 RL
    go_wp2_with fail
    have SD := S3.out.done L1.out L2.out
    exact bodyPost_ret (v := .agg #[.slice (some ⟨w1.heap.size, 0, none⟩) 2 2, .slice (some ⟨g1, 0, none⟩) da.length c1]) (by simp [results, Tryz.results32, go_sem, q3, q4]) rfl SD
  · have S2 : Hid (SpSt B P A w _ _ sh da (w1.alloc (.cells #[.int .i64 1000] 3))) := S1.out.keep ((Below.refl _ _).alloc (Nat.le_refl _) _)
    have RL : Hid (Row B (w1.alloc (.cells #[.int .i64 1000] 3)) (.slice (some ⟨w1.heap.size, 0, none⟩) 1 1) [1000]) := ⟨owns_one w1 1000 B S1.out.k, ⟨_, rfl⟩⟩
    have KF := hideP (l1Fill_any B P (.slice (some ⟨w1.heap.size, 0, none⟩) 1 1) [1000] _ S2.out.r (by decide) (fun w'' hg => by obtain ⟨c, hc⟩ := S2.out.r.blk; exact (RL.out.other hc (by decide) hg).own.rd))
    go_wp2_with fail
    refine KF.out.mono ?_
    rintro e w3 ⟨va, db, rfl, hdl, hdr, ho, hk, hr3, hg⟩
    have hdb : db.length = 1000 := by
      have e : Pl.prodC [1000] = 1000 := by decide
      rw [e] at hdl
      exact_mod_cast hdl
    have hgs := hg.size
    simp at hgs
    have RL3 : Hid (Row B w3 (.slice (some ⟨w1.heap.size, 0, none⟩) 1 1) [1000]) := by
      obtain ⟨c, hc⟩ := S2.out.r.blk
      exact RL.out.other hc (by decide) hg
    have S3 := hideP (S2.out.next hg hr3)
    have RD3 : Hid (Row B w3 va db) := ⟨owns_base ho (by have := S1.out.k; simp; omega), hk⟩
    have NB : Hid (¬ va.ownBlock = some w1.heap.size) := fun e => by have := (ho.lt _ e).1; simp at this; omega
    have S4 := hideP (S3.out.put0 RL3.out (fun e => absurd (S1.out.o1.1.lt w1.heap.size e).2 (Nat.lt_irrefl _)))
    have S5 := hideP (S4.out.put1 (RD3.out.other S3.out.a (by decide) (grown_set w3 A 0 _)) (fun e => NB.out e))
    have HDB := hideP hdb
    obtain ⟨dg, dc, ed, hd1, hd2⟩ := RD3.out.form
    subst ed
    obtain ⟨⟨q0, q1, q2⟩, q3, q4, q5⟩ := S3.out.cells
    clear hdl hdr ho hk hr3 hg KF S2 hdb RL RL3 RD3 NB S1
    go_upto_region 11 with fail
    clear S3 S4 q0 q1 q2 q3 q4 q5
    generalize ((w3.setCell ⟨A, 0, none⟩ (.slice (some ⟨w1.heap.size, 0, none⟩) 1 1)).setCell ⟨A, 1, none⟩ (.slice (some ⟨dg, 0, none⟩) db.length dc)) = w5 at *
    obtain ⟨u, hu⟩ : ∃ u : Nat, (x : Int) / 128 = (u : Int) := ⟨x / 128, by simp⟩
    have hu1 : u = 0 ∨ u = 1 := by omega
    have hwr : IntKind.i64.wrap (1000 + (u : Int)) = 1000 + (u : Int) := by rw [IntKind.wrap_i64]; omega
    have S6 : Hid (SpSt B P A w _ _ [1000] db (w5.alloc (.cells #[.int .i64 (1000 + (u : Int))] 3))) := S5.out.keep ((Below.refl _ _).alloc (Nat.le_refl _) _)
    have S7 := hideP (S6.out.put0 (v := .slice (some ⟨w5.heap.size, 0, none⟩) 1 1) (zs := [1000 + (u : Int)]) ⟨owns_one w5 _ B S5.out.k, ⟨_, rfl⟩⟩ (fun e => absurd (S5.out.o1.1.lt w5.heap.size e).2 (Nat.lt_irrefl _)))
    obtain ⟨⟨q0, q1, q2⟩, q3, q4, q5⟩ := S6.out.cells
    clear S5
    go_upto_region 12 with fail
    clear S6 q0 q1 q2 q3 q4 q5
    generalize ((w5.alloc (.cells #[.int .i64 (1000 + (u : Int))] 3)).setCell ⟨A, 0, none⟩ (.slice (some ⟨w5.heap.size, 0, none⟩) 1 1)) = w7 at *
    obtain ⟨⟨q0, q1, q2⟩, q3, q4, q5⟩ := S7.out.cells
    have L1 : Hid ([1000 + (u : Int)].length ≤ 4) := by show _ ≤ _; simp
    rcases hu1 with rfl | rfl
    · have HR := hideP (app_make0 w7 dg db.length dc 23 hd1)
      have S8 := hideP (S7.out.put1 S7.out.o1 S7.out.ne)
      have L2 : Hid (db.length ≤ 1001) := by show _ ≤ _; have := HDB.out; omega
      go_wp2_with (at_builtin; refine wpList_append_eq _ _ rfl _ _ _ rfl _ _ _ rfl rfl HR.out ?_)
      have SE := S8.out.done L1.out L2.out
      exact bodyPost_ret (v := .agg #[.slice (some ⟨w5.heap.size, 0, none⟩) 1 1, .slice (some ⟨dg, 0, none⟩) db.length dc]) (by simp [results, Tryz.results32, go_sem, q3, q4]) rfl SE
    · obtain ⟨v', w8, hrun, ho, hg, hat⟩ := app_make1 w7 db S7.out.o1.1 (by have := HDB.out; omega) S7.out.k 23
      have HR := hideP hrun
      have S8 := hideP (S7.out.app1 (x := 0) hg (by rw [List.map_append] at ho; exact ho) (Nat.le_refl _) hat)
      have hcell := (S7.out.row S7.out.o1 hg)
      obtain ⟨⟨p0, p1, p2⟩, p3, p4, p5⟩ := sp_cells hcell.1 hcell.2.1
      obtain ⟨g', c', ev, hv1, hv2⟩ := S8.out.o1.form
      subst ev
      have L2 : Hid ((db ++ [(0 : Int)]).length ≤ 1001) := by show _ ≤ _; have := HDB.out; simp; omega
      have el : (db ++ [(0 : Int)]).length = db.length + 1 := by simp
      clear hrun ho hg hat hcell
      go_wp2_with (at_builtin; refine wpList_append_eq _ _ rfl _ _ _ rfl _ _ _ rfl rfl HR.out ?_)
      have SE := S8.out.done L1.out L2.out
      rw [el] at SE
      exact bodyPost_ret (v := .agg #[.slice (some ⟨w5.heap.size, 0, none⟩) 1 1, .slice (some ⟨g', 0, none⟩) (db.length + 1) c']) (by simp [results, Tryz.results32, go_sem, p3, p4]) rfl SE

end Go.Proofs.YtaopohihipihdaaGreatDoor
