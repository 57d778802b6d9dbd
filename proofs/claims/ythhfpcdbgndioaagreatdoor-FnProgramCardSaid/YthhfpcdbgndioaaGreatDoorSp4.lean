import Derived.Test.YthhfpcdbgndioaaGreatDoorSp3
namespace Go.Proofs.YthhfpcdbgndioaaGreatDoor
open Go.RowKit
set_option linter.unusedVariables false
set_option maxRecDepth 100000
theorem at_mod {α : Type} (l : List α) (hl : l ≠ []) (k : Nat) : ∃ a t b, l = a ++ t :: b ∧ a.length = k % l.length := by
  have h : k % l.length < l.length := Nat.mod_lt _ (List.length_pos_iff.2 hl)
  refine ⟨l.take (k % l.length), l[k % l.length], l.drop (k % l.length + 1), ?_, by simp; omega⟩
  simp
theorem spx_f44_2 {o : Oper} {a : Act} (x : Operand) (b : Nat) (ho : o.op = Op.fieldAddr 44 x 2) (hx : a.eval x = .pointer (some ⟨b, 0, none⟩)) (w : World) : (execOp a.eval o).run Tryz.prog w = .ok (.value (.pointer (some ⟨b, 2, none⟩))) w := by
  simp only [execOp, ho, hx]
  go_simp
theorem spx_f40_1 {o : Oper} {a : Act} (x : Operand) (b j : Nat) (ho : o.op = Op.fieldAddr 40 x 1) (hx : a.eval x = .pointer (some ⟨b, j, none⟩)) (w : World) : (execOp a.eval o).run Tryz.prog w = .ok (.value (.pointer (some ⟨b, j + 1, none⟩))) w := by
  simp only [execOp, ho, hx]
  go_simp
theorem spx_l41 {o : Oper} {a : Act} (x : Operand) (b j : Nat) (ao : Option Addr) (n cap : Nat) (w : World) (ho : o.op = Op.load 41 x) (hx : a.eval x = .pointer (some ⟨b, j, none⟩)) (d : w.cell? ⟨b, j, none⟩ = some (.slice ao n cap)) : (execOp a.eval o).run Tryz.prog w = .ok (.value (.slice ao n cap)) w := by
  simp only [execOp, ho, hx]
  go_simp
theorem spx_l36 {o : Oper} {a : Act} (x : Operand) (b j : Nat) (ao : Option Addr) (n cap : Nat) (w : World) (ho : o.op = Op.load 36 x) (hx : a.eval x = .pointer (some ⟨b, j, none⟩)) (d : w.cell? ⟨b, j, none⟩ = some (.slice ao n cap)) : (execOp a.eval o).run Tryz.prog w = .ok (.value (.slice ao n cap)) w := by
  simp only [execOp, ho, hx]
  go_simp
theorem spx_ix41 {o : Oper} {a : Act} (x y : Operand) (b n cap i : Nat) (ho : o.op = Op.indexAddr 41 x y) (hx : a.eval x = .slice (some ⟨b, 0, none⟩) n cap) (hy : a.eval y = .int .i64 (i : Int)) (hi : (i : Int) < (n : Int)) (w : World) : (execOp a.eval o).run Tryz.prog w = .ok (.value (.pointer (some ⟨b, i * 7, none⟩))) w := by
  simp only [execOp, ho, hx, hy]
  go_simp
theorem spx_rem2 {o : Oper} {a : Act} (x : Operand) (z r : Nat) (ho : o.op = Op.binOp .rem 3 x (.const (.int .i64 2)) 3) (hx : a.eval x = .int .i64 (z : Int)) (hr : Int.tmod (z : Int) 2 = (r : Int)) (h2 : r < 2) (w : World) : (execOp a.eval o).run Tryz.prog w = .ok (.value (.int .i64 (r : Int))) w := by
  have hc : a.eval (.const (.int .i64 2)) = .int .i64 2 := rfl
  simp only [execOp, ho, hx, hc]
  go_simp
theorem spx_add3 {o : Oper} {a : Act} (x : Operand) (r : Nat) (ho : o.op = Op.binOp .add 3 (.const (.int .i64 3000000000)) x 3) (hx : a.eval x = .int .i64 (r : Int)) (h2 : r < 2) (w : World) : (execOp a.eval o).run Tryz.prog w = .ok (.value (.int .i64 (3000000000 + (r : Int)))) w := by
  have hc : a.eval (.const (.int .i64 3000000000)) = .int .i64 3000000000 := rfl
  simp only [execOp, ho, hx, hc]
  go_simp
  obtain rfl | rfl : r = 0 ∨ r = 1 := by omega
  all_goals decide
theorem spx_bs36 {o : Oper} {a : Act} (x : Operand) (z : Int) (ho : o.op = Op.buildSlice 36 1 #[(0, x)]) (hx : a.eval x = .int .i64 z) (w : World) : (execOp a.eval o).run Tryz.prog w = .ok (.value (.slice (some ⟨w.heap.size, 0, none⟩) 1 1)) (w.alloc (.cells #[.int .i64 z] 3)) := by
  simp [execOp, ho, hx]
  go_simp
theorem spx_app36 {o : Oper} {a : Act} (x y : Operand) (v u r : Value) (w w' : World) (ho : o.op = Op.call { callee := .builtin .append, args := #[x, y], argTypes := #[36, 36] }) (hx : a.eval x = v) (hy : a.eval y = u) (hr : (Builtin.append_ #[36, 36] o.type #[v, u]).run Tryz.prog w = .ok r w') : (execOp a.eval o).run Tryz.prog w = .ok (.value r) w' := by
  simp [execOp, ho, hx, hy, resolve, invoke, builtin, hr, Result.andThen]
theorem spx_st36 {o : Oper} {a : Act} (x y : Operand) (b j : Nat) (u : Value) (ao : Option Addr) (n cap : Nat) (w : World) (ho : o.op = Op.store 36 x y) (hx : a.eval x = .pointer (some ⟨b, j, none⟩)) (hy : a.eval y = .slice ao n cap) (d : w.cell? ⟨b, j, none⟩ = some u) (hf : w.frozen? ⟨b, j, none⟩ = false) : (execOp a.eval o).run Tryz.prog w = .ok .skip (w.setCell ⟨b, j, none⟩ (.slice ao n cap)) := by
  simp only [execOp, ho, hx, hy]
  go_simp
set_option maxHeartbeats 4000000 in
/-- spec.l3Spoil -/
theorem spoil_any (B P : Nat) (w0 w : World) (bs : List Nat) (pos : Nat) (v : Value) (l : List Pl.Tv) (F : List Nat) (h : Dn 44 4 Qt B P w0 w bs pos [] v l F) (hl : l ≠ []) (hL : l.length ≤ 1000) (hcode : ∀ t ∈ l, t.code ≠ [] ∧ t.code.length ≤ 1000 ∧ t.gs.length ≤ 1000 ∧ ∀ s ∈ t.code, s.nums.length ≤ 1000) :
    Calls Tryz.prog 12 #[.pointer (some ⟨P, 0, none⟩), v] w fun e w' => e = .returned v ∧ (∃ F', HdP w' v (Pl.spo bs pos l) F') ∧ Kx w0 w' [P] := by
  have H := hideP h
  have hk : (Pl.nx bs pos).1 ≤ 255 := Pl.nx_le h.r.by_
  have hi : (Pl.nx bs (Pl.nx bs pos).2).1 ≤ 255 := Pl.nx_le h.r.by_
  have hv : (Pl.nx bs (Pl.nx bs (Pl.nx bs pos).2).2).1 ≤ 255 := Pl.nx_le h.r.by_
  have HG := hideP (show Pl.spo bs pos l = Pl.modL l ((Pl.nx bs (Pl.nx bs pos).2).1 % l.length) fun s => Pl.spS ((Pl.nx bs pos).1 % 9) (Pl.nx bs (Pl.nx bs (Pl.nx bs pos).2).2).1 ((Pl.nx bs (Pl.nx bs (Pl.nx bs pos).2).2).1 % s.code.length) s from rfl)
  have K1 := hideP (nextx_any B P w bs pos h.r)
  have K2 := hideP (fun (X : World) (r : Rr B P X bs (Pl.nx bs pos).2) => nextx_any B P X bs _ r)
  have K3 := hideP (fun (X : World) (r : Rr B P X bs (Pl.nx bs (Pl.nx bs pos).2).2) => nextx_any B P X bs _ r)
  generalize Pl.spo bs pos l = R at *
  generalize Pl.nx bs pos = a1 at *
  obtain ⟨k, p1⟩ := a1
  simp only at hk hi hv HG K1 K2 K3
  generalize Pl.nx bs p1 = a2 at *
  obtain ⟨i0, p2⟩ := a2
  simp only at hi hv HG K2 K3
  generalize Pl.nx bs p2 = a3 at *
  obtain ⟨v0, p3⟩ := a3
  simp only at hv HG K3
  obtain ⟨q1, t, q2, hq, hqi⟩ := at_mod l hl i0
  obtain ⟨hc1, hc2, hc3, hc4⟩ := hcode t (by rw [hq]; simp)
  obtain ⟨d1, s, d2, hd, hdm⟩ := at_mod t.code hc1 v0
  have hns : s.nums.length ≤ 1000 := hc4 s (by rw [hd]; simp)
  have hGm := HG.out
  rw [← hqi, hq, Pl.modL_at] at hGm
  rw [← hdm] at hGm
  obtain ⟨ao, cap, rfl⟩ := h.o.slice
  have hLp : 0 < l.length := List.length_pos_iff.2 hl
  have hCp : 0 < t.code.length := List.length_pos_iff.2 hc1
  have hil : i0 % l.length < l.length := Nat.mod_lt _ hLp
  have hml : v0 % t.code.length < t.code.length := Nat.mod_lt _ hCp
  have mi : Int.tmod (i0 : Int) (l.length : Int) = ((i0 % l.length : Nat) : Int) := (Int.ofNat_tmod _ _).symm
  have mm : Int.tmod (v0 : Int) (t.code.length : Int) = ((v0 % t.code.length : Nat) : Int) := (Int.ofNat_tmod _ _).symm
  have HQ := hideP hq
  have HGM := hideP hGm
  have HD := hideP hd
  have HQI := hideP hqi
  have HDM := hideP hdm
  clear hcode hl hc1 hc4 h HG hGm hq hd hqi hdm
  generalize i0 % l.length = i at *
  generalize v0 % t.code.length = m at *
  generalize l.length = L at *
  have m9 : Int.tmod (k : Int) 9 = ((k % 9 : Nat) : Int) := by rw [Int.tmod_eq_emod_of_nonneg (by omega)]; omega
  have m5 : Int.tmod (v0 : Int) 5 = ((v0 % 5 : Nat) : Int) := by rw [Int.tmod_eq_emod_of_nonneg (by omega)]; omega
  have m6 : Int.tmod (v0 : Int) 6 = ((v0 % 6 : Nat) : Int) := by rw [Int.tmod_eq_emod_of_nonneg (by omega)]; omega
  have m2 : Int.tmod (v0 : Int) 2 = ((v0 % 2 : Nat) : Int) := by rw [Int.tmod_eq_emod_of_nonneg (by omega)]; omega
  have q16 : Int.tdiv (v0 : Int) 16 = ((v0 / 16 : Nat) : Int) := by rw [Int.tdiv_eq_ediv_of_nonneg (by omega)]; omega
  have m66 : Int.tmod ((v0 / 16 : Nat) : Int) 6 = ((v0 / 16 % 6 : Nat) : Int) := by rw [Int.tmod_eq_emod_of_nonneg (by omega)]; omega
  have h9 : k % 9 < 9 := by omega
  have l5 : v0 % 5 < 5 := by omega
  have l6 : v0 % 6 < 6 := by omega
  have l2 : v0 % 2 < 2 := by omega
  have l16 : v0 / 16 ≤ 15 := by omega
  have l66 : v0 / 16 % 6 < 6 := by omega
  generalize k % 9 = x at *
  have HSP := hideP (fun (t : Pl.Tv) (m : Nat) => show Pl.spS x v0 m t = (if x = 0 then { t with k := ((v0 % 5 : Nat) : Int) }
  else if x = 1 then { t with nm := Pl.nm6 (v0 % 6) }
  else if x = 2 then { t with code := t.code.take m }
  else if x = 3 then { t with code := Pl.modL t.code m fun s => { s with k := ((v0 / 16 % 6 : Nat) : Int) } }
  else if x = 4 then { t with code := Pl.modL t.code m fun s => { s with fn := { s.fn with a := ((v0 / 16 : Nat) : Int) - 2 } } }
  else if x = 5 then { t with code := Pl.modL t.code m fun s => { s with fn := { s.fn with k := ((v0 / 16 : Nat) : Int) } } }
  else if x = 6 then { t with code := Pl.modL t.code m fun s => { s with nums := s.nums ++ [3000000000 + ((v0 % 2 : Nat) : Int)] } }
  else if x = 7 then { t with gs := t.gs ++ [⟨[], []⟩] }
  else { t with code := Pl.modL t.code m fun s => { s with nm := [120] } }) from rfl)
  generalize Pl.spS x v0 = SS at *
  generalize v0 % 5 = x5 at *
  generalize v0 % 6 = x6 at *
  generalize v0 % 2 = x2 at *
  generalize v0 / 16 % 6 = x66 at *
  generalize v0 / 16 = x16 at *
  go_enter Tryz.func12, Tryz.ntmps12
  go_wp2_with fail
  refine K1.out.mono ?_
  rintro e w1 ⟨rfl, dd1⟩
  have H1 := hideP (H.out.dw Qt.lives dd1)
  have K2 := hideP (K2.out w1 dd1.r)
  clear dd1 K1 H
  go_wp2_with fail
  refine K2.out.mono ?_
  rintro e w2 ⟨rfl, dd2⟩
  have H2 := hideP (H1.out.dw Qt.lives dd2)
  have K3 := hideP (K3.out w2 dd2.r)
  clear dd2 K2 H1
  have hL0 : ¬ ((L : Int) = 0) := by omega
  go_wp2_with fail
  refine K3.out.mono ?_
  rintro e w3 ⟨rfl, dd3⟩
  have H3 := H2.out.dw Qt.lives dd3
  rw [HQ.out] at H3
  obtain ⟨g, cap', v1, v2, f1, f2, hv', hS⟩ := H3.place
  have hao : ao = some ⟨g, 0, none⟩ := (Value.slice.inj hv').1
  have hcp : cap = cap' := (Value.slice.inj hv').2.2
  have hLq : (q1 ++ t :: q2).length = L := (Value.slice.inj hv').2.1.symm
  subst hao hcp
  rw [HQI.out] at hS
  obtain ⟨g1, cap1, vn, rfl, hcap1, hgg, hg1l, hgx, hgz, hput, fn, hN, hfnl, hgfn, hg1fn, hnum⟩ := hS.cell HD.out
  obtain ⟨a2, cap2, rfl⟩ := hS.og.slice
  rw [HDM.out] at hgx hput hnum
  have c0 := hS.x 0 _ rfl
  have c1 := hS.x 1 _ rfl
  have c2 := hS.x 2 _ rfl
  have c3 := hS.x 3 _ rfl
  rw [Nat.add_zero] at c0
  have fg := hS.fz
  have hgl := hS.gl.1
  have HSQ := hideP hS
  have HPUT := hideP hput
  have HNUM := hideP hnum
  have HN := hideP hN
  have HFNL := hideP hfnl
  have HGFN := hideP (And.intro hgfn hg1fn)
  have HGX := hideP hgx
  have HGZ := hideP hgz
  have HNE : Hid (∀ t', q1 ++ t' :: q2 ≠ []) := fun t' => by simp
  clear dd3 K3 H2 H3 hv' hLq hS hput hgx hgz HQ HQI hnum hN hfnl hgfn hg1fn
  generalize hcl : t.code.length = n1 at *
  generalize hgl2 : t.gs.length = n2 at *
  have hn0 : ¬ ((n1 : Int) = 0) := by omega
  have hgi : (i : Int) < (L : Int) := by omega
  have hgm : (m : Int) < (n1 : Int) := by omega
  have hmc : m ≤ cap1 := by omega
  have hmc' : (m : Int) ≤ (cap1 : Int) := by omega
  obtain rfl | rfl | rfl | rfl | rfl | rfl | rfl | rfl | rfl : x = 0 ∨ x = 1 ∨ x = 2 ∨ x = 3 ∨ x = 4 ∨ x = 5 ∨ x = 6 ∨ x = 7 ∨ x = 8 := by omega
  · have HX := HSP.out t m
    simp at HX
    go_wp2_with fail
    refine bodyPost_ret (v := .slice (some ⟨g, 0, none⟩) L cap) (by simp [results, Tryz.results12, go_sem]) rfl ?_
    rw [HGM.out, HDM.out]
    refine ⟨rfl, ?_⟩
    rw [HX]
    exact Sp.up (HSQ.out.fin0 (x5 : Int) t.nm) (HNE.out _) _
  · have HX := HSP.out t m
    simp at HX
    obtain rfl | rfl | rfl | rfl | rfl | rfl : x6 = 0 ∨ x6 = 1 ∨ x6 = 2 ∨ x6 = 3 ∨ x6 = 4 ∨ x6 = 5 := by omega
    all_goals
      go_wp2_with fail
      refine bodyPost_ret (v := .slice (some ⟨g, 0, none⟩) L cap) (by simp [results, Tryz.results12, go_sem]) rfl ?_
      rw [HGM.out, HDM.out]
      refine ⟨rfl, ?_⟩
      rw [HX]
      exact Sp.up (Sp.up (HSQ.out.fin0 t.k _) (HNE.out _) _) (HNE.out _) _
  · have HX := HSP.out t m
    simp at HX
    go_wp2_with fail
    refine bodyPost_ret (v := .slice (some ⟨g, 0, none⟩) L cap) (by simp [results, Tryz.results12, go_sem]) rfl ?_
    rw [HGM.out, HDM.out]
    refine ⟨rfl, ?_⟩
    rw [HX]
    rw [show t.code.take m = d1 by rw [HD.out, ← HDM.out]; simp]
    rw [← HDM.out]
    exact Sp.up (HSQ.out.fin2 HD.out rfl) (HNE.out _) _
  · have HX := HSP.out t m
    simp at HX
    have e := HGX.out 0 _ rfl
    rw [Nat.add_zero] at e
    have fz := HGZ.out
    go_wp2_with fail
    refine bodyPost_ret (v := .slice (some ⟨g, 0, none⟩) L cap) (by simp [results, Tryz.results12, go_sem]) rfl ?_
    rw [HGM.out, HDM.out]
    refine ⟨rfl, ?_⟩
    rw [HX]
    rw [show Pl.modL t.code m (fun s => { s with k := (x66 : Int) }) = d1 ++ (fun s : Pl.Sv => ({ s with k := (x66 : Int) } : Pl.Sv)) s :: d2 by rw [HD.out, ← HDM.out]; exact Pl.modL_at _ _ _ _]
    exact Sp.up (HPUT.out 0 (.int .i64 (x66 : Int)) ({ s with k := (x66 : Int) }) (by omega) rfl rfl) (HNE.out _) _
  · have HX := HSP.out t m
    simp at HX
    have e := HGX.out 4 _ rfl
    have fz := HGZ.out
    go_wp2_with fail
    refine bodyPost_ret (v := .slice (some ⟨g, 0, none⟩) L cap) (by simp [results, Tryz.results12, go_sem]) rfl ?_
    rw [HGM.out, HDM.out]
    refine ⟨rfl, ?_⟩
    rw [HX]
    rw [show Pl.modL t.code m (fun s => { s with fn := { s.fn with a := (x16 : Int) - 2 } }) = d1 ++ (fun s : Pl.Sv => ({ s with fn := { s.fn with a := (x16 : Int) - 2 } } : Pl.Sv)) s :: d2 by rw [HD.out, ← HDM.out]; exact Pl.modL_at _ _ _ _]
    exact Sp.up (HPUT.out 4 (.int .i64 ((x16 : Int) - 2)) ({ s with fn := { s.fn with a := (x16 : Int) - 2 } }) (by omega) rfl rfl) (HNE.out _) _
  · have HX := HSP.out t m
    simp at HX
    have e := HGX.out 3 _ rfl
    have fz := HGZ.out
    go_wp2_with fail
    refine bodyPost_ret (v := .slice (some ⟨g, 0, none⟩) L cap) (by simp [results, Tryz.results12, go_sem]) rfl ?_
    rw [HGM.out, HDM.out]
    refine ⟨rfl, ?_⟩
    rw [HX]
    rw [show Pl.modL t.code m (fun s => { s with fn := { s.fn with k := (x16 : Int) } }) = d1 ++ (fun s : Pl.Sv => ({ s with fn := { s.fn with k := (x16 : Int) } } : Pl.Sv)) s :: d2 by rw [HD.out, ← HDM.out]; exact Pl.modL_at _ _ _ _]
    exact Sp.up (HPUT.out 3 (.int .i64 (x16 : Int)) ({ s with fn := { s.fn with k := (x16 : Int) } }) (by omega) rfl rfl) (HNE.out _) _
  · have HX := HSP.out t m
    simp at HX
    obtain ⟨an, cn, en⟩ := HN.out.slice
    generalize hln : s.nums.length = ln at en
    subst en
    have e := HGX.out 1 _ rfl
    have fz := HGZ.out
    go_wp2_with fail
    refine wpN_begin (n := 16) (S := fun W => W.cell? ⟨w3.heap.size, 2, none⟩ = some (.slice (some ⟨g1, 0, none⟩) n1 cap1) ∧ W.cell? ⟨g1, m * 7 + 1, none⟩ = some (.slice an ln cn)) (by kernel_rfl) ?_
    change wpN _ _ _ _ _ _ _ _ _ (World.drew _)
    have kW : Kx w3 (w3.alloc (.cells #[.int .i64 t.k, .string (Pl.ba t.nm), .slice (some ⟨g1, 0, none⟩) n1 cap1, .slice a2 n2 cap2] 44)).drew [] := ((Kx.refl w3 []).alloc _).trans (Kx.drew _ []) (by simp)
    have sc : ∀ j u, ([.int .i64 t.k, .string (Pl.ba t.nm), .slice (some ⟨g1, 0, none⟩) n1 cap1, .slice a2 n2 cap2] : List Value)[j]? = some u → (w3.alloc (.cells #[.int .i64 t.k, .string (Pl.ba t.nm), .slice (some ⟨g1, 0, none⟩) n1 cap1, .slice a2 n2 cap2] 44)).drew.cell? ⟨w3.heap.size, j, none⟩ = some u := fun j u hu => by have := cells_new (w := w3) (t := 44) (l := [.int .i64 t.k, .string (Pl.ba t.nm), .slice (some ⟨g1, 0, none⟩) n1 cap1, .slice a2 n2 cap2]) rfl j u hu; rw [Nat.zero_add] at this; exact this
    have sfz : ∀ j, (w3.alloc (.cells #[.int .i64 t.k, .string (Pl.ba t.nm), .slice (some ⟨g1, 0, none⟩) n1 cap1, .slice a2 n2 cap2] 44)).drew.frozen? ⟨w3.heap.size, j, none⟩ = false := fun j => by simp [go_sem]
    have hWz : (w3.alloc (.cells #[.int .i64 t.k, .string (Pl.ba t.nm), .slice (some ⟨g1, 0, none⟩) n1 cap1, .slice a2 n2 cap2] 44)).drew.heap.size = w3.heap.size + 1 := by simp
    generalize (w3.alloc (.cells #[.int .i64 t.k, .string (Pl.ba t.nm), .slice (some ⟨g1, 0, none⟩) n1 cap1, .slice a2 n2 cap2] 44)).drew = W at *
    have S0 : W.cell? ⟨w3.heap.size, 2, none⟩ = some (.slice (some ⟨g1, 0, none⟩) n1 cap1) ∧ W.cell? ⟨g1, m * 7 + 1, none⟩ = some (.slice an ln cn) := ⟨sc 2 _ rfl, kW.cell hg1l (by simp) e⟩
    refine wpN_take (i := 0) (v := .pointer (some ⟨w3.heap.size, 2, none⟩)) rfl rfl (by kernel_rfl) (by kernel_rfl) (by kernel_rfl) (by kernel_rfl) (fun _ _ _ h => h) rfl (fun Y hY => spx_f44_2 (.tmp 8) w3.heap.size rfl (by kernel_rfl) Y) S0 ?_
    refine wpN_take (i := 1) (v := .slice (some ⟨g1, 0, none⟩) n1 cap1) rfl rfl (by kernel_rfl) (by kernel_rfl) (by kernel_rfl) (by kernel_rfl) (fun _ _ _ h => h) rfl (fun Y hY => spx_l41 (.tmp 88) w3.heap.size 2 (some ⟨g1, 0, none⟩) n1 cap1 Y rfl (by kernel_rfl) hY.1) S0 ?_
    refine wpN_take (i := 2) (v := .int .i64 (m : Int)) rfl rfl (by kernel_rfl) (by kernel_rfl) (by kernel_rfl) (by kernel_rfl) (fun _ _ _ h => h) rfl (fun Y hY => exec_moveq (.tmp 9) _ rfl (by kernel_rfl) Y) S0 ?_
    refine wpN_take (i := 3) (v := .pointer (some ⟨w3.heap.size, 2, none⟩)) rfl rfl (by kernel_rfl) (by kernel_rfl) (by kernel_rfl) (by kernel_rfl) (fun _ _ _ h => h) rfl (fun Y hY => spx_f44_2 (.tmp 8) w3.heap.size rfl (by kernel_rfl) Y) S0 ?_
    refine wpN_take (i := 4) (v := .slice (some ⟨g1, 0, none⟩) n1 cap1) rfl rfl (by kernel_rfl) (by kernel_rfl) (by kernel_rfl) (by kernel_rfl) (fun _ _ _ h => h) rfl (fun Y hY => spx_l41 (.tmp 91) w3.heap.size 2 (some ⟨g1, 0, none⟩) n1 cap1 Y rfl (by kernel_rfl) hY.1) S0 ?_
    refine wpN_take (i := 5) (v := .int .i64 (m : Int)) rfl rfl (by kernel_rfl) (by kernel_rfl) (by kernel_rfl) (by kernel_rfl) (fun _ _ _ h => h) rfl (fun Y hY => exec_moveq (.tmp 9) _ rfl (by kernel_rfl) Y) S0 ?_
    refine wpN_take (i := 6) (v := .pointer (some ⟨g1, m * 7, none⟩)) rfl rfl (by kernel_rfl) (by kernel_rfl) (by kernel_rfl) (by kernel_rfl) (fun _ _ _ h => h) rfl (fun Y hY => spx_ix41 (.tmp 92) (.tmp 93) g1 n1 cap1 m rfl (by kernel_rfl) (by kernel_rfl) hgm Y) S0 ?_
    refine wpN_take (i := 7) (v := .pointer (some ⟨g1, m * 7 + 1, none⟩)) rfl rfl (by kernel_rfl) (by kernel_rfl) (by kernel_rfl) (by kernel_rfl) (fun _ _ _ h => h) rfl (fun Y hY => spx_f40_1 (.tmp 94) g1 (m * 7) rfl (by kernel_rfl) Y) S0 ?_
    refine wpN_take (i := 8) (v := .slice an ln cn) rfl rfl (by kernel_rfl) (by kernel_rfl) (by kernel_rfl) (by kernel_rfl) (fun _ _ _ h => h) rfl (fun Y hY => spx_l36 (.tmp 95) g1 (m * 7 + 1) an ln cn Y rfl (by kernel_rfl) hY.2) S0 ?_
    refine wpN_take (i := 9) (v := .int .i64 (v0 : Int)) rfl rfl (by kernel_rfl) (by kernel_rfl) (by kernel_rfl) (by kernel_rfl) (fun _ _ _ h => h) rfl (fun Y hY => exec_moveq (.tmp 7) _ rfl (by kernel_rfl) Y) S0 ?_
    refine wpN_take (i := 10) (v := .int .i64 (x2 : Int)) rfl rfl (by kernel_rfl) (by kernel_rfl) (by kernel_rfl) (by kernel_rfl) (fun _ _ _ h => h) rfl (fun Y hY => spx_rem2 (.tmp 97) v0 x2 rfl (by kernel_rfl) m2 l2 Y) S0 ?_
    refine wpN_take (i := 11) (v := .int .i64 (3000000000 + (x2 : Int))) rfl rfl (by kernel_rfl) (by kernel_rfl) (by kernel_rfl) (by kernel_rfl) (fun _ _ _ h => h) rfl (fun Y hY => spx_add3 (.tmp 98) x2 rfl (by kernel_rfl) l2 Y) S0 ?_
    have kA : Kx w3 (W.alloc (.cells #[.int .i64 (3000000000 + (x2 : Int))] 3)) [] := kW.alloc _
    obtain ⟨v9, w9, F9, hr9, ho9, hi9, hg9, _, hf9⟩ := Own.append el77 Qi.lives (B := 0) (HN.out.keep Qi.lives (fun b hm => kA.block b (HFNL.out b hm) (by simp))) (fun b hm => ⟨Nat.zero_le _, Nat.lt_of_lt_of_le (HFNL.out b hm) kA.size⟩) (Qi.row _ (3000000000 + (x2 : Int))) (Inb.nil _ _) (by simp) (by simp) rfl (fun j u hu => cells_new (w := W) (t := 3) (l := [.int .i64 (3000000000 + (x2 : Int))]) rfl j u hu) (by simp [Value.oneCell']) (by simp; omega) (Nat.zero_le _) (cap := 1) 36
    have hob : ∀ b, (Value.slice an ln cn).ownBlock = some b → b ∈ fn := fun b hb => (HN.out.lt b hb).1
    have KK := Kx.grown (A := fn) hg9 hob
    have hsn : w3.heap.size ∉ fn := fun hm => by have := HFNL.out _ hm; omega
    have hAz : (W.alloc (.cells #[.int .i64 (3000000000 + (x2 : Int))] 3)).heap.size = w3.heap.size + 2 := by simp; omega
    have sc9 : ∀ j u, ([.int .i64 t.k, .string (Pl.ba t.nm), .slice (some ⟨g1, 0, none⟩) n1 cap1, .slice a2 n2 cap2] : List Value)[j]? = some u → w9.cell? ⟨w3.heap.size, j, none⟩ = some u := fun j u hu => KK.cell (by omega) hsn (cell?_alloc_some' _ (sc j u hu))
    have sf9 : ∀ j, w9.frozen? ⟨w3.heap.size, j, none⟩ = false := fun j => KK.froz (by omega) hsn (by rw [frozen_alloc' _ _ (by omega)]; exact sfz j)
    have S1 : (W.alloc (.cells #[.int .i64 (3000000000 + (x2 : Int))] 3)).cell? ⟨w3.heap.size, 2, none⟩ = some (.slice (some ⟨g1, 0, none⟩) n1 cap1) ∧ (W.alloc (.cells #[.int .i64 (3000000000 + (x2 : Int))] 3)).cell? ⟨g1, m * 7 + 1, none⟩ = some (.slice an ln cn) := ⟨cell?_alloc_some' _ S0.1, cell?_alloc_some' _ S0.2⟩
    have S9 : w9.cell? ⟨w3.heap.size, 2, none⟩ = some (.slice (some ⟨g1, 0, none⟩) n1 cap1) ∧ w9.cell? ⟨g1, m * 7 + 1, none⟩ = some (.slice an ln cn) := ⟨sc9 2 _ rfl, KK.cell (by omega) HGFN.out.2 S1.2⟩
    have fz9 : w9.frozen? ⟨g1, m * 7 + 1, none⟩ = false := KK.froz (by omega) HGFN.out.2 (kA.froz hg1l (by simp) (fz _))
    obtain ⟨a9, n9, e9⟩ := ho9.slice
    generalize (s.nums ++ [3000000000 + (x2 : Int)]).length = l9 at e9
    subst e9
    refine wpN_one (j := 12) (by kernel_rfl) (OneN.val rfl rfl _ (spx_bs36 (.tmp 99) _ rfl (by kernel_rfl) W) S1 ?_)
    refine wpN_one (j := 13) (by kernel_rfl) (OneN.val rfl rfl _ (spx_app36 (.tmp 96) (.tmp 100) (.slice an ln cn) (.slice (some ⟨W.heap.size, 0, none⟩) 1 1) _ _ w9 rfl (by kernel_rfl) (by kernel_rfl) hr9) S9 ?_)
    refine wpN_one (j := 14) (by kernel_rfl) (OneN.val rfl rfl (.pointer (some ⟨g1, m * 7, none⟩)) (spx_ix41 (.tmp 89) (.tmp 90) g1 n1 cap1 m rfl (by kernel_rfl) (by kernel_rfl) hgm w9) S9 ?_)
    refine wpN_one (j := 15) (by kernel_rfl) (OneN.val rfl rfl (.pointer (some ⟨g1, m * 7 + 1, none⟩)) (spx_f40_1 (.tmp 102) g1 (m * 7) rfl (by kernel_rfl) w9) S9 ?_)
    refine wpN_last (n := 16) (by kernel_rfl) rfl rfl (spx_st36 (.tmp 103) (.tmp 101) g1 (m * 7 + 1) _ a9 l9 n9 w9 rfl (by kernel_rfl) (by kernel_rfl) S9.2 fz9) ?_
    refine wpN_done (by kernel_rfl) ?_ _
    have FIN := hideP (HNUM.out _ w9 _ F9 _ kA ho9 hi9 hg9 hf9)
    have k0 := KK.cell (by omega) HGFN.out.1 (kA.cell hgl (by simp) c0)
    have k1 := KK.cell (by omega) HGFN.out.1 (kA.cell hgl (by simp) c1)
    have k2 := KK.cell (by omega) HGFN.out.1 (kA.cell hgl (by simp) c2)
    have k3 := KK.cell (by omega) HGFN.out.1 (kA.cell hgl (by simp) c3)
    have kf : ∀ j, w9.frozen? ⟨g, j, none⟩ = false := fun j => KK.froz (by omega) HGFN.out.1 (kA.froz hgl (by simp) (fg j))
    have s0 := sc9 0 _ rfl
    have s1 := sc9 1 _ rfl
    have s2 := sc9 2 _ rfl
    have s3 := sc9 3 _ rfl
    have hgs : g ≠ w3.heap.size := by omega
    have hgs1 : g1 ≠ w3.heap.size := by omega
    clear ho9 hi9 hg9 hf9 hr9 KK kA kW S0 S1 S9 fz9 sc sc9 sfz hWz hAz c0 c1 c2 c3 e
    generalize w3.heap.size = s9 at *
    go_simp
    go_wp2_with fail
    refine bodyPost_ret (v := .slice (some ⟨g, 0, none⟩) L cap) (by simp [results, Tryz.results12, go_sem]) rfl ?_
    rw [HGM.out, HDM.out]
    refine ⟨rfl, ?_⟩
    rw [HX]
    rw [show Pl.modL t.code m (fun s => { s with nums := s.nums ++ [3000000000 + (x2 : Int)] }) = d1 ++ (fun s : Pl.Sv => ({ s with nums := s.nums ++ [3000000000 + (x2 : Int)] } : Pl.Sv)) s :: d2 by rw [HD.out, ← HDM.out]; exact Pl.modL_at _ _ _ _]
    exact FIN.out
  · have HX := HSP.out t m
    simp at HX
    have hs : w3.heap.size = w3.heap.size := rfl
    have HKW : Hid (∀ ob ob2, Kx w3 ((w3.alloc ob).alloc ob2) []) := fun ob ob2 => ((Kx.refl w3 []).alloc ob).alloc ob2
    have HOG : Hid (∀ ob ob2, Own 48 2 Qg ((w3.alloc ob).alloc ob2) (.slice a2 n2 cap2) t.gs f2) := fun ob ob2 => (HSQ.out.kx0 (HKW.out ob ob2)).og
    have HIG : Hid (∀ ob ob2, Inb 0 ((w3.alloc ob).alloc ob2) f2) := fun ob ob2 b hb => ⟨Nat.zero_le _, by simp; have := (HSQ.out.fl b (by simp [hb])).1; omega⟩
    go_wp2_with (at_builtin; refine wpList_append_o el35 Qg.lives _ rfl _ _ rfl _ _ _ _ _ rfl rfl t.gs [⟨[], []⟩] f2 [] [.slice none 0 0, .slice none 0 0] 0 ?ho ?hi ?hy ?hG ?hn ?hd rfl rfl ?hc ?h1 ?hbd ?hB ?_)
    case ho => exact HOG.out _ _
    case hi => exact HIG.out _ _
    case hy => exact RowQ.one ⟨_, _, [], [], rfl, rfl, Own.nil _, Own.nil _⟩
    case hG => exact Inb.nil _ _
    case hn => simp
    case hd => simp
    case hc => exact cells_new (l := [.slice none 0 0, .slice none 0 0]) (by simp)
    case h1 => simp [Value.oneCell']
    case hbd => rw [hgl2]; simp; omega
    case hB => exact Nat.zero_le _
    intro v9 w9 F9 ho9 hi9 hg9 _ hf9
    have hob : ∀ b, (Value.slice a2 n2 cap2).ownBlock = some b → b ∈ f2 := fun b hb => (HSQ.out.og.lt b hb).1
    have KK := hideP (Kx.grown (A := f2) hg9 hob)
    have hg2 : g ∉ f2 := fun hm => HSQ.out.gl.2.2 (by simp [hm])
    have hs2 : w3.heap.size ∉ f2 := fun hm => by have := (HSQ.out.fl _ (List.mem_append_right f1 hm)).1; omega
    have s0 := KK.out.cell (s := w3.heap.size) (j := 0) (u := .int .i64 t.k) (by simp; omega) hs2 (by simp [go_sem])
    have s1 := KK.out.cell (s := w3.heap.size) (j := 1) (u := .string (Pl.ba t.nm)) (by simp; omega) hs2 (by simp [go_sem])
    have s2 := KK.out.cell (s := w3.heap.size) (j := 2) (u := .slice (some ⟨g1, 0, none⟩) n1 cap1) (by simp; omega) hs2 (by simp [go_sem])
    have s3 := KK.out.cell (s := w3.heap.size) (j := 3) (u := .slice a2 n2 cap2) (by simp; omega) hs2 (by simp [go_sem])
    have sf : ∀ j, w9.frozen? ⟨w3.heap.size, j, none⟩ = false := fun j => KK.out.froz (by simp; omega) hs2 (by simp [go_sem])
    have k0 := KK.out.cell (by simp; omega) hg2 (cell?_alloc_some' _ (cell?_alloc_some' _ c0))
    have k1 := KK.out.cell (by simp; omega) hg2 (cell?_alloc_some' _ (cell?_alloc_some' _ c1))
    have k2 := KK.out.cell (by simp; omega) hg2 (cell?_alloc_some' _ (cell?_alloc_some' _ c2))
    have k3 := KK.out.cell (by simp; omega) hg2 (cell?_alloc_some' _ (cell?_alloc_some' _ c3))
    have kf : ∀ j, w9.frozen? ⟨g, j, none⟩ = false := fun j => KK.out.froz (by simp; omega) hg2 (by rw [frozen_alloc' _ _ (by simp; omega), frozen_alloc' _ _ hgl]; exact fg j)
    have FIN := hideP (HSQ.out.gapp rfl (by simp; omega) (HKW.out _ _) ho9 hi9 hg9 (fun x hx => by have := hf9 x hx; simp at this ⊢; exact this))
    have hone := ho9.one
    obtain ⟨a9, n9, rfl⟩ := ho9.slice
    generalize (t.gs ++ [(⟨[], []⟩ : Pl.Gv)]).length = l9 at *
    clear ho9 hi9 hg9 hf9 KK c0 c1 c2 c3 fg HOG HIG HKW
    have hgs : g ≠ w3.heap.size := by omega
    generalize w3.heap.size = s9 at *
    go_wp2_with fail
    refine bodyPost_ret (v := .slice (some ⟨g, 0, none⟩) L cap) (by simp [results, Tryz.results12, go_sem]) rfl ?_
    rw [HGM.out, HDM.out]
    refine ⟨rfl, ?_⟩
    rw [HX]
    exact FIN.out
  · have HX := HSP.out t m
    simp at HX
    have e := HGX.out 2 _ rfl
    have fz := HGZ.out
    go_wp2_with fail
    refine bodyPost_ret (v := .slice (some ⟨g, 0, none⟩) L cap) (by simp [results, Tryz.results12, go_sem]) rfl ?_
    rw [HGM.out, HDM.out]
    refine ⟨rfl, ?_⟩
    rw [HX]
    rw [show Pl.modL t.code m (fun s => { s with nm := [120] }) = d1 ++ (fun s : Pl.Sv => ({ s with nm := [120] } : Pl.Sv)) s :: d2 by rw [HD.out, ← HDM.out]; exact Pl.modL_at _ _ _ _]
    exact Sp.up (HPUT.out 2 (.string ⟨#[120]⟩) ({ s with nm := [120] }) (by omega) rfl rfl) (HNE.out _) _
end Go.Proofs.YthhfpcdbgndioaaGreatDoor
