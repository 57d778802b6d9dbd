import Derived.Test.YtmobjomebmipdaaSame
namespace Go.Proofs.Ytmobjomebmipdaa
open Go.RowKit
set_option linter.unusedVariables false

/-- an append whose run is known, in a region that draws -/
theorem step_append_eq {P : Program} {ops : Array Oper} {o : Oper} {a : Act} {w w' : World} {K : Act → World → Prop} {Q : Exit → Act → World → Prop} {E : Prop} (hg : o.guard = none) (s x : Operand) (ts : Array TypeId)
    (hop : o.op = Op.call { callee := Callee.builtin Builtin.append, args := #[s, x], argTypes := ts }) (vs vx v : Value) (hs : a.eval s = vs) (hx : a.eval x = vx) (hrun : (Builtin.append_ ts o.type #[vs, vx]).run P w = .ok v w')
    (hK : K (a.put o.dst v) w') : if Region.wanted o (yielded ops a.tmps) = true then Oper.wp P o a w K Q else E := by
  have hw : Region.wanted o (yielded ops a.tmps) = true := by simp [Region.wanted, hg]
  rw [if_pos hw]
  unfold Oper.wp
  simp [execOp, hop, resolve, invoke, builtin, hs, hx, hrun, Result.andThen]
  exact hK

theorem grown_drew {w w' : World} {r : Option Nat} (h : w.drew.grownBy w' r) : w.grownBy w' r := ⟨h.os, h.tape, h.output, h.size, h.block⟩

/-- append(v, u...) in a region that draws -/
theorem step_append_rd {base B : Nat} {ops : Array Oper} {o : Oper} {a : Act} {K : Act → World → Prop} {Q : Exit → Act → World → Prop} {E : Prop} (w : World) (hg : o.guard = none) (s y : Operand)
    (hop : o.op = Op.call { callee := Callee.builtin Builtin.append, args := #[s, y], argTypes := #[22, 22] }) (v u : Value) (hs : a.eval s = v) (hx : a.eval y = u) (n : Nat) (ys xs : List Int)
    (hown : w.ownsRow base 3 1 v n (ys.map (Value.int .i64))) (hrd : Rd B w u xs) (hbd : n + xs.length ≤ 16777216) (hbase : base ≤ w.heap.size)
    (hK : ∀ v' w', w'.ownsRow base 3 1 v' (n + xs.length) ((ys ++ xs).map (Value.int .i64)) → w.grownBy w' v.ownBlock → K (a.put o.dst v') w') : if Region.wanted o (yielded ops a.tmps) = true then Oper.wp Try.prog o a w K Q else E := by
  obtain ⟨v', w', hr, ho, hb⟩ := append_rd' w v n ys hown u xs hrd hbd hbase o.type
  exact step_append_eq hg s y _ hop v _ v' hs hx hr (hK v' w' ho hb)

theorem rd_new (w : World) (x : Int) (t : TypeId) : Rd (w.heap.size + 1) (w.alloc (.cells #[.int .i64 x] t)).drew (.slice (some ⟨w.heap.size, 0, none⟩) 1 1) [x] := by
  refine ⟨_, _, rfl, .inr ⟨w.heap.size, 0, by omega, rfl, fun i hi => ?_⟩⟩
  have : i = 0 := by simp at hi; omega
  subst this
  simp [go_sem]

theorem rep_snoc (k : Nat) (x : Int) : List.replicate (k + 1) x = List.replicate k x ++ [x] := by
  rw [List.replicate_succ']

set_option maxRecDepth 100000 in
set_option maxHeartbeats 4000000 in
/-- spec.l2Wide -/
theorem l2Wide_any (q0 : Option Addr) (n0 e0 b off m c1 : Nat) (u : Value) (x : Int) (sh : List Int) (w : World) (hf : Pl.fitsB sh = true) (hb : b < w.heap.size) (hm : 0 < m) (hc : w.cell? ⟨b, off, none⟩ = some (.int .i64 x)) (hu : Rd w.heap.size w u sh) :
    Calls Try.prog 90 #[.agg #[.slice q0 n0 e0, .slice (some ⟨b, off, none⟩) m c1], u] w fun e w' => ∃ u0 u1, e = .returned (.agg #[u0, u1]) ∧ Res w.heap.size w' u0 u1 sh (List.replicate (Pl.prodC sh).toNat x) ∧ Below w.heap.size w w' := by
  have hl0 : sh.length ≤ 1048576 := by
    simp only [Pl.fitsB, Pl.baseB, Bool.and_eq_true, decide_eq_true_eq] at hf
    omega
  have hr : sh.all Pl.inR = true := by simp only [Pl.fitsB, Pl.baseB, Bool.and_eq_true] at hf; exact hf.1.2
  have hn0 := (Pl.prodC_bd sh hr).1
  have hn1 := (Pl.prodC_bd sh hr).2
  have KP : Hid (∀ w', Rd w'.heap.size w' u sh → Calls Try.prog 34 #[u] w' fun e w'' => e = .returned (.int .i64 (Pl.prodC sh)) ∧ w'' = w') := fun w' h => l1Product_any _ u sh w' hl0 hr h
  obtain ⟨n, hn⟩ : ∃ n : Nat, Pl.prodC sh = n := ⟨(Pl.prodC sh).toNat, by omega⟩
  rw [hn] at hn0 hn1 KP ⊢
  have B : Hid (∀ o o', Below w.heap.size w ((w.alloc o).alloc o')) := fun o o' => ((Below.refl _ _).alloc (Nat.le_refl _) _).alloc (by simp) _
  have H0 := hideP hu
  have HC := hideP hc
  have eT : ((n : Int)).toNat = n := by omega
  rw [eT]
  obtain ⟨a0, d0, ef⟩ := hu.form
  subst ef
  clear hu hc hf hr hn eT hn0
  go_enter Try.func90, Try.ntmps90
  go_wp2_with fail
  refine (l2Copy_any _ sh _ hl0 ((H0.out.keep (B.out _ _)).up (by simp; omega))).mono ?_
  rintro e w2 ⟨v2, rfl, ho2, hb2⟩
  have B2 := hideP ((B.out _ _).trans (hb2.mono (by simp; omega)))
  have HO2 := hideP (own_of_any ho2)
  have hs2 := hb2.size
  simp at hs2
  obtain ⟨x2, y2, e2⟩ := owns_form ho2
  subst e2
  have C2 := hideP (And.intro ((hb2.cell (p := ⟨w.heap.size, 1, none⟩) (by show w.heap.size < _; simp; omega)).trans (show _ = some (.slice (some ⟨b, off, none⟩) m c1) by simp [go_sem])) (And.intro ((hb2.cell (p := ⟨w.heap.size + 1, 0, none⟩) (by show w.heap.size + 1 < _; simp)).trans (show _ = some (.slice none 0 0) by simp [go_sem])) (And.intro ((hb2.cell (p := ⟨w.heap.size + 1, 1, none⟩) (by show w.heap.size + 1 < _; simp)).trans (show _ = some (.slice none 0 0) by simp [go_sem])) (fun o => (hb2.frozen (p := ⟨w.heap.size + 1, o, none⟩) (by show w.heap.size + 1 < _; simp)).trans (show _ = false by simp [go_sem])))))
  clear ho2 hb2
  go_wp2_with fail
  go_loopw [6] (fun i wr => ∃ k : Nat, k ≤ n ∧ i = .int .i64 k ∧ ∃ nv, Hid (wr.heap[w2.heap.size + 1]? = some (.cells #[.slice x2 sh.length y2, nv] 27 (0, 0))) ∧
      Hid (wr.ownsRow w2.heap.size 3 1 nv k ((List.replicate k x).map (Value.int .i64))) ∧ Hid (Below w2.heap.size w2 wr)) (fun i _ => n - (intOf i).toNat)
  case atStart =>
    refine ⟨0, Nat.zero_le _, rfl, .slice (some ⟨w2.heap.size, 0, none⟩) 0 0, ?_, ?_, ?_⟩
    · have := heap_alloc_new (w2.alloc (.cells #[] 3)) (.cells #[.slice x2 sh.length y2, .slice (some ⟨w2.heap.size, 0, none⟩) 0 0] 27)
      show _ = _
      simpa using this
    · exact (owns_empty w2 w2.heap.size (Nat.le_refl _)).alloc _
    · exact ((Below.refl _ _).alloc (Nat.le_refl _) _).alloc (by simp) _
  case round =>
    obtain ⟨k, hk, rfl, nv, hP, ho, hbel⟩ := hrel
    have HBW : Hid (Below w.heap.size w wr) := B2.out.trans (hbel.out.mono (by omega))
    have hsz : w2.heap.size + 1 < wr.heap.size := (Array.getElem?_eq_some_iff.1 hP.out).1
    have RD := hideP ((H0.out.keep HBW.out).up (by omega : w.heap.size ≤ wr.heap.size))
    obtain ⟨xo, yo, eo⟩ := owns_form ho.out
    subst eo
    by_cases hlt : k < n
    · have hlt' : (k : Int) < (n : Int) := by omega
      have q1 : wr.cell? ⟨w.heap.size, 1, none⟩ = some (.slice (some ⟨b, off, none⟩) m c1) := (hbel.out.cell (p := ⟨w.heap.size, 1, none⟩) (by show w.heap.size < _; omega)).trans C2.out.1
      have Q1 := hideP q1
      have L0 : ∀ w', Below w2.heap.size wr w' → w'.cell? ⟨w.heap.size, 1, none⟩ = some (.slice (some ⟨b, off, none⟩) m c1) := fun w' h => (h.cell (p := ⟨w.heap.size, 1, none⟩) (by show w.heap.size < _; omega)).trans Q1.out
      have L1 : ∀ w', Below w2.heap.size wr w' → w'.cell? ⟨b, off, none⟩ = some (.int .i64 x) := fun w' h => (h.cell (p := ⟨b, off, none⟩) (by show b < _; omega)).trans ((HBW.out.cell (p := ⟨b, off, none⟩) hb).trans HC.out)
      have p1 : wr.cell? ⟨w2.heap.size + 1, 1, none⟩ = some (.slice xo k yo) := cell_blk hP.out
      have D := hideP (show Below w2.heap.size wr wr.drew from (Below.refl _ _).drew)
      have DA : Hid (∀ o, Below w2.heap.size wr (wr.alloc o).drew) := fun o => ((Below.refl _ _).alloc (by omega) _).drew
      have OA : Hid (∀ o, (wr.alloc o).drew.ownsRow w2.heap.size 3 1 (.slice xo k yo) k ((List.replicate k x).map (Value.int .i64))) := fun o => ho.out.alloc o
      have RN := hideP (rd_new wr x 3)
      clear q1
      go_wp2_with (go_at_call 34; refine (KP.out _ RD.out).mono ?_; rintro e wr ⟨rfl, rfl⟩)
      refine wp_region_held (S := fun w' => Below w2.heap.size wr w') (by kernel_rfl) ?_
      change wpAnyH _ _ _ _ _ _ _ _ (World.drew _)
      refine wpAnyH_take (i := 0) (v := .pointer (some ⟨w2.heap.size + 1, 1, none⟩)) rfl (by kernel_rfl) (by kernel_rfl) (by kernel_rfl) (fun _ _ _ h => h) (Or.inl ⟨by rfl, ?_⟩) D.out ?_
      · intro w' hS
        clear L0 L1 hS
        go_simp
      refine wpAnyH_take (i := 2) (v := .pointer (some ⟨w.heap.size, 1, none⟩)) rfl (by kernel_rfl) (by kernel_rfl) (by kernel_rfl) (fun _ _ _ h => h) (Or.inl ⟨by rfl, ?_⟩) D.out ?_
      · intro w' hS
        clear L0 L1 hS
        go_simp
      refine wpAnyH_take (i := 3) (v := .slice (some ⟨b, off, none⟩) m c1) rfl (by kernel_rfl) (by kernel_rfl) (by kernel_rfl) (fun _ _ _ h => h) (Or.inl ⟨by rfl, ?_⟩) D.out ?_
      · intro w' hS
        have := L0 w' hS
        clear L0 L1 hS
        go_simp
      refine wpAnyH_take (i := 4) (v := .pointer (some ⟨b, off, none⟩)) rfl (by kernel_rfl) (by kernel_rfl) (by kernel_rfl) (fun _ _ _ h => h) (Or.inl ⟨by rfl, ?_⟩) D.out ?_
      · intro w' hS
        clear L0 L1 hS
        go_simp
      refine wpAnyH_take (i := 5) (v := .int .i64 x) rfl (by kernel_rfl) (by kernel_rfl) (by kernel_rfl) (fun _ _ _ h => h) (Or.inl ⟨by rfl, ?_⟩) D.out ?_
      · intro w' hS
        have := L1 w' hS
        clear L0 L1 hS
        go_simp
      clear L0 L1
      refine wpAnyH_ready (rs := [1, 6]) (by kernel_rfl) (by simp) ?_
      refine AllReadyH.cons rfl (fun K hK => ?_) (AllReadyH.cons rfl (fun K hK => ?_) AllReadyH.nil)
      · go_simp
        refine hK.out _ _ D.out (fun _ => ?_)
        clear hK
        refine wpAnyH_ready (rs := [6]) (by kernel_rfl) (by simp) ?_
        refine AllReadyH.cons rfl (fun K hK => ?_) AllReadyH.nil
        go_simp
        refine hK.out _ _ (DA.out _) (fun _ => ?_)
        clear hK
        refine wpAnyH_ready (rs := [7]) (by kernel_rfl) (by simp) ?_
        refine AllReadyH.cons rfl (fun K hK => ?_) AllReadyH.nil
        refine step_append_rd (base := w2.heap.size) _ rfl _ _ rfl _ _ rfl rfl k _ _ (OA.out _) RN.out (by simp; omega) (by simp [World.drew]; omega) ?_
        intro v' w9 ho' hg
        have ho9 : w9.ownsRow w2.heap.size 3 1 v' (k + 1) ((List.replicate (k + 1) x).map (Value.int .i64)) := by
          rw [rep_snoc]
          exact ho'
        have OS := hideP (out_step hP.out ho.out (Nat.le_succ _) hbel.out (grown_drew hg) ho9)
        have D9 : Hid (Below w2.heap.size wr w9) := (DA.out _).grown hg (by simp [World.drew]; omega) (fun k hk => (ho.out.lt k hk).1)
        obtain ⟨x9, y9, e9⟩ := owns_form ho9
        subst e9
        have p9 : w9.cell? ⟨w2.heap.size + 1, 1, none⟩ = some (.slice xo k yo) := cell_blk OS.out.1
        have f9 : w9.frozen? ⟨w2.heap.size + 1, 1, none⟩ = false := frozen_blk OS.out.1
        clear ho' ho9 hg p1
        refine hK.out _ _ D9.out (fun _ => ?_)
        clear hK
        refine wpAnyH_ready (rs := [8]) (by kernel_rfl) (by simp) ?_
        refine AllReadyH.cons rfl (fun K hK => ?_) AllReadyH.nil
        go_simp
        refine hK.out _ _ D9.out (fun _ => ?_)
        clear hK
        refine wpAnyH_ready (rs := [9]) (by kernel_rfl) (by simp) ?_
        refine AllReadyH.cons rfl (fun K hK => ?_) AllReadyH.nil
        go_simp
        refine hK.out _ _ (D9.out.setCell (by simp) _) (fun _ => ?_)
        clear hK
        refine wpAnyH_done (by kernel_rfl) ?_ _
        clear p9 f9
        go_wp2_with fail
        go_roundw
        case rel => exact ⟨k + 1, by omega, by go_num, _, OS.out.2.1, OS.out.2.2.1, OS.out.2.2.2⟩
        case measure => simp [intOf]; omega
      · go_simp
        refine hK.out _ _ (DA.out _) (fun _ => ?_)
        clear hK
        refine wpAnyH_ready (rs := [1]) (by kernel_rfl) (by simp) ?_
        refine AllReadyH.cons rfl (fun K hK => ?_) AllReadyH.nil
        go_simp
        refine hK.out _ _ (DA.out _) (fun _ => ?_)
        clear hK
        refine wpAnyH_ready (rs := [7]) (by kernel_rfl) (by simp) ?_
        refine AllReadyH.cons rfl (fun K hK => ?_) AllReadyH.nil
        refine step_append_rd (base := w2.heap.size) _ rfl _ _ rfl _ _ rfl rfl k _ _ (OA.out _) RN.out (by simp; omega) (by simp [World.drew]; omega) ?_
        intro v' w9 ho' hg
        have ho9 : w9.ownsRow w2.heap.size 3 1 v' (k + 1) ((List.replicate (k + 1) x).map (Value.int .i64)) := by
          rw [rep_snoc]
          exact ho'
        have OS := hideP (out_step hP.out ho.out (Nat.le_succ _) hbel.out (grown_drew hg) ho9)
        have D9 : Hid (Below w2.heap.size wr w9) := (DA.out _).grown hg (by simp [World.drew]; omega) (fun k hk => (ho.out.lt k hk).1)
        obtain ⟨x9, y9, e9⟩ := owns_form ho9
        subst e9
        have p9 : w9.cell? ⟨w2.heap.size + 1, 1, none⟩ = some (.slice xo k yo) := cell_blk OS.out.1
        have f9 : w9.frozen? ⟨w2.heap.size + 1, 1, none⟩ = false := frozen_blk OS.out.1
        clear ho' ho9 hg p1
        refine hK.out _ _ D9.out (fun _ => ?_)
        clear hK
        refine wpAnyH_ready (rs := [8]) (by kernel_rfl) (by simp) ?_
        refine AllReadyH.cons rfl (fun K hK => ?_) AllReadyH.nil
        go_simp
        refine hK.out _ _ D9.out (fun _ => ?_)
        clear hK
        refine wpAnyH_ready (rs := [9]) (by kernel_rfl) (by simp) ?_
        refine AllReadyH.cons rfl (fun K hK => ?_) AllReadyH.nil
        go_simp
        refine hK.out _ _ (D9.out.setCell (by simp) _) (fun _ => ?_)
        clear hK
        refine wpAnyH_done (by kernel_rfl) ?_ _
        clear p9 f9
        go_wp2_with fail
        go_roundw
        case rel => exact ⟨k + 1, by omega, by go_num, _, OS.out.2.1, OS.out.2.2.1, OS.out.2.2.2⟩
        case measure => simp [intOf]; omega
    · have kn : k = n := by omega
      subst kn
      have p0 : wr.cell? ⟨w2.heap.size + 1, 0, none⟩ = some (.slice x2 sh.length y2) := cell_blk hP.out
      have p1 : wr.cell? ⟨w2.heap.size + 1, 1, none⟩ = some (.slice xo k yo) := cell_blk hP.out
      have r0 : wr.cell? ⟨w.heap.size + 1, 0, none⟩ = some (.slice none 0 0) := (hbel.out.cell (p := ⟨w.heap.size + 1, 0, none⟩) (by show w.heap.size + 1 < _; omega)).trans C2.out.2.1
      have r1 : wr.cell? ⟨w.heap.size + 1, 1, none⟩ = some (.slice none 0 0) := (hbel.out.cell (p := ⟨w.heap.size + 1, 1, none⟩) (by show w.heap.size + 1 < _; omega)).trans C2.out.2.2.1
      have f3 : ∀ o, wr.frozen? ⟨w.heap.size + 1, o, none⟩ = false := fun o => (hbel.out.frozen (p := ⟨w.heap.size + 1, o, none⟩) (by show w.heap.size + 1 < _; omega)).trans (C2.out.2.2.2 o)
      go_wp2_with (go_at_call 34; refine (KP.out _ RD.out).mono ?_; rintro e wr ⟨rfl, rfl⟩)
      refine bodyPost_ret (v := .agg #[.slice x2 sh.length y2, .slice xo k yo]) (by simp [results, Try.results90, go_sem, r0, r1]) rfl ?_
      refine ⟨_, _, rfl, ⟨?_, ?_, ?_⟩, (HBW.out.setCell (by simp) _).setCell (by simp) _⟩
      · have := HO2.out.base (show w.heap.size + 1 + 1 ≤ _ by simp)
        have k2 : Own (w.heap.size + 1 + 1) wr (.slice x2 sh.length y2) sh := by
          obtain ⟨q, p, e, h⟩ := this
          refine ⟨q, p, e, ?_⟩
          rcases h with h | ⟨g, of, g1', g2', g3, g4⟩
          · exact .inl h
          · exact .inr ⟨g, of, g1', by omega, g3, fun i hi => ⟨(hbel.out.cell (p := ⟨g, of + i, none⟩) g2').trans (g4 i hi).1, (hbel.out.frozen (p := ⟨g, of + i, none⟩) g2').trans (g4 i hi).2⟩⟩
        exact Own.base (Own.store (Own.store k2 (by omega) _) (by omega) _) (by omega)
      · have := (own_of_any ho.out).base (show w.heap.size + 1 + 1 ≤ w2.heap.size by omega)
        exact Own.base (Own.store (Own.store this (by omega) _) (by omega) _) (by omega)
      · refine apart_right (B := w2.heap.size) (own_of_any ho.out) ?_
        exact HO2.out.lt

end Go.Proofs.Ytmobjomebmipdaa
