import Derived.Test.YtaikmbfdhecjoaaGreatDw1
import Derived.Test.YtaikmbfdhecjoaaGreatCut
namespace Go.Proofs.YtaikmbfdhecjoaaGreat
open Go.RowKit
set_option linter.unusedVariables false

/-- s[:j] -/
theorem exec_top {o : Oper} {a : Act} (x y : Operand) (g off m cp j : Nat) (ho : o.op = Op.slice 23 x none (some y) none) (hx : a.eval x = .slice (some ⟨g, off, none⟩) m cp) (hy : a.eval y = .int .i64 (j : Int)) (h : j ≤ cp) (w : World) :
    (execOp a.eval o).run Tryz.prog w = .ok (.value (.slice (some ⟨g, off, none⟩) j cp)) w := by
  have e : (Instr.sliceAt 23 (.slice (some ⟨g, off, none⟩) m cp) none (some (.int .i64 (j : Int))) none).run Tryz.prog w = .ok (.slice (some ⟨g, off, none⟩) j cp) w := by
    rw [run_sliceAt_slice _ _ _ _ _ _ und22, run_slice_h _ _ _ _ _ und22 _ _ (by omega) (by omega), sizeOf3]
    simp [Result.andThen, sliced, Addr.add]
  simp [execOp, ho, hx, hy, e, Result.andThen]

theorem owns_one (w : World) (x : Int) (base : Nat) (hb : base ≤ w.heap.size) : (w.alloc (.cells #[.int .i64 x] 3)).ownsRow base 3 1 (.slice (some ⟨w.heap.size, 0, none⟩) 1 1) 1 (([x] : List Int).map (Value.int .i64)) :=
  World.ownsRow_lit w #[.int .i64 x] 1 hb (by unfold maxLen; omega) rfl

set_option maxRecDepth 100000 in
set_option maxHeartbeats 4000000 in
/-- spec.l2First -/
theorem l2First_any (b0 o0 c0 b1 o1 c1 i q : Nat) (sh da : List Int) (w : World) (h0 : Rd w.heap.size w (.slice (some ⟨b0, o0, none⟩) sh.length c0) sh) (h1 : Rd w.heap.size w (.slice (some ⟨b1, o1, none⟩) da.length c1) da) (hl : 1 ≤ sh.length) (hl3 : sh.length ≤ 3) (hld : da.length ≤ 1000) (hc0 : sh.length ≤ c0) (hc0' : c0 ≤ 9223372036854775807) (hc1 : da.length ≤ c1) (hc1' : c1 ≤ 9223372036854775807)
    (hf : Pl.fitsB ((i : Int) :: sh.tail) = true) (hp : Pl.prodC ((i : Int) :: sh.tail) = q) (hq : q ≤ da.length) (hi2 : i ≤ 1000) :
    Calls Tryz.prog 21 #[.agg #[.slice (some ⟨b0, o0, none⟩) sh.length c0, .slice (some ⟨b1, o1, none⟩) da.length c1], .int .i64 (i : Int)] w fun e w' => ∃ g0 k0 g1 k1, e = .returned (.agg #[.slice (some ⟨g0, 0, none⟩) (1 + sh.tail.length) k0, .slice (some ⟨g1, 0, none⟩) q k1]) ∧ 1 + sh.tail.length ≤ k0 ∧ k0 ≤ 9223372036854775807 ∧ q ≤ k1 ∧ k1 ≤ 9223372036854775807 ∧
      Rd w'.heap.size w' (.slice (some ⟨g0, 0, none⟩) (1 + sh.tail.length) k0) ((i : Int) :: sh.tail) ∧ Rd w'.heap.size w' (.slice (some ⟨g1, 0, none⟩) q k1) (da.take q) ∧ Below w.heap.size w w' := by
  have htl : sh.tail.length = sh.length - 1 := by simp
  have hrr : ((i : Int) :: sh.tail).all Pl.inR = true := by
    simp only [Pl.fitsB, Pl.baseB, Bool.and_eq_true] at hf
    exact hf.1.2
  have RT := hideP (fun c' => rd_tail h0 hl c')
  have RZ : Hid (sh.length - 1 = 0 → ∀ c', Rd w.heap.size w (.slice (some ⟨b0, o0, none⟩) 0 c') sh.tail) := fun h c' => rd_zero _ _ _ _ _ (by omega)
  have KT : Hid (∀ W v, Below w.heap.size w W → Rd w.heap.size w v sh.tail → Rd w.heap.size W v sh.tail) := fun W v hb h => h.keep hb
  have B3 : Hid (∀ o o' o'', Below w.heap.size w (((w.alloc o).alloc o').alloc o'')) := fun o o' o'' => below3 w o o' o''
  have OL : Hid (∀ o o', (((w.alloc o).alloc o').alloc (.cells #[.int .i64 (i : Int)] 3)).ownsRow (w.heap.size + 1 + 1) 3 1 (.slice (some ⟨w.heap.size + 1 + 1, 0, none⟩) 1 1) 1 (([(i : Int)] : List Int).map (Value.int .i64))) := fun o o' => by
    have := owns_one ((w.alloc o).alloc o') i (w.heap.size + 1 + 1) (by simp)
    have e : ((w.alloc o).alloc o').heap.size = w.heap.size + 1 + 1 := by simp
    rw [e] at this
    exact this
  have KP : Hid (∀ W v, Rd W.heap.size W v ((i : Int) :: sh.tail) → Calls Tryz.prog 40 #[v] W fun e w' => e = .returned (.int .i64 (q : Int)) ∧ w' = W) := fun W v h => by
    have := l1Product_any _ v ((i : Int) :: sh.tail) W (by simp; omega) hrr h
    rw [hp] at this
    exact this
  have hdl : (da.take q).length = q := by rw [List.length_take]; omega
  have KD : Hid (∀ W, Below w.heap.size w W → Calls Tryz.prog 17 #[.slice (some ⟨b1, o1, none⟩) q c1] W fun e w' => ∃ g cap, e = .returned (.slice (some ⟨g, 0, none⟩) q cap) ∧ q ≤ cap ∧ cap ≤ 9223372036854775807 ∧ w'.ownsRow W.heap.size 3 1 (.slice (some ⟨g, 0, none⟩) q cap) q ((da.take q).map (Value.int .i64)) ∧ Below W.heap.size W w') := fun W hb => by
    have rd := ((h1.keep hb).up hb.size).sub 0 q (Nat.zero_le _) hq c1
    rw [Nat.add_zero, Nat.sub_zero, List.drop_zero] at rd
    have := l2Copy_at _ (da.take q) W (by omega) rd
    rw [hdl] at this
    exact this
  have hqc : q ≤ c1 := by omega
  have hst : sh.tail.length ≤ 2 := by omega
  generalize da.take q = dt at *
  generalize sh.tail = st at *
  generalize sh.length = L at *
  generalize da.length = m at *
  clear h0 h1 hrr hf hp hdl htl
  by_cases hc : c0 = 1
  · subst hc
    have RZ' := hideP (RZ.out (by omega))
    clear RZ RT
    go_enter Tryz.func21, Tryz.ntmps21
    go_wp2_with (at_builtin; refine wpList_append_rd_at (base := w.heap.size + 1 + 1) _ rfl _ _ rfl _ _ rfl rfl 1 [(i : Int)] st (OL.out _ _) (KT.out _ _ (B3.out _ _ _) (RZ'.out _)) (by omega) (by simp) ?_)
    intro v' w1 ho hg hat
    have HO : Hid (w1.ownsRow (w.heap.size + 1 + 1) 3 1 v' (1 + st.length) (((i : Int) :: st).map (Value.int .i64))) := ho
    obtain ⟨g0, k0, ev, q0, q0'⟩ := owns_some HO.out (by
      rcases hat with hat | hat
      · exact ⟨_, hat⟩
      · exact ⟨_, hat⟩)
    subst ev
    have B1 : Hid (Below (w.heap.size + 1 + 1) ((w.alloc (.cells #[.slice (some ⟨b0, o0, none⟩) L 1, .slice (some ⟨b1, o1, none⟩) m c1] 25)).alloc (.cells #[.slice none 0 0, .slice none 0 0] 25)) w1) := ((Below.refl _ _).alloc (by simp) _).grown hg (by simp) (fun k hk => by simp [Value.ownBlock] at hk; omega)
    have X1 := hideP (boxes2 B1.out)
    have hs1 : w.heap.size + 1 + 1 ≤ w1.heap.size := by have := B1.out.size; simpa using this
    have RS := hideP (own_of_any HO.out)
    clear ho hg hat
    have D1 : Hid (Below w1.heap.size w1 w1.drew) := (Below.refl _ _).drew
    have PA : Hid (∀ W, Below (w.heap.size + 1) w1 W → W.cell? ⟨w.heap.size, 1, none⟩ = some (.slice (some ⟨b1, o1, none⟩) m c1)) := fun W hb => (hb.cell (p := ⟨w.heap.size, 1, none⟩) (by show w.heap.size < _; omega)).trans X1.out.1.2
    have SB : Hid (∀ W, Below w1.heap.size w1 W → Below (w.heap.size + 1) w1 W) := fun W hb => hb.mono (by omega)
    have RP : Hid (Rd w1.drew.heap.size w1.drew (.slice (some ⟨g0, 0, none⟩) (1 + st.length) k0) ((i : Int) :: st)) := RS.out.rd
    have BW : Hid (Below w.heap.size w w1.drew) := X1.out.2.2.drew
    go_upto_region 2 with fail
    refine wp_region_held (S := fun w' => Below (w.heap.size + 1) w1 w') (by kernel_rfl) ?_
    change wpAnyH _ _ _ _ _ _ _ _ (World.drew _)
    refine wpAnyH_take (i := 0) (v := .slice (some ⟨g0, 0, none⟩) (1 + st.length) k0) rfl (by kernel_rfl) (by kernel_rfl) (by kernel_rfl) (fun _ _ _ h => h) (Or.inl ⟨by rfl, ?_⟩) (SB.out _ D1.out) ?_
    · intro w' hS
      clear hS
      go_simp
    refine wpAnyH_take (i := 1) (v := .pointer (some ⟨w.heap.size, 1, none⟩)) rfl (by kernel_rfl) (by kernel_rfl) (by kernel_rfl) (fun _ _ _ h => h) (Or.inl ⟨by rfl, ?_⟩) (SB.out _ D1.out) ?_
    · intro w' hS
      clear hS
      go_simp
    refine wpAnyH_take (i := 2) (v := .slice (some ⟨b1, o1, none⟩) m c1) rfl (by kernel_rfl) (by kernel_rfl) (by kernel_rfl) (fun _ _ _ h => h) (Or.inl ⟨by rfl, ?_⟩) (SB.out _ D1.out) ?_
    · intro w' hS
      have g1 := PA.out w' hS
      clear hS
      go_simp
    refine wpAnyH_take (i := 3) (v := .slice (some ⟨g0, 0, none⟩) (1 + st.length) k0) rfl (by kernel_rfl) (by kernel_rfl) (by kernel_rfl) (fun _ _ _ h => h) (Or.inl ⟨by rfl, ?_⟩) (SB.out _ D1.out) ?_
    · intro w' hS
      clear hS
      go_simp
    refine wpAnyH_ready (rs := [4]) (by kernel_rfl) (by simp) ?_
    refine AllReadyH.cons rfl (fun K hK => ?_) AllReadyH.nil
    go_simp
    refine (KP.out _ _ RP.out).mono ?_
    rintro e w2 ⟨rfl, hw2⟩
    subst hw2
    refine hK.out _ _ (SB.out _ D1.out) (fun _ => ?_)
    clear hK
    refine wpAnyH_take (i := 5) (v := .slice (some ⟨b1, o1, none⟩) q c1) rfl (by kernel_rfl) (by kernel_rfl) (by kernel_rfl) (fun _ _ _ h => h) (Or.inl ⟨by rfl, fun w' _ => exec_top (.tmp 14) (.tmp 16) b1 o1 m c1 q (by kernel_rfl) (by kernel_rfl) (by kernel_rfl) hqc w'⟩) (SB.out _ D1.out) ?_
    refine wpAnyH_ready (rs := [6]) (by kernel_rfl) (by simp) ?_
    refine AllReadyH.cons rfl (fun K hK => ?_) AllReadyH.nil
    go_simp
    refine (KD.out _ BW.out).mono ?_
    rintro e w3 ⟨g1, k1, rfl, q1, q1', ho3, hb3⟩
    have B3' := hideP (D1.out.trans hb3)
    have O3 := hideP (show Own w1.heap.size w3 _ _ from own_of_any ho3)
    have R3 := hideP (RS.out.keep B3'.out)
    have AP := hideP (apart_right (sh := (i : Int) :: st) (u0 := .slice (some ⟨g0, 0, none⟩) (1 + st.length) k0) (own_of_any ho3) RS.out.lt)
    have X3 := hideP (boxes2 (B1.out.trans (B3'.out.mono hs1)))
    have hs3 := B3'.out.size
    clear ho3 hb3
    refine hK.out _ _ (SB.out _ B3'.out) (fun _ => ?_)
    clear hK
    refine wpAnyH_take (i := 7) (v := .agg #[.slice (some ⟨g0, 0, none⟩) (1 + st.length) k0, .slice (some ⟨g1, 0, none⟩) q k1]) rfl (by kernel_rfl) (by kernel_rfl) (by kernel_rfl) (fun _ _ _ h => h) (Or.inl ⟨by rfl, ?_⟩) (SB.out _ B3'.out) ?_
    · intro w' hS
      clear hS
      go_simp
    refine wpAnyH_ready (rs := [8]) (by kernel_rfl) (by simp) ?_
    refine AllReadyH.cons rfl (fun K hK => ?_) AllReadyH.nil
    have r0 := X3.out.2.1.1
    have r1 := X3.out.2.1.2.1
    have f2 := X3.out.2.1.2.2
    go_simp
    refine hK.out _ _ (((SB.out _ B3'.out).setCell (by simp) _).setCell (by simp) _) (fun _ => ?_)
    clear hK
    refine wpAnyH_done (by kernel_rfl) ?_ _
    go_wp2_with fail
    refine bodyPost_ret (v := .agg #[.slice (some ⟨g0, 0, none⟩) (1 + st.length) k0, .slice (some ⟨g1, 0, none⟩) q k1]) (by simp [results, Tryz.results21, go_sem, r0, r1]) rfl ⟨g0, k0, g1, k1, rfl, by omega, by omega, by omega, by omega, ?_, ?_, (X3.out.2.2.setCell (by simp) _).setCell (by simp) _⟩
    · exact (Own.store (Own.store R3.out (by omega) _) (by omega) _).rd
    · exact (Own.store (Own.store O3.out (by omega) _) (by omega) _).rd
  · clear RZ
    go_enter Tryz.func21, Tryz.ntmps21
    go_wp2_with (at_builtin; refine wpList_append_rd_at (base := w.heap.size + 1 + 1) _ rfl _ _ rfl _ _ rfl rfl 1 [(i : Int)] st (OL.out _ _) (KT.out _ _ (B3.out _ _ _) (RT.out _)) (by omega) (by simp) ?_)
    intro v' w1 ho hg hat
    have HO : Hid (w1.ownsRow (w.heap.size + 1 + 1) 3 1 v' (1 + st.length) (((i : Int) :: st).map (Value.int .i64))) := ho
    obtain ⟨g0, k0, ev, q0, q0'⟩ := owns_some HO.out (by
      rcases hat with hat | hat
      · exact ⟨_, hat⟩
      · exact ⟨_, hat⟩)
    subst ev
    have B1 : Hid (Below (w.heap.size + 1 + 1) ((w.alloc (.cells #[.slice (some ⟨b0, o0, none⟩) L c0, .slice (some ⟨b1, o1, none⟩) m c1] 25)).alloc (.cells #[.slice none 0 0, .slice none 0 0] 25)) w1) := ((Below.refl _ _).alloc (by simp) _).grown hg (by simp) (fun k hk => by simp [Value.ownBlock] at hk; omega)
    have X1 := hideP (boxes2 B1.out)
    have hs1 : w.heap.size + 1 + 1 ≤ w1.heap.size := by have := B1.out.size; simpa using this
    have RS := hideP (own_of_any HO.out)
    clear ho hg hat
    have D1 : Hid (Below w1.heap.size w1 w1.drew) := (Below.refl _ _).drew
    have PA : Hid (∀ W, Below (w.heap.size + 1) w1 W → W.cell? ⟨w.heap.size, 1, none⟩ = some (.slice (some ⟨b1, o1, none⟩) m c1)) := fun W hb => (hb.cell (p := ⟨w.heap.size, 1, none⟩) (by show w.heap.size < _; omega)).trans X1.out.1.2
    have SB : Hid (∀ W, Below w1.heap.size w1 W → Below (w.heap.size + 1) w1 W) := fun W hb => hb.mono (by omega)
    have RP : Hid (Rd w1.drew.heap.size w1.drew (.slice (some ⟨g0, 0, none⟩) (1 + st.length) k0) ((i : Int) :: st)) := RS.out.rd
    have BW : Hid (Below w.heap.size w w1.drew) := X1.out.2.2.drew
    go_upto_region 2 with fail
    refine wp_region_held (S := fun w' => Below (w.heap.size + 1) w1 w') (by kernel_rfl) ?_
    change wpAnyH _ _ _ _ _ _ _ _ (World.drew _)
    refine wpAnyH_take (i := 0) (v := .slice (some ⟨g0, 0, none⟩) (1 + st.length) k0) rfl (by kernel_rfl) (by kernel_rfl) (by kernel_rfl) (fun _ _ _ h => h) (Or.inl ⟨by rfl, ?_⟩) (SB.out _ D1.out) ?_
    · intro w' hS
      clear hS
      go_simp
    refine wpAnyH_take (i := 1) (v := .pointer (some ⟨w.heap.size, 1, none⟩)) rfl (by kernel_rfl) (by kernel_rfl) (by kernel_rfl) (fun _ _ _ h => h) (Or.inl ⟨by rfl, ?_⟩) (SB.out _ D1.out) ?_
    · intro w' hS
      clear hS
      go_simp
    refine wpAnyH_take (i := 2) (v := .slice (some ⟨b1, o1, none⟩) m c1) rfl (by kernel_rfl) (by kernel_rfl) (by kernel_rfl) (fun _ _ _ h => h) (Or.inl ⟨by rfl, ?_⟩) (SB.out _ D1.out) ?_
    · intro w' hS
      have g1 := PA.out w' hS
      clear hS
      go_simp
    refine wpAnyH_take (i := 3) (v := .slice (some ⟨g0, 0, none⟩) (1 + st.length) k0) rfl (by kernel_rfl) (by kernel_rfl) (by kernel_rfl) (fun _ _ _ h => h) (Or.inl ⟨by rfl, ?_⟩) (SB.out _ D1.out) ?_
    · intro w' hS
      clear hS
      go_simp
    refine wpAnyH_ready (rs := [4]) (by kernel_rfl) (by simp) ?_
    refine AllReadyH.cons rfl (fun K hK => ?_) AllReadyH.nil
    go_simp
    refine (KP.out _ _ RP.out).mono ?_
    rintro e w2 ⟨rfl, hw2⟩
    subst hw2
    refine hK.out _ _ (SB.out _ D1.out) (fun _ => ?_)
    clear hK
    refine wpAnyH_take (i := 5) (v := .slice (some ⟨b1, o1, none⟩) q c1) rfl (by kernel_rfl) (by kernel_rfl) (by kernel_rfl) (fun _ _ _ h => h) (Or.inl ⟨by rfl, fun w' _ => exec_top (.tmp 14) (.tmp 16) b1 o1 m c1 q (by kernel_rfl) (by kernel_rfl) (by kernel_rfl) hqc w'⟩) (SB.out _ D1.out) ?_
    refine wpAnyH_ready (rs := [6]) (by kernel_rfl) (by simp) ?_
    refine AllReadyH.cons rfl (fun K hK => ?_) AllReadyH.nil
    go_simp
    refine (KD.out _ BW.out).mono ?_
    rintro e w3 ⟨g1, k1, rfl, q1, q1', ho3, hb3⟩
    have B3' := hideP (D1.out.trans hb3)
    have O3 := hideP (show Own w1.heap.size w3 _ _ from own_of_any ho3)
    have R3 := hideP (RS.out.keep B3'.out)
    have AP := hideP (apart_right (sh := (i : Int) :: st) (u0 := .slice (some ⟨g0, 0, none⟩) (1 + st.length) k0) (own_of_any ho3) RS.out.lt)
    have X3 := hideP (boxes2 (B1.out.trans (B3'.out.mono hs1)))
    have hs3 := B3'.out.size
    clear ho3 hb3
    refine hK.out _ _ (SB.out _ B3'.out) (fun _ => ?_)
    clear hK
    refine wpAnyH_take (i := 7) (v := .agg #[.slice (some ⟨g0, 0, none⟩) (1 + st.length) k0, .slice (some ⟨g1, 0, none⟩) q k1]) rfl (by kernel_rfl) (by kernel_rfl) (by kernel_rfl) (fun _ _ _ h => h) (Or.inl ⟨by rfl, ?_⟩) (SB.out _ B3'.out) ?_
    · intro w' hS
      clear hS
      go_simp
    refine wpAnyH_ready (rs := [8]) (by kernel_rfl) (by simp) ?_
    refine AllReadyH.cons rfl (fun K hK => ?_) AllReadyH.nil
    have r0 := X3.out.2.1.1
    have r1 := X3.out.2.1.2.1
    have f2 := X3.out.2.1.2.2
    go_simp
    refine hK.out _ _ (((SB.out _ B3'.out).setCell (by simp) _).setCell (by simp) _) (fun _ => ?_)
    clear hK
    refine wpAnyH_done (by kernel_rfl) ?_ _
    go_wp2_with fail
    refine bodyPost_ret (v := .agg #[.slice (some ⟨g0, 0, none⟩) (1 + st.length) k0, .slice (some ⟨g1, 0, none⟩) q k1]) (by simp [results, Tryz.results21, go_sem, r0, r1]) rfl ⟨g0, k0, g1, k1, rfl, by omega, by omega, by omega, by omega, ?_, ?_, (X3.out.2.2.setCell (by simp) _).setCell (by simp) _⟩
    · exact (Own.store (Own.store R3.out (by omega) _) (by omega) _).rd
    · exact (Own.store (Own.store O3.out (by omega) _) (by omega) _).rd

end Go.Proofs.YtaikmbfdhecjoaaGreat
