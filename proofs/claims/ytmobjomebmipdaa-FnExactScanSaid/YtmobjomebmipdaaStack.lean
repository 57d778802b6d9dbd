import Derived.Test.YtmobjomebmipdaaRed2
import Derived.Test.YtmobjomebmipdaaScan
import Derived.Test.YtmobjomebmipdaaRep
namespace Go.Proofs.Ytmobjomebmipdaa
open Go.RowKit
set_option linter.unusedVariables false

/-- a row that is not nil -/
theorem owns_some {base n : Nat} {w : World} {v : Value} {xs : List Value} (h : w.ownsRow base 3 1 v n xs) (hb : ∃ k, v.ownBlock = some k) : ∃ g cap, v = .slice (some ⟨g, 0, none⟩) n cap ∧ n ≤ cap ∧ cap ≤ 9223372036854775807 := by
  rcases h.2 with ⟨rfl, _⟩ | ⟨g, cap, cur, rfl, _, _, h1, h2, _⟩
  · obtain ⟨k, hk⟩ := hb
    simp [Value.ownBlock] at hk
  · refine ⟨g, cap, rfl, h1, ?_⟩
    unfold maxLen at h2
    omega

/-- append(v, u...), and where the row lies -/
theorem wpList_append_rd_at {base B : Nat} (w : World) {ops : Array Oper} {rest : List Oper} {o : Oper} {a : Act} {Q : Exit → Act → World → Prop} (hg : o.guard = none) (s x : Operand)
    (hop : o.op = Op.call { callee := Callee.builtin Builtin.append, args := #[s, x], argTypes := #[22, 22] }) (v u : Value) (hs : a.eval s = v) (hx : a.eval x = u) (n : Nat) (ys xs : List Int)
    (hown : w.ownsRow base 3 1 v n (ys.map (Value.int .i64))) (hrd : Rd B w u xs) (hbd : n + xs.length ≤ 16777216) (hbase : base ≤ w.heap.size)
    (hK : ∀ v' w', w'.ownsRow base 3 1 v' (n + xs.length) ((ys ++ xs).map (Value.int .i64)) → w.grownBy w' v.ownBlock → (v'.ownBlock = v.ownBlock ∨ v'.ownBlock = some w.heap.size) → wpList Try.prog ops Q rest (a.put o.dst v') w') : wpList Try.prog ops Q (o :: rest) a w := by
  obtain ⟨v', w', hr, ho, hb, hat⟩ := append_rd_at w v n ys hown u xs hrd hbd hbase o.type
  exact wpList_append_eq w w' hg s x _ hop v u v' hs hx hr (hK v' w' ho hb hat)

/-- spec.l2Copy: its answer is not nil -/
theorem l2Copy_at (u : Value) (xs : List Int) (w : World) (hl : xs.length ≤ 1048576) (h0 : Rd w.heap.size w u xs) :
    Calls Try.prog 40 #[u] w fun e w' => ∃ g cap, e = .returned (.slice (some ⟨g, 0, none⟩) xs.length cap) ∧ xs.length ≤ cap ∧ cap ≤ 9223372036854775807 ∧ w'.ownsRow w.heap.size 3 1 (.slice (some ⟨g, 0, none⟩) xs.length cap) xs.length (xs.map (Value.int .i64)) ∧ Below w.heap.size w w' := by
  have H := hideP h0
  obtain ⟨a0, d0, e0⟩ := h0.form
  subst e0
  clear h0
  go_enter Try.func40, Try.ntmps40
  have A : Hid (Below w.heap.size w (w.alloc (.cells #[] 3))) := (Below.refl _ _).alloc (Nat.le_refl _) _
  have RD := hideP (H.out.keep A.out)
  have OE := hideP (owns_empty w w.heap.size (Nat.le_refl _))
  go_wp2_with (at_builtin; refine wpList_append_rd_at _ rfl _ _ rfl _ _ rfl rfl 0 [] xs OE.out RD.out (by omega) (by simp) ?_)
  intro v' w' ho hg hat
  have HO : Hid (w'.ownsRow w.heap.size 3 1 v' xs.length (xs.map (Value.int .i64))) := by
    first | exact ho | (have := ho; rw [Nat.zero_add, List.nil_append] at this; exact this)
  obtain ⟨g, cap, ev, h1, h2⟩ := owns_some HO.out (by
    rcases hat with hat | hat
    · exact ⟨w.heap.size, hat⟩
    · exact ⟨_, hat⟩)
  subst ev
  have HB : Hid (Below w.heap.size w w') := A.out.grown hg (by simp) (fun k hk => by simp [Value.ownBlock] at hk; omega)
  clear ho hg hat
  go_wp2_with fail
  go_ret
  exact ⟨_, _, rfl, h1, h2, HO.out, HB.out⟩

namespace Pl
theorem fits_first {sh : List Int} (hf : fitsB sh = true) (h0 : ¬ sh.length = 0) {n s i : Nat} (hn : sh.getD 0 0 = n) (hs : prodC sh.tail = s) (hft : fitsB sh.tail = true) (hi : i ≤ n) : fitsB ((i : Int) :: sh.tail) = true ∧ prodC ((i : Int) :: sh.tail) = (i * s : Nat) := by
  cases sh with
  | nil => simp at h0
  | cons x tl =>
    simp only [List.tail_cons] at *
    have hx : x = n := hn
    subst hx
    have hb : baseB ((n : Int) :: tl) = true := by simp only [fitsB, Bool.and_eq_true] at hf; exact hf.1
    have hp := prod_eq hf
    have hp2 : prodP ((n : Int) :: tl) ≤ 1000 := by
      rw [fits_eq, hb] at hf
      simpa using hf
    rw [prodP_cons] at hp2
    have ep : prodP tl = s := by rw [← prod_eq hft]; exact hs
    rw [ep] at hp2
    have hb' : baseB ((i : Int) :: tl) = true := by
      simp only [baseB, Bool.and_eq_true, decide_eq_true_eq, List.all_cons, List.length_cons] at hb ⊢
      refine ⟨hb.1, ?_, hb.2.2⟩
      have := inR_bd hb.2.1
      simp only [inR, decide_eq_true_eq]
      omega
    have hle : (i : Int) * (s : Int) ≤ (n : Int) * (s : Int) := Int.mul_le_mul_of_nonneg_right (by omega) (by omega)
    have hf' : fitsB ((i : Int) :: tl) = true := by
      rw [fits_eq, hb', prodP_cons, ep]
      simp only [Bool.true_and, decide_eq_true_eq]
      omega
    refine ⟨hf', ?_⟩
    rw [prod_eq hf', prodP_cons, ep, Int.natCast_mul]
theorem ok_first {sh da : List Int} (hok : okB sh da = true) (h0 : ¬ sh.length = 0) {n s i : Nat} (hn : sh.getD 0 0 = n) (hs : prodC sh.tail = s) (hft : fitsB sh.tail = true) (hl : da.length = n * s) (hi : i ≤ n) : okB ((i : Int) :: sh.tail) (da.take (i * s)) = true := by
  obtain ⟨h1, h2⟩ := fits_first (ok_len hok).2 h0 hn hs hft hi
  have hle : i * s ≤ da.length := by rw [hl]; exact Nat.mul_le_mul_right s hi
  simp only [okB, Bool.and_eq_true, decide_eq_true_eq, List.all_eq_true] at hok ⊢
  refine ⟨⟨h1, by rw [h2, List.length_take]; omega⟩, fun x hx => hok.2 x (List.mem_of_mem_take hx)⟩
end Pl
end Go.Proofs.Ytmobjomebmipdaa

namespace Go.Proofs.Ytmobjomebmipdaa
open Go.RowKit
set_option linter.unusedVariables false

/-- s[:j] -/
theorem exec_top {o : Oper} {a : Act} (x y : Operand) (g off m cp j : Nat) (ho : o.op = Op.slice 22 x none (some y) none) (hx : a.eval x = .slice (some ⟨g, off, none⟩) m cp) (hy : a.eval y = .int .i64 (j : Int)) (h : j ≤ cp) (w : World) :
    (execOp a.eval o).run Try.prog w = .ok (.value (.slice (some ⟨g, off, none⟩) j cp)) w := by
  have e : (Instr.sliceAt 22 (.slice (some ⟨g, off, none⟩) m cp) none (some (.int .i64 (j : Int))) none).run Try.prog w = .ok (.slice (some ⟨g, off, none⟩) j cp) w := by
    rw [run_sliceAt_slice _ _ _ _ _ _ und22, run_slice_h _ _ _ _ _ und22 _ _ (by omega) (by omega), sizeOf3]
    simp [Result.andThen, sliced, Addr.add]
  simp [execOp, ho, hx, hy, e, Result.andThen]

theorem owns_one (w : World) (x : Int) (base : Nat) (hb : base ≤ w.heap.size) : (w.alloc (.cells #[.int .i64 x] 3)).ownsRow base 3 1 (.slice (some ⟨w.heap.size, 0, none⟩) 1 1) 1 (([x] : List Int).map (Value.int .i64)) :=
  World.ownsRow_lit w #[.int .i64 x] 1 hb (by unfold maxLen; omega) rfl

set_option maxRecDepth 100000 in
set_option maxHeartbeats 4000000 in
/-- spec.l2First -/
theorem l2First_any (b0 o0 c0 b1 o1 c1 i q : Nat) (sh da : List Int) (w : World) (h0 : Rd w.heap.size w (.slice (some ⟨b0, o0, none⟩) sh.length c0) sh) (h1 : Rd w.heap.size w (.slice (some ⟨b1, o1, none⟩) da.length c1) da) (hl : 1 ≤ sh.length) (hl3 : sh.length ≤ 3) (hld : da.length ≤ 1000) (hc0 : sh.length ≤ c0) (hc0' : c0 ≤ 9223372036854775807) (hc1 : da.length ≤ c1) (hc1' : c1 ≤ 9223372036854775807)
    (hf : Pl.fitsB ((i : Int) :: sh.tail) = true) (hp : Pl.prodC ((i : Int) :: sh.tail) = q) (hq : q ≤ da.length) (hi2 : i ≤ 1000) :
    Calls Try.prog 74 #[.agg #[.slice (some ⟨b0, o0, none⟩) sh.length c0, .slice (some ⟨b1, o1, none⟩) da.length c1], .int .i64 (i : Int)] w fun e w' => ∃ g0 k0 g1 k1, e = .returned (.agg #[.slice (some ⟨g0, 0, none⟩) (1 + sh.tail.length) k0, .slice (some ⟨g1, 0, none⟩) q k1]) ∧ 1 + sh.tail.length ≤ k0 ∧ k0 ≤ 9223372036854775807 ∧ q ≤ k1 ∧ k1 ≤ 9223372036854775807 ∧
      Rd w'.heap.size w' (.slice (some ⟨g0, 0, none⟩) (1 + sh.tail.length) k0) ((i : Int) :: sh.tail) ∧ Rd w'.heap.size w' (.slice (some ⟨g1, 0, none⟩) q k1) (da.take q) ∧ Below w.heap.size w w' := by
  have htl : sh.tail.length = sh.length - 1 := by simp
  have hrr : ((i : Int) :: sh.tail).all Pl.inR = true := by
    simp only [Pl.fitsB, Pl.baseB, Bool.and_eq_true] at hf
    exact hf.1.2
  have RT := hideP (fun c' => rd_tail h0 hl c')
  have RZ : Hid (sh.length - 1 = 0 → ∀ c', Rd w.heap.size w (.slice (some ⟨b0, o0, none⟩) 0 c') sh.tail) := fun h c' => rd_zero _ _ _ _ _ (by omega)
  have KT : Hid (∀ W v, Below w.heap.size w W → Rd w.heap.size w v sh.tail → Rd w.heap.size W v sh.tail) := fun W v hb h => h.keep hb
  have B3 : Hid (∀ o o' o'', Below w.heap.size w (((w.alloc o).alloc o').alloc o'')) := fun o o' o'' => below3 w o o' o''
  have OL : Hid (∀ o o', (((w.alloc o).alloc o').alloc (.cells #[.int .i64 (i : Int)] 3)).ownsRow (w.heap.size + 1 + 1) 3 1 (.slice (some ⟨w.heap.size + 1 + 1, 0, none⟩) 1 1) 1 (([(i : Int)] : List Int).map (Value.int .i64))) := fun o o' => by
    have := owns_one ((w.alloc o).alloc o') i (w.heap.size + 1 + 1) (by simp)
    have e : ((w.alloc o).alloc o').heap.size = w.heap.size + 1 + 1 := by simp
    rw [e] at this
    exact this
  have KP : Hid (∀ W v, Rd W.heap.size W v ((i : Int) :: sh.tail) → Calls Try.prog 34 #[v] W fun e w' => e = .returned (.int .i64 (q : Int)) ∧ w' = W) := fun W v h => by
    have := l1Product_any _ v ((i : Int) :: sh.tail) W (by simp; omega) hrr h
    rw [hp] at this
    exact this
  have hdl : (da.take q).length = q := by rw [List.length_take]; omega
  have KD : Hid (∀ W, Below w.heap.size w W → Calls Try.prog 40 #[.slice (some ⟨b1, o1, none⟩) q c1] W fun e w' => ∃ g cap, e = .returned (.slice (some ⟨g, 0, none⟩) q cap) ∧ q ≤ cap ∧ cap ≤ 9223372036854775807 ∧ w'.ownsRow W.heap.size 3 1 (.slice (some ⟨g, 0, none⟩) q cap) q ((da.take q).map (Value.int .i64)) ∧ Below W.heap.size W w') := fun W hb => by
    have rd := ((h1.keep hb).up hb.size).sub 0 q (Nat.zero_le _) hq c1
    rw [Nat.add_zero, Nat.sub_zero, List.drop_zero] at rd
    have := l2Copy_at _ (da.take q) W (by omega) rd
    rw [hdl] at this
    exact this
  have hqc : q ≤ c1 := by omega
  have hst : sh.tail.length ≤ 2 := by omega
  generalize da.take q = dt at *
  generalize sh.tail = st at *
  generalize sh.length = L at *
  generalize da.length = m at *
  clear h0 h1 hrr hf hp hdl htl
  by_cases hc : c0 = 1
  · subst hc
    have RZ' := hideP (RZ.out (by omega))
    clear RZ RT
    go_enter Try.func74, Try.ntmps74
    go_wp2_with (at_builtin; refine wpList_append_rd_at (base := w.heap.size + 1 + 1) _ rfl _ _ rfl _ _ rfl rfl 1 [(i : Int)] st (OL.out _ _) (KT.out _ _ (B3.out _ _ _) (RZ'.out _)) (by omega) (by simp) ?_)
    intro v' w1 ho hg hat
    have HO : Hid (w1.ownsRow (w.heap.size + 1 + 1) 3 1 v' (1 + st.length) (((i : Int) :: st).map (Value.int .i64))) := ho
    obtain ⟨g0, k0, ev, q0, q0'⟩ := owns_some HO.out (by
      rcases hat with hat | hat
      · exact ⟨_, hat⟩
      · exact ⟨_, hat⟩)
    subst ev
    have B1 : Hid (Below (w.heap.size + 1 + 1) ((w.alloc (.cells #[.slice (some ⟨b0, o0, none⟩) L 1, .slice (some ⟨b1, o1, none⟩) m c1] 27)).alloc (.cells #[.slice none 0 0, .slice none 0 0] 27)) w1) := ((Below.refl _ _).alloc (by simp) _).grown hg (by simp) (fun k hk => by simp [Value.ownBlock] at hk; omega)
    have X1 := hideP (boxes2 B1.out)
    have hs1 : w.heap.size + 1 + 1 ≤ w1.heap.size := by have := B1.out.size; simpa using this
    have RS := hideP (own_of_any HO.out)
    clear ho hg hat
    have D1 : Hid (Below w1.heap.size w1 w1.drew) := (Below.refl _ _).drew
    have PA : Hid (∀ W, Below (w.heap.size + 1) w1 W → W.cell? ⟨w.heap.size, 1, none⟩ = some (.slice (some ⟨b1, o1, none⟩) m c1)) := fun W hb => (hb.cell (p := ⟨w.heap.size, 1, none⟩) (by show w.heap.size < _; omega)).trans X1.out.1.2
    have SB : Hid (∀ W, Below w1.heap.size w1 W → Below (w.heap.size + 1) w1 W) := fun W hb => hb.mono (by omega)
    have RP : Hid (Rd w1.drew.heap.size w1.drew (.slice (some ⟨g0, 0, none⟩) (1 + st.length) k0) ((i : Int) :: st)) := RS.out.rd
    have BW : Hid (Below w.heap.size w w1.drew) := X1.out.2.2.drew
    go_upto_region 2 with fail
    refine wp_region_held (S := fun w' => Below (w.heap.size + 1) w1 w') (by kernel_rfl) ?_
    change wpAnyH _ _ _ _ _ _ _ _ (World.drew _)
    refine wpAnyH_take (i := 0) (v := .slice (some ⟨g0, 0, none⟩) (1 + st.length) k0) rfl (by kernel_rfl) (by kernel_rfl) (by kernel_rfl) (fun _ _ _ h => h) (Or.inl ⟨by rfl, ?_⟩) (SB.out _ D1.out) ?_
    · intro w' hS
      clear hS
      go_simp
    refine wpAnyH_take (i := 1) (v := .pointer (some ⟨w.heap.size, 1, none⟩)) rfl (by kernel_rfl) (by kernel_rfl) (by kernel_rfl) (fun _ _ _ h => h) (Or.inl ⟨by rfl, ?_⟩) (SB.out _ D1.out) ?_
    · intro w' hS
      clear hS
      go_simp
    refine wpAnyH_take (i := 2) (v := .slice (some ⟨b1, o1, none⟩) m c1) rfl (by kernel_rfl) (by kernel_rfl) (by kernel_rfl) (fun _ _ _ h => h) (Or.inl ⟨by rfl, ?_⟩) (SB.out _ D1.out) ?_
    · intro w' hS
      have g1 := PA.out w' hS
      clear hS
      go_simp
    refine wpAnyH_take (i := 3) (v := .slice (some ⟨g0, 0, none⟩) (1 + st.length) k0) rfl (by kernel_rfl) (by kernel_rfl) (by kernel_rfl) (fun _ _ _ h => h) (Or.inl ⟨by rfl, ?_⟩) (SB.out _ D1.out) ?_
    · intro w' hS
      clear hS
      go_simp
    refine wpAnyH_ready (rs := [4]) (by kernel_rfl) (by simp) ?_
    refine AllReadyH.cons rfl (fun K hK => ?_) AllReadyH.nil
    go_simp
    refine (KP.out _ _ RP.out).mono ?_
    rintro e w2 ⟨rfl, hw2⟩
    subst hw2
    refine hK.out _ _ (SB.out _ D1.out) (fun _ => ?_)
    clear hK
    refine wpAnyH_take (i := 5) (v := .slice (some ⟨b1, o1, none⟩) q c1) rfl (by kernel_rfl) (by kernel_rfl) (by kernel_rfl) (fun _ _ _ h => h) (Or.inl ⟨by rfl, fun w' _ => exec_top (.tmp 14) (.tmp 16) b1 o1 m c1 q (by kernel_rfl) (by kernel_rfl) (by kernel_rfl) hqc w'⟩) (SB.out _ D1.out) ?_
    refine wpAnyH_ready (rs := [6]) (by kernel_rfl) (by simp) ?_
    refine AllReadyH.cons rfl (fun K hK => ?_) AllReadyH.nil
    go_simp
    refine (KD.out _ BW.out).mono ?_
    rintro e w3 ⟨g1, k1, rfl, q1, q1', ho3, hb3⟩
    have B3' := hideP (D1.out.trans hb3)
    have O3 := hideP (show Own w1.heap.size w3 _ _ from own_of_any ho3)
    have R3 := hideP (RS.out.keep B3'.out)
    have AP := hideP (apart_right (sh := (i : Int) :: st) (u0 := .slice (some ⟨g0, 0, none⟩) (1 + st.length) k0) (own_of_any ho3) RS.out.lt)
    have X3 := hideP (boxes2 (B1.out.trans (B3'.out.mono hs1)))
    have hs3 := B3'.out.size
    clear ho3 hb3
    refine hK.out _ _ (SB.out _ B3'.out) (fun _ => ?_)
    clear hK
    refine wpAnyH_take (i := 7) (v := .agg #[.slice (some ⟨g0, 0, none⟩) (1 + st.length) k0, .slice (some ⟨g1, 0, none⟩) q k1]) rfl (by kernel_rfl) (by kernel_rfl) (by kernel_rfl) (fun _ _ _ h => h) (Or.inl ⟨by rfl, ?_⟩) (SB.out _ B3'.out) ?_
    · intro w' hS
      clear hS
      go_simp
    refine wpAnyH_ready (rs := [8]) (by kernel_rfl) (by simp) ?_
    refine AllReadyH.cons rfl (fun K hK => ?_) AllReadyH.nil
    have r0 := X3.out.2.1.1
    have r1 := X3.out.2.1.2.1
    have f2 := X3.out.2.1.2.2
    go_simp
    refine hK.out _ _ (((SB.out _ B3'.out).setCell (by simp) _).setCell (by simp) _) (fun _ => ?_)
    clear hK
    refine wpAnyH_done (by kernel_rfl) ?_ _
    go_wp2_with fail
    refine bodyPost_ret (v := .agg #[.slice (some ⟨g0, 0, none⟩) (1 + st.length) k0, .slice (some ⟨g1, 0, none⟩) q k1]) (by simp [results, Try.results74, go_sem, r0, r1]) rfl ⟨g0, k0, g1, k1, rfl, by omega, by omega, by omega, by omega, ?_, ?_, (X3.out.2.2.setCell (by simp) _).setCell (by simp) _⟩
    · exact (Own.store (Own.store R3.out (by omega) _) (by omega) _).rd
    · exact (Own.store (Own.store O3.out (by omega) _) (by omega) _).rd
  · clear RZ
    go_enter Try.func74, Try.ntmps74
    go_wp2_with (at_builtin; refine wpList_append_rd_at (base := w.heap.size + 1 + 1) _ rfl _ _ rfl _ _ rfl rfl 1 [(i : Int)] st (OL.out _ _) (KT.out _ _ (B3.out _ _ _) (RT.out _)) (by omega) (by simp) ?_)
    intro v' w1 ho hg hat
    have HO : Hid (w1.ownsRow (w.heap.size + 1 + 1) 3 1 v' (1 + st.length) (((i : Int) :: st).map (Value.int .i64))) := ho
    obtain ⟨g0, k0, ev, q0, q0'⟩ := owns_some HO.out (by
      rcases hat with hat | hat
      · exact ⟨_, hat⟩
      · exact ⟨_, hat⟩)
    subst ev
    have B1 : Hid (Below (w.heap.size + 1 + 1) ((w.alloc (.cells #[.slice (some ⟨b0, o0, none⟩) L c0, .slice (some ⟨b1, o1, none⟩) m c1] 27)).alloc (.cells #[.slice none 0 0, .slice none 0 0] 27)) w1) := ((Below.refl _ _).alloc (by simp) _).grown hg (by simp) (fun k hk => by simp [Value.ownBlock] at hk; omega)
    have X1 := hideP (boxes2 B1.out)
    have hs1 : w.heap.size + 1 + 1 ≤ w1.heap.size := by have := B1.out.size; simpa using this
    have RS := hideP (own_of_any HO.out)
    clear ho hg hat
    have D1 : Hid (Below w1.heap.size w1 w1.drew) := (Below.refl _ _).drew
    have PA : Hid (∀ W, Below (w.heap.size + 1) w1 W → W.cell? ⟨w.heap.size, 1, none⟩ = some (.slice (some ⟨b1, o1, none⟩) m c1)) := fun W hb => (hb.cell (p := ⟨w.heap.size, 1, none⟩) (by show w.heap.size < _; omega)).trans X1.out.1.2
    have SB : Hid (∀ W, Below w1.heap.size w1 W → Below (w.heap.size + 1) w1 W) := fun W hb => hb.mono (by omega)
    have RP : Hid (Rd w1.drew.heap.size w1.drew (.slice (some ⟨g0, 0, none⟩) (1 + st.length) k0) ((i : Int) :: st)) := RS.out.rd
    have BW : Hid (Below w.heap.size w w1.drew) := X1.out.2.2.drew
    go_upto_region 2 with fail
    refine wp_region_held (S := fun w' => Below (w.heap.size + 1) w1 w') (by kernel_rfl) ?_
    change wpAnyH _ _ _ _ _ _ _ _ (World.drew _)
    refine wpAnyH_take (i := 0) (v := .slice (some ⟨g0, 0, none⟩) (1 + st.length) k0) rfl (by kernel_rfl) (by kernel_rfl) (by kernel_rfl) (fun _ _ _ h => h) (Or.inl ⟨by rfl, ?_⟩) (SB.out _ D1.out) ?_
    · intro w' hS
      clear hS
      go_simp
    refine wpAnyH_take (i := 1) (v := .pointer (some ⟨w.heap.size, 1, none⟩)) rfl (by kernel_rfl) (by kernel_rfl) (by kernel_rfl) (fun _ _ _ h => h) (Or.inl ⟨by rfl, ?_⟩) (SB.out _ D1.out) ?_
    · intro w' hS
      clear hS
      go_simp
    refine wpAnyH_take (i := 2) (v := .slice (some ⟨b1, o1, none⟩) m c1) rfl (by kernel_rfl) (by kernel_rfl) (by kernel_rfl) (fun _ _ _ h => h) (Or.inl ⟨by rfl, ?_⟩) (SB.out _ D1.out) ?_
    · intro w' hS
      have g1 := PA.out w' hS
      clear hS
      go_simp
    refine wpAnyH_take (i := 3) (v := .slice (some ⟨g0, 0, none⟩) (1 + st.length) k0) rfl (by kernel_rfl) (by kernel_rfl) (by kernel_rfl) (fun _ _ _ h => h) (Or.inl ⟨by rfl, ?_⟩) (SB.out _ D1.out) ?_
    · intro w' hS
      clear hS
      go_simp
    refine wpAnyH_ready (rs := [4]) (by kernel_rfl) (by simp) ?_
    refine AllReadyH.cons rfl (fun K hK => ?_) AllReadyH.nil
    go_simp
    refine (KP.out _ _ RP.out).mono ?_
    rintro e w2 ⟨rfl, hw2⟩
    subst hw2
    refine hK.out _ _ (SB.out _ D1.out) (fun _ => ?_)
    clear hK
    refine wpAnyH_take (i := 5) (v := .slice (some ⟨b1, o1, none⟩) q c1) rfl (by kernel_rfl) (by kernel_rfl) (by kernel_rfl) (fun _ _ _ h => h) (Or.inl ⟨by rfl, fun w' _ => exec_top (.tmp 14) (.tmp 16) b1 o1 m c1 q (by kernel_rfl) (by kernel_rfl) (by kernel_rfl) hqc w'⟩) (SB.out _ D1.out) ?_
    refine wpAnyH_ready (rs := [6]) (by kernel_rfl) (by simp) ?_
    refine AllReadyH.cons rfl (fun K hK => ?_) AllReadyH.nil
    go_simp
    refine (KD.out _ BW.out).mono ?_
    rintro e w3 ⟨g1, k1, rfl, q1, q1', ho3, hb3⟩
    have B3' := hideP (D1.out.trans hb3)
    have O3 := hideP (show Own w1.heap.size w3 _ _ from own_of_any ho3)
    have R3 := hideP (RS.out.keep B3'.out)
    have AP := hideP (apart_right (sh := (i : Int) :: st) (u0 := .slice (some ⟨g0, 0, none⟩) (1 + st.length) k0) (own_of_any ho3) RS.out.lt)
    have X3 := hideP (boxes2 (B1.out.trans (B3'.out.mono hs1)))
    have hs3 := B3'.out.size
    clear ho3 hb3
    refine hK.out _ _ (SB.out _ B3'.out) (fun _ => ?_)
    clear hK
    refine wpAnyH_take (i := 7) (v := .agg #[.slice (some ⟨g0, 0, none⟩) (1 + st.length) k0, .slice (some ⟨g1, 0, none⟩) q k1]) rfl (by kernel_rfl) (by kernel_rfl) (by kernel_rfl) (fun _ _ _ h => h) (Or.inl ⟨by rfl, ?_⟩) (SB.out _ B3'.out) ?_
    · intro w' hS
      clear hS
      go_simp
    refine wpAnyH_ready (rs := [8]) (by kernel_rfl) (by simp) ?_
    refine AllReadyH.cons rfl (fun K hK => ?_) AllReadyH.nil
    have r0 := X3.out.2.1.1
    have r1 := X3.out.2.1.2.1
    have f2 := X3.out.2.1.2.2
    go_simp
    refine hK.out _ _ (((SB.out _ B3'.out).setCell (by simp) _).setCell (by simp) _) (fun _ => ?_)
    clear hK
    refine wpAnyH_done (by kernel_rfl) ?_ _
    go_wp2_with fail
    refine bodyPost_ret (v := .agg #[.slice (some ⟨g0, 0, none⟩) (1 + st.length) k0, .slice (some ⟨g1, 0, none⟩) q k1]) (by simp [results, Try.results74, go_sem, r0, r1]) rfl ⟨g0, k0, g1, k1, rfl, by omega, by omega, by omega, by omega, ?_, ?_, (X3.out.2.2.setCell (by simp) _).setCell (by simp) _⟩
    · exact (Own.store (Own.store R3.out (by omega) _) (by omega) _).rd
    · exact (Own.store (Own.store O3.out (by omega) _) (by omega) _).rd

end Go.Proofs.Ytmobjomebmipdaa

namespace Go.Proofs.Ytmobjomebmipdaa
open Go.RowKit
set_option linter.unusedVariables false

namespace Pl
def catZ (zz : Nat → List Int) (j : Nat) : List Int := (List.range j).flatMap zz
theorem catZ_succ (zz : Nat → List Int) (j : Nat) : catZ zz (j + 1) = catZ zz j ++ zz j := by
  unfold catZ
  rw [List.range_succ, List.flatMap_append]
  simp
end Pl

set_option maxRecDepth 100000 in
set_option maxHeartbeats 4000000 in
/-- spec.l2Stack -/
theorem l2Stack_any (rp : Option Addr) (rb k rcap : Nat) (dv : Nat → Value) (zz : Nat → List Int) (sv : Value) (st : List Int) (w : World) (hrp : 0 < k → rp = some ⟨rb, 0, none⟩) (hk : k ≤ 1000) (hrb : 0 < k → rb < w.heap.size)
    (hc : ∀ i, i < k → w.cell? ⟨rb, i * 2 + 1, none⟩ = some (dv i)) (hd : ∀ i, i < k → Rd w.heap.size w (dv i) (zz i)) (hs : Rd w.heap.size w sv st) (hl : ∀ j, j ≤ k → (Pl.catZ zz j).length ≤ 1000) (hst : st.length ≤ 2) (hf : Pl.fitsB ((k : Int) :: st) = true) :
    Calls Try.prog 75 #[sv, .slice rp k rcap] w (FPost w 0 ((k : Int) :: st) (Pl.catZ zz k)) := by
  have HC := hideP hc
  have HD := hideP hd
  have HL := hideP hl
  have HP := hideP hrp
  have HB := hideP hrb
  have HS := hideP hs
  have HFI := hideP hf
  obtain ⟨a0, d0, e0⟩ := hs.form
  subst e0
  clear hc hd hl hrp hrb hs hf
  have A : Hid (∀ o o', Below w.heap.size w ((w.alloc o).alloc o')) := fun o o' => ((Below.refl _ _).alloc (Nat.le_refl _) _).alloc (by simp) _
  have PB : Hid (∀ W, Below (w.heap.size + 1) (w.alloc (.cells #[.slice none 0 0, .slice none 0 0] 27)) W → (W.cell? ⟨w.heap.size, 0, none⟩ = some (.slice none 0 0) ∧ W.cell? ⟨w.heap.size, 1, none⟩ = some (.slice none 0 0) ∧ ∀ o, W.frozen? ⟨w.heap.size, o, none⟩ = false) ∧ Below w.heap.size w W) := fun W hb => by
    have c := fun o => hb.cell (p := ⟨w.heap.size, o, none⟩) (by show w.heap.size < _; omega)
    have f := fun o => hb.frozen (p := ⟨w.heap.size, o, none⟩) (by show w.heap.size < _; omega)
    refine ⟨⟨by rw [c]; simp [go_sem], by rw [c]; simp [go_sem], fun o => by rw [f]; simp [go_sem]⟩, ?_⟩
    exact ((Below.refl _ _).alloc (Nat.le_refl _) _).trans (hb.mono (by omega))
  have OE : Hid (((w.alloc (.cells #[.slice none 0 0, .slice none 0 0] 27)).alloc (.cells #[] 3)).ownsRow (w.heap.size + 1) 3 1 (.slice (some ⟨w.heap.size + 1, 0, none⟩) 0 0) 0 (([] : List Int).map (Value.int .i64))) := by
    have := owns_empty (w.alloc (.cells #[.slice none 0 0, .slice none 0 0] 27)) (w.heap.size + 1) (by simp)
    have e : (w.alloc (.cells #[.slice none 0 0, .slice none 0 0] 27)).heap.size = w.heap.size + 1 := by simp
    rw [e] at this
    exact this
  go_enter Try.func75, Try.ntmps75
  go_wp2_with fail
  go_loopw [6, 7] (fun dvv i wr => ∃ j : Nat, j ≤ k ∧ i = .int .i64 j ∧ Hid (wr.ownsRow (w.heap.size + 1) 3 1 dvv (Pl.catZ zz j).length ((Pl.catZ zz j).map (Value.int .i64))) ∧ Hid (Below (w.heap.size + 1) (w.alloc (.cells #[.slice none 0 0, .slice none 0 0] 27)) wr)) (fun _ i _ => k - (intOf i).toNat)
  case atStart => exact ⟨0, Nat.zero_le _, rfl, OE, (Below.refl _ _).alloc (by simp) _⟩
  case round =>
    obtain ⟨j, hj, rfl, ho, hbel⟩ := hrel
    have X := hideP (PB.out _ hbel.out)
    have hsw : w.heap.size + 1 ≤ wr.heap.size := by have := hbel.out.size; simpa using this
    obtain ⟨xo, yo, eo⟩ := owns_form ho.out
    subst eo
    by_cases hlt : j < k
    · have hlt' : (j : Int) < (k : Int) := by omega
      have hrp := HP.out (by omega)
      have hrb := HB.out (by omega)
      obtain ⟨xa, xc, ed⟩ := (HD.out j hlt).form
      have RD := hideP (((HD.out j hlt).keep X.out.2).up X.out.2.size)
      have hck : wr.cell? ⟨rb, j * 2 + 1, none⟩ = some (.slice xa (zz j).length xc) := by
        rw [← ed]
        exact (X.out.2.cell (p := ⟨rb, j * 2 + 1, none⟩) hrb).trans (HC.out j hlt)
      rw [ed] at RD
      have SU := hideP (Pl.catZ_succ zz j)
      have UB : Hid ((Pl.catZ zz j).length + (zz j).length ≤ 16777216) := by
        have := HL.out (j + 1) (by omega)
        rw [SU.out, List.length_append] at this
        show _ ≤ _
        omega
      subst hrp
      clear ed
      generalize zz j = zj at *
      go_wp2_with (at_builtin; refine wpList_append_rd_at (base := w.heap.size + 1) _ rfl _ _ rfl _ _ rfl rfl _ _ _ ho.out RD.out UB.out hsw ?_)
      intro v' w5 ho5 hg5 _
      have D5 : Hid (Below (w.heap.size + 1) (w.alloc (.cells #[.slice none 0 0, .slice none 0 0] 27)) w5) := hbel.out.grown hg5 hsw (fun k hk => (ho.out.lt k hk).1)
      have O5 : Hid (w5.ownsRow (w.heap.size + 1) 3 1 v' (Pl.catZ zz (j + 1)).length ((Pl.catZ zz (j + 1)).map (Value.int .i64))) := by
        show World.ownsRow _ _ _ _ _ _ _
        rw [SU.out, List.length_append, List.map_append]
        exact ho5
      clear ho5 hg5 hck
      go_wp2_with fail
      go_roundw
      case rel => exact ⟨j + 1, by omega, by go_num, O5, D5⟩
      case measure => simp [intOf]; omega
    · have jn : j = k := by omega
      subst jn
      have A1 : Hid (Below wr.heap.size wr (wr.alloc (.cells #[.int .i64 (j : Int)] 3))) := (Below.refl _ _).alloc (Nat.le_refl _) _
      have RS := hideP (((HS.out.keep X.out.2).up X.out.2.size).keep A1.out)
      have OL := hideP (owns_one wr (j : Int) wr.heap.size (Nat.le_refl _))
      have OD := hideP (own_of_any ho.out)
      go_wp2_with (at_builtin; refine wpList_append_rd_at (base := wr.heap.size) _ rfl _ _ rfl _ _ rfl rfl 1 [(j : Int)] st OL.out RS.out (by omega) (by simp) ?_)
      intro v' w5 ho5 hg5 _
      have B5 : Hid (Below wr.heap.size wr w5) := A1.out.grown hg5 (by simp) (fun k hk => (OL.out.lt k hk).1)
      have O5 : Hid (w5.ownsRow wr.heap.size 3 1 v' ((j : Int) :: st).length (((j : Int) :: st).map (Value.int .i64))) := by
        have := ho5
        rw [Nat.add_comm] at this
        exact this
      obtain ⟨xs, ys, es⟩ := owns_form O5.out
      subst es
      clear ho5 hg5
      have KM : Hid (Calls Try.prog 78 #[.slice xs ((j : Int) :: st).length ys, .slice xo (Pl.catZ zz j).length yo] w5 fun e w' => e = .returned (.tuple #[.agg #[.slice xs ((j : Int) :: st).length ys, .slice xo (Pl.catZ zz j).length yo], .int .i64 0]) ∧ Below w5.heap.size w5 w') := (l2Made_any _ xs xo _ ys yo ((j : Int) :: st) w5 (by simp; omega) (own_of_any O5.out).rd (Nat.le_refl _)).mono (by
        rintro e w' ⟨hb, ⟨_, rfl⟩ | ⟨hf, _⟩⟩
        · exact ⟨rfl, hb⟩
        · rw [HFI.out] at hf; cases hf)
      have eL : ((j : Int) :: st).length = st.length + 1 := rfl
      go_wp2_with fail
      refine KM.out.mono ?_
      rintro e w6 ⟨rfl, hb6⟩
      have B6 := hideP (B5.out.trans (hb6.mono B5.out.size))
      have X6 := hideP (PB.out _ (hbel.out.trans (B6.out.mono hsw)))
      have O6 := hideP ((own_of_any O5.out).keep hb6)
      have D6 := hideP (OD.out.keep B6.out)
      have AP := hideP (apart_lo (u0 := .slice xs ((j : Int) :: st).length ys) (own_of_any O5.out) OD.out.lt (Nat.le_refl _))
      have hs6 := B6.out.size
      clear hb6
      have r0 := X6.out.1.1
      have r1 := X6.out.1.2.1
      have f2 := X6.out.1.2.2
      go_wp2_with fail
      refine bodyPost_ret (v := .tuple #[.agg #[.slice xs ((j : Int) :: st).length ys, .slice xo (Pl.catZ zz j).length yo], .int .i64 0]) (by simp [results, Try.results75, go_sem, r0, r1]) rfl ⟨(X6.out.2.setCell (by simp) _).setCell (by simp) _, _, _, rfl, ?_, ?_, AP.out⟩
      · exact Own.base (Own.store (Own.store O6.out (by omega) _) (by omega) _) (by omega)
      · exact Own.base (Own.store (Own.store D6.out (by omega) _) (by omega) _) (by omega)

end Go.Proofs.Ytmobjomebmipdaa

