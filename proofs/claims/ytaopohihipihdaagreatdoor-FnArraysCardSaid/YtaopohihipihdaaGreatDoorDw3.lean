import Derived.Test.YtaopohihipihdaaGreatDoorDw2
import Derived.Test.YtaopohihipihdaaGreatDoorLies
namespace Go.Proofs.YtaopohihipihdaaGreatDoor
open Go.RowKit
set_option linter.unusedVariables false

/-- an array of a shape under way: N is the call's first new block (the answer's variable), A the array's, P the reader's -/
structure FsSt (B P A : Nat) (w0 : World) (sv cv v : Value) (zs : List Int) (w : World) : Prop where
  o : w.ownsRow w0.heap.size 3 1 v zs.length (zs.map (Value.int .i64))
  k : ∃ g, v.ownBlock = some g
  r : Rdr B P w
  z : w.heap[w0.heap.size]? = some (.cells #[.slice none 0 0, .slice none 0 0] 25 (0, 0))
  a : w.heap[A]? = some (.cells #[sv, cv] 25 (0, 0))
  n : w0.heap.size < A
  p : P < w0.heap.size
  g : w0.grownBy w (some P)
theorem FsSt.keep {B P A : Nat} {w0 w w' : World} {sv cv v : Value} {zs : List Int} (h : FsSt B P A w0 sv cv v zs w) (hb : Below w.heap.size w w') : FsSt B P A w0 sv cv v zs w' := by
  have h1 : A < w.heap.size := (Array.getElem?_eq_some_iff.1 h.a).1
  have h2 : w0.heap.size < w.heap.size := (Array.getElem?_eq_some_iff.1 h.z).1
  exact ⟨owns_keep h.o hb, h.k, h.r.keep hb, (hb.block _ h2).trans h.z, (hb.block _ h1).trans h.a, h.n, h.p, grown_trans h.g (grown_of_b hb none) (fun _ e => by cases e)⟩
theorem FsSt.next {B P A : Nat} {w0 w w' : World} {sv cv v : Value} {zs : List Int} (h : FsSt B P A w0 sv cv v zs w) (hg : w.grownBy w' (some P)) (hr : Rdr B P w') : FsSt B P A w0 sv cv v zs w' := by
  obtain ⟨c, hc⟩ := h.r.blk
  have h1 : A < w.heap.size := (Array.getElem?_eq_some_iff.1 h.a).1
  have h2 : w0.heap.size < w.heap.size := (Array.getElem?_eq_some_iff.1 h.z).1
  have hp := h.p
  have hn := h.n
  exact ⟨h.o.kept hg (.inr (own_blk_ne h.o hc (by decide))), h.k, hr, (hg.block _ h2 (by intro e; injection e with e; omega)).trans h.z, (hg.block _ h1 (by intro e; injection e with e; omega)).trans h.a, h.n, h.p, grown_trans h.g hg (fun i e => .inl (by injection e with e; exact e.symm))⟩
theorem FsSt.app {B P A : Nat} {w0 w w' : World} {sv cv v v' : Value} {zs : List Int} {x : Int} (h : FsSt B P A w0 sv cv v zs w) (hg : w.grownBy w' v.ownBlock) (ho : w'.ownsRow w0.heap.size 3 1 v' (zs.length + [x].length) ((zs ++ [x]).map (Value.int .i64)))
    {m : Nat} (hat : v'.ownBlock = v.ownBlock ∨ v'.ownBlock = some m) : FsSt B P A w0 sv cv v' (zs ++ [x]) w' := by
  obtain ⟨c, hc⟩ := h.r.blk
  have h1 : A < w.heap.size := (Array.getElem?_eq_some_iff.1 h.a).1
  have h2 : w0.heap.size < w.heap.size := (Array.getElem?_eq_some_iff.1 h.z).1
  refine ⟨by rw [List.length_append]; exact ho, ?_, h.r.kept hg (fun k hk => ⟨by have := (h.o.lt k hk).1; have := h.r.1; have := h.p; omega, fun e => own_blk_ne h.o hc (by decide) (by rw [hk, e])⟩),
    (hg.block _ h2 (fun e => own_blk_ne h.o h.z (by decide) e.symm)).trans h.z, (hg.block _ h1 (fun e => own_blk_ne h.o h.a (by decide) e.symm)).trans h.a, h.n, h.p, grown_trans h.g hg (fun i e => .inr (h.o.lt i e).1)⟩
  rcases hat with e | e
  · rw [e]; exact h.k
  · exact ⟨_, e⟩
theorem FsSt.put {B P A : Nat} {w0 w : World} {sv cv v : Value} {zs : List Int} (h : FsSt B P A w0 sv cv v zs w) : FsSt B P A w0 sv v v zs (w.setCell ⟨A, 1, none⟩ v) := by
  obtain ⟨c, hc⟩ := h.r.blk
  have h1 : A < w.heap.size := (Array.getElem?_eq_some_iff.1 h.a).1
  have hn := h.n
  have hp := h.p
  have hg := grown_set w A 1 v
  refine ⟨h.o.kept hg (.inr (own_blk_ne h.o h.a (by decide))), h.k, h.r.kept hg (fun k hk => by injection hk with hk; have := h.r.1; omega), (hg.block _ (by omega) (by intro e; injection e with e; omega)).trans h.z, ?_, h.n, h.p, grown_trans h.g hg (fun i e => .inr (by injection e with e; omega))⟩
  have := Lib.heap_setCell_same (i := 1) h.a v
  simpa using this
theorem FsSt.cell {B P A : Nat} {w0 w : World} {sv cv v : Value} {zs : List Int} (h : FsSt B P A w0 sv cv v zs w) : w.cell? ⟨A, 0, none⟩ = some sv ∧ w.cell? ⟨A, 1, none⟩ = some cv ∧ w.frozen? ⟨A, 1, none⟩ = false ∧ A < w.heap.size :=
  ⟨by rw [Lib.cell_of_heap h.a]; rfl, by rw [Lib.cell_of_heap h.a]; rfl, frozen_of_row w A 1 _ 25 h.a, (Array.getElem?_eq_some_iff.1 h.a).1⟩
theorem FsSt.form {B P A : Nat} {w0 w : World} {sv cv v : Value} {zs : List Int} (h : FsSt B P A w0 sv cv v zs w) : ∃ g cap, v = .slice (some ⟨g, 0, none⟩) zs.length cap ∧ zs.length ≤ cap ∧ cap ≤ 9223372036854775807 := owns_some h.o h.k

/-- what l1Fill leaves -/
def FlPost (B P : Nat) (sv : Value) (sh : List Int) (w : World) (e : Ending) (w' : World) : Prop :=
  ∃ (v : Value) (da : List Int), e = .returned (.agg #[sv, v]) ∧ (da.length : Int) = Pl.prodC sh ∧ (∀ x ∈ da, -3000000000 ≤ x ∧ x ≤ 3000000000) ∧ w'.ownsRow w.heap.size 3 1 v da.length (da.map (Value.int .i64)) ∧ (∃ g, v.ownBlock = some g) ∧ Rdr B P w' ∧ w.grownBy w' (some P)
/-- the answer laid in its variable -/
theorem FsSt.done {B P A : Nat} {w0 w : World} {sv cv v : Value} {zs : List Int} (h : FsSt B P A w0 sv cv v zs w) {sh : List Int} (hl : (zs.length : Int) = Pl.prodC sh) (hv : ∀ x ∈ zs, -3000000000 ≤ x ∧ x ≤ 3000000000) (u0 u1 : Value) :
    FlPost B P sv sh w0 (.returned (.agg #[sv, v])) ((w.setCell ⟨w0.heap.size, 0, none⟩ u0).setCell ⟨w0.heap.size, 1, none⟩ u1) := by
  obtain ⟨c, hc⟩ := h.r.blk
  have hp := h.p
  have h2 : w0.heap.size < w.heap.size := (Array.getElem?_eq_some_iff.1 h.z).1
  have g1 := grown_set w w0.heap.size 0 u0
  have g2 := grown_set (w.setCell ⟨w0.heap.size, 0, none⟩ u0) w0.heap.size 1 u1
  have hne := own_blk_ne h.o h.z (by decide)
  exact ⟨v, zs, rfl, hl, hv, (h.o.kept g1 (.inr hne)).kept g2 (.inr hne), h.k, (h.r.kept g1 (fun k hk => by injection hk with hk; have := h.r.1; omega)).kept g2 (fun k hk => by injection hk with hk; have := h.r.1; omega),
    grown_trans (grown_trans h.g g1 (fun i e => .inr (by injection e with e; omega))) g2 (fun i e => .inr (by injection e with e; omega))⟩

set_option maxRecDepth 100000 in
set_option maxHeartbeats 8000000 in
/-- spec.l1Fill -/
theorem l1Fill_any (B P : Nat) (sv : Value) (sh : List Int) (w : World) (h : Rdr B P w) (hf : Pl.fitsB sh = true) (HS : ∀ w', w.grownBy w' (some P) → Rd w'.heap.size w' sv sh) :
    Calls Tryz.prog 57 #[.pointer (some ⟨P, 0, none⟩), sv] w (FlPost B P sv sh w) := by
  have hPl := h.lt
  obtain ⟨hbase, hm⟩ : Pl.baseB sh = true ∧ Pl.prodC sh ≤ 1000 := by
    simp only [Pl.fitsB, Bool.and_eq_true, decide_eq_true_eq] at hf
    exact hf
  obtain ⟨hlen, hall⟩ : sh.length ≤ 3 ∧ sh.all Pl.inR = true := by
    simp only [Pl.baseB, Bool.and_eq_true, decide_eq_true_eq] at hbase
    exact hbase
  obtain ⟨M, hM⟩ : ∃ M : Nat, Pl.prodC sh = (M : Int) := ⟨(Pl.prodC sh).toNat, by have := (Pl.prodC_bd sh hall).1; omega⟩
  have hM2 : M ≤ 1000 := by omega
  have KP : Hid (∀ w', w.grownBy w' (some P) → Calls Tryz.prog 17 #[sv] w' fun e w'' => e = .returned (.int .i64 (M : Int)) ∧ w'' = w') := fun w' hg => by
    have := l1Product_any _ sv sh w' (by omega) hall (HS w' hg)
    rw [hM] at this
    exact this
  obtain ⟨sa, sc, es⟩ := (HS w (grown_same w 0 _)).form
  subst es
  have HR := hideP h
  clear h HS hf hbase hall hm
  have ST : Hid (FsSt B P (w.heap.size + 1 + 1) w (.slice sa sh.length sc) (.slice (some ⟨w.heap.size + 1, 0, none⟩) 0 0) (.slice (some ⟨w.heap.size + 1, 0, none⟩) 0 0) []
      (((w.alloc (.cells #[.slice none 0 0, .slice none 0 0] 25)).alloc (.cells #[] 3)).alloc (.cells #[.slice sa sh.length sc, .slice (some ⟨w.heap.size + 1, 0, none⟩) 0 0] 25))) := by
    have b1 : Below w.heap.size w (((w.alloc (.cells #[.slice none 0 0, .slice none 0 0] 25)).alloc (.cells #[] 3)).alloc (.cells #[.slice sa sh.length sc, .slice (some ⟨w.heap.size + 1, 0, none⟩) 0 0] 25)) := (((Below.refl _ _).alloc (Nat.le_refl _) _).alloc (by simp) _).alloc (by simp; omega) _
    refine ⟨?_, ⟨_, rfl⟩, HR.out.keep b1, ?_, ?_, by omega, hPl, grown_of_b b1 _⟩
    · have := World.ownsRow_lit (base := w.heap.size) (e := 3) (size := 1) (w.alloc (.cells #[.slice none 0 0, .slice none 0 0] 25)) #[] 0 (by simp) (by unfold maxLen; omega) rfl
      have e : (w.alloc (.cells #[.slice none 0 0, .slice none 0 0] 25)).heap.size = w.heap.size + 1 := by simp
      rw [e] at this
      exact owns_keep this ((Below.refl _ _).alloc (Nat.le_refl _) _)
    · rw [Below.heap_alloc _ _ _ (by simp; omega), Below.heap_alloc _ _ _ (by simp)]
      exact heap_alloc_new w _
    · have := heap_alloc_new ((w.alloc (.cells #[.slice none 0 0, .slice none 0 0] 25)).alloc (.cells #[] 3)) (.cells #[.slice sa sh.length sc, .slice (some ⟨w.heap.size + 1, 0, none⟩) 0 0] 25)
      simpa using this
  clear HR
  generalize sh.length = L at *
  go_enter Tryz.func57, Tryz.ntmps57
  go_wp2_with fail
  go_loopw [6] (fun i wr => ∃ (j : Nat) (v : Value) (zs : List Int), j ≤ M ∧ i = .int .i64 (j : Int) ∧ Hid (zs.length = j) ∧ Hid (∀ z ∈ zs, -3000000000 ≤ z ∧ z ≤ 3000000000) ∧ Hid (FsSt B P (w.heap.size + 1 + 1) w (.slice sa L sc) v v zs wr)) (fun i _ => M - (intOf i).toNat)
  case atStart => exact ⟨0, _, [], Nat.zero_le _, rfl, (show ([] : List Int).length = 0 from rfl), by intro z hz; simp at hz, ST⟩
  case round =>
    clear ST
    obtain ⟨j, v, zs, hj, rfl, hzl, hzr, ST⟩ := hrel
    have KM := hideP (KP.out wr ST.out.g)
    by_cases hlt : j < M
    · have hlt' : (j : Int) < (M : Int) := by omega
      go_upto_region 5 with (go_at_call 17; refine KM.out.mono ?_; rintro e wr ⟨rfl, rfl⟩)
      rename World => wr
      obtain ⟨g, cap, eo, hc1, hc2⟩ := ST.out.form
      subst eo
      have S1 := hideP (ST.out.keep (show Below wr.heap.size wr wr.drew from (Below.refl _ _).drew))
      clear ST KM
      refine wp_region_held (S := fun _ => True) (by kernel_rfl) ?_
      change wpAnyH _ _ _ _ _ _ _ _ (World.drew _)
      generalize World.drew wr = wn at *
      refine wpAnyH_take (i := 0) (v := .pointer (some ⟨w.heap.size + 1 + 1, 1, none⟩)) rfl (by kernel_rfl) (by kernel_rfl) (by kernel_rfl) (fun _ _ _ h => h) (Or.inl ⟨by rfl, ?_⟩) trivial ?_
      · intro w' hS
        go_simp
      refine wpAnyH_take (i := 2) (v := .pointer (some ⟨P, 0, none⟩)) rfl (by kernel_rfl) (by kernel_rfl) (by kernel_rfl) (fun _ _ _ h => h) (Or.inl ⟨by rfl, ?_⟩) trivial ?_
      · intro w' hS
        go_simp
      refine wpAnyH_ready (rs := [1, 3]) (by kernel_rfl) (by simp) ?_
      refine AllReadyH.cons rfl (fun K hK => ?_) (AllReadyH.cons rfl (fun K hK => ?_) AllReadyH.nil)
      · have cA := S1.out.cell.2.1
        go_simp
        refine hK.out _ _ trivial (fun _ => ?_)
        clear hK cA
        refine wpAnyH_ready (rs := [3]) (by kernel_rfl) (by simp) ?_
        refine AllReadyH.cons rfl (fun K hK => ?_) AllReadyH.nil
        go_simp
        refine (l1Cell_any B P _ S1.out.r).mono ?_
        rintro e w2 ⟨y, rfl, hy, hr, hg⟩
        have S2 := hideP (S1.out.next hg hr)
        have HZ : Hid (∀ z ∈ zs ++ [y], -3000000000 ≤ z ∧ z ≤ 3000000000) := by
          intro z hz
          simp at hz
          rcases hz with hz | rfl
          · exact hzr.out z hz
          · exact hy
        have HL : Hid ((zs ++ [y]).length = j + 1) := by show _ = _; rw [List.length_append, hzl.out]; rfl
        clear hr hg S1 hy
        refine hK.out _ _ trivial (fun _ => ?_)
        clear hK
        refine wpAnyH_ready (rs := [4]) (by kernel_rfl) (by simp) ?_
        refine AllReadyH.cons rfl (fun K hK => ?_) AllReadyH.nil
        go_simp
        have S3 : Hid (FsSt B P (w.heap.size + 1 + 1) w (.slice sa L sc) _ _ zs (w2.alloc (.cells #[.int .i64 y] 3))) := S2.out.keep ((Below.refl _ _).alloc (Nat.le_refl _) _)
        have RO : Hid (Rd (w2.heap.size + 1) (w2.alloc (.cells #[.int .i64 y] 3)) (.slice (some ⟨w2.heap.size, 0, none⟩) 1 1) [y]) := rd_lit1 w2 y _ (by omega)
        refine hK.out _ _ trivial (fun _ => ?_)
        clear hK S2
        generalize hwz : w2.heap.size = nz at *
        generalize (w2.alloc (.cells #[.int .i64 y] 3)) = w3 at *
        refine wpAnyH_ready (rs := [5]) (by kernel_rfl) (by simp) ?_
        refine AllReadyH.cons rfl (fun K hK => ?_) AllReadyH.nil
        refine step_append_at (base := w.heap.size) _ rfl (.tmp 17) (.tmp 20) rfl (.slice (some ⟨g, 0, none⟩) zs.length cap) (.slice (some ⟨nz, 0, none⟩) 1 1) rfl rfl zs.length zs [y] S3.out.o RO.out (by have := hzl.out; simp; omega) (by have := S3.out.g.size; omega) ?_
        intro v' w4 ho hg hat
        have S4 := hideP (S3.out.app hg ho hat)
        clear ho hg hat RO
        obtain ⟨g', cap', eo', hd1, hd2⟩ := S4.out.form
        rw [show (zs ++ [y]).length = zs.length + 1 by rw [List.length_append]; rfl] at eo'
        subst eo'
        clear hd1 hd2
        refine hK.out _ _ trivial (fun _ => ?_)
        clear hK S3
        refine wpAnyH_ready (rs := [6]) (by kernel_rfl) (by simp) ?_
        refine AllReadyH.cons rfl (fun K hK => ?_) AllReadyH.nil
        go_simp
        refine hK.out _ _ trivial (fun _ => ?_)
        clear hK
        refine wpAnyH_ready (rs := [7]) (by kernel_rfl) (by simp) ?_
        refine AllReadyH.cons rfl (fun K hK => ?_) AllReadyH.nil
        have fA := S4.out.cell.2.2.1
        have cA := S4.out.cell.2.1
        have S5 := hideP S4.out.put
        go_simp
        refine hK.out _ _ trivial (fun _ => ?_)
        clear hK fA cA S4
        refine wpAnyH_done (by kernel_rfl) ?_ _
        go_wp2_with fail
        go_roundw
        case rel => exact ⟨j + 1, _, _, by omega, by go_num, HL.out, HZ, S5⟩
        case measure => simp [intOf]; omega
      · go_simp
        refine (l1Cell_any B P _ S1.out.r).mono ?_
        rintro e w2 ⟨y, rfl, hy, hr, hg⟩
        have S2 := hideP (S1.out.next hg hr)
        have HZ : Hid (∀ z ∈ zs ++ [y], -3000000000 ≤ z ∧ z ≤ 3000000000) := by
          intro z hz
          simp at hz
          rcases hz with hz | rfl
          · exact hzr.out z hz
          · exact hy
        have HL : Hid ((zs ++ [y]).length = j + 1) := by show _ = _; rw [List.length_append, hzl.out]; rfl
        clear hr hg S1 hy
        refine hK.out _ _ trivial (fun _ => ?_)
        clear hK
        refine wpAnyH_ready (rs := [1, 4]) (by kernel_rfl) (by simp) ?_
        refine AllReadyH.cons rfl (fun K hK => ?_) (AllReadyH.cons rfl (fun K hK => ?_) AllReadyH.nil)
        · have cA := S2.out.cell.2.1
          go_simp
          refine hK.out _ _ trivial (fun _ => ?_)
          clear hK cA
          refine wpAnyH_ready (rs := [4]) (by kernel_rfl) (by simp) ?_
          refine AllReadyH.cons rfl (fun K hK => ?_) AllReadyH.nil
          go_simp
          have S3 : Hid (FsSt B P (w.heap.size + 1 + 1) w (.slice sa L sc) _ _ zs (w2.alloc (.cells #[.int .i64 y] 3))) := S2.out.keep ((Below.refl _ _).alloc (Nat.le_refl _) _)
          have RO : Hid (Rd (w2.heap.size + 1) (w2.alloc (.cells #[.int .i64 y] 3)) (.slice (some ⟨w2.heap.size, 0, none⟩) 1 1) [y]) := rd_lit1 w2 y _ (by omega)
          refine hK.out _ _ trivial (fun _ => ?_)
          clear hK S2
          generalize hwz : w2.heap.size = nz at *
          generalize (w2.alloc (.cells #[.int .i64 y] 3)) = w3 at *
          refine wpAnyH_ready (rs := [5]) (by kernel_rfl) (by simp) ?_
          refine AllReadyH.cons rfl (fun K hK => ?_) AllReadyH.nil
          refine step_append_at (base := w.heap.size) _ rfl (.tmp 17) (.tmp 20) rfl (.slice (some ⟨g, 0, none⟩) zs.length cap) (.slice (some ⟨nz, 0, none⟩) 1 1) rfl rfl zs.length zs [y] S3.out.o RO.out (by have := hzl.out; simp; omega) (by have := S3.out.g.size; omega) ?_
          intro v' w4 ho hg hat
          have S4 := hideP (S3.out.app hg ho hat)
          clear ho hg hat RO
          obtain ⟨g', cap', eo', hd1, hd2⟩ := S4.out.form
          rw [show (zs ++ [y]).length = zs.length + 1 by rw [List.length_append]; rfl] at eo'
          subst eo'
          clear hd1 hd2
          refine hK.out _ _ trivial (fun _ => ?_)
          clear hK S3
          refine wpAnyH_ready (rs := [6]) (by kernel_rfl) (by simp) ?_
          refine AllReadyH.cons rfl (fun K hK => ?_) AllReadyH.nil
          go_simp
          refine hK.out _ _ trivial (fun _ => ?_)
          clear hK
          refine wpAnyH_ready (rs := [7]) (by kernel_rfl) (by simp) ?_
          refine AllReadyH.cons rfl (fun K hK => ?_) AllReadyH.nil
          have fA := S4.out.cell.2.2.1
          have cA := S4.out.cell.2.1
          have S5 := hideP S4.out.put
          go_simp
          refine hK.out _ _ trivial (fun _ => ?_)
          clear hK fA cA S4
          refine wpAnyH_done (by kernel_rfl) ?_ _
          go_wp2_with fail
          go_roundw
          case rel => exact ⟨j + 1, _, _, by omega, by go_num, HL.out, HZ, S5⟩
          case measure => simp [intOf]; omega
        · go_simp
          have S3 : Hid (FsSt B P (w.heap.size + 1 + 1) w (.slice sa L sc) _ _ zs (w2.alloc (.cells #[.int .i64 y] 3))) := S2.out.keep ((Below.refl _ _).alloc (Nat.le_refl _) _)
          have RO : Hid (Rd (w2.heap.size + 1) (w2.alloc (.cells #[.int .i64 y] 3)) (.slice (some ⟨w2.heap.size, 0, none⟩) 1 1) [y]) := rd_lit1 w2 y _ (by omega)
          refine hK.out _ _ trivial (fun _ => ?_)
          clear hK S2
          generalize hwz : w2.heap.size = nz at *
          generalize (w2.alloc (.cells #[.int .i64 y] 3)) = w3 at *
          refine wpAnyH_ready (rs := [1]) (by kernel_rfl) (by simp) ?_
          refine AllReadyH.cons rfl (fun K hK => ?_) AllReadyH.nil
          have cA := S3.out.cell.2.1
          go_simp
          refine hK.out _ _ trivial (fun _ => ?_)
          clear hK cA
          refine wpAnyH_ready (rs := [5]) (by kernel_rfl) (by simp) ?_
          refine AllReadyH.cons rfl (fun K hK => ?_) AllReadyH.nil
          refine step_append_at (base := w.heap.size) _ rfl (.tmp 17) (.tmp 20) rfl (.slice (some ⟨g, 0, none⟩) zs.length cap) (.slice (some ⟨nz, 0, none⟩) 1 1) rfl rfl zs.length zs [y] S3.out.o RO.out (by have := hzl.out; simp; omega) (by have := S3.out.g.size; omega) ?_
          intro v' w4 ho hg hat
          have S4 := hideP (S3.out.app hg ho hat)
          clear ho hg hat RO
          obtain ⟨g', cap', eo', hd1, hd2⟩ := S4.out.form
          rw [show (zs ++ [y]).length = zs.length + 1 by rw [List.length_append]; rfl] at eo'
          subst eo'
          clear hd1 hd2
          refine hK.out _ _ trivial (fun _ => ?_)
          clear hK S3
          refine wpAnyH_ready (rs := [6]) (by kernel_rfl) (by simp) ?_
          refine AllReadyH.cons rfl (fun K hK => ?_) AllReadyH.nil
          go_simp
          refine hK.out _ _ trivial (fun _ => ?_)
          clear hK
          refine wpAnyH_ready (rs := [7]) (by kernel_rfl) (by simp) ?_
          refine AllReadyH.cons rfl (fun K hK => ?_) AllReadyH.nil
          have fA := S4.out.cell.2.2.1
          have cA := S4.out.cell.2.1
          have S5 := hideP S4.out.put
          go_simp
          refine hK.out _ _ trivial (fun _ => ?_)
          clear hK fA cA S4
          refine wpAnyH_done (by kernel_rfl) ?_ _
          go_wp2_with fail
          go_roundw
          case rel => exact ⟨j + 1, _, _, by omega, by go_num, HL.out, HZ, S5⟩
          case measure => simp [intOf]; omega
    · have hlt' : ¬ (j : Int) < (M : Int) := by omega
      obtain ⟨g, cap, eo, hc1, hc2⟩ := ST.out.form
      subst eo
      have FIN : Hid (∀ u0 u1, FlPost B P (.slice sa L sc) sh w (.returned (.agg #[.slice sa L sc, .slice (some ⟨g, 0, none⟩) zs.length cap])) ((wr.setCell ⟨w.heap.size, 0, none⟩ u0).setCell ⟨w.heap.size, 1, none⟩ u1)) :=
        fun u0 u1 => ST.out.done (by rw [hM, hzl.out]; omega) hzr.out u0 u1
      have cA := ST.out.cell.2.1
      have cB := ST.out.cell.1
      have cZ : Hid (wr.heap[w.heap.size]? = some (.cells #[.slice none 0 0, .slice none 0 0] 25 (0, 0))) := ST.out.z
      have z0 : wr.cell? ⟨w.heap.size, 0, none⟩ = some (.slice none 0 0) := by rw [Lib.cell_of_heap cZ.out]; rfl
      have z1 : wr.cell? ⟨w.heap.size, 1, none⟩ = some (.slice none 0 0) := by rw [Lib.cell_of_heap cZ.out]; rfl
      have f0 : wr.frozen? ⟨w.heap.size, 0, none⟩ = false := frozen_of_row wr w.heap.size 0 _ 25 cZ.out
      have f1 : wr.frozen? ⟨w.heap.size, 1, none⟩ = false := frozen_of_row wr w.heap.size 1 _ 25 cZ.out
      clear ST cZ
      go_wp2_with (go_at_call 17; refine KM.out.mono ?_; rintro e wr ⟨rfl, rfl⟩)
      refine bodyPost_ret (v := .agg #[.slice sa L sc, .slice (some ⟨g, 0, none⟩) zs.length cap]) (by simp [results, Tryz.results57, go_sem, z0, z1]) rfl ?_
      exact FIN.out _ _

end Go.Proofs.YtaopohihipihdaaGreatDoor
