import Derived.Test.YtaikmbfdhecjoaaGreatPlain6
import Derived.Test.YtaikmbfdhecjoaaGreatRed2
import Derived.BigQuiet
import Derived.Lib.BufferMore
namespace Go.Proofs.YtaikmbfdhecjoaaGreat.Pl

theorem rowAt_take (da : List Int) (s r k : Nat) (h : r < k) : rowAt (da.take (k * s)) s r = rowAt da s r := by
  unfold rowAt
  have h1 : (r + 1) * s ≤ k * s := Nat.mul_le_mul_right s h
  rw [Nat.succ_mul] at h1
  rw [List.drop_take, List.take_take]
  congr 1
  omega
theorem rowsDown_take (da : List Int) (s r k : Nat) (h : r ≤ k) : rowsDown (da.take (k * s)) s r = rowsDown da s r := by
  induction r with
  | zero => rfl
  | succ r ih =>
    unfold rowsDown
    rw [rowAt_take da s r k (by omega), ih (by omega)]
theorem foldM_take (F : Int → Int → Int × Int) (da : List Int) (s k : Nat) (h : 1 ≤ k) : foldM F (da.take (k * s)) s k = foldM F da s k := by
  unfold foldM
  rw [rowsDown_take da s (k - 1) k (by omega), rowAt_take da s (k - 1) k (by omega)]
/-- the k-th beginning, folded -/
def beg (F : Int → Int → Int × Int) (da : List Int) (s i : Nat) : Int × List Int := foldM F da s (i + 1)
def begC (F : Int → Int → Int × Int) (da : List Int) (s i : Nat) : Int × Int := (0, (beg F da s i).1)
def begD (F : Int → Int → Int × Int) (da : List Int) (s k : Nat) : List Int := (List.range k).flatMap (fun i => (beg F da s i).2)
theorem begD_succ (F : Int → Int → Int × Int) (da : List Int) (s k : Nat) : begD F da s (k + 1) = begD F da s k ++ (beg F da s k).2 := by
  unfold begD
  rw [List.range_succ, List.flatMap_append]
  simp
theorem beg_first (F : Int → Int → Int × Int) (da : List Int) (s k n : Nat) (hk : k < n) (h : ∀ i, i < k → (beg F da s i).1 = 0) (hc : ¬ (beg F da s k).1 = 0) : firstG (begC F da s) (List.range n) = (beg F da s k).1 := by
  have e : List.range n = List.range k ++ k :: (List.range' (k + 1) (n - k - 1)) := by
    have h1 : n = k + (n - k) := by omega
    have h2 : List.range n = List.range k ++ List.range' k (n - k) := by
      rw [List.range_eq_range', List.range_eq_range']
      have := List.range'_append (s := 0) (m := k) (n := n - k) (step := 1)
      simp only [Nat.zero_add, Nat.one_mul] at this
      rw [this, ← h1]
    rw [h2]
    congr 1
    have h3 : n - k = (n - k - 1) + 1 := by omega
    rw [h3, List.range'_succ]
    simp
  rw [e]
  refine firstG_app (begC F da s) (List.range k) k _ (fun i hi => ?_) hc
  exact h i (by simpa using hi)
theorem beg_zero (F : Int → Int → Int × Int) (da : List Int) (s n : Nat) (h : ∀ i, i < n → (beg F da s i).1 = 0) : firstG (begC F da s) (List.range n) = 0 :=
  firstG_zero (begC F da s) (List.range n) (fun i hi => h i (by simpa using hi))
/-- Scan of a valid array -/
def scanM (F : Int → Int → Int × Int) (sh da : List Int) : Int × List Int × List Int :=
  if sh.length = 0 then (0, [], da)
  else if firstG (begC F da (prodC sh.tail).toNat) (List.range (sh.getD 0 0).toNat) = 0 then (0, sh, begD F da (prodC sh.tail).toNat (sh.getD 0 0).toNat) else (firstG (begC F da (prodC sh.tail).toNat) (List.range (sh.getD 0 0).toNat), [], [])
end Go.Proofs.YtaikmbfdhecjoaaGreat.Pl

namespace Go.Proofs.YtaikmbfdhecjoaaGreat
open Go.RowKit
set_option linter.unusedVariables false

/-- a row that is not nil -/
theorem owns_some {base n : Nat} {w : World} {v : Value} {xs : List Value} (h : w.ownsRow base 3 1 v n xs) (hb : ∃ k, v.ownBlock = some k) : ∃ g cap, v = .slice (some ⟨g, 0, none⟩) n cap ∧ n ≤ cap ∧ cap ≤ 9223372036854775807 := by
  rcases h.2 with ⟨rfl, _⟩ | ⟨g, cap, cur, rfl, _, _, h1, h2, _⟩
  · obtain ⟨k, hk⟩ := hb
    simp [Value.ownBlock] at hk
  · refine ⟨g, cap, rfl, h1, ?_⟩
    unfold maxLen at h2
    omega

/-- append(v, u...), and where the row lies -/
theorem wpList_append_rd_at {base B : Nat} (w : World) {ops : Array Oper} {rest : List Oper} {o : Oper} {a : Act} {Q : Exit → Act → World → Prop} (hg : o.guard = none) (s x : Operand)
    (hop : o.op = Op.call { callee := Callee.builtin Builtin.append, args := #[s, x], argTypes := #[23, 23] }) (v u : Value) (hs : a.eval s = v) (hx : a.eval x = u) (n : Nat) (ys xs : List Int)
    (hown : w.ownsRow base 3 1 v n (ys.map (Value.int .i64))) (hrd : Rd B w u xs) (hbd : n + xs.length ≤ 16777216) (hbase : base ≤ w.heap.size)
    (hK : ∀ v' w', w'.ownsRow base 3 1 v' (n + xs.length) ((ys ++ xs).map (Value.int .i64)) → w.grownBy w' v.ownBlock → (v'.ownBlock = v.ownBlock ∨ v'.ownBlock = some w.heap.size) → wpList Tryz.prog ops Q rest (a.put o.dst v') w') : wpList Tryz.prog ops Q (o :: rest) a w := by
  obtain ⟨v', w', hr, ho, hb, hat⟩ := append_rd_at w v n ys hown u xs hrd hbd hbase o.type
  exact wpList_append_eq w w' hg s x _ hop v u v' hs hx hr (hK v' w' ho hb hat)

/-- spec.l2Copy: its answer is not nil -/
theorem l2Copy_at (u : Value) (xs : List Int) (w : World) (hl : xs.length ≤ 1048576) (h0 : Rd w.heap.size w u xs) :
    Calls Tryz.prog 17 #[u] w fun e w' => ∃ g cap, e = .returned (.slice (some ⟨g, 0, none⟩) xs.length cap) ∧ xs.length ≤ cap ∧ cap ≤ 9223372036854775807 ∧ w'.ownsRow w.heap.size 3 1 (.slice (some ⟨g, 0, none⟩) xs.length cap) xs.length (xs.map (Value.int .i64)) ∧ Below w.heap.size w w' := by
  have H := hideP h0
  obtain ⟨a0, d0, e0⟩ := h0.form
  subst e0
  clear h0
  go_enter Tryz.func17, Tryz.ntmps17
  have A : Hid (Below w.heap.size w (w.alloc (.cells #[] 3))) := (Below.refl _ _).alloc (Nat.le_refl _) _
  have RD := hideP (H.out.keep A.out)
  have OE := hideP (owns_empty w w.heap.size (Nat.le_refl _))
  go_wp2_with (at_builtin; refine wpList_append_rd_at _ rfl _ _ rfl _ _ rfl rfl 0 [] xs OE.out RD.out (by omega) (by simp) ?_)
  intro v' w' ho hg hat
  have HO : Hid (w'.ownsRow w.heap.size 3 1 v' xs.length (xs.map (Value.int .i64))) := by
    first | exact ho | (have := ho; rw [Nat.zero_add, List.nil_append] at this; exact this)
  obtain ⟨g, cap, ev, h1, h2⟩ := owns_some HO.out (by
    rcases hat with hat | hat
    · exact ⟨w.heap.size, hat⟩
    · exact ⟨_, hat⟩)
  subst ev
  have HB : Hid (Below w.heap.size w w') := A.out.grown hg (by simp) (fun k hk => by simp [Value.ownBlock] at hk; omega)
  clear ho hg hat
  go_wp2_with fail
  go_ret
  exact ⟨_, _, rfl, h1, h2, HO.out, HB.out⟩

namespace Pl
theorem fits_first {sh : List Int} (hf : fitsB sh = true) (h0 : ¬ sh.length = 0) {n s i : Nat} (hn : sh.getD 0 0 = n) (hs : prodC sh.tail = s) (hft : fitsB sh.tail = true) (hi : i ≤ n) : fitsB ((i : Int) :: sh.tail) = true ∧ prodC ((i : Int) :: sh.tail) = (i * s : Nat) := by
  cases sh with
  | nil => simp at h0
  | cons x tl =>
    simp only [List.tail_cons] at *
    have hx : x = n := hn
    subst hx
    have hb : baseB ((n : Int) :: tl) = true := by simp only [fitsB, Bool.and_eq_true] at hf; exact hf.1
    have hp := prod_eq hf
    have hp2 : prodP ((n : Int) :: tl) ≤ 1000 := by
      rw [fits_eq, hb] at hf
      simpa using hf
    rw [prodP_cons] at hp2
    have ep : prodP tl = s := by rw [← prod_eq hft]; exact hs
    rw [ep] at hp2
    have hb' : baseB ((i : Int) :: tl) = true := by
      simp only [baseB, Bool.and_eq_true, decide_eq_true_eq, List.all_cons, List.length_cons] at hb ⊢
      refine ⟨hb.1, ?_, hb.2.2⟩
      have := inR_bd hb.2.1
      simp only [inR, decide_eq_true_eq]
      omega
    have hle : (i : Int) * (s : Int) ≤ (n : Int) * (s : Int) := Int.mul_le_mul_of_nonneg_right (by omega) (by omega)
    have hf' : fitsB ((i : Int) :: tl) = true := by
      rw [fits_eq, hb', prodP_cons, ep]
      simp only [Bool.true_and, decide_eq_true_eq]
      omega
    refine ⟨hf', ?_⟩
    rw [prod_eq hf', prodP_cons, ep, Int.natCast_mul]
theorem ok_first {sh da : List Int} (hok : okB sh da = true) (h0 : ¬ sh.length = 0) {n s i : Nat} (hn : sh.getD 0 0 = n) (hs : prodC sh.tail = s) (hft : fitsB sh.tail = true) (hl : da.length = n * s) (hi : i ≤ n) : okB ((i : Int) :: sh.tail) (da.take (i * s)) = true := by
  obtain ⟨h1, h2⟩ := fits_first (ok_len hok).2 h0 hn hs hft hi
  have hle : i * s ≤ da.length := by rw [hl]; exact Nat.mul_le_mul_right s hi
  simp only [okB, Bool.and_eq_true, decide_eq_true_eq, List.all_eq_true] at hok ⊢
  refine ⟨⟨h1, by rw [h2, List.length_take]; omega⟩, fun x hx => hok.2 x (List.mem_of_mem_take hx)⟩
end Pl
end Go.Proofs.YtaikmbfdhecjoaaGreat

namespace Go.Proofs.YtaikmbfdhecjoaaGreat
open Go.RowKit
set_option linter.unusedVariables false

/-- n bytes that are read from ao on, below B -/
def RdB (B : Nat) (w : World) (ao : Option Addr) (n : Nat) : Prop :=
  n = 0 ∨ ∃ b off, b < B ∧ ao = some ⟨b, off, none⟩ ∧ ∀ i, i < n → ∃ x : Nat, x ≤ 255 ∧ w.cell? ⟨b, off + i, none⟩ = some (.int .u8 (x : Int))
theorem RdB.keep {B n : Nat} {w w' : World} {ao : Option Addr} (h : RdB B w ao n) (hb : Below B w w') : RdB B w' ao n := by
  rcases h with h | ⟨b, off, hB, rfl, hc⟩
  · exact .inl h
  · refine .inr ⟨b, off, hB, rfl, fun i hi => ?_⟩
    obtain ⟨x, h1, h2⟩ := hc i hi
    exact ⟨x, h1, (hb.cell (p := ⟨b, off + i, none⟩) hB).trans h2⟩
theorem RdB.less {B n m : Nat} {w : World} {ao : Option Addr} (h : RdB B w ao n) (hm : m ≤ n) : RdB B w ao m := by
  rcases h with h | ⟨b, off, hB, rfl, hc⟩
  · exact .inl (by omega)
  · exact .inr ⟨b, off, hB, rfl, fun i hi => hc i (by omega)⟩

/-- a reader of bytes, in the block P -/
def Rdr (B P : Nat) (w : World) : Prop :=
  B ≤ P ∧ ∃ (ao : Option Addr) (n cap pos : Nat), n ≤ 1000 ∧ pos ≤ n ∧ w.heap[P]? = some (.cells #[.slice ao n cap, .int .i64 (pos : Int)] 60 (0, 0)) ∧ RdB B w ao n
theorem Rdr.lt {B P : Nat} {w : World} (h : Rdr B P w) : P < w.heap.size := by
  obtain ⟨_, ao, n, cap, pos, _, _, hk, _⟩ := h
  exact (Array.getElem?_eq_some_iff.1 hk).1
theorem Rdr.keep {B P : Nat} {w w' : World} (h : Rdr B P w) (hb : Below w.heap.size w w') : Rdr B P w' := by
  have hlt := h.lt
  obtain ⟨hB, ao, n, cap, pos, h1, h2, hk, hr⟩ := h
  exact ⟨hB, ao, n, cap, pos, h1, h2, (hb.block P hlt).trans hk, hr.keep (hb.mono (by omega))⟩
/-- .. behind a write into a row of another kind -/
theorem Rdr.kept {B P : Nat} {w w' : World} {r : Option Nat} (h : Rdr B P w) (hg : w.grownBy w' r) (hr : ∀ k, r = some k → B ≤ k ∧ ¬ k = P) : Rdr B P w' := by
  have hlt := h.lt
  obtain ⟨hB, ao, n, cap, pos, h1, h2, hk, hrd⟩ := h
  have hne : r ≠ some P := fun e => (hr P e).2 rfl
  refine ⟨hB, ao, n, cap, pos, h1, h2, (hg.block P hlt (by intro e; exact hne e.symm)).trans hk, ?_⟩
  refine hrd.keep ⟨hg.os, hg.tape, hg.output, hg.size, fun k hk' => hg.block k (by omega) (fun e => by have := (hr k e.symm).1; omega)⟩
theorem grown_drewN {w w' : World} {r : Option Nat} (n : Nat) (h : (w.drewN n).grownBy w' r) : w.grownBy w' r := ⟨h.os, h.tape, h.output, h.size, h.block⟩
theorem grown_set (w : World) (P j : Nat) (v : Value) : w.grownBy (w.setCell ⟨P, j, none⟩ v) (some P) :=
  ⟨rfl, rfl, rfl, by simp, fun k _ hk => heap_setCell_other w ⟨P, j, none⟩ k v (fun e => hk (by simp [e]))⟩
theorem grown_same (w : World) (n : Nat) (r : Option Nat) : w.grownBy (w.drewN n) r := ⟨rfl, rfl, rfl, Nat.le_refl _, fun _ _ _ => rfl⟩
theorem grown_below {B P : Nat} {w w' : World} (h : w.grownBy w' (some P)) (hB : B ≤ P) (hw : B ≤ w.heap.size) : Below B w w' :=
  ⟨h.os, h.tape, h.output, h.size, fun k hk => h.block k (by omega) (fun e => by injection e with e; omega)⟩

/-- what next leaves -/
def NxPost (B P : Nat) (w : World) (e : Ending) (w' : World) : Prop := ∃ x : Nat, e = .returned (.int .i64 (x : Int)) ∧ x ≤ 255 ∧ Rdr B P w' ∧ w.grownBy w' (some P)
theorem NxPost.mk {B P : Nat} {w w' : World} {x : Nat} {y : Int} (h0 : y = (x : Int)) (h1 : x ≤ 255) (hr : Rdr B P w') (hg : w.grownBy w' (some P)) : NxPost B P w (.returned (.int .i64 y)) w' := ⟨x, by rw [h0], h1, hr, hg⟩

/-- the reader, one byte on -/
theorem Rdr.step {B P n cap pos : Nat} {w : World} {ao : Option Addr} (hB : B ≤ P) (h1 : n ≤ 1000) (hp : pos < n) (hk : w.heap[P]? = some (.cells #[.slice ao n cap, .int .i64 (pos : Int)] 60 (0, 0))) (hr : RdB B w ao n) : Rdr B P (w.setCell ⟨P, 1, none⟩ (.int .i64 ((pos : Int) + 1))) := by
  refine ⟨hB, ao, n, cap, pos + 1, h1, by omega, ?_, hr.keep ((Below.refl B w).setCell hB _)⟩
  have := Lib.heap_setCell_same (i := 1) hk (.int .i64 ((pos : Int) + 1))
  simpa using this

set_option maxRecDepth 100000 in
set_option maxHeartbeats 2000000 in
/-- (*l1Rd).next -/
theorem next_any (B P : Nat) (w : World) (h : Rdr B P w) : Calls Tryz.prog 39 #[.pointer (some ⟨P, 0, none⟩)] w (NxPost B P w) := by
  have H := hideP h
  have hlt := h.lt
  obtain ⟨hB, ao, n, cap, pos, hn, hp, hk, hr⟩ := h
  have c0 : w.cell? ⟨P, 0, none⟩ = some (.slice ao n cap) := by rw [Lib.cell_of_heap hk]; rfl
  have c1 : w.cell? ⟨P, 1, none⟩ = some (.int .i64 (pos : Int)) := by rw [Lib.cell_of_heap hk]; rfl
  have f1 : w.frozen? ⟨P, 1, none⟩ = false := frozen_of_row w P 1 _ 60 hk
  by_cases hlp : pos < n
  · have hlp' : (pos : Int) < (n : Int) := by omega
    have ST : Hid (∀ m, Rdr B P ((w.drewN m).setCell ⟨P, 1, none⟩ (.int .i64 ((pos : Int) + 1)))) := fun m => Rdr.step (w := w.drewN m) hB hn hlp hk hr
    have GR : Hid (∀ m, w.grownBy ((w.drewN m).setCell ⟨P, 1, none⟩ (.int .i64 ((pos : Int) + 1))) (some P)) := fun m => grown_drewN m (grown_set (w.drewN m) P 1 _)
    rcases hr with h0 | ⟨b, off, hb, rfl, hc⟩
    · omega
    obtain ⟨x, x1, cx⟩ := hc pos hlp
    clear hc hk H
    go_enter Tryz.func39, Tryz.ntmps39
    go_wp2_with fail
    go_quiet (fail)
    go_wp2_with fail
    go_quiet (fail)
    go_wp2_with fail
    go_ret
    exact NxPost.mk (x := x) (by first | rfl | (rw [IntKind.wrap_i64]; omega)) x1 (ST.out _) (GR.out _)
  · have hlp' : ¬ (pos : Int) < (n : Int) := by omega
    clear hr hk
    go_enter Tryz.func39, Tryz.ntmps39
    go_wp2_with fail
    go_quiet (fail)
    go_wp2_with fail
    go_ret
    exact NxPost.mk (x := 0) rfl (by omega) (H.out.keep (below_drewN (Below.refl _ _) _)) (grown_same _ _ _)

set_option maxRecDepth 100000 in
set_option maxHeartbeats 1000000 in
/-- spec.l1Open -/
theorem l1Open_any (ao : Option Addr) (n cap : Nat) (w : World) (hn : n ≤ 1048576) (hcap : n ≤ cap) (hm : cap ≤ 9223372036854775807) (h : RdB w.heap.size w ao n) :
    Calls Tryz.prog 14 #[.slice ao n cap] w fun e w' => e = .returned (.pointer (some ⟨w.heap.size, 0, none⟩)) ∧ Rdr w.heap.size w.heap.size w' ∧ Below w.heap.size w w' := by
  have AL : Hid (∀ o, Below w.heap.size w (w.alloc o)) := fun o => (Below.refl _ _).alloc (Nat.le_refl _) _
  have NEW : Hid (∀ (n cap : Nat) (ao : Option Addr), n ≤ 1000 → RdB w.heap.size w ao n → Rdr w.heap.size w.heap.size (w.alloc (.cells #[.slice ao n cap, .int .i64 0] 60))) := fun n cap ao h1 h2 =>
    ⟨Nat.le_refl _, ao, n, cap, 0, h1, Nat.zero_le _, heap_alloc_new w _, h2.keep (AL.out _)⟩
  by_cases hlong : 1000 < n
  · have hlong' : (1000 : Int) < (n : Int) := by omega
    have HR := hideP (NEW.out 1000 cap ao (by omega) (h.less (by omega)))
    obtain ⟨b, off, rfl⟩ : ∃ b off, ao = some ⟨b, off, none⟩ := by
      rcases h with h | ⟨b, off, _, e, _⟩
      · omega
      · exact ⟨b, off, e⟩
    clear h NEW
    go_enter Tryz.func14, Tryz.ntmps14
    go_wp2_with fail
    go_ret
    exact ⟨rfl, HR.out, AL.out _⟩
  · have hlong' : ¬ (1000 : Int) < (n : Int) := by omega
    have HR := hideP (NEW.out n cap ao (by omega) h)
    clear h NEW
    go_enter Tryz.func14, Tryz.ntmps14
    go_wp2_with fail
    go_ret
    exact ⟨rfl, HR.out, AL.out _⟩

/-- what l1Cell leaves -/
def ClPost (B P : Nat) (w : World) (e : Ending) (w' : World) : Prop := ∃ y : Int, e = .returned (.int .i64 y) ∧ (-3000000000 ≤ y ∧ y ≤ 3000000000) ∧ Rdr B P w' ∧ w.grownBy w' (some P)
theorem ClPost.mk {B P : Nat} {w w' : World} {y : Int} (h1 : -3000000000 ≤ y ∧ y ≤ 3000000000) (hr : Rdr B P w') (hg : w.grownBy w' (some P)) : ClPost B P w (.returned (.int .i64 y)) w' := ⟨y, rfl, h1, hr, hg⟩

set_option maxRecDepth 100000 in
set_option maxHeartbeats 4000000 in
/-- spec.l1Cell -/
theorem l1Cell_any (B P : Nat) (w : World) (h : Rdr B P w) : Calls Tryz.prog 41 #[.pointer (some ⟨P, 0, none⟩)] w (ClPost B P w) := by
  have KN := hideP (next_any B P w h)
  clear h
  go_enter Tryz.func41, Tryz.ntmps41
  go_wp2_with fail
  refine KN.out.mono ?_
  rintro e w1 ⟨x, rfl, hx, hr, hg⟩
  have R1 := hideP hr
  have G1 := hideP hg
  clear hr hg KN
  by_cases h1 : x = 255
  · subst h1
    go_wp2_with fail
    go_ret
    exact ClPost.mk (by omega) R1.out G1.out
  by_cases h2 : x = 254
  · subst h2
    go_wp2_with fail
    go_ret
    exact ClPost.mk (by omega) R1.out G1.out
  have e1 : ((x : Int) == 255) = false := by rw [beq_eq_false_iff_ne]; omega
  have e2 : ((x : Int) == 254) = false := by rw [beq_eq_false_iff_ne]; omega
  by_cases h3 : 250 ≤ x
  · have h3' : (250 : Int) ≤ (x : Int) := by omega
    go_wp2_with fail
    go_ret
    exact ClPost.mk (by first | omega | (rw [IntKind.wrap_i64]; omega)) R1.out G1.out
  have h3' : ¬ (250 : Int) ≤ (x : Int) := by omega
  by_cases h4 : 220 ≤ x
  · have h4' : (220 : Int) ≤ (x : Int) := by omega
    go_wp2_with fail
    go_ret
    exact ClPost.mk (by first | omega | (rw [IntKind.wrap_i64]; omega)) R1.out G1.out
  · have h4' : ¬ (220 : Int) ≤ (x : Int) := by omega
    go_wp2_with fail
    go_ret
    exact ClPost.mk (by first | omega | (rw [IntKind.wrap_i64]; omega)) R1.out G1.out

end Go.Proofs.YtaikmbfdhecjoaaGreat
