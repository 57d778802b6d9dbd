import Derived.Test.YtmobjomebmipdaaPlain6
import Derived.Test.YtmobjomebmipdaaImpR
import Derived.BigQuiet
namespace Go.Proofs.Ytmobjomebmipdaa.Pl

theorem rowAt_take (da : List Int) (s r k : Nat) (h : r < k) : rowAt (da.take (k * s)) s r = rowAt da s r := by
  unfold rowAt
  have h1 : (r + 1) * s ≤ k * s := Nat.mul_le_mul_right s h
  rw [Nat.succ_mul] at h1
  rw [List.drop_take, List.take_take]
  congr 1
  omega
theorem rowsDown_take (da : List Int) (s r k : Nat) (h : r ≤ k) : rowsDown (da.take (k * s)) s r = rowsDown da s r := by
  induction r with
  | zero => rfl
  | succ r ih =>
    unfold rowsDown
    rw [rowAt_take da s r k (by omega), ih (by omega)]
theorem foldM_take (F : Int → Int → Int × Int) (da : List Int) (s k : Nat) (h : 1 ≤ k) : foldM F (da.take (k * s)) s k = foldM F da s k := by
  unfold foldM
  rw [rowsDown_take da s (k - 1) k (by omega), rowAt_take da s (k - 1) k (by omega)]
/-- the k-th beginning, folded -/
def beg (F : Int → Int → Int × Int) (da : List Int) (s i : Nat) : Int × List Int := foldM F da s (i + 1)
def begC (F : Int → Int → Int × Int) (da : List Int) (s i : Nat) : Int × Int := (0, (beg F da s i).1)
def begD (F : Int → Int → Int × Int) (da : List Int) (s k : Nat) : List Int := (List.range k).flatMap (fun i => (beg F da s i).2)
theorem begD_zero (F : Int → Int → Int × Int) (da : List Int) (s : Nat) : begD F da s 0 = [] := rfl
theorem begD_succ (F : Int → Int → Int × Int) (da : List Int) (s k : Nat) : begD F da s (k + 1) = begD F da s k ++ (beg F da s k).2 := by
  unfold begD
  rw [List.range_succ, List.flatMap_append]
  simp
theorem beg_first (F : Int → Int → Int × Int) (da : List Int) (s k n : Nat) (hk : k < n) (h : ∀ i, i < k → (beg F da s i).1 = 0) (hc : ¬ (beg F da s k).1 = 0) : firstG (begC F da s) (List.range n) = (beg F da s k).1 := by
  have e : List.range n = List.range k ++ k :: (List.range' (k + 1) (n - k - 1)) := by
    have h1 : n = k + (n - k) := by omega
    have h2 : List.range n = List.range k ++ List.range' k (n - k) := by
      rw [List.range_eq_range', List.range_eq_range']
      have := List.range'_append (s := 0) (m := k) (n := n - k) (step := 1)
      simp only [Nat.zero_add, Nat.one_mul] at this
      rw [this, ← h1]
    rw [h2]
    congr 1
    have h3 : n - k = (n - k - 1) + 1 := by omega
    rw [h3, List.range'_succ]
    simp
  rw [e]
  refine firstG_app (begC F da s) (List.range k) k _ (fun i hi => ?_) hc
  exact h i (by simpa using hi)
theorem beg_zero (F : Int → Int → Int × Int) (da : List Int) (s n : Nat) (h : ∀ i, i < n → (beg F da s i).1 = 0) : firstG (begC F da s) (List.range n) = 0 :=
  firstG_zero (begC F da s) (List.range n) (fun i hi => h i (by simpa using hi))
/-- Scan of a valid array -/
def scanM (F : Int → Int → Int × Int) (sh da : List Int) : Int × List Int × List Int :=
  if sh.length = 0 then (0, [], da)
  else if firstG (begC F da (prodC sh.tail).toNat) (List.range (sh.getD 0 0).toNat) = 0 then (0, sh, begD F da (prodC sh.tail).toNat (sh.getD 0 0).toNat) else (firstG (begC F da (prodC sh.tail).toNat) (List.range (sh.getD 0 0).toNat), [], [])
end Go.Proofs.Ytmobjomebmipdaa.Pl

namespace Go.Proofs.Ytmobjomebmipdaa
open Go.RowKit
set_option linter.unusedVariables false

namespace Pl
theorem foldL_empty (F : Int → Int → Int × Int) (l : List (List Int)) : foldL F l [] = (0, []) := by
  induction l with
  | nil => rfl
  | cons xs rest ih =>
    unfold foldL
    simp [firstG, ih]
theorem beg_empty (F : Int → Int → Int × Int) (da : List Int) (s i : Nat) (h : da.length = 0) : beg F da s i = (0, []) := by
  obtain rfl := List.length_eq_zero_iff.1 h
  unfold beg foldM
  have e : rowAt [] s (i + 1 - 1) = [] := by simp [rowAt]
  rw [e]
  exact foldL_empty F _
theorem scan_empty (F : Int → Int → Int × Int) (sh da : List Int) (h : da.length = 0) (hs : ¬ sh.length = 0) : scanM F sh da = (0, sh, da) := by
  unfold scanM
  rw [if_neg hs, beg_zero F da _ _ (fun i _ => by rw [beg_empty F da _ i h]), if_pos rfl]
  obtain rfl := List.length_eq_zero_iff.1 h
  congr 2
  unfold begD
  rw [List.flatMap_eq_nil_iff]
  intro i _
  rw [beg_empty F [] _ i rfl]
theorem beg_len (F : Int → Int → Int × Int) (da : List Int) (s i : Nat) : (beg F da s i).2.length ≤ s := by
  unfold beg foldM
  have : ∀ (l : List (List Int)) (acc : List Int), (foldL F l acc).2.length ≤ acc.length := by
    intro l
    induction l with
    | nil => exact fun acc => Nat.le_refl _
    | cons xs rest ih =>
      intro acc
      unfold foldL
      split
      · refine Nat.le_trans (ih _) ?_
        simp
        omega
      · simp
  refine Nat.le_trans (this _ _) ?_
  unfold rowAt
  rw [List.length_take]
  omega
theorem begD_len (F : Int → Int → Int × Int) (da : List Int) (s k : Nat) : (begD F da s k).length ≤ k * s := by
  induction k with
  | zero => simp [begD]
  | succ k ih =>
    rw [begD_succ, List.length_append, Nat.succ_mul]
    have := beg_len F da s k
    omega
end Pl

set_option maxRecDepth 100000 in
/-- impl.rows, from the first on -/
theorem rows_zero (b off cap s j m : Nat) (w : World) (hn : j * s ≤ m) (hm : m ≤ cap) (hm' : m ≤ 1000) (hc2 : cap ≤ 9223372036854775807) :
    Calls Try.prog 133 #[.slice (some ⟨b, off, none⟩) m cap, .int .i64 (s : Int), .int .i64 0, .int .i64 (j : Int)] w fun e w' => e = .returned (.slice (some ⟨b, off, none⟩) (j * s) cap) ∧ w' = w := by
  have e2 : ((j : Int) * (s : Int)) = ((j * s : Nat) : Int) := by simp
  generalize j * s = q at *
  by_cases hp : cap = 0
  · subst hp
    go_enter Try.func133, Try.ntmps133
    go_wp2_with fail
    go_ret
    exact ⟨rfl, rfl⟩
  · go_enter Try.func133, Try.ntmps133
    go_wp2_with fail
    go_ret
    exact ⟨rfl, rfl⟩

end Go.Proofs.Ytmobjomebmipdaa

namespace Go.Proofs.Ytmobjomebmipdaa
open Go.RowKit
set_option linter.unusedVariables false

theorem apart_lo {A B : Nat} {w : World} {u0 u1 : Value} {sh da : List Int} (h : Own B w u0 sh) (h1 : da.length = 0 ∨ ∀ b, u1.ownBlock = some b → b < A) (hA : A ≤ B) : Apart u0 u1 sh da := by
  obtain ⟨ao, cap, rfl, h⟩ := h
  rcases h1 with h1 | h1
  · exact .inr (.inl h1)
  rcases h with h | ⟨g, off, hB, _, rfl, _⟩
  · exact .inl h
  · refine .inr (.inr fun b e0 e1 => ?_)
    have := h1 b e1
    simp [Value.ownBlock] at e0
    omega

set_option maxRecDepth 100000 in
set_option maxHeartbeats 4000000 in
/-- impl.scan -/
theorem scan_impl (f : Nat) (nv : Int) (nb : Bool) (F : Int → Int → Int × Int) (b0 o0 c0 b1 o1 c1 : Nat) (sh da : List Int) (w : World) (hcf : ∀ args w, (callFunc f args).run Try.prog w = .ok (.enter f args) w)
    (hF : ∀ x y w', -3000000000 ≤ x → x ≤ 3000000000 → -3000000000 ≤ y → y ≤ 3000000000 → Calls Try.prog f #[.int .i64 x, .int .i64 y] w' (CPost w' (F x y)))
    (hFb : ∀ x y, -3000000000 ≤ x → x ≤ 3000000000 → -3000000000 ≤ y → y ≤ 3000000000 → (F x y).2 = 0 → -3000000000 ≤ (F x y).1 ∧ (F x y).1 ≤ 3000000000)
    (h0 : Rd w.heap.size w (.slice (some ⟨b0, o0, none⟩) sh.length c0) sh) (h1 : Rd w.heap.size w (.slice (some ⟨b1, o1, none⟩) da.length c1) da) (hc0 : sh.length ≤ c0) (hc0' : c0 ≤ 9223372036854775807) (hc1 : da.length ≤ c1) (hc1' : c1 ≤ 9223372036854775807)
    (hok : Pl.okB sh da = true) (c : Int) (S D : List Int) (hres : Pl.scanM F sh da = (c, S, D)) :
    Calls Try.prog 77 #[.agg #[.func (.func f) #[] #[], .int .i64 nv, .bool nb], .agg #[.slice (some ⟨b0, o0, none⟩) sh.length c0, .slice (some ⟨b1, o1, none⟩) da.length c1]] w (KPost w c S D) := by
  obtain ⟨hm0, hm1⟩ := Pl.ok_max hok
  have H0 := hideP h0
  have H1 := hideP h1
  have KS : Hid (∀ w', Calls Try.prog 91 #[.agg #[.slice (some ⟨b0, o0, none⟩) sh.length c0, .slice (some ⟨b1, o1, none⟩) da.length c1]] w' fun e w'' => e = .returned (.bool (decide (sh.length = 0))) ∧ Below w'.heap.size w' w'') := fun w' => isScalar_any _ _ sh w.heap.size w' w H0.out
  obtain ⟨wb, hwb⟩ : ∃ wb, wb = ((w.alloc (.cells #[.func (.func f) #[] #[], .int .i64 nv, .bool nb] 54)).alloc (.cells #[.slice (some ⟨b0, o0, none⟩) sh.length c0, .slice (some ⟨b1, o1, none⟩) da.length c1] 27)).alloc (.cells #[.slice none 0 0, .slice none 0 0] 27) := ⟨_, rfl⟩
  have WS : wb.heap.size = w.heap.size + 1 + 1 + 1 := by rw [hwb]; simp
  have PB : Hid (∀ W, Below wb.heap.size wb W → (W.cell? ⟨w.heap.size, 0, none⟩ = some (.func (.func f) #[] #[]) ∧ W.cell? ⟨w.heap.size, 1, none⟩ = some (.int .i64 nv) ∧ W.cell? ⟨w.heap.size, 2, none⟩ = some (.bool nb)) ∧ (W.cell? ⟨w.heap.size + 1, 0, none⟩ = some (.slice (some ⟨b0, o0, none⟩) sh.length c0) ∧ W.cell? ⟨w.heap.size + 1, 1, none⟩ = some (.slice (some ⟨b1, o1, none⟩) da.length c1)) ∧ (W.cell? ⟨w.heap.size + 1 + 1, 0, none⟩ = some (.slice none 0 0) ∧ W.cell? ⟨w.heap.size + 1 + 1, 1, none⟩ = some (.slice none 0 0) ∧ ∀ o, W.frozen? ⟨w.heap.size + 1 + 1, o, none⟩ = false) ∧ Below w.heap.size w W) := fun W hb => by
    subst hwb
    exact boxes3 (hb.mono (by simp))
  have KC : Hid (∀ W, Below wb.heap.size wb W → Calls Try.prog 129 #[.agg #[.slice (some ⟨b0, o0, none⟩) sh.length c0, .slice (some ⟨b1, o1, none⟩) da.length c1]] W (KPost W 0 sh da)) := fun W hb => by
    have k := (PB.out W hb).2.2.2
    exact copied_any _ _ sh da W (by omega) (by omega) ((H0.out.keep k).up k.size) ((H1.out.keep k).up k.size)
  go_enter Try.func77, Try.ntmps77
  by_cases hsl : sh.length = 0
  · have KS' : Hid (∀ w', Calls Try.prog 91 #[.agg #[.slice (some ⟨b0, o0, none⟩) sh.length c0, .slice (some ⟨b1, o1, none⟩) da.length c1]] w' fun e w'' => e = .returned (.bool true) ∧ Below w'.heap.size w' w'') := fun w' => by have := KS.out w'; rw [decide_eq_true hsl] at this; exact this
    unfold Pl.scanM at hres
    rw [if_pos hsl, ← List.length_eq_zero_iff.1 hsl] at hres
    simp only [Prod.mk.injEq] at hres
    obtain ⟨rfl, rfl, rfl⟩ := hres
    clear hF hFb h0 h1 hok KS H0 H1 hsl
    go_wp2_with fail
    rw [← hwb]
    refine (KS'.out _).mono ?_
    rintro e w1 ⟨rfl, hb1⟩
    have B1 := hideP hb1
    obtain ⟨c10, c11⟩ := (PB.out _ hb1).2.1
    clear hb1 hwb
    go_wp2_with fail
    refine (KC.out _ B1.out).mono ?_
    rintro e w2 ⟨hb2, ⟨_, u0, u1, rfl, res2⟩ | ⟨hne, _⟩⟩
    · have B2 := hideP (B1.out.trans (hb2.mono B1.out.size))
      have X2 := hideP (PB.out _ B2.out)
      have R2 := hideP res2
      have hs1 := B1.out.size
      have hs2 := hb2.size
      obtain ⟨x0, y0, x1, y1, e0, e1⟩ := res2.forms
      subst e0
      subst e1
      clear hb2 res2 c10 c11
      have r0 := X2.out.2.2.1.1
      have r1 := X2.out.2.2.1.2.1
      have f2 := X2.out.2.2.1.2.2
      go_wp2_with fail
      refine bodyPost_ret (v := .agg #[.slice x0 sh.length y0, .slice x1 da.length y1]) (by simp [results, Try.results77, go_sem, r0, r1]) rfl ⟨(X2.out.2.2.2.setCell (by simp; omega) _).setCell (by simp; omega) _, .inl ⟨rfl, _, _, rfl, ?_, ?_, R2.out.2.2⟩⟩
      · exact Own.base (Own.store (Own.store R2.out.1 (by omega) _) (by omega) _) (by omega)
      · exact Own.base (Own.store (Own.store R2.out.2.1 (by omega) _) (by omega) _) (by omega)
    · exact absurd rfl hne
  · have KS' : Hid (∀ w', Calls Try.prog 91 #[.agg #[.slice (some ⟨b0, o0, none⟩) sh.length c0, .slice (some ⟨b1, o1, none⟩) da.length c1]] w' fun e w'' => e = .returned (.bool false) ∧ Below w'.heap.size w' w'') := fun w' => by have := KS.out w'; rw [decide_eq_false hsl] at this; exact this
    by_cases hde : da.length = 0
    · rw [Pl.scan_empty F sh da hde hsl] at hres
      simp only [Prod.mk.injEq] at hres
      obtain ⟨rfl, rfl, rfl⟩ := hres
      have test : ((da.length : Int) == 0) = true := by simp [hde]
      clear hF hFb h0 h1 hok KS H0 H1 hsl hde
      go_wp2_with fail
      rw [← hwb]
      refine (KS'.out _).mono ?_
      rintro e w1 ⟨rfl, hb1⟩
      have B1 := hideP hb1
      obtain ⟨c10, c11⟩ := (PB.out _ hb1).2.1
      clear hb1 hwb
      go_wp2_with fail
      refine (KC.out _ B1.out).mono ?_
      rintro e w2 ⟨hb2, ⟨_, u0, u1, rfl, res2⟩ | ⟨hne, _⟩⟩
      · have B2 := hideP (B1.out.trans (hb2.mono B1.out.size))
        have X2 := hideP (PB.out _ B2.out)
        have R2 := hideP res2
        have hs1 := B1.out.size
        have hs2 := hb2.size
        obtain ⟨x0, y0, x1, y1, e0, e1⟩ := res2.forms
        subst e0
        subst e1
        clear hb2 res2 c10 c11
        have r0 := X2.out.2.2.1.1
        have r1 := X2.out.2.2.1.2.1
        have f2 := X2.out.2.2.1.2.2
        go_wp2_with fail
        refine bodyPost_ret (v := .agg #[.slice x0 sh.length y0, .slice x1 da.length y1]) (by simp [results, Try.results77, go_sem, r0, r1]) rfl ⟨(X2.out.2.2.2.setCell (by simp; omega) _).setCell (by simp; omega) _, .inl ⟨rfl, _, _, rfl, ?_, ?_, R2.out.2.2⟩⟩
        · exact Own.base (Own.store (Own.store R2.out.1 (by omega) _) (by omega) _) (by omega)
        · exact Own.base (Own.store (Own.store R2.out.2.1 (by omega) _) (by omega) _) (by omega)
      · exact absurd rfl hne
    · have test : ((da.length : Int) == 0) = false := by rw [beq_eq_false_iff_ne]; omega
      have hn : ¬ sh.getD 0 0 = 0 := by
        intro hn
        have e := (Pl.ok_len hok).1
        rw [Pl.prod_eq (Pl.ok_len hok).2] at e
        cases sh with
        | nil => exact hsl rfl
        | cons x tl =>
          have hx : x = 0 := hn
          rw [hx, Pl.prodP_cons, Int.zero_mul] at e
          omega
      obtain ⟨hlt0, hce⟩ := rd_cell h0 (i := 0) (by omega)
      rw [Nat.add_zero] at hce
      obtain ⟨hft, n, s, en, es, n1, n2, hl⟩ := Pl.ok_rows hok hsl hn
      unfold Pl.scanM at hres
      rw [if_neg hsl, en, es] at hres
      simp only [Int.toNat_natCast] at hres
      rw [en] at hce
      have hv := fun x (hx : x ∈ da) => Pl.ok_cell hok hx
      have KF0 : Hid (∀ (k : Nat) W, k < n → Below wb.heap.size wb W → Calls Try.prog 130 #[.agg #[.func (.func f) #[] #[], .int .i64 nv, .bool nb], .slice (some ⟨b1, o1, none⟩) ((k + 1) * s) c1, .int .i64 ((k : Int) + 1)] W (RPost W (Pl.beg F da s k) s)) := fun k W hk hb => by
        have k' := (PB.out W hb).2.2.2
        have hle : (k + 1) * s ≤ da.length := by rw [hl]; exact Nat.mul_le_mul_right s hk
        have hlt : (da.take ((k + 1) * s)).length = (k + 1) * s := by rw [List.length_take]; omega
        have rd := ((H1.out.keep k').up k'.size).sub 0 ((k + 1) * s) (Nat.zero_le _) hle c1
        rw [Nat.add_zero, Nat.sub_zero, List.drop_zero] at rd
        have := fold_any f nv nb F b1 o1 c1 s (k + 1) (da.take ((k + 1) * s)) W hcf hF hFb (by rw [hlt]; exact rd) (by omega) (by omega) hlt (by omega) (by omega) hc1' (fun x hx => hv x (List.mem_of_mem_take hx)) _ rfl
        rw [hlt, Pl.foldM_take F da s (k + 1) (by omega)] at this
        exact this
      have KR0 : Hid (∀ (k : Nat) W, k < n → Calls Try.prog 133 #[.slice (some ⟨b1, o1, none⟩) da.length c1, .int .i64 (s : Int), .int .i64 0, .int .i64 ((k : Int) + 1)] W fun e w' => e = .returned (.slice (some ⟨b1, o1, none⟩) ((k + 1) * s) c1) ∧ w' = W) := fun k W hk =>
        rows_zero b1 o1 c1 s (k + 1) da.length W (by rw [hl]; exact Nat.mul_le_mul_right s hk) hc1 hm1 hc1'
      have KJ : Hid (∀ b W, Below wb.heap.size wb W → b < W.heap.size → W.cell? ⟨b, 0, none⟩ = some (.slice (some ⟨b0, o0, none⟩) sh.length c0) → Calls Try.prog 84 #[.slice (some ⟨b, 0, none⟩) 1 1] W fun e w' => ∃ ao cap, e = .returned (.slice ao sh.length cap) ∧ Own W.heap.size w' (.slice ao sh.length cap) sh ∧ Below W.heap.size W w') := fun b W hb hlt hcc => by
        have k := (PB.out W hb).2.2.2
        exact joined1_own b _ sh W (by omega) hlt hcc ((H0.out.keep k).up k.size)
      have PZ : Hid (∀ W, Below wb.heap.size wb W → W.cell? ⟨b0, o0, none⟩ = some (.int .i64 (n : Int))) := fun W hb => ((PB.out W hb).2.2.2.cell (p := ⟨b0, o0, none⟩) hlt0).trans hce
      have hdiv : (da.length : Int).tdiv (n : Int) = (s : Int) := by
        rw [hl, Int.natCast_mul]
        exact Int.mul_tdiv_cancel_left (s : Int) (by omega)
      have hdiv2 : (da.length : Int) / (n : Int) = (s : Int) := by
        rw [hl, Int.natCast_mul]
        exact Int.mul_ediv_cancel_left (s : Int) (by omega)
      have hsd : s ≤ 1000 := by
        have : s ≤ n * s := Nat.le_mul_of_pos_left s (by omega)
        omega
      have BL : Hid (∀ k, k ≤ n → (Pl.begD F da s k).length ≤ 1000) := fun k hk => by
        have h1 := Pl.begD_len F da s k
        have h2 : k * s ≤ n * s := Nat.mul_le_mul_right s hk
        omega
      have BB : Hid (∀ k, k < n → (Pl.beg F da s k).2.length ≤ 1000) := fun k hk => by
        have h1 := Pl.beg_len F da s k
        have h2 : s ≤ n * s := Nat.le_mul_of_pos_left s (by omega)
        omega
      generalize hC : Pl.firstG (Pl.begC F da s) (List.range n) = C at hres
      have PC := hideP hC
      have HR := hideP hres
      obtain ⟨i0, hi, hz0, hz1, hz2⟩ := info_parts Try.info3
      have HI := hideP (And.intro hi (And.intro hz0 (And.intro hz1 hz2)))
      have hne0 : ((n : Int) == 0) = false := by rw [beq_eq_false_iff_ne]; omega
      clear hF hFb h0 h1 hok KS H0 H1 hce en es hl hv hft hn hC hres hi hz0 hz1 hz2 KC
      generalize hLd : da.length = Ld at *
      clear hLd
      generalize hLs : sh.length = Ls at *
      clear hLs
      go_wp2_with fail
      rw [← hwb]
      refine (KS'.out _).mono ?_
      rintro e wq ⟨rfl, hb1⟩
      have BWB := hideP hb1
      have hs1 : w.heap.size + 1 + 1 + 1 ≤ wq.heap.size := by have := hb1.size; omega
      have c10 := (PB.out _ hb1).2.1.1
      have c11 := (PB.out _ hb1).2.1.2
      have cz := PZ.out _ hb1
      clear hb1 hwb KS'
      go_wp2_with fail
      have QB : Hid (∀ m, Below wb.heap.size wb (wq.drewN m)) := fun m => below_drewN BWB.out m
      go_quiet (fail)
      have BQ := hideP (QB.out nq)
      clear QB BWB c10 c11 cz hs1
      generalize wq.drewN nq = wq at *
      have hs1 : w.heap.size + 1 + 1 + 1 ≤ wq.heap.size := by have := BQ.out.size; omega
      have c11 := (PB.out _ BQ.out).2.1.2
      go_wp2_with (at_make; refine wpList_make_own _ rfl _ _ 22 rfl wq.heap.size 3 i0 (.int .i64 0) 1 Try.underlying22 HI.out.1 HI.out.2.1 HI.out.2.2.1 _ _ _ Ld rfl rfl rfl ?b2 ?b3 ?b4 ?_)
      case b2 => rw [HI.out.2.2.2]; omega
      case b3 => unfold maxLen; omega
      case b4 => exact Nat.le_refl _
      intro w2 hown hgrow
      have B2 : Hid (Below wq.heap.size wq w2) := (Below.refl _ _).grown hgrow (Nat.le_refl _) (by intro k h; cases h)
      have HO2 := hideP hown
      clear hown hgrow c11
      go_wp2_with fail
      go_loopw [6, 7] (fun dv i wr => ∃ k : Nat, k ≤ n ∧ i = .int .i64 ((k : Int) + 1) ∧ Hid (∀ i, i < k → (Pl.beg F da s i).1 = 0) ∧ Hid (wr.ownsRow wq.heap.size 3 1 dv (Pl.begD F da s k).length ((Pl.begD F da s k).map (Value.int .i64))) ∧ Hid (Below wq.heap.size wq wr)) (fun _ i _ => n + 1 - (intOf i).toNat)
      case atStart => exact ⟨0, Nat.zero_le _, by go_num, fun i hi => absurd hi (Nat.not_lt_zero i), HO2, B2⟩
      case round =>
        clear HO2 B2
        obtain ⟨k, hk, rfl, hz, ho, hbel⟩ := hrel
        have BR := hideP (BQ.out.trans (hbel.out.mono BQ.out.size))
        have X := hideP (PB.out _ BR.out)
        have c10 := X.out.2.1.1
        have cz := PZ.out _ BR.out
        obtain ⟨xo, yo, eo⟩ := owns_form ho.out
        subst eo
        by_cases hlt : k < n
        · have hle : (k : Int) + 1 ≤ (n : Int) := by omega
          have KR := hideP (fun W => KR0.out k W hlt)
          have KF := hideP (fun W hb => KF0.out k W hlt hb)
          have SU := hideP (Pl.begD_succ F da s k)
          have UB : Hid ((Pl.begD F da s k).length + (Pl.beg F da s k).2.length ≤ 16777216) := by
            have h1 := BL.out k (by omega)
            have h2 := BB.out k hlt
            show _ ≤ _
            omega
          have FA : Hid (¬ (Pl.beg F da s k).1 = 0 → C = (Pl.beg F da s k).1) := fun h => PC.out.symm.trans (Pl.beg_first F da s k n hlt hz.out h)
          have ZU : Hid ((Pl.beg F da s k).1 = 0 → ∀ i, i < k + 1 → (Pl.beg F da s i).1 = 0) := fun h i hi => by
            by_cases hik : i = k
            · subst hik; exact h
            · exact hz.out i (by omega)
          generalize (k + 1) * s = q at *
          generalize Pl.beg F da s k = r at *
          have D0 : Hid (Below wq.heap.size wq wr.drew) := hbel.out.drew
          have DB : Hid (Below wb.heap.size wb wr.drew) := BR.out.drew
          have OD : Hid (wr.drew.ownsRow wq.heap.size 3 1 (.slice xo (Pl.begD F da s k).length yo) (Pl.begD F da s k).length ((Pl.begD F da s k).map (Value.int .i64))) := ho.out
          have PS : Hid (∀ W, Below wq.heap.size wq W → (W.cell? ⟨w.heap.size, 0, none⟩ = some (.func (.func f) #[] #[]) ∧ W.cell? ⟨w.heap.size, 1, none⟩ = some (.int .i64 nv) ∧ W.cell? ⟨w.heap.size, 2, none⟩ = some (.bool nb)) ∧ W.cell? ⟨w.heap.size + 1, 1, none⟩ = some (.slice (some ⟨b1, o1, none⟩) Ld c1)) := fun W hb => by
            have h := PB.out W (BQ.out.trans (hb.mono BQ.out.size))
            exact ⟨h.1, h.2.1.2⟩
          clear BR X hz KR0 KF0 PC BL BB
          go_upto_region 8 with fail
          refine wp_region_held (S := fun w' => Below wq.heap.size wq w') (by kernel_rfl) ?_
          change wpAnyH _ _ _ _ _ _ _ _ (World.drew _)
          refine wpAnyH_take (i := 0) (v := .slice xo (Pl.begD F da s k).length yo) rfl (by kernel_rfl) (by kernel_rfl) (by kernel_rfl) (fun _ _ _ h => h) (Or.inl ⟨by rfl, ?_⟩) D0.out ?_
          · intro w' hS
            clear hS
            go_simp
          refine wpAnyH_take (i := 1) (v := .agg #[.func (.func f) #[] #[], .int .i64 nv, .bool nb]) rfl (by kernel_rfl) (by kernel_rfl) (by kernel_rfl) (fun _ _ _ h => h) (Or.inl ⟨by rfl, ?_⟩) D0.out ?_
          · intro w' hS
            obtain ⟨g0, g1, g2⟩ := (PS.out w' hS).1
            clear hS
            go_simp
          refine wpAnyH_take (i := 2) (v := .pointer (some ⟨w.heap.size + 1, 1, none⟩)) rfl (by kernel_rfl) (by kernel_rfl) (by kernel_rfl) (fun _ _ _ h => h) (Or.inl ⟨by rfl, ?_⟩) D0.out ?_
          · intro w' hS
            clear hS
            go_simp
          refine wpAnyH_take (i := 3) (v := .slice (some ⟨b1, o1, none⟩) Ld c1) rfl (by kernel_rfl) (by kernel_rfl) (by kernel_rfl) (fun _ _ _ h => h) (Or.inl ⟨by rfl, ?_⟩) D0.out ?_
          · intro w' hS
            have g0 := (PS.out w' hS).2
            clear hS
            go_simp
          refine wpAnyH_take (i := 4) (v := .int .i64 (s : Int)) rfl (by kernel_rfl) (by kernel_rfl) (by kernel_rfl) (fun _ _ _ h => h) (Or.inl ⟨by rfl, ?_⟩) D0.out ?_
          · intro w' hS
            clear hS
            go_simp
          refine wpAnyH_take (i := 5) (v := .int .i64 ((k : Int) + 1)) rfl (by kernel_rfl) (by kernel_rfl) (by kernel_rfl) (fun _ _ _ h => h) (Or.inl ⟨by rfl, ?_⟩) D0.out ?_
          · intro w' hS
            clear hS
            go_simp
          refine wpAnyH_take (i := 7) (v := .int .i64 ((k : Int) + 1)) rfl (by kernel_rfl) (by kernel_rfl) (by kernel_rfl) (fun _ _ _ h => h) (Or.inl ⟨by rfl, ?_⟩) D0.out ?_
          · intro w' hS
            clear hS
            go_simp
          refine wpAnyH_ready (rs := [6]) (by kernel_rfl) (by simp) ?_
          refine AllReadyH.cons rfl (fun K hK => ?_) AllReadyH.nil
          go_simp
          refine (KR.out _).mono ?_
          rintro e w3 ⟨rfl, hw3⟩
          subst hw3
          refine hK.out _ _ D0.out (fun _ => ?_)
          clear hK
          refine wpAnyH_ready (rs := [8]) (by kernel_rfl) (by simp) ?_
          refine AllReadyH.cons rfl (fun K hK => ?_) AllReadyH.nil
          go_simp
          refine (KF.out _ DB.out).mono ?_
          rintro e w4 ⟨hb4, ⟨hr0, FV, rfl, ho4⟩ | ⟨hr0, rfl⟩⟩
          · have D4 := hideP (D0.out.trans (hb4.mono D0.out.size))
            have O4 := hideP (owns_keep OD.out hb4)
            have R4 := hideP (own_of_any ho4).rd
            obtain ⟨xf, yf, ef⟩ := owns_form ho4
            have hls : r.2.length = s := by have := ho4.1; simpa using this
            subst ef
            have ZU' := hideP (ZU.out hr0)
            clear hb4 ho4 hr0
            refine hK.out _ _ D4.out (fun _ => ?_)
            clear hK
            refine wpAnyH_ready (rs := [9]) (by kernel_rfl) (by simp) ?_
            refine AllReadyH.cons rfl (fun K hK => ?_) AllReadyH.nil
            refine step_append_at (base := wq.heap.size) _ rfl _ _ rfl _ _ rfl rfl _ _ _ O4.out R4.out UB.out D4.out.size ?_
            intro v' w5 ho5 hg5 _
            have D5 : Hid (Below wq.heap.size wq w5) := D4.out.grown hg5 D4.out.size (fun k hk => (O4.out.lt k hk).1)
            have O5 : Hid (w5.ownsRow wq.heap.size 3 1 v' (Pl.begD F da s (k + 1)).length ((Pl.begD F da s (k + 1)).map (Value.int .i64))) := by
              show World.ownsRow _ _ _ _ _ _ _
              rw [SU.out, List.length_append]
              exact ho5
            clear ho5 hg5
            refine hK.out _ _ D5.out (fun _ => ?_)
            clear hK
            refine wpAnyH_ready (rs := [10]) (by kernel_rfl) (by simp) ?_
            refine AllReadyH.cons rfl (fun K hK => ?_) AllReadyH.nil
            go_simp
            refine hK.out _ _ D5.out (fun _ => ?_)
            clear hK
            refine wpAnyH_done (by kernel_rfl) ?_ _
            go_wp2_with fail
            go_roundw
            case rel => exact ⟨k + 1, by omega, by go_num, ZU', O5, D5⟩
            case measure => simp [intOf]; omega
          · have hC := FA.out hr0
            have hre := HR.out
            rw [if_neg (by rw [hC]; exact hr0)] at hre
            simp only [Prod.mk.injEq] at hre
            obtain ⟨rfl, rfl, rfl⟩ := hre
            have BX := hideP (PB.out _ (DB.out.trans (hb4.mono DB.out.size))).2.2.2
            subst hC
            exact ⟨rfl, BX.out, .inr ⟨hr0, rfl, rfl, rfl⟩⟩
        · have kn : k = n := by omega
          subst kn
          have hgt : ¬ ((k : Int) + 1 ≤ (k : Int)) := by omega
          have hC : C = 0 := PC.out.symm.trans (Pl.beg_zero F da s k hz.out)
          have hre := HR.out
          rw [if_pos hC] at hre
          simp only [Prod.mk.injEq] at hre
          obtain ⟨rfl, rfl, rfl⟩ := hre
          have A6 : Hid (Below wr.heap.size wr (wr.alloc (.cells #[.slice (some ⟨b0, o0, none⟩) Ls c0] 22))) := (Below.refl _ _).alloc (Nat.le_refl _) _
          have KJ' := hideP (KJ.out wr.heap.size (wr.alloc (.cells #[.slice (some ⟨b0, o0, none⟩) Ls c0] 22)) (BR.out.trans (A6.out.mono BR.out.size)) (lit_cell wr _ 22).1 (lit_cell wr _ 22).2)
          go_wp2_with fail
          refine KJ'.out.mono ?_
          rintro e w6 ⟨xs, ys, rfl, ho6, hb6⟩
          have B6 := hideP (BR.out.trans ((A6.out.trans (hb6.mono (by simp))).mono BR.out.size))
          have O6 := hideP ho6
          have D6 := hideP (own_of_any (owns_keep ho.out (A6.out.trans (hb6.mono (by simp)))))
          have X6 := hideP (PB.out _ B6.out)
          have hs6 : wr.heap.size + 1 ≤ w6.heap.size := by have := hb6.size; simpa using this
          have hsr := hbel.out.size
          have AP := hideP (apart_lo (u0 := .slice xs Ls ys) (sh := sh) ho6 (own_of_any ho.out).lt (by simp))
          clear ho6 hb6 c10 cz
          have r0 := X6.out.2.2.1.1
          have r1 := X6.out.2.2.1.2.1
          have f2 := X6.out.2.2.1.2.2
          go_wp2_with fail
          refine bodyPost_ret (v := .agg #[.slice xs Ls ys, .slice xo (Pl.begD F da s k).length yo]) (by simp [results, Try.results77, go_sem, r0, r1]) rfl ⟨(X6.out.2.2.2.setCell (by simp; omega) _).setCell (by simp; omega) _, .inl ⟨rfl, _, _, rfl, ?_, ?_, AP.out⟩⟩
          · have := O6.out.base (show w.heap.size + 1 + 1 + 1 ≤ _ by simp; omega)
            exact Own.base (Own.store (Own.store this (by omega) _) (by omega) _) (by omega)
          · have := D6.out.base (show w.heap.size + 1 + 1 + 1 ≤ wq.heap.size by omega)
            exact Own.base (Own.store (Own.store this (by omega) _) (by omega) _) (by omega)

end Go.Proofs.Ytmobjomebmipdaa

