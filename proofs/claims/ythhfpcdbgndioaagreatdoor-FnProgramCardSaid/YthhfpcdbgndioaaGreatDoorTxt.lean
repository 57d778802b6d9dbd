import Derived.Test.YthhfpcdbgndioaaGreatDoorSpd
namespace Go.Proofs.YthhfpcdbgndioaaGreatDoor
open Go.RowKit
set_option linter.unusedVariables false
set_option maxRecDepth 100000
namespace Pl
theorem wts_app (a b : List Sv) : wts (a ++ b) = wts a + wts b := by unfold wts; rw [List.map_append, List.sum_append]
theorem wts_take (c : List Sv) (n : Nat) : wts (c.take n) ≤ wts c := by
  have := wts_app (c.take n) (c.drop n)
  rw [List.take_append_drop] at this
  omega
theorem nd_all {c : List Sv} (hok : ∀ s ∈ c, sok s = true) {n : Nat} {t : Nd Sv} {m : Nat} (h : nd c n = some (t, m)) : AllN (fun s => sok s = true ∧ ar s = 0) (fun s => sok s = true ∧ ar s ≠ 0) t ∧ (txt (ta nt) tf t).length ≤ 40 * csz c := by
  obtain ⟨h1, h2, h3, h4⟩ := nd_le h
  have ha := all_post h4 (fun s hs => hok s (List.mem_of_mem_take (i := n) (by rw [h3]; exact List.mem_append_right _ hs)))
  refine ⟨ha, ?_⟩
  have := txt_len (nt := nt) (fun n h1 h2 => nt_len n (by omega) (by omega)) t ha
  have e := wts_app (c.take m) t.post
  rw [← h3] at e
  have := wts_take c n
  have := wts_csz c
  omega
/-- the last step of a node -/
theorem nd_bare {c : List Sv} {j : Nat} {s : Sv} (hs : c[j]? = some s) {t : Nd Sv} {m : Nat} (h : nd c (j + 1) = some (t, m)) : bareN t = decide (ar s = 0) := by
  rw [nd_succ c j s hs] at h
  by_cases h0 : ar s = 0
  · rw [if_pos h0] at h
    simp only [Option.some.injEq, Prod.mk.injEq] at h
    rw [← h.1]
    simp [bareN, h0]
  · rw [if_neg h0] at h
    rw [decide_eq_false h0]
    cases e : nd c j with
    | none => rw [e] at h; cases h
    | some r =>
      obtain ⟨t1, m1⟩ := r
      rw [e] at h
      simp only [] at h
      split at h
      · simp only [Option.some.injEq, Prod.mk.injEq] at h
        rw [← h.1]; rfl
      · cases e2 : nd c m1 with
        | none => rw [e2] at h; cases h
        | some r2 =>
          rw [e2] at h
          simp only [Option.some.injEq, Prod.mk.injEq] at h
          rw [← h.1]; rfl
theorem nest_le : ∀ t : Nd Sv, nest t + 1 ≤ t.post.length := by
  intro t
  induction t with
  | «at» s => simp [nest, Nd.post]
  | one s r ih => simp only [nest, Nd.post, List.length_append, List.length_cons, List.length_nil]; omega
  | two s l r il ir =>
    simp only [nest, Nd.post, List.length_append, List.length_cons, List.length_nil]
    cases bareN l <;> simp only [] <;> omega
theorem nd_nest {c : List Sv} {n : Nat} {t : Nd Sv} {m : Nat} (h : nd c n = some (t, m)) : nest t < c.length := by
  obtain ⟨h1, h2, h3, h4⟩ := nd_le h
  have e := congrArg List.length h3
  rw [List.length_append, List.length_take] at e
  have := nest_le t
  omega
theorem fn_ok {s : Sv} (h : sok s = true) : (s.k = 3 → fok s.fn false = true) ∧ (s.k = 4 → fok s.fn true = true) := by
  rw [sok_eq] at h
  unfold sokS at h
  refine ⟨fun k => ?_, fun k => ?_⟩
  all_goals
    rw [k] at h
    rw [if_neg (by decide)] at h
    split at h
    · cases h
    rw [if_neg (by decide)] at h
    simp only [Bool.and_eq_true] at h
    exact h.2
theorem sok_nums {s : Sv} (h : sok s = true) (hk : s.k = 1) : (∀ x ∈ s.nums, -3000000000 ≤ x ∧ x ≤ 3000000000) ∧ s.nums.length ≤ 1000 := by
  unfold sok at h
  rw [if_pos hk] at h
  simp only [numsB, Bool.and_eq_true, decide_eq_true_eq, List.all_eq_true] at h
  exact ⟨fun x hx => h.1.1.1.1 x hx, h.1.1.2⟩
end Pl
def bareN' (s : Pl.Sv) : Bool := decide (Pl.ar s = 0)
theorem ret_text {a b : ByteArray} {x y : Int} (h : a = b) (h2 : x = y) : Ending.returned (.tuple #[.string a, .int .i64 x]) = .returned (.tuple #[.string b, .int .i64 y]) := by rw [h, h2]
set_option maxHeartbeats 8000000 in
/-- spec.l3Text -/
theorem l3Text_any (c : List Pl.Sv) (B b o cap : Nat) (hl : Pl.csz c ≤ 1048576) (hok : ∀ s ∈ c, Pl.sok s = true) (hb : b < B) :
    ∀ n t m, Pl.nd c n = some (t, m) → n ≤ c.length → ∀ w : World, B ≤ w.heap.size → (∀ (i : Nat) (s : Pl.Sv), c[i]? = some s → ∃ an cn, Stp B w b (o + i * 7) s an cn) →
      Calls Tryz.prog 23 #[.slice (some ⟨b, o, none⟩) c.length cap, .int .i64 ((n : Int) - 1)] w fun e w' => e = .returned (.tuple #[.string (Pl.ba (Pl.txt (Pl.ta Pl.nt) Pl.tf t)), .int .i64 (Pl.nest t : Nat)]) ∧ Below w.heap.size w w' := by
  intro n
  induction n using Nat.strongRecOn with
  | _ n ih =>
    intro t m hnd hn w hB hR
    have hcl : c.length ≤ 1048576 := by have := Pl.csz_eq c; omega
    cases n with
    | zero => cases hnd
    | succ i =>
      have hi : i < c.length := hn
      obtain ⟨s, hs⟩ : ∃ s, c[i]? = some s := ⟨c[i], List.getElem?_eq_getElem hi⟩
      have hsok := hok s (List.mem_of_getElem? hs)
      obtain ⟨an, cn, hst⟩ := hR i s hs
      have hx : (((i + 1 : Nat) : Int) - 1) = (i : Int) := by omega
      rw [hx]
      clear hx
      have hnd' := hnd
      rw [Pl.nd_succ c i s hs] at hnd
      rcases Pl.sok_kind hsok with hk | hk | hk | hk
      · rw [if_pos (by simp [Pl.ar, hk])] at hnd
        simp only [Option.some.injEq, Prod.mk.injEq] at hnd
        obtain ⟨rfl, rfl⟩ := hnd
        have := l3Text_nums b o cap c.length i s an cn w hi hcl hk (by omega) (hst.up hB) (Pl.sok_nums hsok hk).1 (Pl.sok_nums hsok hk).2
        have e : Pl.txt (Pl.ta Pl.nt) Pl.tf (.at s) = Pl.jt s.nums s.nums.length := by
          simp [Pl.txt, Pl.ta, Pl.fa, hk, Pl.jt]
        rw [e]
        exact this
      · rw [if_pos (by simp [Pl.ar, hk])] at hnd
        simp only [Option.some.injEq, Prod.mk.injEq] at hnd
        obtain ⟨rfl, rfl⟩ := hnd
        obtain ⟨c0, c1, c2, c3, c4, c5, c6, crd⟩ := hst
        have e : Hid (Pl.ba (Pl.txt (Pl.ta Pl.nt) Pl.tf (.at s)) = Pl.ba s.nm) := by
          show _ = _
          simp [Pl.txt, Pl.ta, Pl.fa, hk, Pl.sp, Pl.spt]
        have HB0 : Hid (∀ o, Below w.heap.size w (w.alloc o)) := fun o => (Below.refl _ _).alloc (Nat.le_refl _) _
        rw [hk] at c0
        clear ih hok hR crd hsok hs hk
        generalize Pl.ba (Pl.txt (Pl.ta Pl.nt) Pl.tf (.at s)) = r at *
        generalize Pl.ba s.nm = nm at *
        generalize Pl.ba s.fn.nm = fnm at *
        generalize s.fn.k = fk at *
        generalize s.fn.a = fa at *
        generalize s.fn.b = fb at *
        generalize s.nums.length = sn at *
        generalize c.length = L at *
        go_enter Tryz.func23, Tryz.ntmps23
        go_wp2_with fail
        go_ret2
        exact ⟨ret_text e.out.symm rfl, HB0.out _⟩
      · rw [if_neg (by simp [Pl.ar, hk])] at hnd
        cases e1 : Pl.nd c i with
        | none => rw [e1] at hnd; cases hnd
        | some r1 =>
          obtain ⟨t1, m1⟩ := r1
          rw [e1] at hnd
          simp only [] at hnd
          rw [if_pos (by simp [Pl.ar, hk])] at hnd
          simp only [Option.some.injEq, Prod.mk.injEq] at hnd
          obtain ⟨rfl, rfl⟩ := hnd
          obtain ⟨c0, c1, c2, c3, c4, c5, c6, crd⟩ := hst
          have HB0 : Hid (∀ o, Below w.heap.size w (w.alloc o)) := fun o => (Below.refl _ _).alloc (Nat.le_refl _) _
          have K : Hid (∀ o', Calls Tryz.prog 23 #[.slice (some ⟨b, o, none⟩) c.length cap, .int .i64 ((i : Int) - 1)] (w.alloc o') fun e w' => e = .returned (.tuple #[.string (Pl.ba (Pl.txt (Pl.ta Pl.nt) Pl.tf t1)), .int .i64 (Pl.nest t1 : Nat)]) ∧ Below (w.alloc o').heap.size (w.alloc o') w') := fun o' => ih i (Nat.lt_succ_self _) t1 m1 e1 (by omega) (w.alloc o') (by simp; omega) (fun i s hi => by
            obtain ⟨an, cn, h⟩ := hR i s hi
            exact ⟨an, cn, h.keep hb ((HB0.out o').mono hB)⟩)
          have KF : Hid (∀ w, Calls Tryz.prog 43 #[.agg #[.int .i64 s.fn.k, .int .i64 s.fn.a, .int .i64 s.fn.b, .string (Pl.ba s.fn.nm)]] w fun e w' => e = .returned (.string (Pl.ba (Pl.ftx s.fn))) ∧ Below w.heap.size w w') := fun w => l3FnText_any s.fn.k s.fn.a s.fn.b s.fn.nm false ((Pl.fn_ok hsok).1 hk) w
          have hle1 := (Pl.nd_all hok e1).2
          have hle2 := Pl.ftx_len (Pl.fn_call hsok (by simp [Pl.ar, hk]))
          have e : Hid (Pl.ba (Pl.txt (Pl.ta Pl.nt) Pl.tf (.one s t1)) = Pl.ba (Pl.ftx s.fn) ++ ⟨#[32]⟩ ++ Pl.ba (Pl.txt (Pl.ta Pl.nt) Pl.tf t1)) := by
            show Pl.ba (Pl.tf s ++ [32] ++ Pl.txt (Pl.ta Pl.nt) Pl.tf t1) = _
            rw [Pl.ba_app, Pl.ba_app]
            rfl
          rw [← Pl.ba_size] at hle1 hle2
          rw [hk] at c0
          have HN : Hid (Pl.nest (.one s t1) = Pl.nest t1) := rfl
          clear ih hok hR crd hsok hs hk e1 hnd'
          generalize Pl.ba (Pl.txt (Pl.ta Pl.nt) Pl.tf (.one s t1)) = r at *
          generalize Pl.ba (Pl.txt (Pl.ta Pl.nt) Pl.tf t1) = r1 at *
          generalize Pl.nest (.one s t1) = q at *
          generalize Pl.nest t1 = q1 at *
          generalize Pl.ba (Pl.ftx s.fn) = r2 at *
          generalize Pl.ba s.nm = nm at *
          generalize Pl.ba s.fn.nm = fnm at *
          generalize s.fn.k = fk at *
          generalize s.fn.a = fa at *
          generalize s.fn.b = fb at *
          generalize s.nums.length = sn at *
          generalize c.length = L at *
          have lim1 : ¬ (9223372036854775807 < r2.size + 1) := by omega
          have lim2 : ¬ (9223372036854775807 < r2.size + 1 + r1.size) := by omega
          have C : Hid (∀ (w1 w' : World) (j : Nat) (v : Value), Below w1.heap.size w1 w' → w.heap.size < w1.heap.size → w1.cell? ⟨w.heap.size, j, none⟩ = some v → w'.cell? ⟨w.heap.size, j, none⟩ = some v) := fun w1 w' j v hb h1 h => (hb.cell (p := ⟨w.heap.size, j, none⟩) h1).trans h
          go_enter Tryz.func23, Tryz.ntmps23
          go_wp2_with fail
          refine (K.out _).mono ?_
          rintro e' w2 ⟨rfl, hb2⟩
          have d0 := C.out _ _ 0 _ hb2 (by simp) (by simp [go_sem]; rfl)
          have d3 := C.out _ _ 3 _ hb2 (by simp) (by simp [go_sem]; rfl)
          have d4 := C.out _ _ 4 _ hb2 (by simp) (by simp [go_sem]; rfl)
          have d5 := C.out _ _ 5 _ hb2 (by simp) (by simp [go_sem]; rfl)
          have d6 := C.out _ _ 6 _ hb2 (by simp) (by simp [go_sem]; rfl)
          have HBB := hideP ((HB0.out _).trans (hb2.mono (by simp)))
          clear hb2
          go_wp2_with (go_at_call 43; refine (KF.out _).mono ?_; rintro e' w3 ⟨rfl, hb3⟩)
          go_ret2
          exact ⟨ret_text e.out.symm (by rw [HN.out]), HBB.out.trans (hb3.mono HBB.out.size)⟩
      · rw [if_neg (by simp [Pl.ar, hk])] at hnd --two
        cases e1 : Pl.nd c i with
        | none => rw [e1] at hnd; cases hnd
        | some r1 =>
          obtain ⟨t1, m1⟩ := r1
          rw [e1] at hnd
          simp only [] at hnd
          rw [if_neg (by simp [Pl.ar, hk])] at hnd
          cases e2 : Pl.nd c m1 with
          | none => rw [e2] at hnd; cases hnd
          | some r2 =>
            obtain ⟨t2, m2⟩ := r2
            rw [e2] at hnd
            simp only [Option.some.injEq, Prod.mk.injEq] at hnd
            obtain ⟨rfl, rfl⟩ := hnd
            obtain ⟨j, rfl⟩ : ∃ j, i = j + 1 := ⟨i - 1, by have := (Pl.nd_le e1).1; omega⟩
            have hm1 := (Pl.nd_le e1).1
            obtain ⟨s1, hs1⟩ : ∃ s1, c[j]? = some s1 := ⟨c[j], List.getElem?_eq_getElem (by omega)⟩
            have hbare := Pl.nd_bare hs1 e1
            have hk1 := Pl.sok_kind (hok s1 (List.mem_of_getElem? hs1))
            obtain ⟨c0, c1, c2, c3, c4, c5, c6, crd⟩ := hst
            obtain ⟨an1, cn1, hst1⟩ := hR j s1 hs1
            have HB0 : Hid (∀ o, Below w.heap.size w (w.alloc o)) := fun o => (Below.refl _ _).alloc (Nat.le_refl _) _
            have HC1 : Hid (∀ w', Below w.heap.size w w' → w'.cell? ⟨b, o + j * 7, none⟩ = some (.int .i64 s1.k)) := fun w' h => (h.cell (p := ⟨b, o + j * 7, none⟩) (Nat.lt_of_lt_of_le hb hB)).trans hst1.k
            have K : Hid (∀ w', Below w.heap.size w w' → Calls Tryz.prog 23 #[.slice (some ⟨b, o, none⟩) c.length cap, .int .i64 (j : Int)] w' fun e w2 => e = .returned (.tuple #[.string (Pl.ba (Pl.txt (Pl.ta Pl.nt) Pl.tf t1)), .int .i64 (Pl.nest t1 : Nat)]) ∧ Below w'.heap.size w' w2) := fun w' hw => by
              have := ih (j + 1) (Nat.lt_succ_self _) t1 m1 e1 (by omega) w' (by have := hw.size; omega) (fun i s hi => by
                obtain ⟨an, cn, h⟩ := hR i s hi
                exact ⟨an, cn, h.keep hb (hw.mono hB)⟩)
              have hx : (((j + 1 : Nat) : Int) - 1) = (j : Int) := by omega
              rw [hx] at this
              exact this
            have K2 : Hid (∀ w', Below w.heap.size w w' → Calls Tryz.prog 23 #[.slice (some ⟨b, o, none⟩) c.length cap, .int .i64 ((m1 : Int) - 1)] w' fun e w2 => e = .returned (.tuple #[.string (Pl.ba (Pl.txt (Pl.ta Pl.nt) Pl.tf t2)), .int .i64 (Pl.nest t2 : Nat)]) ∧ Below w'.heap.size w' w2) := fun w' hw => ih m1 (by omega) t2 m2 e2 (by omega) w' (by have := hw.size; omega) (fun i s hi => by
                obtain ⟨an, cn, h⟩ := hR i s hi
                exact ⟨an, cn, h.keep hb (hw.mono hB)⟩)
            have KS : Hid (∀ w', Below w.heap.size w w' → Calls Tryz.prog 37 #[.slice (some ⟨b, o, none⟩) c.length cap, .int .i64 (j : Int)] w' fun e w2 => e = .returned (.int .i64 (m1 : Int)) ∧ w2 = w') := fun w' hw => by
              have := l3Start_any c b o cap hcl w' (fun i s hi => by
                obtain ⟨an, cn, h⟩ := hR i s hi
                exact (h.keep hb (hw.mono hB)).k) (j + 1) (by omega)
              have hx : (((j + 1 : Nat) : Int) - 1) = (j : Int) := by omega
              have hsta : Pl.sta c (j + 1) = m1 := by unfold Pl.sta; rw [e1]
              rw [hx, hsta] at this
              exact this
            have KF : Hid (∀ w, Calls Tryz.prog 43 #[.agg #[.int .i64 s.fn.k, .int .i64 s.fn.a, .int .i64 s.fn.b, .string (Pl.ba s.fn.nm)]] w fun e w' => e = .returned (.string (Pl.ba (Pl.ftx s.fn))) ∧ Below w.heap.size w w') := fun w => l3FnText_any s.fn.k s.fn.a s.fn.b s.fn.nm true ((Pl.fn_ok hsok).2 hk) w
            have hle1 := (Pl.nd_all hok e1).2
            have hle3 := (Pl.nd_all hok e2).2
            have hle2 := Pl.ftx_len (Pl.fn_call hsok (by simp [Pl.ar, hk]))
            have hne1 := Pl.nd_nest e1
            have hne2 := Pl.nd_nest e2
            rw [← Pl.ba_size] at hle1 hle2 hle3
            rw [hk] at c0
            have E : Hid (Pl.ba (Pl.txt (Pl.ta Pl.nt) Pl.tf (.two s t1 t2)) = (if bareN' s1 = true then Pl.ba (Pl.txt (Pl.ta Pl.nt) Pl.tf t1) else ⟨#[40]⟩ ++ Pl.ba (Pl.txt (Pl.ta Pl.nt) Pl.tf t1) ++ ⟨#[41]⟩) ++ ⟨#[32]⟩ ++ Pl.ba (Pl.ftx s.fn) ++ ⟨#[32]⟩ ++ Pl.ba (Pl.txt (Pl.ta Pl.nt) Pl.tf t2)) := by
              show Pl.ba ((match Pl.bareN t1 with | true => Pl.txt (Pl.ta Pl.nt) Pl.tf t1 | false => [40] ++ Pl.txt (Pl.ta Pl.nt) Pl.tf t1 ++ [41]) ++ [32] ++ Pl.ftx s.fn ++ [32] ++ Pl.txt (Pl.ta Pl.nt) Pl.tf t2) = _
              rw [hbare]
              unfold bareN'
              cases decide (Pl.ar s1 = 0)
              · simp only [Pl.ba_app]; rfl
              · simp only [Pl.ba_app]; rfl
            have HN : Hid (Pl.nest (.two s t1 t2) = max (if bareN' s1 = true then Pl.nest t1 else Pl.nest t1 + 1) (Pl.nest t2)) := by
              show max (match Pl.bareN t1 with | true => Pl.nest t1 | false => Pl.nest t1 + 1) (Pl.nest t2) = _
              rw [hbare]
              unfold bareN'
              cases decide (Pl.ar s1 = 0) <;> rfl
            have HA : Hid (bareN' s1 = if s1.k = 1 ∨ s1.k = 2 then true else if s1.k = 3 then false else false) := by
              show _ = _
              unfold bareN' Pl.ar
              rcases hk1 with h | h | h | h <;> simp [h]
            have C : Hid (∀ (w1 w' : World) (j : Nat) (v : Value), Below w1.heap.size w1 w' → w.heap.size < w1.heap.size → w1.cell? ⟨w.heap.size, j, none⟩ = some v → w'.cell? ⟨w.heap.size, j, none⟩ = some v) := fun w1 w' j v hb h1 h => (hb.cell (p := ⟨w.heap.size, j, none⟩) h1).trans h
            clear ih hok hR crd hsok hs hk e1 e2 hnd' hbare hs1 hst1
            generalize Pl.ba (Pl.txt (Pl.ta Pl.nt) Pl.tf (.two s t1 t2)) = r at *
            generalize Pl.ba (Pl.txt (Pl.ta Pl.nt) Pl.tf t1) = r1 at *
            generalize Pl.ba (Pl.txt (Pl.ta Pl.nt) Pl.tf t2) = r3 at *
            generalize Pl.nest (.two s t1 t2) = q at *
            generalize Pl.nest t1 = q1 at *
            generalize Pl.nest t2 = q2 at *
            generalize Pl.ba (Pl.ftx s.fn) = r2 at *
            generalize bareN' s1 = bb at *
            generalize s1.k = kk at *
            generalize Pl.ba s.nm = nm at *
            generalize Pl.ba s.fn.nm = fnm at *
            generalize s.fn.k = fk at *
            generalize s.fn.a = fa at *
            generalize s.fn.b = fb at *
            generalize s.nums.length = sn at *
            generalize c.length = L at *
            have lim1 : ¬ (9223372036854775807 < 1 + r1.size) := by omega
            have lim2 : ¬ (9223372036854775807 < 1 + r1.size + 1) := by omega
            have lim3 : ¬ (9223372036854775807 < r1.size + 1) := by omega
            have lim4 : ¬ (9223372036854775807 < r1.size + 1 + r2.size) := by omega
            have lim5 : ¬ (9223372036854775807 < r1.size + 1 + r2.size + 1) := by omega
            have lim6 : ¬ (9223372036854775807 < r1.size + 1 + r2.size + 1 + r3.size) := by omega
            have lim7 : ¬ (9223372036854775807 < 1 + r1.size + 1 + 1) := by omega
            have lim8 : ¬ (9223372036854775807 < 1 + r1.size + 1 + 1 + r2.size) := by omega
            have lim9 : ¬ (9223372036854775807 < 1 + r1.size + 1 + 1 + r2.size + 1) := by omega
            have limA : ¬ (9223372036854775807 < 1 + r1.size + 1 + 1 + r2.size + 1 + r3.size) := by omega
            have KK := hk1
            clear hk1 hle1 hle2 hle3 hl
            rcases KK with rfl | rfl | rfl | rfl
            · skip
              have E := hideP (show r = r1 ++ ⟨#[32]⟩ ++ r2 ++ ⟨#[32]⟩ ++ r3 by rw [E.out, HA.out]; simp)
              have HN := hideP (show q = max q1 q2 by rw [HN.out, HA.out]; simp)
              clear HA
              by_cases hd : q1 < q2
              · have HN := hideP (show q = q2 by rw [HN.out]; omega)
                go_enter Tryz.func23, Tryz.ntmps23
                go_wp2_with fail
                refine (K.out _ (HB0.out _)).mono ?_
                rintro e' w2 ⟨rfl, hb2⟩
                have d0 := C.out _ _ 0 _ hb2 (by simp) (by simp [go_sem]; rfl)
                have d3 := C.out _ _ 3 _ hb2 (by simp) (by simp [go_sem]; rfl)
                have d4 := C.out _ _ 4 _ hb2 (by simp) (by simp [go_sem]; rfl)
                have d5 := C.out _ _ 5 _ hb2 (by simp) (by simp [go_sem]; rfl)
                have d6 := C.out _ _ 6 _ hb2 (by simp) (by simp [go_sem]; rfl)
                have HBB := hideP ((HB0.out _).trans (hb2.mono (by simp)))
                have hsz : w.heap.size < w2.heap.size := Nat.lt_of_lt_of_le (by simp) hb2.size
                have cj := HC1.out _ HBB.out
                clear hb2
                go_wp2_with fail
                refine (KS.out _ HBB.out).mono ?_
                rintro e' w3 ⟨rfl, rfl⟩
                go_wp2_with fail
                refine (K2.out _ HBB.out).mono ?_
                rintro e' w4 ⟨rfl, hb4⟩
                have f3 := C.out _ _ 3 _ hb4 hsz d3
                have f4 := C.out _ _ 4 _ hb4 hsz d4
                have f5 := C.out _ _ 5 _ hb4 hsz d5
                have f6 := C.out _ _ 6 _ hb4 hsz d6
                have HBC := hideP (HBB.out.trans (hb4.mono HBB.out.size))
                clear hb4 d0 d3 d4 d5 d6 cj HBB hsz
                go_wp2_with (go_at_call 43; refine (KF.out _).mono ?_; rintro e' w5 ⟨rfl, hb5⟩)
                go_ret2
                exact ⟨ret_text E.out.symm (by rw [HN.out]), HBC.out.trans (hb5.mono HBC.out.size)⟩
              · have HN := hideP (show q = q1 by rw [HN.out]; omega)
                go_enter Tryz.func23, Tryz.ntmps23
                go_wp2_with fail
                refine (K.out _ (HB0.out _)).mono ?_
                rintro e' w2 ⟨rfl, hb2⟩
                have d0 := C.out _ _ 0 _ hb2 (by simp) (by simp [go_sem]; rfl)
                have d3 := C.out _ _ 3 _ hb2 (by simp) (by simp [go_sem]; rfl)
                have d4 := C.out _ _ 4 _ hb2 (by simp) (by simp [go_sem]; rfl)
                have d5 := C.out _ _ 5 _ hb2 (by simp) (by simp [go_sem]; rfl)
                have d6 := C.out _ _ 6 _ hb2 (by simp) (by simp [go_sem]; rfl)
                have HBB := hideP ((HB0.out _).trans (hb2.mono (by simp)))
                have hsz : w.heap.size < w2.heap.size := Nat.lt_of_lt_of_le (by simp) hb2.size
                have cj := HC1.out _ HBB.out
                clear hb2
                go_wp2_with fail
                refine (KS.out _ HBB.out).mono ?_
                rintro e' w3 ⟨rfl, rfl⟩
                go_wp2_with fail
                refine (K2.out _ HBB.out).mono ?_
                rintro e' w4 ⟨rfl, hb4⟩
                have f3 := C.out _ _ 3 _ hb4 hsz d3
                have f4 := C.out _ _ 4 _ hb4 hsz d4
                have f5 := C.out _ _ 5 _ hb4 hsz d5
                have f6 := C.out _ _ 6 _ hb4 hsz d6
                have HBC := hideP (HBB.out.trans (hb4.mono HBB.out.size))
                clear hb4 d0 d3 d4 d5 d6 cj HBB hsz
                go_wp2_with (go_at_call 43; refine (KF.out _).mono ?_; rintro e' w5 ⟨rfl, hb5⟩)
                go_ret2
                exact ⟨ret_text E.out.symm (by rw [HN.out]), HBC.out.trans (hb5.mono HBC.out.size)⟩
            · skip
              have E := hideP (show r = r1 ++ ⟨#[32]⟩ ++ r2 ++ ⟨#[32]⟩ ++ r3 by rw [E.out, HA.out]; simp)
              have HN := hideP (show q = max q1 q2 by rw [HN.out, HA.out]; simp)
              clear HA
              by_cases hd : q1 < q2
              · have HN := hideP (show q = q2 by rw [HN.out]; omega)
                go_enter Tryz.func23, Tryz.ntmps23
                go_wp2_with fail
                refine (K.out _ (HB0.out _)).mono ?_
                rintro e' w2 ⟨rfl, hb2⟩
                have d0 := C.out _ _ 0 _ hb2 (by simp) (by simp [go_sem]; rfl)
                have d3 := C.out _ _ 3 _ hb2 (by simp) (by simp [go_sem]; rfl)
                have d4 := C.out _ _ 4 _ hb2 (by simp) (by simp [go_sem]; rfl)
                have d5 := C.out _ _ 5 _ hb2 (by simp) (by simp [go_sem]; rfl)
                have d6 := C.out _ _ 6 _ hb2 (by simp) (by simp [go_sem]; rfl)
                have HBB := hideP ((HB0.out _).trans (hb2.mono (by simp)))
                have hsz : w.heap.size < w2.heap.size := Nat.lt_of_lt_of_le (by simp) hb2.size
                have cj := HC1.out _ HBB.out
                clear hb2
                go_wp2_with fail
                refine (KS.out _ HBB.out).mono ?_
                rintro e' w3 ⟨rfl, rfl⟩
                go_wp2_with fail
                refine (K2.out _ HBB.out).mono ?_
                rintro e' w4 ⟨rfl, hb4⟩
                have f3 := C.out _ _ 3 _ hb4 hsz d3
                have f4 := C.out _ _ 4 _ hb4 hsz d4
                have f5 := C.out _ _ 5 _ hb4 hsz d5
                have f6 := C.out _ _ 6 _ hb4 hsz d6
                have HBC := hideP (HBB.out.trans (hb4.mono HBB.out.size))
                clear hb4 d0 d3 d4 d5 d6 cj HBB hsz
                go_wp2_with (go_at_call 43; refine (KF.out _).mono ?_; rintro e' w5 ⟨rfl, hb5⟩)
                go_ret2
                exact ⟨ret_text E.out.symm (by rw [HN.out]), HBC.out.trans (hb5.mono HBC.out.size)⟩
              · have HN := hideP (show q = q1 by rw [HN.out]; omega)
                go_enter Tryz.func23, Tryz.ntmps23
                go_wp2_with fail
                refine (K.out _ (HB0.out _)).mono ?_
                rintro e' w2 ⟨rfl, hb2⟩
                have d0 := C.out _ _ 0 _ hb2 (by simp) (by simp [go_sem]; rfl)
                have d3 := C.out _ _ 3 _ hb2 (by simp) (by simp [go_sem]; rfl)
                have d4 := C.out _ _ 4 _ hb2 (by simp) (by simp [go_sem]; rfl)
                have d5 := C.out _ _ 5 _ hb2 (by simp) (by simp [go_sem]; rfl)
                have d6 := C.out _ _ 6 _ hb2 (by simp) (by simp [go_sem]; rfl)
                have HBB := hideP ((HB0.out _).trans (hb2.mono (by simp)))
                have hsz : w.heap.size < w2.heap.size := Nat.lt_of_lt_of_le (by simp) hb2.size
                have cj := HC1.out _ HBB.out
                clear hb2
                go_wp2_with fail
                refine (KS.out _ HBB.out).mono ?_
                rintro e' w3 ⟨rfl, rfl⟩
                go_wp2_with fail
                refine (K2.out _ HBB.out).mono ?_
                rintro e' w4 ⟨rfl, hb4⟩
                have f3 := C.out _ _ 3 _ hb4 hsz d3
                have f4 := C.out _ _ 4 _ hb4 hsz d4
                have f5 := C.out _ _ 5 _ hb4 hsz d5
                have f6 := C.out _ _ 6 _ hb4 hsz d6
                have HBC := hideP (HBB.out.trans (hb4.mono HBB.out.size))
                clear hb4 d0 d3 d4 d5 d6 cj HBB hsz
                go_wp2_with (go_at_call 43; refine (KF.out _).mono ?_; rintro e' w5 ⟨rfl, hb5⟩)
                go_ret2
                exact ⟨ret_text E.out.symm (by rw [HN.out]), HBC.out.trans (hb5.mono HBC.out.size)⟩
            · skip
              have E := hideP (show r = ⟨#[40]⟩ ++ r1 ++ ⟨#[41]⟩ ++ ⟨#[32]⟩ ++ r2 ++ ⟨#[32]⟩ ++ r3 by rw [E.out, HA.out]; simp)
              have HN := hideP (show q = max (q1 + 1) q2 by rw [HN.out, HA.out]; simp)
              clear HA
              by_cases hd : (q1 + 1) < q2
              · have HN := hideP (show q = q2 by rw [HN.out]; omega)
                go_enter Tryz.func23, Tryz.ntmps23
                go_wp2_with fail
                refine (K.out _ (HB0.out _)).mono ?_
                rintro e' w2 ⟨rfl, hb2⟩
                have d0 := C.out _ _ 0 _ hb2 (by simp) (by simp [go_sem]; rfl)
                have d3 := C.out _ _ 3 _ hb2 (by simp) (by simp [go_sem]; rfl)
                have d4 := C.out _ _ 4 _ hb2 (by simp) (by simp [go_sem]; rfl)
                have d5 := C.out _ _ 5 _ hb2 (by simp) (by simp [go_sem]; rfl)
                have d6 := C.out _ _ 6 _ hb2 (by simp) (by simp [go_sem]; rfl)
                have HBB := hideP ((HB0.out _).trans (hb2.mono (by simp)))
                have hsz : w.heap.size < w2.heap.size := Nat.lt_of_lt_of_le (by simp) hb2.size
                have cj := HC1.out _ HBB.out
                clear hb2
                go_wp2_with fail
                refine (KS.out _ HBB.out).mono ?_
                rintro e' w3 ⟨rfl, rfl⟩
                go_wp2_with fail
                refine (K2.out _ HBB.out).mono ?_
                rintro e' w4 ⟨rfl, hb4⟩
                have f3 := C.out _ _ 3 _ hb4 hsz d3
                have f4 := C.out _ _ 4 _ hb4 hsz d4
                have f5 := C.out _ _ 5 _ hb4 hsz d5
                have f6 := C.out _ _ 6 _ hb4 hsz d6
                have HBC := hideP (HBB.out.trans (hb4.mono HBB.out.size))
                clear hb4 d0 d3 d4 d5 d6 cj HBB hsz
                go_wp2_with (go_at_call 43; refine (KF.out _).mono ?_; rintro e' w5 ⟨rfl, hb5⟩)
                go_ret2
                exact ⟨ret_text E.out.symm (by rw [HN.out]), HBC.out.trans (hb5.mono HBC.out.size)⟩
              · have HN := hideP (show q = (q1 + 1) by rw [HN.out]; omega)
                go_enter Tryz.func23, Tryz.ntmps23
                go_wp2_with fail
                refine (K.out _ (HB0.out _)).mono ?_
                rintro e' w2 ⟨rfl, hb2⟩
                have d0 := C.out _ _ 0 _ hb2 (by simp) (by simp [go_sem]; rfl)
                have d3 := C.out _ _ 3 _ hb2 (by simp) (by simp [go_sem]; rfl)
                have d4 := C.out _ _ 4 _ hb2 (by simp) (by simp [go_sem]; rfl)
                have d5 := C.out _ _ 5 _ hb2 (by simp) (by simp [go_sem]; rfl)
                have d6 := C.out _ _ 6 _ hb2 (by simp) (by simp [go_sem]; rfl)
                have HBB := hideP ((HB0.out _).trans (hb2.mono (by simp)))
                have hsz : w.heap.size < w2.heap.size := Nat.lt_of_lt_of_le (by simp) hb2.size
                have cj := HC1.out _ HBB.out
                clear hb2
                go_wp2_with fail
                refine (KS.out _ HBB.out).mono ?_
                rintro e' w3 ⟨rfl, rfl⟩
                go_wp2_with fail
                refine (K2.out _ HBB.out).mono ?_
                rintro e' w4 ⟨rfl, hb4⟩
                have f3 := C.out _ _ 3 _ hb4 hsz d3
                have f4 := C.out _ _ 4 _ hb4 hsz d4
                have f5 := C.out _ _ 5 _ hb4 hsz d5
                have f6 := C.out _ _ 6 _ hb4 hsz d6
                have HBC := hideP (HBB.out.trans (hb4.mono HBB.out.size))
                clear hb4 d0 d3 d4 d5 d6 cj HBB hsz
                go_wp2_with (go_at_call 43; refine (KF.out _).mono ?_; rintro e' w5 ⟨rfl, hb5⟩)
                go_ret2
                exact ⟨ret_text E.out.symm (by rw [HN.out]; go_num), HBC.out.trans (hb5.mono HBC.out.size)⟩
            · skip
              have E := hideP (show r = ⟨#[40]⟩ ++ r1 ++ ⟨#[41]⟩ ++ ⟨#[32]⟩ ++ r2 ++ ⟨#[32]⟩ ++ r3 by rw [E.out, HA.out]; simp)
              have HN := hideP (show q = max (q1 + 1) q2 by rw [HN.out, HA.out]; simp)
              clear HA
              by_cases hd : (q1 + 1) < q2
              · have HN := hideP (show q = q2 by rw [HN.out]; omega)
                go_enter Tryz.func23, Tryz.ntmps23
                go_wp2_with fail
                refine (K.out _ (HB0.out _)).mono ?_
                rintro e' w2 ⟨rfl, hb2⟩
                have d0 := C.out _ _ 0 _ hb2 (by simp) (by simp [go_sem]; rfl)
                have d3 := C.out _ _ 3 _ hb2 (by simp) (by simp [go_sem]; rfl)
                have d4 := C.out _ _ 4 _ hb2 (by simp) (by simp [go_sem]; rfl)
                have d5 := C.out _ _ 5 _ hb2 (by simp) (by simp [go_sem]; rfl)
                have d6 := C.out _ _ 6 _ hb2 (by simp) (by simp [go_sem]; rfl)
                have HBB := hideP ((HB0.out _).trans (hb2.mono (by simp)))
                have hsz : w.heap.size < w2.heap.size := Nat.lt_of_lt_of_le (by simp) hb2.size
                have cj := HC1.out _ HBB.out
                clear hb2
                go_wp2_with fail
                refine (KS.out _ HBB.out).mono ?_
                rintro e' w3 ⟨rfl, rfl⟩
                go_wp2_with fail
                refine (K2.out _ HBB.out).mono ?_
                rintro e' w4 ⟨rfl, hb4⟩
                have f3 := C.out _ _ 3 _ hb4 hsz d3
                have f4 := C.out _ _ 4 _ hb4 hsz d4
                have f5 := C.out _ _ 5 _ hb4 hsz d5
                have f6 := C.out _ _ 6 _ hb4 hsz d6
                have HBC := hideP (HBB.out.trans (hb4.mono HBB.out.size))
                clear hb4 d0 d3 d4 d5 d6 cj HBB hsz
                go_wp2_with (go_at_call 43; refine (KF.out _).mono ?_; rintro e' w5 ⟨rfl, hb5⟩)
                go_ret2
                exact ⟨ret_text E.out.symm (by rw [HN.out]), HBC.out.trans (hb5.mono HBC.out.size)⟩
              · have HN := hideP (show q = (q1 + 1) by rw [HN.out]; omega)
                go_enter Tryz.func23, Tryz.ntmps23
                go_wp2_with fail
                refine (K.out _ (HB0.out _)).mono ?_
                rintro e' w2 ⟨rfl, hb2⟩
                have d0 := C.out _ _ 0 _ hb2 (by simp) (by simp [go_sem]; rfl)
                have d3 := C.out _ _ 3 _ hb2 (by simp) (by simp [go_sem]; rfl)
                have d4 := C.out _ _ 4 _ hb2 (by simp) (by simp [go_sem]; rfl)
                have d5 := C.out _ _ 5 _ hb2 (by simp) (by simp [go_sem]; rfl)
                have d6 := C.out _ _ 6 _ hb2 (by simp) (by simp [go_sem]; rfl)
                have HBB := hideP ((HB0.out _).trans (hb2.mono (by simp)))
                have hsz : w.heap.size < w2.heap.size := Nat.lt_of_lt_of_le (by simp) hb2.size
                have cj := HC1.out _ HBB.out
                clear hb2
                go_wp2_with fail
                refine (KS.out _ HBB.out).mono ?_
                rintro e' w3 ⟨rfl, rfl⟩
                go_wp2_with fail
                refine (K2.out _ HBB.out).mono ?_
                rintro e' w4 ⟨rfl, hb4⟩
                have f3 := C.out _ _ 3 _ hb4 hsz d3
                have f4 := C.out _ _ 4 _ hb4 hsz d4
                have f5 := C.out _ _ 5 _ hb4 hsz d5
                have f6 := C.out _ _ 6 _ hb4 hsz d6
                have HBC := hideP (HBB.out.trans (hb4.mono HBB.out.size))
                clear hb4 d0 d3 d4 d5 d6 cj HBB hsz
                go_wp2_with (go_at_call 43; refine (KF.out _).mono ?_; rintro e' w5 ⟨rfl, hb5⟩)
                go_ret2
                exact ⟨ret_text E.out.symm (by rw [HN.out]; go_num), HBC.out.trans (hb5.mono HBC.out.size)⟩
end Go.Proofs.YthhfpcdbgndioaaGreatDoor
