import Derived.Test.YtmobjomebmipdaaMade
namespace Go.Proofs.Ytmobjomebmipdaa
open Go.RowKit
set_option linter.unusedVariables false

/-- spec.l2None -/
theorem l2None_any (k : Nat) (w : World) (h0 : 1 ≤ k) (h1 : k < 11) : Calls Try.prog 128 #[.int .i64 (k : Int)] w fun e w' => e = .returned (.tuple #[.int .i64 (Pl.noneV k), .bool (!Pl.noneB k)]) ∧ w' = w := by
  have hk : k = 1 ∨ k = 2 ∨ k = 3 ∨ k = 4 ∨ k = 5 ∨ k = 6 ∨ k = 7 ∨ k = 8 ∨ k = 9 ∨ k = 10 := by omega
  rcases hk with rfl | rfl | rfl | rfl | rfl | rfl | rfl | rfl | rfl | rfl
  all_goals
    go_enter Try.func128, Try.ntmps128
    go_wp2
    go_ret2
    exact ⟨rfl, rfl⟩

/-- a part of a slice -/
theorem Rd.sub {B : Nat} {w : World} {b off cap : Nat} {zs : List Int} (h : Rd B w (.slice (some ⟨b, off, none⟩) zs.length cap) zs) (i j : Nat) (hij : i ≤ j) (hj : j ≤ zs.length) (c' : Nat) :
    Rd B w (.slice (some ⟨b, off + i, none⟩) (j - i) c') ((zs.drop i).take (j - i)) := by
  have hl : ((zs.drop i).take (j - i)).length = j - i := by simp; omega
  refine ⟨some ⟨b, off + i, none⟩, c', by rw [hl], ?_⟩
  by_cases hz : j - i = 0
  · exact .inl (by rw [hl, hz])
  · obtain ⟨ao, cp, e, g⟩ := h
    rcases g with g | ⟨b', off', hB, e2, hc⟩
    · omega
    · simp only [Value.slice.injEq] at e
      have e3 := e.1.trans e2
      simp only [Option.some.injEq, Addr.mk.injEq, and_true] at e3
      obtain ⟨rfl, rfl⟩ := e3
      refine .inr ⟨b, off + i, hB, rfl, fun q hq => ?_⟩
      rw [hl] at hq
      rw [Nat.add_assoc, hc (i + q) (by omega)]
      have h1 : i + q < zs.length := by omega
      simp [List.getD, hq]

theorem rd_zero (B : Nat) (w : World) (ao : Option Addr) (c : Nat) (zs : List Int) (h : zs.length = 0) : Rd B w (.slice ao 0 c) zs := ⟨ao, c, by rw [h], .inl h⟩

set_option maxRecDepth 100000 in
/-- impl.rows -/
theorem rows_any (B b off cap s i j : Nat) (zs : List Int) (w : World) (hd : Rd B w (.slice (some ⟨b, off, none⟩) zs.length cap) zs) (hi : i ≤ j) (hn : j * s ≤ zs.length) (hc : zs.length ≤ cap) (hc2 : cap ≤ 9223372036854775807) :
    Calls Try.prog 133 #[.slice (some ⟨b, off, none⟩) zs.length cap, .int .i64 (s : Int), .int .i64 (i : Int), .int .i64 (j : Int)] w fun e w' => ∃ v, e = .returned v ∧ Rd B w v ((zs.drop (i * s)).take (j * s - i * s)) ∧ w' = w := by
  have h1 : i * s ≤ j * s := Nat.mul_le_mul_right s hi
  have R := hideP (fun c' => hd.sub (i * s) (j * s) h1 hn c')
  have Z : Hid (j * s - i * s = 0 → ∀ c', Rd B w (.slice (some ⟨b, off, none⟩) (j * s - i * s) c') ((zs.drop (i * s)).take (j * s - i * s))) := fun h c' => by
    rw [h]
    exact rd_zero _ _ _ _ _ (by simp)
  have e1 : ((i : Int) * (s : Int)) = ((i * s : Nat) : Int) := by simp
  have e2 : ((j : Int) * (s : Int)) = ((j * s : Nat) : Int) := by simp
  generalize (zs.drop (i * s)).take (j * s - i * s) = L at *
  generalize i * s = p at *
  generalize j * s = q at *
  generalize zs.length = n at *
  clear hd
  by_cases hp : cap = p
  · subst hp
    go_enter Try.func133, Try.ntmps133
    go_wp2_with fail
    go_ret
    exact ⟨_, rfl, Z.out (by omega) _, rfl⟩
  · go_enter Try.func133, Try.ntmps133
    go_wp2_with fail
    go_ret
    exact ⟨_, rfl, R.out _, rfl⟩

/-- a slice behind its first element -/
theorem rd_tail {B : Nat} {w : World} {b off cap : Nat} {zs : List Int} (h : Rd B w (.slice (some ⟨b, off, none⟩) zs.length cap) zs) (h1 : 1 ≤ zs.length) (c' : Nat) : Rd B w (.slice (some ⟨b, off + 1, none⟩) (zs.length - 1) c') zs.tail := by
  have := h.sub 1 zs.length h1 (Nat.le_refl _) c'
  have e : (zs.drop 1).take (zs.length - 1) = zs.tail := by
    rw [List.take_of_length_le (by simp)]
    simp
  rw [e] at this
  exact this

set_option maxRecDepth 100000 in
set_option maxHeartbeats 2000000 in
/-- spec.l2Row -/
theorem l2Row_any (b0 o0 c0 b1 o1 c1 i n : Nat) (sh da : List Int) (w : World) (h0 : Rd w.heap.size w (.slice (some ⟨b0, o0, none⟩) sh.length c0) sh) (h1 : Rd w.heap.size w (.slice (some ⟨b1, o1, none⟩) da.length c1) da) (hl : 1 ≤ sh.length) (hl3 : sh.length ≤ 3) (hld : da.length ≤ 1000) (hc0 : sh.length ≤ c0) (hc0' : c0 ≤ 9223372036854775807) (hc1 : da.length ≤ c1) (hc1' : c1 ≤ 9223372036854775807)
    (hr : sh.all Pl.inR = true) (hp : Pl.prodC sh.tail = n) (hi : (i + 1) * n ≤ da.length) (hi2 : i ≤ 1000) :
    Calls Try.prog 106 #[.agg #[.slice (some ⟨b0, o0, none⟩) sh.length c0, .slice (some ⟨b1, o1, none⟩) da.length c1], .int .i64 (i : Int)] w fun e w' => ∃ u0 u1, e = .returned (.agg #[u0, u1]) ∧ Res w.heap.size w' u0 u1 sh.tail ((da.drop (i * n)).take n) ∧ Below w.heap.size w w' := by
  have B : Hid (∀ o o', Below w.heap.size w ((w.alloc o).alloc o')) := fun o o' => ((Below.refl _ _).alloc (Nat.le_refl _) _).alloc (by simp) _
  have htl : sh.tail.length = sh.length - 1 := by simp
  have hrt : sh.tail.all Pl.inR = true := by
    simp only [List.all_eq_true] at hr ⊢
    exact fun x hx => hr x (List.mem_of_mem_tail hx)
  have hm : i * n + n = (i + 1) * n := by rw [Nat.succ_mul]
  have RT := hideP (fun c' => rd_tail h0 hl c')
  have RZ : Hid (sh.length - 1 = 0 → ∀ c', Rd w.heap.size w (.slice (some ⟨b0, o0, none⟩) 0 c') sh.tail) := fun h c' => rd_zero _ _ _ _ _ (by omega)
  have RD := hideP (fun c' => h1.sub (i * n) (i * n + n) (by omega) (by omega) c')
  have hn : n ≤ da.length := by
    have : n ≤ (i + 1) * n := Nat.le_mul_of_pos_left n (by omega)
    omega
  have DZ : Hid (n = 0 → ∀ c', Rd w.heap.size w (.slice (some ⟨b1, o1, none⟩) 0 c') ((da.drop (i * n)).take n)) := fun h c' => rd_zero _ _ _ _ _ (by rw [h]; simp)
  have e1 : ((i : Int) * (n : Int)) = ((i * n : Nat) : Int) := by simp
  rw [Nat.add_sub_cancel_left] at RD
  have hdl : ((da.drop (i * n)).take n).length = n := by simp; omega
  have KT : Hid (∀ w' v, Below w.heap.size w w' → Rd w.heap.size w v sh.tail → Calls Try.prog 40 #[v] w' fun e w'' => ∃ u, e = .returned u ∧ w''.ownsRow w'.heap.size 3 1 u sh.tail.length (sh.tail.map (Value.int .i64)) ∧ Below w'.heap.size w' w'') := fun w' v hb h => l2Copy_any v sh.tail w' (by omega) ((h.keep hb).up hb.size)
  have KD : Hid (∀ w' v, Below w.heap.size w w' → Rd w.heap.size w v ((da.drop (i * n)).take n) → Calls Try.prog 40 #[v] w' fun e w'' => ∃ u, e = .returned u ∧ w''.ownsRow w'.heap.size 3 1 u n (((da.drop (i * n)).take n).map (Value.int .i64)) ∧ Below w'.heap.size w' w'') := fun w' v hb h => by
    have := l2Copy_any v _ w' (by rw [hdl]; omega) ((h.keep hb).up hb.size)
    rw [hdl] at this
    exact this
  have KP : Hid (∀ w' v, Rd w'.heap.size w' v sh.tail → Calls Try.prog 34 #[v] w' fun e w'' => e = .returned (.int .i64 (n : Int)) ∧ w'' = w') := fun w' v h => by
    have := l1Product_any _ v sh.tail w' (by omega) hrt h
    rw [hp] at this
    exact this
  have hqn : i * n + n ≤ da.length := by omega
  generalize (da.drop (i * n)).take n = dt at *
  generalize i * n = q at *
  generalize sh.tail = st at *
  generalize sh.length = L at *
  generalize da.length = m at *
  have HTL := hideP htl
  clear h0 h1 hr hp hrt hi htl hdl hm
  by_cases hc : c0 = 1
  · subst hc
    have RZ' := hideP (RZ.out (by omega))
    clear RZ
    go_enter Try.func106, Try.ntmps106
    go_wp2_with fail
    refine (KT.out _ _ (B.out _ _) (RZ'.out _)).mono ?_
    rintro e w1 ⟨u, rfl, ho1, hb1⟩
    have B1 := hideP ((B.out _ _).trans (hb1.mono (by simp; omega)))
    have HO1 := hideP (own_of_any ho1)
    have hs1 := hb1.size
    simp at hs1
    obtain ⟨xu, yu, eu⟩ := owns_form ho1
    have R1 := hideP HO1.out.rd
    obtain ⟨hcc, hff⟩ := bcell hb1
    have q1 : w1.cell? ⟨w.heap.size, 1, none⟩ = some (.slice (some ⟨b1, o1, none⟩) m c1) := by rw [hcc w.heap.size 1 (by simp; omega)]; simp [go_sem]
    have r0 : w1.cell? ⟨w.heap.size + 1, 0, none⟩ = some (.slice none 0 0) := by rw [hcc (w.heap.size + 1) 0 (by simp)]; simp [go_sem]
    have r1 : w1.cell? ⟨w.heap.size + 1, 1, none⟩ = some (.slice none 0 0) := by rw [hcc (w.heap.size + 1) 1 (by simp)]; simp [go_sem]
    have f3 : ∀ o, w1.frozen? ⟨w.heap.size + 1, o, none⟩ = false := fun o => by rw [hff (w.heap.size + 1) o (by simp)]; simp [go_sem]
    subst eu
    clear ho1 hb1 hcc hff
    by_cases hq : c1 = q
    · subst hq
      have n0 : n = 0 := by omega
      have DZ' := hideP (DZ.out n0)
      clear DZ
      subst n0
      go_wp2_with (go_at_call 34; refine (KP.out _ _ R1.out).mono ?_; rintro e w1 ⟨rfl, rfl⟩)
      refine (KD.out _ _ B1.out (DZ'.out _)).mono ?_
      rintro e w2 ⟨v, rfl, ho2, hb2⟩
      have B2 := hideP (B1.out.trans (hb2.mono (by omega)))
      have HO2 := hideP (own_of_any ho2)
      have hs2 := hb2.size
      obtain ⟨xv, yv, ev⟩ := owns_form ho2
      subst ev
      have K2 := hideP hb2
      have r0' : w2.cell? ⟨w.heap.size + 1, 0, none⟩ = some (.slice none 0 0) := (hb2.cell (p := ⟨w.heap.size + 1, 0, none⟩) (by show w.heap.size + 1 < _; omega)).trans r0
      have r1' : w2.cell? ⟨w.heap.size + 1, 1, none⟩ = some (.slice none 0 0) := (hb2.cell (p := ⟨w.heap.size + 1, 1, none⟩) (by show w.heap.size + 1 < _; omega)).trans r1
      have f3' : ∀ o, w2.frozen? ⟨w.heap.size + 1, o, none⟩ = false := fun o => (hb2.frozen (p := ⟨w.heap.size + 1, o, none⟩) (by show w.heap.size + 1 < _; omega)).trans (f3 o)
      clear ho2 hb2 r0 r1 f3 q1
      go_wp2_with fail
      refine bodyPost_ret (v := .agg #[.slice xu st.length yu, .slice xv 0 yv]) (by simp [results, Try.results106, go_sem, r0', r1']) rfl ⟨_, _, rfl, ⟨?_, ?_, ?_⟩, (B2.out.setCell (by simp) _).setCell (by simp) _⟩
      · have := (HO1.out.keep K2.out).base (show w.heap.size + 1 + 1 ≤ _ by simp)
        exact Own.base (Own.store (Own.store this (by omega) _) (by omega) _) (by omega)
      · have := HO2.out.base (show w.heap.size + 1 + 1 ≤ w1.heap.size by omega)
        exact Own.base (Own.store (Own.store this (by omega) _) (by omega) _) (by omega)
      · exact apart_right (B := w1.heap.size) HO2.out HO1.out.lt
    · go_wp2_with (go_at_call 34; refine (KP.out _ _ R1.out).mono ?_; rintro e w1 ⟨rfl, rfl⟩)
      refine (KD.out _ _ B1.out (RD.out _)).mono ?_
      rintro e w2 ⟨v, rfl, ho2, hb2⟩
      have B2 := hideP (B1.out.trans (hb2.mono (by omega)))
      have HO2 := hideP (own_of_any ho2)
      have hs2 := hb2.size
      obtain ⟨xv, yv, ev⟩ := owns_form ho2
      subst ev
      have K2 := hideP hb2
      have r0' : w2.cell? ⟨w.heap.size + 1, 0, none⟩ = some (.slice none 0 0) := (hb2.cell (p := ⟨w.heap.size + 1, 0, none⟩) (by show w.heap.size + 1 < _; omega)).trans r0
      have r1' : w2.cell? ⟨w.heap.size + 1, 1, none⟩ = some (.slice none 0 0) := (hb2.cell (p := ⟨w.heap.size + 1, 1, none⟩) (by show w.heap.size + 1 < _; omega)).trans r1
      have f3' : ∀ o, w2.frozen? ⟨w.heap.size + 1, o, none⟩ = false := fun o => (hb2.frozen (p := ⟨w.heap.size + 1, o, none⟩) (by show w.heap.size + 1 < _; omega)).trans (f3 o)
      clear ho2 hb2 r0 r1 f3 q1
      go_wp2_with fail
      refine bodyPost_ret (v := .agg #[.slice xu st.length yu, .slice xv n yv]) (by simp [results, Try.results106, go_sem, r0', r1']) rfl ⟨_, _, rfl, ⟨?_, ?_, ?_⟩, (B2.out.setCell (by simp) _).setCell (by simp) _⟩
      · have := (HO1.out.keep K2.out).base (show w.heap.size + 1 + 1 ≤ _ by simp)
        exact Own.base (Own.store (Own.store this (by omega) _) (by omega) _) (by omega)
      · have := HO2.out.base (show w.heap.size + 1 + 1 ≤ w1.heap.size by omega)
        exact Own.base (Own.store (Own.store this (by omega) _) (by omega) _) (by omega)
      · exact apart_right (B := w1.heap.size) HO2.out HO1.out.lt
  · go_enter Try.func106, Try.ntmps106
    go_wp2_with fail
    refine (KT.out _ _ (B.out _ _) (RT.out _)).mono ?_
    rintro e w1 ⟨u, rfl, ho1, hb1⟩
    have B1 := hideP ((B.out _ _).trans (hb1.mono (by simp; omega)))
    have HO1 := hideP (own_of_any ho1)
    have hs1 := hb1.size
    simp at hs1
    obtain ⟨xu, yu, eu⟩ := owns_form ho1
    have R1 := hideP HO1.out.rd
    obtain ⟨hcc, hff⟩ := bcell hb1
    have q1 : w1.cell? ⟨w.heap.size, 1, none⟩ = some (.slice (some ⟨b1, o1, none⟩) m c1) := by rw [hcc w.heap.size 1 (by simp; omega)]; simp [go_sem]
    have r0 : w1.cell? ⟨w.heap.size + 1, 0, none⟩ = some (.slice none 0 0) := by rw [hcc (w.heap.size + 1) 0 (by simp)]; simp [go_sem]
    have r1 : w1.cell? ⟨w.heap.size + 1, 1, none⟩ = some (.slice none 0 0) := by rw [hcc (w.heap.size + 1) 1 (by simp)]; simp [go_sem]
    have f3 : ∀ o, w1.frozen? ⟨w.heap.size + 1, o, none⟩ = false := fun o => by rw [hff (w.heap.size + 1) o (by simp)]; simp [go_sem]
    subst eu
    clear ho1 hb1 hcc hff
    by_cases hq : c1 = q
    · subst hq
      have n0 : n = 0 := by omega
      have DZ' := hideP (DZ.out n0)
      clear DZ
      subst n0
      go_wp2_with (go_at_call 34; refine (KP.out _ _ R1.out).mono ?_; rintro e w1 ⟨rfl, rfl⟩)
      refine (KD.out _ _ B1.out (DZ'.out _)).mono ?_
      rintro e w2 ⟨v, rfl, ho2, hb2⟩
      have B2 := hideP (B1.out.trans (hb2.mono (by omega)))
      have HO2 := hideP (own_of_any ho2)
      have hs2 := hb2.size
      obtain ⟨xv, yv, ev⟩ := owns_form ho2
      subst ev
      have K2 := hideP hb2
      have r0' : w2.cell? ⟨w.heap.size + 1, 0, none⟩ = some (.slice none 0 0) := (hb2.cell (p := ⟨w.heap.size + 1, 0, none⟩) (by show w.heap.size + 1 < _; omega)).trans r0
      have r1' : w2.cell? ⟨w.heap.size + 1, 1, none⟩ = some (.slice none 0 0) := (hb2.cell (p := ⟨w.heap.size + 1, 1, none⟩) (by show w.heap.size + 1 < _; omega)).trans r1
      have f3' : ∀ o, w2.frozen? ⟨w.heap.size + 1, o, none⟩ = false := fun o => (hb2.frozen (p := ⟨w.heap.size + 1, o, none⟩) (by show w.heap.size + 1 < _; omega)).trans (f3 o)
      clear ho2 hb2 r0 r1 f3 q1
      go_wp2_with fail
      refine bodyPost_ret (v := .agg #[.slice xu st.length yu, .slice xv 0 yv]) (by simp [results, Try.results106, go_sem, r0', r1']) rfl ⟨_, _, rfl, ⟨?_, ?_, ?_⟩, (B2.out.setCell (by simp) _).setCell (by simp) _⟩
      · have := (HO1.out.keep K2.out).base (show w.heap.size + 1 + 1 ≤ _ by simp)
        exact Own.base (Own.store (Own.store this (by omega) _) (by omega) _) (by omega)
      · have := HO2.out.base (show w.heap.size + 1 + 1 ≤ w1.heap.size by omega)
        exact Own.base (Own.store (Own.store this (by omega) _) (by omega) _) (by omega)
      · exact apart_right (B := w1.heap.size) HO2.out HO1.out.lt
    · go_wp2_with (go_at_call 34; refine (KP.out _ _ R1.out).mono ?_; rintro e w1 ⟨rfl, rfl⟩)
      refine (KD.out _ _ B1.out (RD.out _)).mono ?_
      rintro e w2 ⟨v, rfl, ho2, hb2⟩
      have B2 := hideP (B1.out.trans (hb2.mono (by omega)))
      have HO2 := hideP (own_of_any ho2)
      have hs2 := hb2.size
      obtain ⟨xv, yv, ev⟩ := owns_form ho2
      subst ev
      have K2 := hideP hb2
      have r0' : w2.cell? ⟨w.heap.size + 1, 0, none⟩ = some (.slice none 0 0) := (hb2.cell (p := ⟨w.heap.size + 1, 0, none⟩) (by show w.heap.size + 1 < _; omega)).trans r0
      have r1' : w2.cell? ⟨w.heap.size + 1, 1, none⟩ = some (.slice none 0 0) := (hb2.cell (p := ⟨w.heap.size + 1, 1, none⟩) (by show w.heap.size + 1 < _; omega)).trans r1
      have f3' : ∀ o, w2.frozen? ⟨w.heap.size + 1, o, none⟩ = false := fun o => (hb2.frozen (p := ⟨w.heap.size + 1, o, none⟩) (by show w.heap.size + 1 < _; omega)).trans (f3 o)
      clear ho2 hb2 r0 r1 f3 q1
      go_wp2_with fail
      refine bodyPost_ret (v := .agg #[.slice xu st.length yu, .slice xv n yv]) (by simp [results, Try.results106, go_sem, r0', r1']) rfl ⟨_, _, rfl, ⟨?_, ?_, ?_⟩, (B2.out.setCell (by simp) _).setCell (by simp) _⟩
      · have := (HO1.out.keep K2.out).base (show w.heap.size + 1 + 1 ≤ _ by simp)
        exact Own.base (Own.store (Own.store this (by omega) _) (by omega) _) (by omega)
      · have := HO2.out.base (show w.heap.size + 1 + 1 ≤ w1.heap.size by omega)
        exact Own.base (Own.store (Own.store this (by omega) _) (by omega) _) (by omega)
      · exact apart_right (B := w1.heap.size) HO2.out HO1.out.lt

end Go.Proofs.Ytmobjomebmipdaa
