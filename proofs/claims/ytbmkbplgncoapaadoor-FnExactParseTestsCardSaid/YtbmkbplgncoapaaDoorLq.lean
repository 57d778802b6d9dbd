import Derived.Test.YtbmkbplgncoapaaDoorTm
namespace Go.Proofs.YtbmkbplgncoapaaDoor
open Go.RowKit
set_option linter.unusedVariables false

theorem par_short (t : List UInt8) : (Pl.parS t).length ≤ 1000 ∧ (Pl.parD t).length ≤ 1000 := by
  by_cases h : t.length ≤ 20000 ∧ ∃ sh da, Pl.Wr t sh da
  · obtain ⟨hl, sh, da, hw⟩ := h
    obtain ⟨_, e1, e2⟩ := Pl.par_yes hl hw
    rw [e1, e2]
    have h1 := (Pl.ok_sh hw.1).1
    have h2 := (Pl.ok_da hw.1).1
    omega
  · obtain ⟨_, e1, e2⟩ := Pl.par_no (t := t) (fun hl sh da hw => h ⟨hl, sh, da, hw⟩)
    rw [e1, e2]
    simp
theorem tst_short {l : List UInt8} {t : Pl.TT} (h : Pl.tst l = some t) : t.1.length ≤ 1000 ∧ t.2.1.length ≤ 1000 ∧ t.2.2.1.length ≤ 1000 ∧ t.2.2.2.length ≤ 1000 := by
  unfold Pl.tst at h
  split at h
  · unfold Pl.tst2 at h
    split at h
    · have e := Option.some.inj h
      subst e
      exact ⟨(par_short _).1, (par_short _).2, (par_short _).1, (par_short _).2⟩
    · cases h
  · cases h
theorem run_bd (ls : List (List UInt8)) : ∀ i out, Bd out → Bd (Pl.run i out ls).1 := by
  have nb : Bd [] := ⟨by simp, fun z hz => by simp [Pl.flat] at hz⟩
  induction ls with
  | nil => intro i out h; exact h
  | cons l r ih =>
    intro i out h
    by_cases hl : l = []
    · rw [Pl.run_blank hl]; exact ih _ _ h
    · cases ht : Pl.tst l with
      | none => rw [Pl.run_bad hl ht]; exact nb
      | some t =>
        by_cases h20 : out.length = 20
        · rw [Pl.run_many hl ht h20]; exact nb
        · rw [Pl.run_one hl ht h20]
          refine ih _ _ ⟨by have := h.1; simp; omega, fun z hz => ?_⟩
          rw [Pl.flat_snoc] at hz
          obtain ⟨s0, s1, s2, s3⟩ := tst_short ht
          rcases List.mem_append.1 hz with hz | hz
          · exact h.2 z hz
          · simp only [List.mem_cons, List.not_mem_nil, or_false] at hz
            rcases hz with rfl | rfl | rfl | rfl
            · exact s0
            · exact s1
            · exact s2
            · exact s3
theorem tests_bd (t : List UInt8) : Bd (Pl.tests t).1 := by
  have nb : Bd [] := ⟨by simp, fun z hz => by simp [Pl.flat] at hz⟩
  unfold Pl.tests
  split
  · exact run_bd _ _ _ nb
  · exact nb

theorem OwT.keep {B : Nat} {w w' : World} {v : Value} {ts : List Pl.TT} (h : OwT B w v ts) (hb : Below w.heap.size w w') : OwT B w' v ts := by
  rcases h with h | h
  · exact .inl h
  · exact .inr (h.keep hb)

/-- the marks, and that they are all there -/
theorem mark_held (B : Nat) (v : Value) (ts : List Pl.TT) (w : World) (hbd : Bd ts) (hB : B ≤ w.heap.size) (h : OwT B w v ts) :
    ∃ T : Nat, T ≤ 80000 ∧ Calls Tryd.prog 36 #[v, .int .i64 1] w fun e w' => e = .returned (.int .i64 (1 + T)) ∧ Below B w w' ∧ Calls Tryd.prog 37 #[v, .int .i64 1] w' fun e w'' => e = .returned (.int .i64 (1 + T)) ∧ w'' = w' := by
  have nilcase : ∀ ao cap, v = .slice ao 0 cap → ∃ T : Nat, T ≤ 80000 ∧ Calls Tryd.prog 36 #[v, .int .i64 1] w fun e w' => e = .returned (.int .i64 (1 + T)) ∧ Below B w w' ∧ Calls Tryd.prog 37 #[v, .int .i64 1] w' fun e w'' => e = .returned (.int .i64 (1 + T)) ∧ w'' = w' := by
    rintro ao cap rfl
    refine ⟨0, by omega, (markTestS_nil ao cap 1 w (by omega) (by omega)).mono ?_⟩
    rintro e w' ⟨rfl, rfl⟩
    exact ⟨rfl, Below.refl _ _, heldTestS_nil ao cap 1 w' (by omega) (by omega)⟩
  rcases h with ⟨rfl, ao, cap, e⟩ | ⟨L, h1, h2, h3, h4⟩
  · exact nilcase ao cap e
  · rw [List.append_nil] at h3 h4
    rcases hh : h2.2 with ⟨e, h0⟩ | ⟨g, cp, cur, e, _⟩
    · exact nilcase none 0 e
    · subst e
      have hlen : L.length = ts.length * 4 := by
        have := congrArg List.length h1
        rw [List.length_map, Pl.flat_len] at this
        omega
      have hL : ∀ p ∈ L, p.2.length ≤ 1000 := fun p hp => hbd.2 p.2 (by rw [← h1]; exact List.mem_map_of_mem hp)
      have hcond : ∀ p ∈ L, ∀ k, rowOf p.1 p.2 = some k → ¬ g = k := fun p hp k hk e => h4 p hp k hk (by rw [e]; rfl)
      have ht := tot_le L hL
      have h20 := hbd.1
      refine ⟨tot L, by omega, (markTestS_core B g ts.length cp 1 L w (by omega) (by omega) hL hlen hbd.1 hB hcond ⟨h2, by simpa [markL] using h3, Below.refl _ _⟩).mono ?_⟩
      rintro e w' ⟨rfl, hM⟩
      exact ⟨rfl, hM.bel, heldTestS_core B g ts.length cp 1 L w w' (by omega) (by omega) hL hlen hbd.1 hM⟩

set_option maxRecDepth 100000 in
set_option maxHeartbeats 8000000 in
theorem lawQ (s : ByteArray) (r : List Pl.TT × Int × Int) (w : World) (hsz : s.size ≤ 9223372036854775807) (hbd : Bd r.1)
    (hspec : ∀ w', s.size ≤ 1048576 → Below w.heap.size w w' → Calls Tryd.prog 33 #[.string s] w' (PtPost w' r))
    (himpl : ∀ w', s.size ≤ 1048576 → Below w.heap.size w w' → Calls Tryd.prog 34 #[.string s] w' (PtPost w' r)) :
    Calls Tryd.prog 8 #[.string s] w fun e w' => e = .returned (.bool true) ∧ Below w.heap.size w w' := by
  have HS := hideP hspec
  have HI := hideP himpl
  have HB := hideP hbd
  have B0 := hideP (Below.refl w.heap.size w)
  clear hspec himpl hbd
  obtain ⟨ts, c, l⟩ := r
  by_cases hlong : 1048576 < s.size
  · have hlong' : (1048576 : Int) < (s.size : Int) := by omega
    go_enter Tryd.func8, Tryd.ntmps8
    go_wp2_with fail
    go_ret
    exact ⟨rfl, B0.out⟩
  · have hlong' : ¬ (1048576 : Int) < (s.size : Int) := by omega
    have hl : s.size ≤ 1048576 := by omega
    clear hlong
    go_enter Tryd.func8, Tryd.ntmps8
    go_wp2_with fail
    refine (HS.out _ hl B0.out).mono ?_
    rintro e w3 ⟨hb3, vw, rfl, ow3⟩
    have B3 := hideP hb3
    have RW := hideP ow3.rd
    have BELOW3 := hideP hb3.size
    clear hb3 ow3 HS B0
    go_wp2_with fail
    refine (HI.out _ hl B3.out).mono ?_
    rintro e w5 ⟨hb5, vg, rfl, ow5⟩
    have B5 := hideP (B3.out.trans (hb5.mono B3.out.size))
    have G5 := hideP ow5
    have sz5 := hideP hb5.size
    have RW5 := hideP (RW.out.keep hb5)
    clear hb5 ow5 B3 RW
    go_wp2_with fail
    refine (eqTestS_same vg vw ts _ HB.out G5.out.rd (RW5.out.up sz5.out)).mono ?_
    rintro e w6 ⟨rfl, hb6⟩
    have B6 := hideP (B5.out.trans (hb6.mono B5.out.size))
    have G6 := hideP (G5.out.keep hb6)
    have RW6 := hideP (RW5.out.keep (hb6.mono sz5.out))
    have sz6 := hideP (Nat.le_trans sz5.out hb6.size)
    clear hb6 B5 G5 RW5 sz5
    go_wp2_with fail
    obtain ⟨T, hT, hmark⟩ := mark_held _ vg ts _ HB.out sz6.out G6.out
    refine hmark.mono ?_
    rintro e w7 ⟨rfl, hb7, hheld⟩
    have B7 : Hid (Below w.heap.size w w7) := B6.out.trans (hb7.mono BELOW3.out)
    have RW7 := hideP (RW6.out.keep hb7)
    have sz7 := hideP (Nat.le_trans sz6.out hb7.size)
    have HH := hideP hheld
    clear hmark hb7 hheld B6 RW6 G6 sz6
    go_wp2_with fail
    refine HH.out.mono ?_
    rintro e w8 ⟨rfl, rfl⟩
    have qn : ¬ ((1 : Int) + T < 0) := by omega
    clear HH
    go_wp2_with fail
    refine (HI.out _ hl B7.out).mono ?_
    rintro e w9 ⟨hb9, vh, rfl, ow9⟩
    have B9 := hideP (B7.out.trans (hb9.mono B7.out.size))
    have G9 := hideP ow9.rd
    have RW9 := hideP ((RW7.out.keep (hb9.mono sz7.out)).up (Nat.le_trans sz7.out hb9.size))
    clear hb9 ow9 B7 RW7 sz7 HI
    go_wp2_with fail
    refine (eqTestS_same vh vw ts _ HB.out G9.out RW9.out).mono ?_
    rintro e w10 ⟨rfl, hb10⟩
    have B10 := hideP (B9.out.trans (hb10.mono B9.out.size))
    clear hb10
    go_wp2_with fail
    go_ret
    exact ⟨rfl, B10.out⟩

/-- laws.FnExactParseTests -/
theorem lawTests (s : ByteArray) (w : World) (hsz : s.size ≤ 9223372036854775807) (hev : Ev w) : Calls Tryd.prog 8 #[.string s] w fun e w' => e = .returned (.bool true) ∧ Below w.heap.size w w' :=
  lawQ s _ w hsz (tests_bd (bl s)) (fun w' hl _ => specTests_any s w' hl) (fun w' hl hb => implTests_any s w' hl (hev.keep hb))

end Go.Proofs.YtbmkbplgncoapaaDoor
