import Derived.Test.YtljkolffjjhgeaaDoorEqi
namespace Go.Proofs.YtljkolffjjhgeaaDoor
open Go.RowKit
set_option linter.unusedVariables false
set_option maxRecDepth 100000
set_option maxHeartbeats 4000000 in
/-- laws.eqGuard of two that are the same -/
theorem eqGuard_same (s : Pl.Gv) (a1 a2 : Option Addr) (c1 c2 : Nat) (e1 e2 : Option Addr) (d1 d2 : Nat) (w : World) (hk1 : Pl.Sz s.test) (hk2 : Pl.Sz s.thn) (r1 : RdS w.heap.size w a1 s.test) (r2 : RdS w.heap.size w a2 s.test) (t1 : RdS w.heap.size w e1 s.thn) (t2 : RdS w.heap.size w e2 s.thn) :
    Calls Tryd.prog 58 #[.agg #[.slice a1 s.test.length c1, .slice e1 s.thn.length d1], .agg #[.slice a2 s.test.length c2, .slice e2 s.thn.length d2]] w fun e w' => e = .returned (.bool true) ∧ Below w.heap.size w w' := by
  have HB : Hid (∀ o1 o2 : Obj, Below w.heap.size w ((w.alloc o1).alloc o2)) := fun o1 o2 => ((Below.refl _ _).alloc (Nat.le_refl _) _).alloc (by simp) _
  have K1 : Hid (∀ o1 o2, Calls Tryd.prog 35 #[.slice a1 s.test.length c1, .slice a2 s.test.length c2] ((w.alloc o1).alloc o2) fun e w' => e = .returned (.bool true) ∧ Below ((w.alloc o1).alloc o2).heap.size ((w.alloc o1).alloc o2) w') := fun o1 o2 => eqStepS_same s.test a1 a2 c1 c2 _ hk1.1 hk1.2 ((r1.keep (HB.out _ _)).up (HB.out _ _).size) ((r2.keep (HB.out _ _)).up (HB.out _ _).size)
  clear r1 r2
  have K2 : Hid (∀ w', Below w.heap.size w w' → Calls Tryd.prog 35 #[.slice e1 s.thn.length d1, .slice e2 s.thn.length d2] w' fun e w2 => e = .returned (.bool true) ∧ Below w'.heap.size w' w2) := fun w' hw => eqStepS_same s.thn e1 e2 d1 d2 _ hk2.1 hk2.2 ((t1.keep hw).up hw.size) ((t2.keep hw).up hw.size)
  clear t1 t2
  generalize s.test.length = n1 at *
  generalize s.thn.length = n2 at *
  go_enter Tryd.func58, Tryd.ntmps58
  go_wp2_with fail
  refine (K1.out _ _).mono ?_
  rintro e w1 ⟨rfl, hb1⟩
  have p1 := bcell hb1 (b := w.heap.size) (j := 1) (by first | (simp; done) | (simp; omega)) (by simp [go_sem]; rfl)
  have q1 := bcell hb1 (b := w.heap.size + 1) (j := 1) (by first | (simp; done) | (simp; omega)) (by simp [go_sem]; rfl)
  have B1 := hideP ((HB.out _ _).trans (hb1.mono (by simp; omega)))
  clear hb1
  go_wp2_with fail
  refine (K2.out _ B1.out).mono ?_
  rintro e w2 ⟨rfl, hb2⟩
  have B2 := hideP (B1.out.trans (hb2.mono B1.out.size))
  clear hb2
  go_wp2_with fail
  go_ret
  exact ⟨rfl, B2.out⟩
set_option maxHeartbeats 4000000 in
/-- laws.eqGuardS of two that read the same -/
theorem eqGuardS_same (c : List Pl.Gv) (a1 a2 : Option Addr) (c1 c2 : Nat) (w : World) (hl : c.length ≤ 1048576) (hk : ∀ s ∈ c, Pl.Sz s.test ∧ Pl.Sz s.thn) (R1 : RdG w.heap.size w a1 c) (R2 : RdG w.heap.size w a2 c) :
    Calls Tryd.prog 36 #[.slice a1 c.length c1, .slice a2 c.length c2] w fun e w' => e = .returned (.bool true) ∧ Below w.heap.size w w' := by
  have HG : Hid (∀ k, k < c.length → ∃ s b1 o1 b2 o2, s ∈ c ∧ a1 = some ⟨b1, o1, none⟩ ∧ b1 < w.heap.size ∧ a2 = some ⟨b2, o2, none⟩ ∧ b2 < w.heap.size ∧ (∃ ax ex cx dx, ∀ w', Below w.heap.size w w' → Gd w.heap.size w' b1 (o1 + k * 2) s ax ex cx dx) ∧ (∃ ay ey cy dy, ∀ w', Below w.heap.size w w' → Gd w.heap.size w' b2 (o2 + k * 2) s ay ey cy dy)) := fun k hk => by
    rcases R1 with rfl | ⟨b1, o1, h1, rfl, hc1⟩
    · cases hk
    rcases R2 with rfl | ⟨b2, o2, h2, rfl, hc2⟩
    · cases hk
    · obtain ⟨ax, ex, cx, dx, g1⟩ := hc1 k c[k] (List.getElem?_eq_getElem hk)
      obtain ⟨ay, ey, cy, dy, g2⟩ := hc2 k c[k] (List.getElem?_eq_getElem hk)
      exact ⟨c[k], b1, o1, b2, o2, List.getElem_mem hk, rfl, h1, rfl, h2, ⟨ax, ex, cx, dx, fun w' hw => g1.keep h1 hw⟩, ⟨ay, ey, cy, dy, fun w' hw => g2.keep h2 hw⟩⟩
  have HK := hideP hk
  clear R1 R2 hk
  generalize c.length = n at *
  go_enter Tryd.func36, Tryd.ntmps36
  go_wp2
  go_loopw [5] (fun i wr => ∃ k : Nat, k ≤ n ∧ i = .int .i64 k ∧ Hid (Below w.heap.size w wr)) (fun i _ => n - (intOf i).toNat)
  case atStart => exact ⟨0, Nat.zero_le _, rfl, Below.refl _ _⟩
  case round =>
    obtain ⟨k, hk, rfl, HB⟩ := hrel
    by_cases hlt : k < n
    · obtain ⟨s, b1, o1, b2, o2, hm, rfl, h1, rfl, h2, ⟨ax, ex, cx, dx, g1⟩, ⟨ay, ey, cy, dy, g2⟩⟩ := HG.out k hlt
      have K := hideP (fun w' (hw : Below w.heap.size w w') => eqGuard_same s ax ay cx cy ex ey dx dy w' (HK.out s hm).1 (HK.out s hm).2 ((g1 _ hw).rt.up hw.size) ((g2 _ hw).rt.up hw.size) ((g1 _ hw).rh.up hw.size) ((g2 _ hw).rh.up hw.size))
      obtain ⟨u0, u1, ur1, ur2⟩ := g1 _ HB.out
      obtain ⟨v0, v1, vr1, vr2⟩ := g2 _ HB.out
      clear g1 g2 HG HK hm ur1 vr1 ur2 vr2
      generalize s.test.length = n1 at *
      generalize s.thn.length = n2 at *
      go_wp2
      go_region_with (go_at_call 58; refine (K.out _ HB.out.drew).mono ?_; rintro e w2 ⟨rfl, hb3⟩; have HB2 := hideP (HB.out.drew.trans (hb3.mono HB.out.drew.size)); clear hb3)
      all_goals go_wp2_with fail
      all_goals go_roundw
      all_goals first
        | exact ⟨k + 1, by omega, by go_num, HB2⟩
        | (simp [intOf]; omega)
    · clear HG HK
      go_wp2
      go_ret
      exact ⟨rfl, HB.out⟩
set_option maxHeartbeats 4000000 in
/-- laws.eqStmt of two that are the same -/
theorem eqStmt_same (s : Pl.Tv) (a1 a2 : Option Addr) (c1 c2 : Nat) (e1 e2 : Option Addr) (d1 d2 : Nat) (w : World) (hk1 : Pl.Sz s.code) (hk2 : Pl.SzG s.gs) (r1 : RdS w.heap.size w a1 s.code) (r2 : RdS w.heap.size w a2 s.code) (t1 : RdG w.heap.size w e1 s.gs) (t2 : RdG w.heap.size w e2 s.gs) :
    Calls Tryd.prog 14 #[.agg #[.int .i64 s.k, .string (Pl.ba s.nm), .slice a1 s.code.length c1, .slice e1 s.gs.length d1], .agg #[.int .i64 s.k, .string (Pl.ba s.nm), .slice a2 s.code.length c2, .slice e2 s.gs.length d2]] w fun e w' => e = .returned (.bool true) ∧ Below w.heap.size w w' := by
  have HB : Hid (∀ o1 o2 : Obj, Below w.heap.size w ((w.alloc o1).alloc o2)) := fun o1 o2 => ((Below.refl _ _).alloc (Nat.le_refl _) _).alloc (by simp) _
  have K1 : Hid (∀ o1 o2, Calls Tryd.prog 35 #[.slice a1 s.code.length c1, .slice a2 s.code.length c2] ((w.alloc o1).alloc o2) fun e w' => e = .returned (.bool true) ∧ Below ((w.alloc o1).alloc o2).heap.size ((w.alloc o1).alloc o2) w') := fun o1 o2 => eqStepS_same s.code a1 a2 c1 c2 _ hk1.1 hk1.2 ((r1.keep (HB.out _ _)).up (HB.out _ _).size) ((r2.keep (HB.out _ _)).up (HB.out _ _).size)
  clear r1 r2
  have K2 : Hid (∀ w', Below w.heap.size w w' → Calls Tryd.prog 36 #[.slice e1 s.gs.length d1, .slice e2 s.gs.length d2] w' fun e w2 => e = .returned (.bool true) ∧ Below w'.heap.size w' w2) := fun w' hw => eqGuardS_same s.gs e1 e2 d1 d2 _ hk2.1 hk2.2 ((t1.keep hw).up hw.size) ((t2.keep hw).up hw.size)
  clear t1 t2
  generalize s.code.length = n1 at *
  generalize s.gs.length = n2 at *
  generalize Pl.ba s.nm = nm at *
  generalize s.k = kk at *
  go_enter Tryd.func14, Tryd.ntmps14
  go_wp2_with fail
  refine (K1.out _ _).mono ?_
  rintro e w1 ⟨rfl, hb1⟩
  have p3 := bcell hb1 (b := w.heap.size) (j := 3) (by first | (simp; done) | (simp; omega)) (by simp [go_sem]; rfl)
  have q3 := bcell hb1 (b := w.heap.size + 1) (j := 3) (by first | (simp; done) | (simp; omega)) (by simp [go_sem]; rfl)
  have B1 := hideP ((HB.out _ _).trans (hb1.mono (by simp; omega)))
  clear hb1
  go_wp2_with fail
  refine (K2.out _ B1.out).mono ?_
  rintro e w2 ⟨rfl, hb2⟩
  have B2 := hideP (B1.out.trans (hb2.mono B1.out.size))
  clear hb2
  go_wp2_with fail
  go_ret
  exact ⟨rfl, B2.out⟩
set_option maxHeartbeats 4000000 in
/-- laws.eqStmtS of two that read the same -/
theorem eqStmtS_same (c : List Pl.Tv) (a1 a2 : Option Addr) (c1 c2 : Nat) (w : World) (hl : c.length ≤ 1048576) (hk : ∀ s ∈ c, Pl.Sz s.code ∧ Pl.SzG s.gs) (R1 : RdP w.heap.size w a1 c) (R2 : RdP w.heap.size w a2 c) :
    Calls Tryd.prog 6 #[.slice a1 c.length c1, .slice a2 c.length c2] w fun e w' => e = .returned (.bool true) ∧ Below w.heap.size w w' := by
  have HG : Hid (∀ k, k < c.length → ∃ s b1 o1 b2 o2, s ∈ c ∧ a1 = some ⟨b1, o1, none⟩ ∧ b1 < w.heap.size ∧ a2 = some ⟨b2, o2, none⟩ ∧ b2 < w.heap.size ∧ (∃ ax ex cx dx, ∀ w', Below w.heap.size w w' → Sm w.heap.size w' b1 (o1 + k * 4) s ax ex cx dx) ∧ (∃ ay ey cy dy, ∀ w', Below w.heap.size w w' → Sm w.heap.size w' b2 (o2 + k * 4) s ay ey cy dy)) := fun k hk => by
    rcases R1 with rfl | ⟨b1, o1, h1, rfl, hc1⟩
    · cases hk
    rcases R2 with rfl | ⟨b2, o2, h2, rfl, hc2⟩
    · cases hk
    · obtain ⟨ax, ex, cx, dx, g1⟩ := hc1 k c[k] (List.getElem?_eq_getElem hk)
      obtain ⟨ay, ey, cy, dy, g2⟩ := hc2 k c[k] (List.getElem?_eq_getElem hk)
      exact ⟨c[k], b1, o1, b2, o2, List.getElem_mem hk, rfl, h1, rfl, h2, ⟨ax, ex, cx, dx, fun w' hw => g1.keep h1 hw⟩, ⟨ay, ey, cy, dy, fun w' hw => g2.keep h2 hw⟩⟩
  have HK := hideP hk
  clear R1 R2 hk
  generalize c.length = n at *
  go_enter Tryd.func6, Tryd.ntmps6
  go_wp2
  go_loopw [5] (fun i wr => ∃ k : Nat, k ≤ n ∧ i = .int .i64 k ∧ Hid (Below w.heap.size w wr)) (fun i _ => n - (intOf i).toNat)
  case atStart => exact ⟨0, Nat.zero_le _, rfl, Below.refl _ _⟩
  case round =>
    obtain ⟨k, hk, rfl, HB⟩ := hrel
    by_cases hlt : k < n
    · obtain ⟨s, b1, o1, b2, o2, hm, rfl, h1, rfl, h2, ⟨ax, ex, cx, dx, g1⟩, ⟨ay, ey, cy, dy, g2⟩⟩ := HG.out k hlt
      have K := hideP (fun w' (hw : Below w.heap.size w w') => eqStmt_same s ax ay cx cy ex ey dx dy w' (HK.out s hm).1 (HK.out s hm).2 ((g1 _ hw).rc.up hw.size) ((g2 _ hw).rc.up hw.size) ((g1 _ hw).rg.up hw.size) ((g2 _ hw).rg.up hw.size))
      obtain ⟨u0, u1, u2, u3, ur1, ur2⟩ := g1 _ HB.out
      obtain ⟨v0, v1, v2, v3, vr1, vr2⟩ := g2 _ HB.out
      clear g1 g2 HG HK hm ur1 vr1 ur2 vr2
      generalize s.code.length = n1 at *
      generalize s.gs.length = n2 at *
      generalize Pl.ba s.nm = nm at *
      generalize s.k = kk at *
      go_wp2
      go_region_with (go_at_call 14; refine (K.out _ HB.out.drew).mono ?_; rintro e w2 ⟨rfl, hb3⟩; have HB2 := hideP (HB.out.drew.trans (hb3.mono HB.out.drew.size)); clear hb3)
      all_goals go_wp2_with fail
      all_goals go_roundw
      all_goals first
        | exact ⟨k + 1, by omega, by go_num, HB2⟩
        | (simp [intOf]; omega)
    · clear HG HK
      go_wp2
      go_ret
      exact ⟨rfl, HB.out⟩
end Go.Proofs.YtljkolffjjhgeaaDoor
