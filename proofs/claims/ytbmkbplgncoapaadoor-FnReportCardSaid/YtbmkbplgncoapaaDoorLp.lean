import Derived.Test.YtbmkbplgncoapaaDoorIp
namespace Go.Proofs.YtbmkbplgncoapaaDoor
open Go.RowKit
set_option linter.unusedVariables false

theorem par_lens (t : List UInt8) : (Pl.parS t).length ≤ 1048576 ∧ (Pl.parD t).length ≤ 1048576 := by
  by_cases h : t.length ≤ 20000 ∧ ∃ sh da, Pl.Wr t sh da
  · obtain ⟨hl, sh, da, hw⟩ := h
    obtain ⟨_, e1, e2⟩ := Pl.par_yes hl hw
    rw [e1, e2]
    have h1 := (Pl.ok_sh hw.1).1
    have h2 := (Pl.ok_da hw.1).1
    omega
  · obtain ⟨_, e1, e2⟩ := Pl.par_no (t := t) (fun hl sh da hw => h ⟨hl, sh, da, hw⟩)
    rw [e1, e2]
    simp

/-- what lies there behind the specification's answer: the answer's variable at A -/
structure EnvP (w : World) (A : Nat) (u0 u1 : Value) (S D : List Int) (w' : World) : Prop where
  bel : Below w.heap.size w w'
  lt : w.heap.size ≤ A
  boxW : Box w' A u0 u1
  rd0 : Rd A w' u0 S
  rd1 : Rd A w' u1 D
theorem EnvP.below {w w' w'' : World} {A B : Nat} {u0 u1 : Value} {S D : List Int} (h : EnvP w A u0 u1 S D w') (hb : Below B w' w'') (hA : A < B) : EnvP w A u0 u1 S D w'' :=
  ⟨h.bel.trans (hb.mono (by have := h.lt; omega)), h.lt, h.boxW.below hb hA, h.rd0.keep (hb.mono (by omega)), h.rd1.keep (hb.mono (by omega))⟩
theorem EnvP.keep {w w' w'' : World} {A : Nat} {u0 u1 : Value} {S D : List Int} (h : EnvP w A u0 u1 S D w') (hb : Below w'.heap.size w' w'') : EnvP w A u0 u1 S D w'' := h.below hb h.boxW.1

set_option maxRecDepth 100000 in
set_option maxHeartbeats 8000000 in
theorem lawP (s : ByteArray) (c : Int) (S D : List Int) (w : World) (hsz : s.size ≤ 9223372036854775807) (lS : S.length ≤ 1048576) (lD : D.length ≤ 1048576)
    (hspec : ∀ w', s.size ≤ 1048576 → Below w.heap.size w w' → Calls Tryd.prog 15 #[.string s] w' (FPost w' c S D))
    (himpl : ∀ w', s.size ≤ 1048576 → Below w.heap.size w w' → Calls Tryd.prog 16 #[.string s] w' (FPost w' c S D)) :
    Calls Tryd.prog 4 #[.string s] w fun e w' => e = .returned (.bool true) ∧ Below w.heap.size w w' := by
  have HS := hideP hspec
  have HI := hideP himpl
  have B0 := hideP (Below.refl w.heap.size w)
  clear hspec himpl
  by_cases hlong : 1048576 < s.size
  · have hlong' : (1048576 : Int) < (s.size : Int) := by omega
    go_enter Tryd.func4, Tryd.ntmps4
    go_wp2_with fail
    go_ret
    exact ⟨rfl, B0.out⟩
  · have hlong' : ¬ (1048576 : Int) < (s.size : Int) := by omega
    have hl : s.size ≤ 1048576 := by omega
    clear hlong
    go_enter Tryd.func4, Tryd.ntmps4
    -- the specification's answer
    go_wp2_with fail
    refine (HS.out _ hl B0.out).mono ?_
    rintro e w3 ⟨hb3, u0, u1, rfl, res3⟩
    have E3 : Hid (EnvP w w3.heap.size u0 u1 S D (w3.alloc (.cells #[u0, u1] 28))) :=
      ⟨hb3.alloc hb3.size _, hb3.size, Box.new w3 u0 u1 28, (res3.1.rd).keep ((Below.refl _ _).alloc (Nat.le_refl _) _), (res3.2.1.rd).keep ((Below.refl _ _).alloc (Nat.le_refl _) _)⟩
    obtain ⟨a0, d0, a1, d1, e0, e1⟩ := res3.forms
    subst e0
    subst e1
    clear hb3 res3 HS B0
    go_wp2_with fail
    refine (HI.out _ hl E3.out.bel).mono ?_
    rintro e w5 ⟨hb5, p0, p1, rfl, res5⟩
    have E5 := hideP (E3.out.keep hb5)
    have sz5 : w3.heap.size + 1 ≤ w5.heap.size := by have := hb5.size; simpa using this
    have res5' : Res (w3.heap.size + 1) w5 p0 p1 S D := by simpa using res5
    have G5 := hideP (Arr.new res5' 28)
    have K5 : Hid (Below w5.heap.size w5 (w5.alloc (.cells #[p0, p1] 28))) := (Below.refl _ _).alloc (Nat.le_refl _) _
    have E6 := hideP (E5.out.keep K5.out)
    obtain ⟨q0, f0, q1, f1, e0, e1⟩ := res5.forms
    subst e0
    subst e1
    clear hb5 res5 res5' E5 K5 E3
    obtain ⟨_, cw0, cw1⟩ := E6.out.boxW
    go_wp2_with fail
    refine (eqArray_same _ _ _ _ S D _ lS lD G5.out.res.rds.1 G5.out.res.rds.2 (E6.out.rd0.up (Nat.le_of_lt E6.out.boxW.1)) (E6.out.rd1.up (Nat.le_of_lt E6.out.boxW.1))).mono ?_
    rintro e w6 ⟨rfl, hb6⟩
    have E11 := hideP (E6.out.keep hb6)
    have G11 := hideP (G5.out.keep hb6)
    clear hb6 E6 G5 cw0 cw1
    obtain ⟨_, cg0, cg1⟩ := G11.out.box
    go_wp2_with fail
    -- the answer is marked
    refine (markArray_any _ _ _ 1 S D _ lS lD (by omega) (by omega) G11.out.res).mono ?_
    rintro e w11 ⟨rfl, hk11, res11⟩
    have hb11 := hk11.below (B := w3.heap.size + 1) (Nat.le_trans sz5 (Nat.le_of_lt G11.out.box.1)) (fun k e => (rowOf_ge G11.out.res.1 k e).1) (fun k e => (rowOf_ge G11.out.res.2.1 k e).1)
    have E12 : Hid (EnvP w w3.heap.size (.slice a0 S.length d0) (.slice a1 D.length d1) S D w11) := E11.out.below hb11 (by omega)
    have X12 := hideP (G11.out.box.kept2 hk11 G11.out.r0 G11.out.r1)
    have R12 := hideP res11.rds
    clear hk11 res11 hb11 E11 G11 cg0 cg1
    obtain ⟨_, cg0, cg1⟩ := X12.out
    go_wp2_with fail
    refine (heldArray_any _ _ 1 S.length D.length _ lS lD (by omega) (by omega) R12.out.1 R12.out.2).mono ?_
    rintro e w12 ⟨rfl, hb12⟩
    have E13 := hideP (E12.out.keep hb12)
    clear hb12 E12 X12 R12 cg0 cg1
    have qn : ¬ ((1 : Int) + S.length + D.length < 0) := by omega
    go_wp2_with fail
    -- once more
    refine (HI.out _ hl E13.out.bel).mono ?_
    rintro e w14 ⟨hb14, t0, t1, rfl, res14⟩
    have K14 : Hid (Below w14.heap.size w14 (w14.alloc (.cells #[t0, t1] 28))) := (Below.refl _ _).alloc (Nat.le_refl _) _
    have E15 := hideP ((E13.out.keep hb14).keep K14.out)
    have R14 := hideP (res14.keep K14.out).rds
    obtain ⟨s0, i0, s1, i1, e0, e1⟩ := res14.forms
    subst e0
    subst e1
    clear hb14 res14 E13 K14 HI
    obtain ⟨_, cw0, cw1⟩ := E15.out.boxW
    go_wp2_with fail
    refine (eqArray_same _ _ _ _ S D _ lS lD R14.out.1 R14.out.2 (E15.out.rd0.up (Nat.le_of_lt E15.out.boxW.1)) (E15.out.rd1.up (Nat.le_of_lt E15.out.boxW.1))).mono ?_
    rintro e w15 ⟨rfl, hb15⟩
    have E16 := hideP (E15.out.keep hb15)
    clear hb15 E15 R14 cw0 cw1
    go_wp2_with fail
    go_ret
    exact ⟨rfl, E16.out.bel⟩

/-- laws.FnExactParseArray -/
theorem lawParse (s : ByteArray) (w : World) (hsz : s.size ≤ 9223372036854775807) (hev : Ev w) : Calls Tryd.prog 4 #[.string s] w fun e w' => e = .returned (.bool true) ∧ Below w.heap.size w w' :=
  lawP s _ _ _ w hsz (par_lens (bl s)).1 (par_lens (bl s)).2 (fun w' hl _ => specParse_any s w' hl) (fun w' hl hb => implParse_any s w' hl (hev.keep hb))

end Go.Proofs.YtbmkbplgncoapaaDoor
