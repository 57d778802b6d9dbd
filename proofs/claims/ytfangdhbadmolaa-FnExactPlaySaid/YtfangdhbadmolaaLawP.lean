import Derived.Test.YtfangdhbadmolaaIp
import Derived.Test.YtfangdhbadmolaaEq
import Derived.Test.YtfangdhbadmolaaMk
import Derived.Test.YtfangdhbadmolaaAe
namespace Go.Proofs.Ytfangdhbadmolaa
open Go.RowKit
set_option linter.unusedVariables false

theorem cell_grown {w w' : World} {r : Option Nat} (hg : w.grownBy w' r) {A : Nat} {o : Nat} {x : Value} (hA : A < w.heap.size) (hr : ¬ some A = r) (h : w.cell? ⟨A, o, none⟩ = some x) : w'.cell? ⟨A, o, none⟩ = some x :=
  (World.cell?_of_block (w := w) (a := ⟨A, o, none⟩) (hg.block A hA (fun e => hr e))).trans h

/-- a variable that holds a disk -/
def Box (w : World) (A : Nat) (x : Value) : Prop := A < w.heap.size ∧ w.cell? ⟨A, 0, none⟩ = some x

theorem Box.below {w w' : World} {A B : Nat} {x : Value} (h : Box w A x) (hb : Below B w w') (hA : A < B) : Box w' A x :=
  ⟨Nat.lt_of_lt_of_le h.1 hb.size, (hb.cell (p := ⟨A, 0, none⟩) hA).trans h.2⟩
theorem Box.keep {w w' : World} {A : Nat} {x : Value} (h : Box w A x) (hb : Below w.heap.size w w') : Box w' A x := h.below hb h.1
theorem Box.grown {w w' : World} {A : Nat} {x : Value} {r : Option Nat} (h : Box w A x) (hg : w.grownBy w' r) (hr : ∀ k, r = some k → ¬ k = A) : Box w' A x :=
  ⟨Nat.lt_of_lt_of_le h.1 hg.size, cell_grown hg h.1 (fun e => hr A e.symm rfl) h.2⟩
theorem Box.new (w : World) (x : Value) (t : TypeId) : Box (w.alloc (.cells #[x] t)) w.heap.size x := ⟨by simp, by simp [go_sem]⟩

/-- what lies there behind the specification's answer: the argument (its variable at N), the answer (its variable at A) -/
structure Env (w : World) (A : Nat) (v u : Value) (S : List Pl.Fl) (w' : World) : Prop where
  bel : Below w.heap.size w w'
  lt : w.heap.size < A
  box : Box w' w.heap.size v
  boxW : Box w' A u
  rd : RdF A w' u S

theorem Env.below {w w' w'' : World} {A B : Nat} {v u : Value} {S : List Pl.Fl} (h : Env w A v u S w') (hb : Below B w' w'') (hA : A < B) : Env w A v u S w'' :=
  ⟨h.bel.trans (hb.mono (by have := h.lt; omega)), h.lt, h.box.below hb (by have := h.lt; omega), h.boxW.below hb hA, h.rd.keep (hb.mono (by omega))⟩
theorem Env.keep {w w' w'' : World} {A : Nat} {v u : Value} {S : List Pl.Fl} (h : Env w A v u S w') (hb : Below w'.heap.size w' w'') : Env w A v u S w'' := h.below hb h.boxW.1

theorem grown_below {w w' : World} {r : Option Nat} {B : Nat} (hg : w.grownBy w' r) (hB : B ≤ w.heap.size) (hr : ∀ k, r = some k → B ≤ k) : Below B w w' :=
  (Below.refl B w).grown hg hB hr

/-- a disk of the law's own: its variable at A, its row from B on, ahead of A -/
structure Arr (B A : Nat) (u : Value) (S : List Pl.Fl) (w' : World) : Prop where
  box : Box w' A u
  res : OwF B w' u S
  r : ∀ k, rowOf u S.length = some k → k < A

theorem Arr.keep {B A : Nat} {u : Value} {S : List Pl.Fl} {w w' : World} (h : Arr B A u S w) (hb : Below w.heap.size w w') : Arr B A u S w' := ⟨h.box.keep hb, h.res.keep hb, h.r⟩
theorem Arr.new {B : Nat} {u : Value} {S : List Pl.Fl} {w : World} (h : OwF B w u S) (t : TypeId) : Arr B w.heap.size u S (w.alloc (.cells #[u] t)) :=
  ⟨Box.new w u t, h.keep ((Below.refl _ _).alloc (Nat.le_refl _) _), fun k hk => (rowOf_ge h k hk).2⟩

theorem OwF.grown {B : Nat} {w w' : World} {u : Value} {fs : List Pl.Fl} {r : Option Nat} (h : OwF B w u fs) (hg : w.grownBy w' r) (hr : ∀ k, r = some k → k < B) : OwF B w' u fs :=
  h.blk hg.size (fun g hB hlt _ _ => hg.block g hlt (fun e => by have := hr g e.symm; omega))

/-- another disk is marked, which lies below -/
theorem Arr.grown {B A : Nat} {u : Value} {S : List Pl.Fl} {w w' : World} {r : Option Nat} (h : Arr B A u S w) (hg : w.grownBy w' r) (hA : B ≤ A) (hr : ∀ k, r = some k → k < B) : Arr B A u S w' :=
  ⟨h.box.grown hg (fun k e => by have := hr k e; omega), h.res.grown hg hr, h.r⟩

/-- toDisk's answer, as a disk of new memory -/
theorem toDisk_res (v : Value) (fs : List Pl.Fl) (w : World) (hl : fs.length ≤ 1048576) (h : RdF w.heap.size w v fs) :
    Calls Try.prog 7 #[.agg #[v]] w fun e w' => ∃ g : Nat, e = .returned (.agg #[sl g fs.length]) ∧ OwF w.heap.size w' (sl g fs.length) fs ∧ Below w.heap.size w w' := by
  refine (toDisk_any v fs w hl h).mono ?_
  rintro e w' ⟨g, rfl, _, ho, hb⟩
  exact ⟨g, rfl, owF_of_own ho, hb⟩

theorem eqDisk_same (v1 v2 : Value) (xs : List Pl.Fl) (w : World) (hl1 : xs.length ≤ 1048576) (h1 : RdF w.heap.size w v1 xs) (h2 : RdF w.heap.size w v2 xs) :
    Calls Try.prog 10 #[.agg #[v1], .agg #[v2]] w fun e w' => e = .returned (.bool true) ∧ Below w.heap.size w w' := by
  have := eqDisk_any v1 v2 xs xs w hl1 hl1 h1 h2
  simpa using this

theorem ownA_keep {B g : Nat} {w w' : World} {qs : List Pl.Ac} (h : OwnA B w (sl g qs.length) qs) (hb : Below w.heap.size w w') : OwnA B w' (sl g qs.length) qs :=
  World.ownsRow.kept h (grown_of_below hb) (.inr (by simp [Value.ownBlock]))
theorem ownA_grown {B g : Nat} {w w' : World} {qs : List Pl.Ac} {r : Option Nat} (h : OwnA B w (sl g qs.length) qs) (hg : w.grownBy w' r) (hr : ∀ k, r = some k → ¬ k = g) : OwnA B w' (sl g qs.length) qs :=
  World.ownsRow.kept h hg (.inr (by intro e; exact hr g e.symm rfl))

theorem Pl.playM_len (fs : List Pl.Fl) (qs : List Pl.Ac) (most : Int) (hl : fs.length ≤ 1048576) : (Pl.playM fs qs most).1.length ≤ 1048576 := by
  unfold Pl.playM
  split
  · rename_i h
    have := (Pl.play_vd (Pl.vd_of_disk h.1) (qs.take (Pl.mostN qs most))).len
    simp only
    omega
  · exact hl

set_option maxRecDepth 100000 in
set_option maxHeartbeats 8000000 in
/-- laws.FnExactPlay -/
theorem lawPlay (v av : Value) (fs : List Pl.Fl) (qs : List Pl.Ac) (most : Int) (w : World) (hm : fs.length ≤ 9223372036854775807) (hz : ∀ f ∈ fs, f.1.size ≤ 9223372036854775807 ∧ f.2.size ≤ 9223372036854775807)
    (hmq : qs.length ≤ 9223372036854775807) (hzq : Pl.SzA qs) (hm0 : -9223372036854775808 ≤ most) (hm1 : most ≤ 9223372036854775807)
    (h : RdF w.heap.size w v fs) (ha : RdA w.heap.size w av qs) :
    Calls Try.prog 3 #[.agg #[v], av, .int .i64 most] w fun e w' => e = .returned (.bool true) ∧ Below w.heap.size w w' := by
  have H := hideP h
  have HA := hideP ha
  have HZ := hideP hz
  have HQ := hideP hzq
  have HM := hideP (And.intro hm0 hm1)
  clear h hz ha hzq hm0 hm1
  have B0 : Hid (∀ o, Below w.heap.size w (w.alloc o)) := fun o => (Below.refl _ _).alloc (Nat.le_refl _) _
  go_enter Try.func3, Try.ntmps3
  go_wp2_with fail
  refine (szDisk_any v fs 1048576 _ hm HZ.out (by omega) (by omega) ((H.out.keep (B0.out _)).up (by simp))).mono ?_
  rintro e w0 ⟨r, rfl, hr1, hr, hb1⟩
  have B1 := hideP ((B0.out _).trans (hb1.mono (by simp)))
  have X1 := hideP ((Box.new w v 24).keep hb1)
  have sz1 : w.heap.size + 1 ≤ w0.heap.size := by have := hb1.size; simpa using this
  clear hb1
  by_cases hneg : r < 0
  · go_wp2_with fail
    go_ret
    exact ⟨rfl, B1.out⟩
  · have L0 : fs.length ≤ 1048576 := by omega
    have SF : Hid (SmF fs) := fun f hf => by have := Pl.weigh_mem hf; omega
    clear hr HZ hm
    have KZ := hideP (fun w' => szActS_any av qs r w' hmq HQ.out (by omega) hr1)
    go_wp2_with fail
    refine (KZ.out _ ((HA.out.keep B1.out).up (by omega))).mono ?_
    rintro e w1 ⟨r2, rfl, hr21, hr2, hb1'⟩
    have B1 := hideP (B1.out.trans (hb1'.mono (by omega)))
    have X1 := hideP (X1.out.keep hb1')
    have sz1 : w.heap.size + 1 ≤ w1.heap.size := by have := hb1'.size; omega
    clear hb1' KZ
    by_cases hneg2 : r2 < 0
    · go_wp2_with fail
      go_ret
      exact ⟨rfl, B1.out⟩
    · have Q0 : qs.length ≤ 1048576 := by omega
      have SA : Hid (SmA qs) := fun a ha => by have := Pl.weighA_mem ha; omega
      have lS : (Pl.playM fs qs most).1.length ≤ 1048576 := Pl.playM_len fs qs most L0
      clear hr2 hr21 HQ hmq
      obtain ⟨_, c1⟩ := X1.out
      -- the specification's answer
      go_wp2_with fail
      clear hr1 hneg hneg2
      refine (toDisk_res v fs _ L0 ((H.out.keep B1.out).up (by omega))).mono ?_
      rintro e w2 ⟨g0, rfl, res2, hb2⟩
      have B2 := hideP (B1.out.trans (hb2.mono (by omega)))
      have X2 := hideP (X1.out.keep hb2)
      have sz2 := hb2.size
      clear hb2 c1 X1 B1
      have O2 := hideP res2
      clear res2
      go_wp2_with fail
      refine (toActS_any av qs _ Q0 ((HA.out.keep B2.out).up (by omega))).mono ?_
      rintro e w2 ⟨rfl, resA, hb2⟩
      have B2 := hideP (B2.out.trans (hb2.mono (by omega)))
      have X2 := hideP (X2.out.keep hb2)
      have R2 := hideP (O2.out.keep hb2).rd
      have RA := hideP (rdA_of_own resA)
      have sz2 := Nat.le_trans sz2 hb2.size
      clear hb2 resA O2
      go_wp2_with fail
      refine (specPlay_any _ _ fs qs most _ L0 Q0 SF.out SA.out HM.out.1 HM.out.2 R2.out RA.out).mono ?_
      rintro e w3 ⟨hb3, u, rfl, res3⟩
      have HI : Hid (∀ x y w', RdF w'.heap.size w' x fs → RdA w'.heap.size w' y qs → Calls Try.prog 9 #[.agg #[x], y, .int .i64 most] w' fun e w'' => Below w'.heap.size w' w'' ∧ ∃ u, e = .returned (.tuple #[.agg #[u], .int .i64 (Pl.playM fs qs most).2]) ∧ OwF w'.heap.size w'' u (Pl.playM fs qs most).1) := fun x y w' h h2 => implPlay_any x y fs qs most w' L0 Q0 SF.out SA.out HM.out.1 HM.out.2 h h2
      clear SF SA HM
      generalize (Pl.playM fs qs most).1 = S at *
      generalize (Pl.playM fs qs most).2 = q at *
      have B3 := hideP (B2.out.trans (hb3.mono (by omega)))
      have X3 := hideP (X2.out.keep hb3)
      have sz3 := hb3.size
      have E3 : Hid (Env w w3.heap.size v u S (w3.alloc (.cells #[u] 30))) :=
        ⟨B3.out.alloc (by omega) _, by omega, X3.out.keep ((Below.refl _ _).alloc (Nat.le_refl _) _), Box.new w3 u 30, (res3.rd).keep ((Below.refl _ _).alloc (Nat.le_refl _) _)⟩
      obtain ⟨a0, d0, e0⟩ := res3.form
      subst e0
      have sz3' : w.heap.size + 1 ≤ w3.heap.size := by omega
      clear hb3 res3 R2 RA X2 B2 sz2 sz3
      obtain ⟨_, c3⟩ := X3.out
      go_wp2_with fail
      -- the copies that the program gets
      have Q3 := hideP ((H.out.keep E3.out.bel).up E3.out.bel.size)
      refine (toDisk_res v fs _ L0 Q3.out).mono ?_
      rintro e w4 ⟨x0, rfl, res4, hb4⟩
      have E4 := hideP (E3.out.keep hb4)
      have sz4 : w3.heap.size + 1 ≤ w4.heap.size := by have := hb4.size; simpa using this
      have res4' : OwF (w3.heap.size + 1) w4 (sl x0 fs.length) fs := by simpa using res4
      have A4 := hideP (Arr.new res4' 30)
      have E4' := hideP (E4.out.keep ((Below.refl _ _).alloc (Nat.le_refl _) (.cells #[sl x0 fs.length] 30)))
      clear hb4 res4 res4' c3 X3 B3 E3 Q3 E4
      go_wp2_with fail
      refine (toActS_any av qs _ Q0 ((HA.out.keep E4'.out.bel).up E4'.out.bel.size)).mono ?_
      rintro e w5 ⟨rfl, resA, hb5⟩
      have eA : (w4.alloc (.cells #[sl x0 fs.length] 30)).heap.size = w4.heap.size + 1 := by simp
      rw [eA] at resA
      have Y5 : Hid (OwnA (w4.heap.size + 1) w5 (sl (w4.heap.size + 1) qs.length) qs) := resA
      have E5 := hideP (E4'.out.keep hb5)
      have A5 := hideP (A4.out.keep hb5)
      have sz5 : w4.heap.size + 1 < w5.heap.size := (Y5.out.lt (w4.heap.size + 1) rfl).2
      clear hb5 resA A4 E4' eA
      obtain ⟨_, cx⟩ := A5.out.box
      go_wp2_with fail
      refine (HI.out _ _ _ A5.out.res.rd (rdA_of_own Y5.out)).mono ?_
      rintro e v5 ⟨hb5, p, rfl, res5⟩
      have E5 := hideP (E5.out.keep hb5)
      have A5 := hideP (A5.out.keep hb5)
      have Y5 := hideP (ownA_keep Y5.out hb5)
      have sv5 : w5.heap.size ≤ v5.heap.size := hb5.size
      have G5 := hideP (Arr.new res5 30)
      have K5 : Hid (Below v5.heap.size v5 (v5.alloc (.cells #[p] 30))) := (Below.refl _ _).alloc (Nat.le_refl _) _
      have E6 := hideP (E5.out.keep K5.out)
      have A6 := hideP (A5.out.keep K5.out)
      have Y6 := hideP (ownA_keep Y5.out K5.out)
      obtain ⟨q0, f0, e0⟩ := res5.form
      subst e0
      clear hb5 res5 E5 A5 Y5 K5 cx
      obtain ⟨_, cw⟩ := E6.out.boxW
      go_wp2_with fail
      refine (eqDisk_same _ _ S _ lS G5.out.res.rd (E6.out.rd.up (Nat.le_of_lt E6.out.boxW.1))).mono ?_
      rintro e w6 ⟨rfl, hb6⟩
      have E7 := hideP (E6.out.keep hb6)
      have A7 := hideP (A6.out.keep hb6)
      have Y7 := hideP (ownA_keep Y6.out hb6)
      have G7 := hideP (G5.out.keep hb6)
      clear hb6 E6 A6 Y6 G5 cw
      go_wp2_with fail
      -- the argument is as it was
      have D7 : Hid (Below w6.heap.size w6 w6.drew) := (Below.refl _ _).drew
      have PL8 : Hid (∀ w', Below w6.heap.size w6 w' → w'.cell? ⟨w4.heap.size, 0, none⟩ = some (sl x0 fs.length)) := fun w' h => (A7.out.box.keep h).2
      have PL3 : Hid (∀ w', Below w6.heap.size w6 w' → w'.cell? ⟨w.heap.size, 0, none⟩ = some v) := fun w' h => (E7.out.box.keep h).2
      refine wp_region_held (S := fun w' => Below w6.heap.size w6 w') (by kernel_rfl) ?_
      change wpAnyH _ _ _ _ _ _ _ _ (World.drew _)
      refine wpAnyH_take (i := 0) (v := .agg #[sl x0 fs.length]) rfl (by kernel_rfl) (by kernel_rfl) (by kernel_rfl) (fun _ _ _ h => h) (Or.inl ⟨by rfl, ?_⟩) D7.out ?_
      · intro w' hS
        have := PL8.out w' hS
        clear hS
        go_simp
      refine wpAnyH_take (i := 1) (v := .agg #[v]) rfl (by kernel_rfl) (by kernel_rfl) (by kernel_rfl) (fun _ _ _ h => h) (Or.inl ⟨by rfl, ?_⟩) D7.out ?_
      · intro w' hS
        have := PL3.out w' hS
        clear hS
        go_simp
      refine wpAnyH_ready (rs := [2]) (by kernel_rfl) (by simp) ?_
      refine AllReadyH.cons rfl (fun K hK => ?_) AllReadyH.nil
      go_simp
      have Q7 : Hid (RdF w6.drew.heap.size w6.drew v fs) := (H.out.keep E7.out.bel.drew).up E7.out.bel.size
      refine (toDisk_res v fs w6.drew L0 Q7.out).mono ?_
      rintro e w7 ⟨y0, rfl, res7, hb7⟩
      have B7 := hideP (D7.out.trans hb7)
      have E8 := hideP (E7.out.keep B7.out)
      have A8 := hideP (A7.out.keep B7.out)
      have Y8 := hideP (ownA_keep Y7.out B7.out)
      have G8 := hideP (G7.out.keep B7.out)
      have R7 := hideP res7.rd
      clear res7 hb7 Q7 PL8 PL3 D7
      refine hK.out _ _ B7.out (fun _ => ?_)
      clear hK
      refine wpAnyH_ready (rs := [3]) (by kernel_rfl) (by simp) ?_
      refine AllReadyH.cons rfl (fun K hK => ?_) AllReadyH.nil
      go_simp
      refine (eqDisk_same _ _ fs _ L0 A8.out.res.rd R7.out).mono ?_
      rintro e w8 ⟨rfl, hb8⟩
      have E9 := hideP (E8.out.keep hb8)
      have A9 := hideP (A8.out.keep hb8)
      have Y9 := hideP (ownA_keep Y8.out hb8)
      have G9 := hideP (G8.out.keep hb8)
      have B8 := hideP (B7.out.trans (hb8.mono B7.out.size))
      clear hb8 E8 A8 Y8 G8 R7 E7 A7 Y7 G7 B7
      refine hK.out _ _ B8.out (fun _ => ?_)
      clear hK
      refine wpAnyH_ready (rs := [4]) (by kernel_rfl) (by simp) ?_
      refine AllReadyH.cons rfl (fun K hK => ?_) AllReadyH.nil
      go_simp
      refine hK.out _ _ B8.out (fun _ => ?_)
      clear hK B8
      refine wpAnyH_done (by kernel_rfl) ?_ _
      go_wp2_with fail
      refine (toActS_any av qs _ Q0 ((HA.out.keep E9.out.bel).up E9.out.bel.size)).mono ?_
      rintro e w8a ⟨rfl, resB, hb8a⟩
      have E9 := hideP (E9.out.keep hb8a)
      have A9 := hideP (A9.out.keep hb8a)
      have Y9 := hideP (ownA_keep Y9.out hb8a)
      have G9 := hideP (G9.out.keep hb8a)
      have RB := hideP (rdA_of_own resB)
      clear hb8a resB
      go_wp2_with fail
      refine (eqActS_same _ _ qs _ Q0 (rdA_of_own Y9.out) RB.out).mono ?_
      rintro e w8b ⟨rfl, hb8b⟩
      have E9 := hideP (E9.out.keep hb8b)
      have A9 := hideP (A9.out.keep hb8b)
      have Y9 := hideP (ownA_keep Y9.out hb8b)
      have G9 := hideP (G9.out.keep hb8b)
      clear hb8b RB
      obtain ⟨_, cx⟩ := A9.out.box
      go_wp2_with fail
      -- the arguments are marked
      refine (markDisk_any _ _ fs _ L0 A9.out.res).mono ?_
      rintro e w9 ⟨rfl, hk9, _⟩
      have E10 : Hid (Env w w3.heap.size v (.slice a0 S.length d0) S w9) :=
        E9.out.below (grown_below (B := w3.heap.size + 1) hk9 E9.out.boxW.1 (fun k e => (rowOf_ge A9.out.res k e).1)) (by omega)
      have Y10 := hideP (ownA_grown Y9.out hk9 (fun k e => by have := A9.out.r k e; omega))
      have G10 : Hid (Arr w5.heap.size v5.heap.size (.slice q0 S.length f0) S w9) :=
        G9.out.grown hk9 sv5 (fun k e => by have := A9.out.r k e; omega)
      clear hk9 cx A9 E9 G9 Y9
      go_wp2_with fail
      refine (markActS_any (w4.heap.size + 1) (w4.heap.size + 1) (1 + 2 * fs.length) qs _ Q0 (by omega) (by omega) Y10.out).mono ?_
      rintro e w9a ⟨rfl, hk9⟩
      have E10 : Hid (Env w w3.heap.size v (.slice a0 S.length d0) S w9a) :=
        E10.out.below (grown_below (B := w3.heap.size + 1) hk9 E10.out.boxW.1 (fun k e => by injection e with e; omega)) (by omega)
      have G10 := hideP (G10.out.grown hk9 sv5 (fun k e => by injection e with e; omega))
      clear hk9 Y10
      obtain ⟨_, cw⟩ := E10.out.boxW
      obtain ⟨_, cg⟩ := G10.out.box
      obtain ⟨mk, hmk⟩ : ∃ mk : Int, ((1 + 2 * fs.length + 4 * qs.length : Nat) : Int) = mk := ⟨_, rfl⟩
      rw [hmk]
      have kn : ¬ (mk < 0) := by omega
      clear hmk
      go_wp2_with fail
      refine (eqDisk_same _ _ S _ lS G10.out.res.rd (E10.out.rd.up (Nat.le_of_lt E10.out.boxW.1))).mono ?_
      rintro e w10 ⟨rfl, hb10⟩
      have E11 := hideP (E10.out.keep hb10)
      have G11 := hideP (G10.out.keep hb10)
      clear hb10 E10 G10 cw cg
      obtain ⟨_, cg⟩ := G11.out.box
      go_wp2_with fail
      -- the answer is marked
      refine (markDisk_any _ _ S _ lS G11.out.res).mono ?_
      rintro e w11 ⟨rfl, hk11, res11⟩
      have hb11 := grown_below (B := w5.heap.size) hk11 (Nat.le_trans sv5 (Nat.le_of_lt G11.out.box.1)) (fun k e => (rowOf_ge G11.out.res k e).1)
      have E12 : Hid (Env w w3.heap.size v (.slice a0 S.length d0) S w11) := E11.out.below hb11 (by omega)
      have X12 := hideP (G11.out.box.grown hk11 (fun k e => by have := G11.out.r k e; omega))
      have R12 := hideP res11.rd
      clear hk11 res11 hb11 E11 G11 cg
      obtain ⟨_, cg⟩ := X12.out
      obtain ⟨mq, hmq⟩ : ∃ mq : Int, ((1 + 2 * S.length : Nat) : Int) = mq := ⟨_, rfl⟩
      have KH := hideP (fun w' u' => heldDisk_any u' S.length w' lS)
      rw [hmq] at KH ⊢
      have qn : ¬ (mq < 0) := by omega
      clear hmq
      go_wp2_with fail
      refine (KH.out _ _ R12.out).mono ?_
      rintro e w12 ⟨rfl, hb12⟩
      have E13 := hideP (E12.out.keep hb12)
      clear hb12 E12 X12 R12 cg KH
      obtain ⟨_, c3⟩ := E13.out.box
      go_wp2_with fail
      -- once more
      have Q13 := hideP ((H.out.keep E13.out.bel).up E13.out.bel.size)
      refine (toDisk_res v fs _ L0 Q13.out).mono ?_
      rintro e w13 ⟨z0, rfl, res13, hb13⟩
      have E14 := hideP (E13.out.keep hb13)
      have O13 := hideP res13
      clear hb13 res13 E13 Q13 c3
      go_wp2_with fail
      refine (toActS_any av qs _ Q0 ((HA.out.keep E14.out.bel).up E14.out.bel.size)).mono ?_
      rintro e w13a ⟨rfl, resC, hb13a⟩
      have E14 := hideP (E14.out.keep hb13a)
      have R13 := hideP (O13.out.keep hb13a).rd
      have RC := hideP (rdA_of_own resC)
      clear hb13a resC O13
      go_wp2_with fail
      refine (HI.out _ _ _ R13.out RC.out).mono ?_
      rintro e w14 ⟨hb14, t0, rfl, res14⟩
      have K14 : Hid (Below w14.heap.size w14 (w14.alloc (.cells #[t0] 30))) := (Below.refl _ _).alloc (Nat.le_refl _) _
      have E15 := hideP ((E14.out.keep hb14).keep K14.out)
      have R14 := hideP (res14.keep K14.out).rd
      obtain ⟨s0, i0, e0⟩ := res14.form
      subst e0
      clear hb14 res14 E14 R13 K14 HI
      obtain ⟨_, cw⟩ := E15.out.boxW
      go_wp2_with fail
      refine (eqDisk_same _ _ S _ lS R14.out (E15.out.rd.up (Nat.le_of_lt E15.out.boxW.1))).mono ?_
      rintro e w15 ⟨rfl, hb15⟩
      have E16 := hideP (E15.out.keep hb15)
      clear hb15 E15 R14 cw
      go_wp2_with fail
      go_ret
      exact ⟨rfl, E16.out.bel⟩

end Go.Proofs.Ytfangdhbadmolaa
